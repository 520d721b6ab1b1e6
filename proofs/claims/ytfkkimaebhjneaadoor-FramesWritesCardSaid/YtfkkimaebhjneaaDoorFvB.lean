/- Walks of layer 4: the reference's put. -/
import Derived.Test.YtfkkimaebhjneaaDoorFvA
import Derived.Test.YtfkkimaebhjneaaDoorFuD
set_option linter.unusedSimpArgs false
set_option linter.unusedVariables false
namespace Go.Proofs.YtfkkimaebhjneaaDoor
open Go.RowKit

/-- WHAT put AND bytes COME TO -/
def PutsIs (w : World) (B : Nat) (xs : List Int) (e : Ending) (w' : World) : Prop := ∃ z, e = .returned z ∧ Own .u8 5 w' B z xs ∧ Below w.heap.size w w'
def numsE (ns : List Int) : List Int := ns.flatMap E
theorem numsE_len (ns : List Int) : (numsE ns).length ≤ 8 * ns.length := by
  induction ns with
  | nil => simp [numsE]
  | cons n ns ih =>
    have := E_le n
    simp only [numsE, List.flatMap_cons, List.length_append, List.length_cons] at ih ⊢
    omega
theorem numsE_take {ns : List Int} {k : Nat} (h : k < ns.length) : numsE (ns.take (k + 1)) = numsE (ns.take k) ++ E (ns.getD k 0) := by
  unfold numsE
  rw [List.take_succ_eq_append_getElem h, List.flatMap_append]
  simp [List.getD, h]
theorem Rd.form {k : IntKind} {w : World} {v : Value} {xs : List Int} (h : Rd k w v xs) (hx : xs ≠ []) : ∃ b o c, v = .slice (some ⟨b, o, none⟩) xs.length c ∧ b < w.heap.size ∧ ∀ i, i < xs.length → w.cell? ⟨b, o + i, none⟩ = some (.int k (xs.getD i 0)) := by
  rcases h with ⟨h, _⟩ | ⟨_, b, o, c, rfl, _, _, h4, h5⟩
  · exact absurd h hx
  · exact ⟨b, o, c, rfl, h4, h5⟩

set_option maxHeartbeats 1600000 in
theorem puts_any (B : Nat) (v u : Value) (xs ns : List Int) (w : World) (hB : B ≤ w.heap.size) (ho : Own .u8 5 w B v xs) (hu : Rd .i64 w u ns) (hl : xs.length + 8 * ns.length ≤ 1073741824) (hn : ∀ n ∈ ns, 0 ≤ n ∧ n ≤ 4611686018427387903) :
    Calls Tryd.prog 42 #[v, u] w (PutsIs w B (xs ++ numsE ns)) := by
  obtain ⟨ua, uc, rfl⟩ := hu.isSlice
  have HO := Lib.hid ho
  have HU := Lib.hid hu
  have HN := Lib.hid hn
  clear ho hu hn
  go_enter Tryd.func42, Tryd.ntmps42
  go_wp2_with fail
  go_loopw [5, 0] (fun i z wr => ∃ (k : Nat) (y : Value), i = .int .i64 k ∧ y = z ∧ k ≤ ns.length ∧ Own .u8 5 wr B y (xs ++ numsE (ns.take k)) ∧ Below w.heap.size w wr) (fun i _ _ => ns.length - (intOf i).toNat)
  case atStart => exact ⟨0, _, rfl, rfl, Nat.zero_le _, by simpa [numsE] using HO.out, Below.refl _ _⟩
  case round =>
    obtain ⟨k, y, rfl, rfl, hk, hown, hbel⟩ := hrel
    have hz := hbel.size
    have HW := Lib.hid hown
    clear hown
    by_cases hlt : k < ns.length
    · obtain ⟨b, o, c, hq, hb, hcell⟩ := HU.out.form (by intro h; rw [h] at hlt; simp at hlt)
      simp only [Value.slice.injEq] at hq
      obtain ⟨rfl, _, rfl⟩ := hq
      have q0 := (hbel.cell (p := ⟨b, o + k, none⟩) hb).trans (hcell k hlt)
      have hT := Lib.hid (numsE_take hlt)
      have hln := numsE_len (ns.take k)
      have hlt2 : (ns.take k).length = k := by rw [List.length_take]; omega
      rw [hlt2] at hln
      have hnb : 0 ≤ ns.getD k 0 ∧ ns.getD k 0 ≤ 4611686018427387903 := HN.out _ (by simp [List.getD, hlt])
      have PA := Lib.hid (rput_yes y _ (ns.getD k 0) wr HW.out.rd (by rw [List.length_append]; omega) (by omega) (fits_of hnb.1 hnb.2))
      obtain ⟨n, hnn⟩ : ∃ n, n = ns.getD k 0 := ⟨_, rfl⟩
      rw [← hnn] at q0 hT PA
      have hi1 : (k : Int) < (ns.length : Int) := by omega
      have hw1 : IntKind.i64.wrap ((k : Int) + 1) = (k : Int) + 1 := wraps_i64' _ (by omega) (by omega)
      clear hcell hln hlt2 hnb hnn
      go_wp2_with (go_at_call 56; refine PA.out.mono ?_; rintro e w2 ⟨y2, rfl, oy, by2⟩)
      exact ⟨⟨k + 1, _, by go_num, rfl, by omega, by rw [hT.out, ← List.append_assoc]; exact oy.mono (Nat.le_trans hB hz), hbel.trans (by2.mono hz)⟩, by simp [intOf]; omega⟩
    · obtain rfl : k = ns.length := by omega
      go_wp2
      go_ret
      exact ⟨_, rfl, by have h := HW.out; rwa [List.take_length] at h, hbel⟩
end Go.Proofs.YtfkkimaebhjneaaDoor
