/- Walks of layer 12: the reference's bits. -/
import Derived.Test.YtjaeccealfeakaaHfE
import Derived.Test.YtjaeccealfeakaaHfD
set_option maxRecDepth 100000
set_option linter.unusedSimpArgs false
set_option linter.unusedVariables false
namespace Go.Proofs.Ytjaeccealfeakaa
open Go.RowKit

/-- bits as they lie in the world -/
def bI (l : List Nat) : List Int := l.map fun (n : Nat) => (n : Int)
theorem bI_len (l : List Nat) : (bI l).length = l.length := by simp [bI]
theorem bI_append (a b : List Nat) : bI (a ++ b) = bI a ++ bI b := by simp [bI]
theorem bI_get (l : List Nat) (i : Nat) : (bI l).getD i 0 = ((l.getD i 0 : Nat) : Int) := by
  simp only [bI, List.getD, List.getElem?_map]
  cases l[i]? <;> rfl

/-- what the reference's bits answers -/
def BitsIs (w : World) (W : List (Nat × Nat)) (ys : List Int) (e : Ending) (w' : World) : Prop :=
  Below w.heap.size w w' ∧ ((HasN W ys ∧ ∃ v, e = .returned (.tuple #[v, .bool true]) ∧ Own .u8 5 w' w.heap.size v (bI (encN W ys))) ∨
    (¬ HasN W ys ∧ e = .returned (.tuple #[.slice none 0 0, .bool false])))

set_option maxHeartbeats 4000000 in
theorem rbits_any (v u : Value) (W : List (Nat × Nat)) (ys : List Int) (w : World) (hr : RdW w v W) (hW : WordsOk W) (hu : Rd .u8 w u ys) (hy : Bts ys) (hyl : ys.length ≤ 68719476736) :
    Calls Try.prog 31 #[v, u] w (BitsIs w W ys) := by
  have HOK := Lib.hid hW
  have HR := Lib.hid hr
  have HU := Lib.hid hu
  have HY := Lib.hid hy
  have hwl := hW.few
  obtain ⟨ua, uc, rfl⟩ := hu.isSlice
  obtain ⟨va, vc, rfl, _, _⟩ := hr.isSlice
  clear hr hu hy hW
  go_enter Try.func31, Try.ntmps31
  go_wp2_with fail
  go_loopw [6, 7] (fun q i wr => ∃ k : Nat, k ≤ ys.length ∧ i = .int .i64 (k : Int) ∧ Own .u8 5 wr w.heap.size q (bI (encN W (ys.take k))) ∧ Hid (HasN W (ys.take k)) ∧ Below w.heap.size w wr) (fun _ i _ => ys.length - (intOf i).toNat)
  case atStart => exact ⟨0, Nat.zero_le _, rfl, Own.nil _ _ _ _, (by intro s hs; simp at hs), Below.refl _ _⟩
  case round =>
    obtain ⟨k, hk, rfl, ho, hh, hb⟩ := hrel
    have OO := Lib.hid ho
    have BB := Lib.hid hb
    have hz2 := hb.size
    clear ho hb
    by_cases hlt : k < ys.length
    · obtain ⟨s, hs⟩ : ∃ s : Nat, s = (ys.getD k 0).toNat := ⟨_, rfl⟩
      have hs0 := getD_bts HY.out k
      have hx : ys.getD k 0 = (s : Int) := by omega
      have hs256 : s < 256 := by omega
      have hcell : ∃ b o, ua = some ⟨b, o, none⟩ ∧ wr.cell? ⟨b, o + k, none⟩ = some (.int .u8 (s : Int)) := by
        rcases HU.out.below BB.out with ⟨rfl, _⟩ | ⟨_, b, o, cp, he, h2, h3, h4, h5⟩
        · simp at hlt
        · simp only [Value.slice.injEq] at he
          exact ⟨b, o, he.1, by rw [← hx]; exact h5 _ hlt⟩
      obtain ⟨b, o, rfl, hcell⟩ := hcell
      have hmem : ys.getD k 0 ∈ ys := by simp [List.getD, hlt]
      by_cases hsl : s < W.length
      · have d1 : decide ((s : Int) ≥ (W.length : Int)) = false := decide_eq_false (by omega)
        have d1' : decide (s ≥ W.length) = false := decide_eq_false (by omega)
        have d1'' : decide (W.length ≤ s) = false := decide_eq_false (by omega)
        obtain ⟨g, go, gc, hge, hgl⟩ := HR.out.form (by omega)
        simp only [Value.slice.injEq, true_and] at hge
        obtain ⟨rfl, rfl⟩ := hge
        have hcs := (HR.out.below BB.out).cells rfl s hsl
        obtain ⟨c0, c1⟩ := hcs
        have hi1 : (0 : Int) ≤ (s : Int) := by omega
        have hi2 : (s : Int) < (W.length : Int) := by omega
        have HE := Lib.hid (enc_take W ys k hlt)
        have HL := Lib.hid (enc_len HOK.out (ys.take k))
        have hlong := HOK.out.long s
        have hroom := fun h => HOK.out.room s h
        have HH : Hid ((W.getD s (0, 0)).2 ≠ 0 → HasN W (ys.take (k + 1))) := fun h => has_take ys k hlt hh.out (by rw [← hs]; exact ⟨hsl, h⟩)
        have HNO : Hid ((W.getD s (0, 0)).2 = 0 → ¬ HasN W ys) := fun h hn => (hn _ hmem).2 (by rw [← hs]; exact h)
        rw [← hs] at HE
        have HPC : Hid (∀ wq, Below w.heap.size w wq → wq.cell? ⟨g, go + s * 2, none⟩ = some (.int .i64 (((W.getD s (0, 0)).1 : Nat) : Int))) := fun wq hq => ((HR.out.below hq).cells rfl s hsl).1
        generalize (W.getD s (0, 0)).1 = x at *
        generalize (W.getD s (0, 0)).2 = n at *
        clear hs hs0 hx hmem
        by_cases hn : n = 0
        · have e1 := Lib.hid (HNO.out hn)
          subst hn
          clear hroom HH HNO HE HL
          go_wp2_with fail
          go_ret2
          exact ⟨BB.out, .inr ⟨e1.out, rfl⟩⟩
        · have dn : ((n : Int) == 0) = false := by simp; omega
          have dn' : (n == 0) = false := by simp; omega
          have hrm := hroom (by omega)
          have hx24 : x < 16777216 := by
            have : 2 ^ n ≤ 2 ^ 24 := Nat.pow_le_pow_right (by decide) hlong
            have e : (2 : Nat) ^ 24 = 16777216 := rfl
            omega
          have HH2 := Lib.hid (HH.out hn)
          have hw1 : IntKind.i64.wrap ((n : Int) - 1) = (n : Int) - 1 := by rw [IntKind.wrap_i64]; omega
          have hel : (encN W (ys.take (k + 1))).length ≤ 24 * 68719476736 := by
            have := enc_len HOK.out (ys.take (k + 1))
            have : (ys.take (k + 1)).length ≤ k + 1 := List.length_take_le _ _
            omega
          have HEL := Lib.hid hel
          obtain ⟨T, hT⟩ : ∃ T, T = encN W (ys.take (k + 1)) := ⟨_, rfl⟩
          rw [← hT] at HE HEL hel
          have HTE := Lib.hid hT
          clear hT
          have HST : Hid (encN W (ys.take k) ++ bd x n = T) := HE.out.symm
          generalize encN W (ys.take k) = D at *
          obtain ⟨n1, hn1⟩ : ∃ n1, n = n1 + 1 := ⟨n - 1, by omega⟩
          have hn1' : (n : Int) - 1 = (n1 : Int) := by omega
          have HN1 := Lib.hid hn1
          have HSN := Lib.hid hn1'
          clear hroom HH HNO HE HL hrm hn hel hn1 hn1' hh
          go_wp2_with fail
          clear hw1
          go_loopw [6, 9] (fun q j wq => ∃ (m : Nat) (D' : List Nat), m ≤ 24 ∧ j = .int .i64 ((m : Int) - 1) ∧ Own .u8 5 wq w.heap.size q (bI D') ∧ Hid (D' ++ bd x m = T) ∧ Below w.heap.size w wq) (fun _ j _ => (intOf j + 1).toNat)
          case atStart => exact ⟨n, D, hlong, rfl, OO.out, HST, BB.out⟩
          case round =>
            obtain ⟨m, D', hm, rfl, ho, hD, hb⟩ := hrel
            clear HST OO BB
            have OO := Lib.hid ho
            have BB := Lib.hid hb
            have hz3 := hb.size
            have hdl : D'.length ≤ 24 * 68719476736 := by
              have := congrArg List.length hD.out
              rw [List.length_append] at this
              have := HEL.out
              omega
            clear ho hb
            cases m with
            | zero =>
              have hD2 : Hid (D' = T) := Lib.hid (by have := hD.out; simpa [bd] using this)
              have e0 : (((0 : Nat) : Int) - 1) = -1 := rfl
              rw [e0]
              clear hD e0
              go_wp2_with fail
              refine ⟨⟨k + 1, by omega, by go_num, by rw [← HTE.out, ← hD2.out]; exact OO.out, HH2, BB.out⟩, ?_⟩
              simp [intOf]; omega
            | succ m =>
              have e0 : (((m + 1 : Nat) : Int) - 1) = (m : Int) := by omega
              rw [e0]
              have px := HPC.out _ BB.out
              obtain ⟨y, hy⟩ : ∃ y, y = x / 2 ^ m % 2 := ⟨_, rfl⟩
              obtain ⟨X, hX⟩ : ∃ X, X = x / 2 ^ m := ⟨_, rfl⟩
              have hX24 : X < 16777216 := Nat.lt_of_le_of_lt (by rw [hX]; exact Nat.div_le_self _ _) hx24
              have hdiv : (x : Int) / 2 ^ m = (X : Int) := by rw [hX, Int.natCast_ediv]; simp
              have hand : bits .and .i64 (X : Int) 1 = (y : Int) := by
                have := and_ones X 1 (by omega) (by omega)
                rw [hy, ← hX]
                exact this
              have hy2 : y < 2 := by rw [hy]; omega
              have hyw : IntKind.u8.wrap (y : Int) = (y : Int) := by rw [IntKind.wrap_u8]; omega
              have HD2 : Hid ((D' ++ [y]) ++ bd x m = T) := by
                show _ = _
                rw [List.append_assoc, ← hD.out, bd, hy]; rfl
              have HOL : Hid ((bI D').length = D'.length) := bI_len D'
              have HDL := Lib.hid hdl
              have hwm : IntKind.i64.wrap ((m : Int) - 1) = (m : Int) - 1 := by rw [IntKind.wrap_i64]; omega
              have HB1 : Hid (bI (D' ++ [y]) = bI D' ++ [(y : Int)]) := by show _ = _; rw [bI_append]; rfl
              have hw24 : m ≤ 23 := by omega
              clear hD e0 hy hX hdl hm
              go_wp2_with (at_builtin; ((with_reducible refine wpList_append_rd _ ?_ (.tmp 43) (.tmp 53) 36 ?_ elemU8 Try.underlying36 w.heap.size u6 (bI D') ?_ (OO.out.alloc _) (.slice (some ⟨wr.heap.size, 0, none⟩) 1 1) [(y : Int)] ?_ (Rd.one .u8 5 wr _) ?_ ?_ ?_ ?_)); rfl; rfl; rfl; rfl; (have := HDL.out; rw [HOL.out]; simp; omega); (have := HDL.out; rw [HOL.out]; simp [maxLen]; omega); (simp; omega); intro v4 w4 o4 g4; have O4 := Lib.hid o4; have G4 := Lib.hid g4; clear o4 g4)
              go_roundw
              case rel => exact ⟨m, D' ++ [y], by omega, rfl, by rw [HB1.out]; exact O4.out, HD2, (BB.out.alloc hz3 _).grown G4.out (by simp; omega) OO.out.blk⟩
              case measure => simp [intOf]
      · have d1 : decide ((s : Int) ≥ (W.length : Int)) = true := decide_eq_true (by omega)
        have d1' : decide (s ≥ W.length) = true := decide_eq_true (by omega)
        have d1'' : decide (W.length ≤ s) = true := decide_eq_true (by omega)
        have e1 : Hid (¬ HasN W ys) := fun hn => hsl (by rw [hs]; exact (hn _ hmem).1)
        clear hs hs0 hx hmem hsl
        go_wp2_with fail
        go_ret2
        exact ⟨BB.out, .inr ⟨e1.out, rfl⟩⟩
    · have hend : k = ys.length := by omega
      have dl : decide ((k : Int) < (ys.length : Int)) = false := decide_eq_false (by omega)
      have dl' : decide (k < ys.length) = false := decide_eq_false (by omega)
      have HH : Hid (HasN W ys ∧ bI (encN W (ys.take k)) = bI (encN W ys)) := by
        have := hh.out; rw [hend, List.take_length] at this
        exact ⟨this, by rw [hend, List.take_length]⟩
      clear hend
      go_wp2_with fail
      go_ret2
      exact ⟨BB.out, .inl ⟨HH.out.1, _, rfl, by rw [← HH.out.2]; exact OO.out⟩⟩
end Go.Proofs.Ytjaeccealfeakaa
