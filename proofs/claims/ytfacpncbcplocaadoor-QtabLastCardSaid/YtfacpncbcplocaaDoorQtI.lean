/- Walks of layer 13: the document's tables: New, Used, shrink, SetCap, Count. -/
import Derived.Test.YtfacpncbcplocaaDoorQtE
set_option maxRecDepth 100000
set_option linter.unusedSimpArgs false
set_option linter.unusedVariables false
set_option linter.unnecessarySimpa false
namespace Go.Proofs.YtfacpncbcplocaaDoor
open Go.RowKit

/-- block b holds a table of the document's: v is its list, which reads as the fields l -/
structure RTb (b : Nat) (v : Value) (q : TQ) (w : World) : Prop where
  fields : Cs w b [.int .i64 (q.most : Int), .int .i64 (q.cap : Int), .int .i64 (q.first : Int), v]
  row : RdC 2 w v q.l.length (fdC q.l)
  ne : q.l ≠ [] → ∀ j, v.ownBlock = some j → j ≠ b
theorem RTb.facts {b : Nat} {v : Value} {q : TQ} {w : World} (h : RTb b v q w) :
    w.cell? ⟨b, 0, none⟩ = some (.int .i64 (q.most : Int)) ∧ w.cell? ⟨b, 1, none⟩ = some (.int .i64 (q.cap : Int)) ∧ w.cell? ⟨b, 2, none⟩ = some (.int .i64 (q.first : Int)) ∧ w.cell? ⟨b, 3, none⟩ = some v :=
  ⟨h.fields.get 0 _ rfl, h.fields.get 1 _ rfl, h.fields.get 2 _ rfl, h.fields.get 3 _ rfl⟩
theorem RTb.free {b : Nat} {v : Value} {q : TQ} {w : World} (h : RTb b v q w) (j : Nat) : w.frozen? ⟨b, j, none⟩ = false := h.fields.free j
theorem rdC_keep {m n : Nat} {S : List Nat} {w w' : World} {v : Value} {fl : List Value} (h : RdC m w v n fl) (hk : Keep S w w') (hn : 0 < n → ∀ j, v.ownBlock = some j → j ∉ S) : RdC m w' v n fl := by
  obtain ⟨h0, h | ⟨h1, b, o, c, rfl, h2, h3, h4, h5⟩⟩ := h
  · exact ⟨h0, .inl h⟩
  · exact ⟨h0, .inr ⟨h1, b, o, c, rfl, h2, h3, Nat.lt_of_lt_of_le h4 hk.size, fun j u hu => hk.cell (h5 j u hu) (hn h1 b rfl)⟩⟩
theorem pos_of_ne {l : List Fd} (h : 0 < l.length) : l ≠ [] := fun e => by rw [e] at h; simp at h
theorem RTb.keep {S : List Nat} {b : Nat} {v : Value} {q : TQ} {w w' : World} (h : RTb b v q w) (k : Keep S w w') (hb : b ∉ S) (hn : q.l ≠ [] → ∀ j, v.ownBlock = some j → j ∉ S) : RTb b v q w' :=
  ⟨h.fields.keep k hb, rdC_keep h.row k (fun h0 => hn (pos_of_ne h0)), h.ne⟩
theorem RTb.below {b : Nat} {v : Value} {q : TQ} {w w' : World} (h : RTb b v q w) (k : Below w.heap.size w w') : RTb b v q w' := h.keep (Keep.of_below (S := []) k) (by simp) (by simp)
theorem RTb.drewN {b : Nat} {v : Value} {q : TQ} {w : World} (h : RTb b v q w) (n : Nat) : RTb b v q (w.drewN n) := h.below (below_drewN (Below.refl _ w) n)
theorem RTb.lt {b : Nat} {v : Value} {q : TQ} {w : World} (h : RTb b v q w) : b < w.heap.size := h.fields.lt
theorem RTb.shape {b : Nat} {v : Value} {q : TQ} {w : World} (h : RTb b v q w) : ∃ a c, v = .slice a q.l.length c ∧ q.l.length ≤ c ∧ c ≤ maxLen := h.row.isSlice
theorem RTb.vlt {b : Nat} {v : Value} {q : TQ} {w : World} (h : RTb b v q w) (h0 : q.l ≠ []) : ∀ j, v.ownBlock = some j → j < w.heap.size := h.row.blt (by cases hl : q.l with | nil => exact absurd hl h0 | cons a b => simp)
/-- a field of such a list -/
theorem fd_at {w : World} {g o n c : Nat} {l : List Fd} (h : RdC 2 w (.slice (some ⟨g, o, none⟩) n c) l.length (fdC l)) (k : Nat) (hk : k < l.length) (i : Nat) (hi : i = o + k * 2) :
    w.cell? ⟨g, i, none⟩ = some (.string l[k].n) ∧ w.cell? ⟨g, i + 1, none⟩ = some (.string l[k].v) := by
  subst hi
  have hn : n = l.length := by obtain ⟨_, _, e, _⟩ := h.isSlice; simp only [Value.slice.injEq] at e; exact e.2.1
  subst hn
  have cell : ∀ j u, j < 2 → (fdCell l[k])[j]? = some u → w.cell? ⟨g, o + k * 2 + j, none⟩ = some u := fun j u hj hu =>
    RdC.cell h (k * 2 + j) u ((fdC_get l k j hk hj).trans hu) _ (by omega)
  exact ⟨cell 0 _ (by omega) rfl, cell 1 _ (by omega) rfl⟩
theorem rd_form {m n : Nat} {w : World} {v : Value} {fl : List Value} (h : RdC m w v n fl) (hn : 0 < n) : ∃ b o c, v = .slice (some ⟨b, o, none⟩) n c ∧ n ≤ c ∧ c ≤ maxLen ∧ b < w.heap.size := by
  obtain ⟨_, ⟨h0, _⟩ | ⟨_, b, o, c, rfl, h2, h3, h4, _⟩⟩ := h
  · omega
  · exact ⟨b, o, c, rfl, h2, h3, h4⟩

theorem rcount_any {b : Nat} {v : Value} {q : TQ} (w : World) (h : RTb b v q w) (hq : countN q ≤ 4611686018427387904) : Calls Tryd.prog 31 #[.pointer (some ⟨b, 0, none⟩)] w fun e w' => e = .returned (.int .i64 (countN q : Int)) ∧ ∃ n, w' = w.drewN n := by
  obtain ⟨_, _, c4, c5⟩ := h.facts
  obtain ⟨a, c, rfl, _, _⟩ := h.shape
  unfold countN at hq ⊢
  clear h
  have hw : IntKind.i64.wrap ((q.first : Int) + (q.l.length : Int)) = ((q.first + q.l.length : Nat) : Int) := by
    rw [wraps_i64' _ (by omega) (by omega)]; omega
  go_enter Tryd.func31, Tryd.ntmps31
  go_wp2_with fail
  go_quiet (fail)
  go_wp2
  go_ret
  exact ⟨rfl, _, rfl⟩

set_option maxHeartbeats 1600000 in
theorem rused_any {b : Nat} {v : Value} {q : TQ} (w : World) (h : RTb b v q w) (hr : rooms q.l ≤ 8192) : Calls Tryd.prog 28 #[.pointer (some ⟨b, 0, none⟩)] w fun e w' => e = .returned (.int .i64 (rooms q.l : Int)) ∧ Below w.heap.size w w' := by
  have HT := Lib.hid h
  have HR := Lib.hid hr
  clear h hr
  go_enter Tryd.func28, Tryd.ntmps28
  go_wp2_with fail
  go_loopw [3, 4] (fun s i wr => ∃ k : Nat, s = .int .i64 (rooms (q.l.take k) : Int) ∧ i = .int .i64 k ∧ k ≤ q.l.length ∧ Below w.heap.size w wr) (fun _ i _ => q.l.length - (intOf i).toNat)
  case atStart => exact ⟨0, by simp [rooms], rfl, Nat.zero_le _, Below.refl _ _⟩
  case round =>
    obtain ⟨k, rfl, rfl, hk, hbel⟩ := hrel
    have HB := Lib.hid hbel
    have HTr := Lib.hid (HT.out.below hbel)
    clear hbel
    obtain ⟨u, hu⟩ : ∃ u, u = rooms (q.l.take k) := ⟨_, rfl⟩
    rw [← hu]
    have HU := Lib.hid hu
    clear hu
    obtain ⟨_, _, _, c3⟩ := HTr.out.facts
    have hlen : q.l.length ≤ 256 := by have := rooms_len q.l; have := HR.out; omega
    obtain ⟨a, c, hv, _, _⟩ := HTr.out.shape
    subst hv
    by_cases hkl : k < q.l.length
    · obtain ⟨g, o, c', hs2, hgc, hgm, hg⟩ := rd_form HTr.out.row (by omega)
      simp only [Value.slice.injEq, true_and] at hs2
      obtain ⟨rfl, rfl⟩ := hs2
      obtain ⟨e0, e1⟩ := fd_at HTr.out.row k hkl _ rfl
      have hst := rooms_take q.l k hkl
      have hle : rooms (q.l.take (k + 1)) ≤ 8192 := by have := rooms_split q.l (k + 1); have := HR.out; omega
      obtain ⟨fd, hfd⟩ : ∃ fd, fd = q.l[k] := ⟨_, rfl⟩
      rw [← hfd] at e0 e1 hst
      rw [← HU.out] at hst
      have hrf : roomF fd ≤ 8192 := by omega
      have HRM := Lib.hid (fun V => rroom_any fd V ⟨by unfold roomF at hrf; omega, by unfold roomF at hrf; omega⟩)
      obtain ⟨rf, hrf2⟩ : ∃ rf, rf = roomF fd := ⟨_, rfl⟩
      rw [← hrf2] at HRM hst
      have hi1 : (k : Int) < (q.l.length : Int) := by omega
      have hi2 : (0 : Int) ≤ (k : Int) := by omega
      have hw1 : IntKind.i64.wrap ((k : Int) + 1) = ((k + 1 : Nat) : Int) := by rw [wraps_i64' _ (by omega) (by omega)]; omega
      have hw2 : IntKind.i64.wrap ((u : Int) + (rf : Int)) = (u : Int) + (rf : Int) := wraps_i64' _ (by omega) (by omega)
      have HST := Lib.hid hst
      have HKL := Lib.hid hkl
      clear hst hle hfd hrf hrf2 hkl hk hgc hgm hlen
      go_wp2_with (go_at_call 14; refine (HRM.out _).mono ?_; rintro x w3 ⟨rfl, b3⟩)
      exact ⟨⟨k + 1, by rw [HST.out]; simp, by simp, HKL.out, HB.out.trans (b3.mono HB.out.size)⟩, by simp [intOf]; have := HKL.out; omega⟩
    · obtain rfl : k = q.l.length := by omega
      rw [List.take_length] at HU
      have hi1 : ¬ ((q.l.length : Int) < (q.l.length : Int)) := by omega
      clear hk
      go_wp2
      go_ret
      exact ⟨by rw [HU.out]; rfl, HB.out⟩
end Go.Proofs.YtfacpncbcplocaaDoor
