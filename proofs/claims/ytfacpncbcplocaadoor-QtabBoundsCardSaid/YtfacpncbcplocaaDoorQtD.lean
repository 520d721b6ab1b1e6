/- Walks of layer 13: SetCap, New, Get, Find. -/
import Derived.Test.YtfacpncbcplocaaDoorQtC
set_option maxRecDepth 100000
set_option linter.unusedSimpArgs false
set_option linter.unusedVariables false
set_option linter.unnecessarySimpa false
namespace Go.Proofs.YtfacpncbcplocaaDoor
open Go.RowKit

/-- what a table's call leaves -/
def Did (b : Nat) (sl : Value) (q' : TQ) (w w' : World) : Prop := ∃ sl', Tbl b sl' q' w' ∧ (∀ j, sl'.ownBlock = some j → sl.ownBlock = some j ∨ w.heap.size ≤ j) ∧ Keep (TS b sl) w w'
theorem did_same {b : Nat} {sl : Value} {q : TQ} {w w' : World} (h : Tbl b sl q w) (hb : Below w.heap.size w w') : Did b sl q w w' := ⟨sl, h.below hb, fun j hj => .inl hj, Keep.of_below hb⟩

theorem setCap_any {b : Nat} {sl : Value} {q : TQ} (n : Int) (w : World) (ho : TOk q) (h : Tbl b sl q w) (hc : countN q ≤ 4611686018427387904) :
    Calls Tryd.prog 20 #[.pointer (some ⟨b, 0, none⟩), .int .i64 n] w fun e w' => e = .returned (.int .i64 (setCapE q n).2) ∧ Did b sl (setCapE q n).1 w w' := by
  have HG := Lib.hid (given_any w h)
  have HT := Lib.hid h
  obtain ⟨_, c1, c2, _⟩ := h.facts
  have z2 := h.free 2
  by_cases h1 : n < 0
  · have hE : setCapE q n = (q, 1) := by unfold setCapE; rw [if_pos (.inl h1)]
    rw [hE]
    have H1 := Lib.hid h1
    clear h ho hE hc
    go_enter Tryd.func20, Tryd.ntmps20
    go_wp2_with (go_at_call 34; refine HG.out.mono ?_; rintro e w2 ⟨rfl, h⟩; obtain rfl : w = w2 := h.symm)
    go_ret
    exact ⟨rfl, did_same HT.out (Below.refl _ _)⟩
  · by_cases h2 : (q.most : Int) < n
    · have hE : setCapE q n = (q, 1) := by unfold setCapE; rw [if_pos (.inr h2)]
      rw [hE]
      clear h ho hE hc
      go_enter Tryd.func20, Tryd.ntmps20
      go_wp2_with (go_at_call 34; refine HG.out.mono ?_; rintro e w2 ⟨rfl, h⟩; obtain rfl : w = w2 := h.symm)
      go_ret
      exact ⟨rfl, did_same HT.out (Below.refl _ _)⟩
    · have hE : setCapE q n = (shrinkE n.toNat { q with cap := n.toNat }, 0) := by unfold setCapE; rw [if_neg (by omega)]
      rw [hE]
      obtain ⟨k, rfl⟩ : ∃ k : Nat, n = (k : Int) := ⟨n.toNat, by omega⟩
      have hr : rooms q.l ≤ 4096 := Nat.le_trans ho.used (Nat.le_trans ho.cap ho.most)
      have hT : Tbl b sl { q with cap := k } (w.setCell ⟨b, 2, none⟩ (.int .i64 (k : Int))) := ⟨Cs.set h.fields 2 _, own_set h.row b 2 _ h.ne, h.ne⟩
      have hs := shrink_any (w.setCell ⟨b, 2, none⟩ (.int .i64 (k : Int))) k hT hr hc
      have HS := Lib.hid hs
      have h2' : ¬ (q.most : Int) < (k : Int) := h2
      simp only [Int.toNat_natCast]
      clear h ho hE hc hr hT hs h1 h2
      have hi0 : (0 : Int) ≤ (k : Int) := by omega
      go_enter Tryd.func20, Tryd.ntmps20
      go_wp2_with (first
        | (go_at_call 34; refine HG.out.mono ?_; rintro e w2 ⟨rfl, h⟩; obtain rfl : w = w2 := h.symm)
        | (go_at_call 35; refine HS.out.mono ?_; rintro e w2 ⟨rfl, sl', hT', hv, hK⟩
           have HT' := Lib.hid hT'
           have HV := Lib.hid hv
           have HK := Lib.hid hK
           clear hT' hv hK))
      go_ret
      refine ⟨rfl, sl', HT'.out, fun j hj => .inl (by rw [← HV.out]; exact hj), ?_⟩
      have hk1 : Keep (TS b sl) w (w.setCell ⟨b, 2, none⟩ (.int .i64 (k : Int))) := (Keep.refl (TS b sl) w).trans (keep_set b 2 w _) (fun i hi => .inl (by simp at hi; subst hi; exact mem_TS.2 (.inl rfl)))
      exact hk1.trans HK.out (fun i hi => .inl hi)

/-- what New hands back -/
def NewIs (n : Int) (w : World) (e : Ending) (w' : World) : Prop :=
  ((n < 0 ∨ 4096 < n) ∧ e = .returned (.tuple #[.pointer none, .int .i64 1]) ∧ w' = w) ∨
  ((0 ≤ n ∧ n ≤ 4096) ∧ ∃ b, e = .returned (.tuple #[.pointer (some ⟨b, 0, none⟩), .int .i64 0]) ∧ Tbl b (.slice none 0 0) (newT n.toNat) w' ∧ w.heap.size ≤ b ∧ Below w.heap.size w w')
theorem new_any (n : Int) (w : World) : Calls Tryd.prog 16 #[.int .i64 n] w (NewIs n w) := by
  by_cases h1 : n < 0
  · have H := Lib.hid h1
    go_enter Tryd.func16, Tryd.ntmps16
    go_wp2
    go_ret2
    exact .inl ⟨.inl H.out, rfl, rfl⟩
  · by_cases h2 : 4096 < n
    · have H := Lib.hid h2
      have h1' : decide (n < 0) = false := decide_eq_false h1
      go_enter Tryd.func16, Tryd.ntmps16
      go_wp2
      go_ret2
      exact .inl ⟨.inr H.out, rfl, rfl⟩
    · obtain ⟨k, rfl⟩ : ∃ k : Nat, n = (k : Int) := ⟨n.toNat, by omega⟩
      have hk : k ≤ 4096 := by omega
      have HK := Lib.hid hk
      have h2' : ¬ 4096 < (k : Int) := h2
      have hi0 : (0 : Int) ≤ (k : Int) := by omega
      have hT : Tbl w.heap.size (.slice none 0 0) (newT k) (w.alloc (.cells #[.bool true, .int .i64 (k : Int), .int .i64 0, .int .i64 0, .int .i64 0, .slice none 0 0] 54)) :=
        ⟨Cs.made w _ _, World.ownsRow_nil _ _ _ _, fun j hj => by cases hj⟩
      have HT := Lib.hid hT
      clear h1 h2 hT hk
      go_enter Tryd.func16, Tryd.ntmps16
      go_wp2
      go_ret2
      exact .inr ⟨⟨by omega, by have := HK.out; omega⟩, _, rfl, by simpa using HT.out, Nat.le_refl _, below1 w _⟩
end Go.Proofs.YtfacpncbcplocaaDoor
