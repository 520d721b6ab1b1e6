/- Walks of layer 6: Sample of the document. -/
import Derived.Test.YtfcojlnbocncpaaRtC
set_option linter.unusedSimpArgs false
set_option linter.unusedVariables false
namespace Go.Proofs.Ytfcojlnbocncpaa
open Go.RowKit

set_option maxHeartbeats 400000 in
theorem rsample_a (h : Bool) (l s v t n d : Int) (w : World) (hr : rightB ⟨h, l, s, v, t⟩ = false) :
    Calls Try.prog 11 #[.agg #[.bool h, .int .i64 l, .int .i64 s, .int .i64 v, .int .i64 t], .int .i64 n, .int .i64 d] w fun e w' => e = .returned (.tuple #[.agg #[.bool false, .int .i64 0, .int .i64 0, .int .i64 0, .int .i64 0], .int .i64 1]) ∧ Below w.heap.size w w' := by
  have B := Lib.hid (below_two w (.cells #[.bool h, .int .i64 l, .int .i64 s, .int .i64 v, .int .i64 t] 23) (.cells #[.bool false, .int .i64 0, .int .i64 0, .int .i64 0, .int .i64 0] 23))
  have HR := Lib.hid (held_second false 0 0 0 0 23 w (.cells #[.bool h, .int .i64 l, .int .i64 s, .int .i64 v, .int .i64 t] 23))
  have HP := Lib.hid (held_first h l s v t 23 w (.cells #[.bool false, .int .i64 0, .int .i64 0, .int .i64 0, .int .i64 0] 23))
  have R := Lib.hid (fun w => rright_b h l s v t _ hr w)
  clear hr 
  go_enter Try.func11, Try.ntmps11
  go_wp2_with fail
  refine (R.out _).mono ?_
  rintro e w2 ⟨rfl, hb2⟩
  have BB := Lib.hid (B.out.trans (hb2.mono B.out.size))
  have HR3 := Lib.hid (HR.out.below hb2)
  have HP3 := Lib.hid (HP.out.below hb2)
  have hz : w.heap.size + 1 < w2.heap.size := (HR.out.below hb2).lt
  have hz0 : w.heap.size < w2.heap.size := by omega
  have hz1 : w.heap.size ≠ w2.heap.size := by omega
  have hz2 : w.heap.size + 1 ≠ w2.heap.size := by omega
  have hz3 : w2.heap.size ≠ w.heap.size := by omega
  have hz4 : w2.heap.size ≠ w.heap.size + 1 := by omega
  clear R hb2 HR B HP
  obtain ⟨r0, r1, r2, r3, r4⟩ := HR3.out.facts
  obtain ⟨f0, f1, f2, f3, f4⟩ := HR3.out.free
  obtain ⟨p0, p1, p2, p3, p4⟩ := HP3.out.facts
  clear HR3 HP3
  go_wp2
  exact bodyPost_ret (v := .tuple #[.agg #[.bool false, .int .i64 0, .int .i64 0, .int .i64 0, .int .i64 0], .int .i64 1]) (by simp [results, Try.results11, go_sem, r0, r1, r2, r3, r4]) rfl ⟨rfl, below_five BB.out _ (Nat.le_succ _) _ _ _ _ _⟩

set_option maxHeartbeats 400000 in
theorem rsample_b1 (h : Bool) (l s v t n d : Int) (w : World) (hr : rightB ⟨h, l, s, v, t⟩ = true) (hn : tickB n = false) :
    Calls Try.prog 11 #[.agg #[.bool h, .int .i64 l, .int .i64 s, .int .i64 v, .int .i64 t], .int .i64 n, .int .i64 d] w fun e w' => e = .returned (.tuple #[.agg #[.bool false, .int .i64 0, .int .i64 0, .int .i64 0, .int .i64 0], .int .i64 1]) ∧ Below w.heap.size w w' := by
  have B := Lib.hid (below_two w (.cells #[.bool h, .int .i64 l, .int .i64 s, .int .i64 v, .int .i64 t] 23) (.cells #[.bool false, .int .i64 0, .int .i64 0, .int .i64 0, .int .i64 0] 23))
  have HR := Lib.hid (held_second false 0 0 0 0 23 w (.cells #[.bool h, .int .i64 l, .int .i64 s, .int .i64 v, .int .i64 t] 23))
  have HP := Lib.hid (held_first h l s v t 23 w (.cells #[.bool false, .int .i64 0, .int .i64 0, .int .i64 0, .int .i64 0] 23))
  have R := Lib.hid (fun w => rright_b h l s v t _ hr w)
  have Tn := Lib.hid (fun w => tick_b n _ w hn)
  clear hr hn
  go_enter Try.func11, Try.ntmps11
  go_wp2_with fail
  refine (R.out _).mono ?_
  rintro e w2 ⟨rfl, hb2⟩
  have BB := Lib.hid (B.out.trans (hb2.mono B.out.size))
  have HR3 := Lib.hid (HR.out.below hb2)
  have HP3 := Lib.hid (HP.out.below hb2)
  have hz : w.heap.size + 1 < w2.heap.size := (HR.out.below hb2).lt
  have hz0 : w.heap.size < w2.heap.size := by omega
  have hz1 : w.heap.size ≠ w2.heap.size := by omega
  have hz2 : w.heap.size + 1 ≠ w2.heap.size := by omega
  have hz3 : w2.heap.size ≠ w.heap.size := by omega
  have hz4 : w2.heap.size ≠ w.heap.size + 1 := by omega
  clear R hb2 HR B HP
  go_wp2_with fail
  refine (Tn.out _).mono ?_
  rintro e w3 ⟨rfl, rfl⟩
  clear Tn
  obtain ⟨r0, r1, r2, r3, r4⟩ := HR3.out.facts
  obtain ⟨f0, f1, f2, f3, f4⟩ := HR3.out.free
  obtain ⟨p0, p1, p2, p3, p4⟩ := HP3.out.facts
  clear HR3 HP3
  go_wp2
  exact bodyPost_ret (v := .tuple #[.agg #[.bool false, .int .i64 0, .int .i64 0, .int .i64 0, .int .i64 0], .int .i64 1]) (by simp [results, Try.results11, go_sem, r0, r1, r2, r3, r4]) rfl ⟨rfl, below_five BB.out _ (Nat.le_succ _) _ _ _ _ _⟩

set_option maxHeartbeats 400000 in
theorem rsample_b2 (h : Bool) (l s v t n d : Int) (w : World) (hr : rightB ⟨h, l, s, v, t⟩ = true) (hn : tickB n = true) (hd : tickB d = false) :
    Calls Try.prog 11 #[.agg #[.bool h, .int .i64 l, .int .i64 s, .int .i64 v, .int .i64 t], .int .i64 n, .int .i64 d] w fun e w' => e = .returned (.tuple #[.agg #[.bool false, .int .i64 0, .int .i64 0, .int .i64 0, .int .i64 0], .int .i64 1]) ∧ Below w.heap.size w w' := by
  have B := Lib.hid (below_two w (.cells #[.bool h, .int .i64 l, .int .i64 s, .int .i64 v, .int .i64 t] 23) (.cells #[.bool false, .int .i64 0, .int .i64 0, .int .i64 0, .int .i64 0] 23))
  have HR := Lib.hid (held_second false 0 0 0 0 23 w (.cells #[.bool h, .int .i64 l, .int .i64 s, .int .i64 v, .int .i64 t] 23))
  have HP := Lib.hid (held_first h l s v t 23 w (.cells #[.bool false, .int .i64 0, .int .i64 0, .int .i64 0, .int .i64 0] 23))
  have R := Lib.hid (fun w => rright_b h l s v t _ hr w)
  have Tn := Lib.hid (fun w => tick_b n _ w hn)
  have Td := Lib.hid (fun w => tick_b d _ w hd)
  clear hr hn hd
  go_enter Try.func11, Try.ntmps11
  go_wp2_with fail
  refine (R.out _).mono ?_
  rintro e w2 ⟨rfl, hb2⟩
  have BB := Lib.hid (B.out.trans (hb2.mono B.out.size))
  have HR3 := Lib.hid (HR.out.below hb2)
  have HP3 := Lib.hid (HP.out.below hb2)
  have hz : w.heap.size + 1 < w2.heap.size := (HR.out.below hb2).lt
  have hz0 : w.heap.size < w2.heap.size := by omega
  have hz1 : w.heap.size ≠ w2.heap.size := by omega
  have hz2 : w.heap.size + 1 ≠ w2.heap.size := by omega
  have hz3 : w2.heap.size ≠ w.heap.size := by omega
  have hz4 : w2.heap.size ≠ w.heap.size + 1 := by omega
  clear R hb2 HR B HP
  go_wp2_with fail
  refine (Tn.out _).mono ?_
  rintro e w3 ⟨rfl, rfl⟩
  clear Tn
  go_wp2_with fail
  refine (Td.out _).mono ?_
  rintro e w3 ⟨rfl, rfl⟩
  clear Td
  obtain ⟨r0, r1, r2, r3, r4⟩ := HR3.out.facts
  obtain ⟨f0, f1, f2, f3, f4⟩ := HR3.out.free
  obtain ⟨p0, p1, p2, p3, p4⟩ := HP3.out.facts
  clear HR3 HP3
  go_wp2
  exact bodyPost_ret (v := .tuple #[.agg #[.bool false, .int .i64 0, .int .i64 0, .int .i64 0, .int .i64 0], .int .i64 1]) (by simp [results, Try.results11, go_sem, r0, r1, r2, r3, r4]) rfl ⟨rfl, below_five BB.out _ (Nat.le_succ _) _ _ _ _ _⟩

set_option maxHeartbeats 400000 in
theorem rsample_c (l s v t n d : Int) (w : World) (hr : rightB ⟨false, l, s, v, t⟩ = true) (hn : tickB n = true) (hd : tickB d = true) :
    Calls Try.prog 11 #[.agg #[.bool false, .int .i64 l, .int .i64 s, .int .i64 v, .int .i64 t], .int .i64 n, .int .i64 d] w fun e w' => e = .returned (.tuple #[.agg #[.bool true, .int .i64 n, .int .i64 n, .int .i64 (n.tdiv 2), .int .i64 n], .int .i64 0]) ∧ Below w.heap.size w w' := by
  have hn0 := tick_iff.1 hn
  have wq : IntKind.i64.wrap (n.tdiv 2) = n.tdiv 2 := by
    rw [Int.tdiv_eq_ediv_of_nonneg hn0.1]
    exact wraps_i64' _ (by omega) (by omega)
  have B := Lib.hid (below_two w (.cells #[.bool false, .int .i64 l, .int .i64 s, .int .i64 v, .int .i64 t] 23) (.cells #[.bool false, .int .i64 0, .int .i64 0, .int .i64 0, .int .i64 0] 23))
  have HR := Lib.hid (held_second false 0 0 0 0 23 w (.cells #[.bool false, .int .i64 l, .int .i64 s, .int .i64 v, .int .i64 t] 23))
  have HP := Lib.hid (held_first false l s v t 23 w (.cells #[.bool false, .int .i64 0, .int .i64 0, .int .i64 0, .int .i64 0] 23))
  have R := Lib.hid (fun w => rright_b false l s v t _ hr w)
  have Tn := Lib.hid (fun w => tick_b n _ w hn)
  have Td := Lib.hid (fun w => tick_b d _ w hd)
  clear hr hn hd
  go_enter Try.func11, Try.ntmps11
  go_wp2_with fail
  refine (R.out _).mono ?_
  rintro e w2 ⟨rfl, hb2⟩
  have BB := Lib.hid (B.out.trans (hb2.mono B.out.size))
  have HR3 := Lib.hid (HR.out.below hb2)
  have HP3 := Lib.hid (HP.out.below hb2)
  have hz : w.heap.size + 1 < w2.heap.size := (HR.out.below hb2).lt
  have hz0 : w.heap.size < w2.heap.size := by omega
  have hz1 : w.heap.size ≠ w2.heap.size := by omega
  have hz2 : w.heap.size + 1 ≠ w2.heap.size := by omega
  have hz3 : w2.heap.size ≠ w.heap.size := by omega
  have hz4 : w2.heap.size ≠ w.heap.size + 1 := by omega
  clear R hb2 HR B HP
  go_wp2_with fail
  refine (Tn.out _).mono ?_
  rintro e w3 ⟨rfl, rfl⟩
  clear Tn
  go_wp2_with fail
  refine (Td.out _).mono ?_
  rintro e w3 ⟨rfl, rfl⟩
  clear Td
  obtain ⟨r0, r1, r2, r3, r4⟩ := HR3.out.facts
  obtain ⟨f0, f1, f2, f3, f4⟩ := HR3.out.free
  obtain ⟨p0, p1, p2, p3, p4⟩ := HP3.out.facts
  clear HR3 HP3
  go_wp2
  exact bodyPost_ret (v := .tuple #[.agg #[.bool true, .int .i64 n, .int .i64 n, .int .i64 (n.tdiv 2), .int .i64 n], .int .i64 0]) (by simp [results, Try.results11, go_sem, r0, r1, r2, r3, r4]) rfl ⟨rfl, below_five BB.out _ (Nat.le_succ _) _ _ _ _ _⟩

theorem below_far {w V : World} (h : Below w.heap.size w V) (b : Nat) (hb : w.heap.size ≤ b) (c : Nat) (hc : w.heap.size ≤ c) (u0 u1 v0 v1 v2 v3 v4 : Value) :
    Below w.heap.size w (((((((V.setCell ⟨b, 3, none⟩ u0).setCell ⟨b, 2, none⟩ u1).setCell ⟨c, 0, none⟩ v0).setCell ⟨c, 1, none⟩ v1).setCell ⟨c, 2, none⟩ v2).setCell ⟨c, 3, none⟩ v3).setCell ⟨c, 4, none⟩ v4) :=
  below_five ((h.setCell hb _).setCell hb _) c hc _ _ _ _ _
end Go.Proofs.Ytfcojlnbocncpaa
