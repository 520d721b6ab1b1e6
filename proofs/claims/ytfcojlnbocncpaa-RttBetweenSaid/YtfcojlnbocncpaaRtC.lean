/- Walks of layer 6: estimates handed over; Sample of the code. -/
import Derived.Test.YtfcojlnbocncpaaRtB
set_option linter.unusedSimpArgs false
set_option linter.unusedVariables false
namespace Go.Proofs.Ytfcojlnbocncpaa
open Go.RowKit

theorem below_two (w : World) (a b : Obj) : Below w.heap.size w ((w.alloc a).alloc b) := ((Below.refl _ _).alloc (Nat.le_refl _) _).alloc (by simp) _

set_option maxHeartbeats 400000 in
theorem theirs_any (h : Bool) (l s v t : Int) (w : World) :
    Calls Try.prog 10 #[.agg #[.bool h, .int .i64 l, .int .i64 s, .int .i64 v, .int .i64 t]] w fun e w' => e = .returned (.agg #[.bool h, .int .i64 l, .int .i64 s, .int .i64 v, .int .i64 t]) ∧ Below w.heap.size w w' := by
  go_enter Try.func10, Try.ntmps10
  go_wp2
  exact bodyPost_ret (v := .agg #[.bool h, .int .i64 l, .int .i64 s, .int .i64 v, .int .i64 t]) (by simp [results, Try.results10, go_sem]) rfl ⟨rfl, below_two _ _ _⟩

set_option maxHeartbeats 400000 in
theorem ours_any (h : Bool) (l s v t : Int) (w : World) :
    Calls Try.prog 12 #[.agg #[.bool h, .int .i64 l, .int .i64 s, .int .i64 v, .int .i64 t]] w fun e w' => e = .returned (.agg #[.bool h, .int .i64 l, .int .i64 s, .int .i64 v, .int .i64 t]) ∧ Below w.heap.size w w' := by
  go_enter Try.func12, Try.ntmps12
  go_wp2
  exact bodyPost_ret (v := .agg #[.bool h, .int .i64 l, .int .i64 s, .int .i64 v, .int .i64 t]) (by simp [results, Try.results12, go_sem]) rfl ⟨rfl, below_two _ _ _⟩

/-- a block that holds an estimate -/
def Held (b : Nat) (h : Bool) (l s v t : Int) (W : World) : Prop := ∃ T, W.heap[b]? = some (.cells #[.bool h, .int .i64 l, .int .i64 s, .int .i64 v, .int .i64 t] T (0, 0))
theorem held_first (h : Bool) (l s v t : Int) (T : TypeId) (w : World) (b : Obj) : Held w.heap.size h l s v t ((w.alloc (.cells #[.bool h, .int .i64 l, .int .i64 s, .int .i64 v, .int .i64 t] T)).alloc b) :=
  ⟨T, by rw [Below.heap_alloc _ _ _ (by simp)]; show (w.heap.push _)[w.heap.size]? = _; simp⟩
theorem held_last (h : Bool) (l s v t : Int) (T : TypeId) (w : World) : Held w.heap.size h l s v t (w.alloc (.cells #[.bool h, .int .i64 l, .int .i64 s, .int .i64 v, .int .i64 t] T)) :=
  ⟨T, by show (w.heap.push _)[w.heap.size]? = _; simp⟩
theorem held_second (h : Bool) (l s v t : Int) (T : TypeId) (w : World) (a : Obj) : Held (w.heap.size + 1) h l s v t ((w.alloc a).alloc (.cells #[.bool h, .int .i64 l, .int .i64 s, .int .i64 v, .int .i64 t] T)) := by
  have := held_last h l s v t T (w.alloc a)
  simpa using this
theorem Held.lt {b : Nat} {h : Bool} {l s v t : Int} {W : World} (H : Held b h l s v t W) : b < W.heap.size := by
  obtain ⟨T, e⟩ := H
  exact (Array.getElem?_eq_some_iff.1 e).1
theorem Held.below {b : Nat} {h : Bool} {l s v t : Int} {W W' : World} (H : Held b h l s v t W) (hb : Below W.heap.size W W') : Held b h l s v t W' := by
  have k := H.lt
  obtain ⟨T, e⟩ := H
  exact ⟨T, by rw [hb.block b k]; exact e⟩
theorem Held.facts {b : Nat} {h : Bool} {l s v t : Int} {W : World} (H : Held b h l s v t W) :
    W.cell? ⟨b, 0, none⟩ = some (.bool h) ∧ W.cell? ⟨b, 1, none⟩ = some (.int .i64 l) ∧ W.cell? ⟨b, 2, none⟩ = some (.int .i64 s) ∧ W.cell? ⟨b, 3, none⟩ = some (.int .i64 v) ∧ W.cell? ⟨b, 4, none⟩ = some (.int .i64 t) := by
  obtain ⟨T, e⟩ := H
  simp [World.cell?, e]
theorem Held.free {b : Nat} {h : Bool} {l s v t : Int} {W : World} (H : Held b h l s v t W) :
    W.frozen? ⟨b, 0, none⟩ = false ∧ W.frozen? ⟨b, 1, none⟩ = false ∧ W.frozen? ⟨b, 2, none⟩ = false ∧ W.frozen? ⟨b, 3, none⟩ = false ∧ W.frozen? ⟨b, 4, none⟩ = false := by
  obtain ⟨T, e⟩ := H
  simp [World.frozen?, e]
/-- five cells of one block are written over -/
theorem below_five {B : Nat} {w w' : World} (h : Below B w w') (b : Nat) (hb : B ≤ b) (v0 v1 v2 v3 v4 : Value) : Below B w (((((w'.setCell ⟨b, 0, none⟩ v0).setCell ⟨b, 1, none⟩ v1).setCell ⟨b, 2, none⟩ v2).setCell ⟨b, 3, none⟩ v3).setCell ⟨b, 4, none⟩ v4) :=
  ((((h.setCell hb _).setCell hb _).setCell hb _).setCell hb _).setCell hb _

set_option maxHeartbeats 400000 in
theorem sample_a (h : Bool) (l s v t n d : Int) (w : World) (hr : rightB ⟨h, l, s, v, t⟩ = false) :
    Calls Try.prog 9 #[.agg #[.bool h, .int .i64 l, .int .i64 s, .int .i64 v, .int .i64 t], .int .i64 n, .int .i64 d] w fun e w' => e = .returned (.tuple #[.agg #[.bool false, .int .i64 0, .int .i64 0, .int .i64 0, .int .i64 0], .int .i64 1]) ∧ Below w.heap.size w w' := by
  have B := Lib.hid (below_two w (.cells #[.bool h, .int .i64 l, .int .i64 s, .int .i64 v, .int .i64 t] 24) (.cells #[.bool false, .int .i64 0, .int .i64 0, .int .i64 0, .int .i64 0] 24))
  have HR := Lib.hid (held_second false 0 0 0 0 24 w (.cells #[.bool h, .int .i64 l, .int .i64 s, .int .i64 v, .int .i64 t] 24))
  have R := Lib.hid (fun w => right_b h l s v t _ hr w)
  clear hr
  go_enter Try.func9, Try.ntmps9
  go_wp2_with fail
  refine (R.out _).mono ?_
  rintro e w2 ⟨rfl, hb2⟩
  clear R
  obtain ⟨r0, r1, r2, r3, r4⟩ := (HR.out.below hb2).facts
  obtain ⟨f0, f1, f2, f3, f4⟩ := (HR.out.below hb2).free
  have BB := Lib.hid (B.out.trans (hb2.mono B.out.size))
  clear hb2 HR B
  go_wp2
  exact bodyPost_ret (v := .tuple #[.agg #[.bool false, .int .i64 0, .int .i64 0, .int .i64 0, .int .i64 0], .int .i64 1]) (by simp [results, Try.results9, go_sem, r0, r1, r2, r3, r4]) rfl ⟨rfl, below_five BB.out _ (Nat.le_succ _) _ _ _ _ _⟩

set_option maxHeartbeats 400000 in
theorem sample_b (h : Bool) (l s v t n d : Int) (w : World) (hr : rightB ⟨h, l, s, v, t⟩ = true) (hn : (tickB n && tickB d) = false) :
    Calls Try.prog 9 #[.agg #[.bool h, .int .i64 l, .int .i64 s, .int .i64 v, .int .i64 t], .int .i64 n, .int .i64 d] w fun e w' => e = .returned (.tuple #[.agg #[.bool false, .int .i64 0, .int .i64 0, .int .i64 0, .int .i64 0], .int .i64 1]) ∧ Below w.heap.size w w' := by
  have B := Lib.hid (below_two w (.cells #[.bool h, .int .i64 l, .int .i64 s, .int .i64 v, .int .i64 t] 24) (.cells #[.bool false, .int .i64 0, .int .i64 0, .int .i64 0, .int .i64 0] 24))
  have HR := Lib.hid (held_second false 0 0 0 0 24 w (.cells #[.bool h, .int .i64 l, .int .i64 s, .int .i64 v, .int .i64 t] 24))
  have HP := Lib.hid (held_first h l s v t 24 w (.cells #[.bool false, .int .i64 0, .int .i64 0, .int .i64 0, .int .i64 0] 24))
  have R := Lib.hid (fun w => right_b h l s v t _ hr w)
  have A := Lib.hid (ticks2 n d _ hn)
  clear hr hn
  go_enter Try.func9, Try.ntmps9
  go_wp2_with fail
  refine (R.out _).mono ?_
  rintro e w2 ⟨rfl, hb2⟩
  have hb3 := hb2.alloc hb2.size (.cells #[.int .i64 n, .int .i64 d] 3)
  have BB := Lib.hid (B.out.trans (hb3.mono B.out.size))
  have HR3 := Lib.hid (HR.out.below hb3)
  have HP3 := Lib.hid (HP.out.below hb3)
  have hz : w.heap.size + 1 < w2.heap.size := (HR.out.below hb2).lt
  clear R hb2 hb3 HR B HP
  go_wp2_with fail
  refine (A.out _ _ rfl).mono ?_
  rintro e w3 ⟨rfl, rfl⟩
  generalize w2.alloc (.cells #[.int .i64 n, .int .i64 d] 3) = w3 at BB HR3 HP3 ⊢
  clear A
  obtain ⟨r0, r1, r2, r3, r4⟩ := HR3.out.facts
  obtain ⟨f0, f1, f2, f3, f4⟩ := HR3.out.free
  obtain ⟨p0, p1, p2, p3, p4⟩ := HP3.out.facts
  clear HR3 HP3
  go_wp2
  exact bodyPost_ret (v := .tuple #[.agg #[.bool false, .int .i64 0, .int .i64 0, .int .i64 0, .int .i64 0], .int .i64 1]) (by simp [results, Try.results9, go_sem, r0, r1, r2, r3, r4]) rfl ⟨rfl, below_five BB.out _ (Nat.le_succ _) _ _ _ _ _⟩

set_option maxHeartbeats 400000 in
theorem sample_c (l s v t n d : Int) (w : World) (hr : rightB ⟨false, l, s, v, t⟩ = true) (hn : (tickB n && tickB d) = true) :
    Calls Try.prog 9 #[.agg #[.bool false, .int .i64 l, .int .i64 s, .int .i64 v, .int .i64 t], .int .i64 n, .int .i64 d] w fun e w' => e = .returned (.tuple #[.agg #[.bool true, .int .i64 n, .int .i64 n, .int .i64 (n.tdiv 2), .int .i64 n], .int .i64 0]) ∧ Below w.heap.size w w' := by
  have hn0 : 0 ≤ n ∧ n ≤ 1099511627776 := tick_iff.1 (by simp at hn; exact hn.1)
  have wq : IntKind.i64.wrap (n.tdiv 2) = n.tdiv 2 := by
    rw [Int.tdiv_eq_ediv_of_nonneg hn0.1]
    exact wraps_i64' _ (by omega) (by omega)
  have B := Lib.hid (below_two w (.cells #[.bool false, .int .i64 l, .int .i64 s, .int .i64 v, .int .i64 t] 24) (.cells #[.bool false, .int .i64 0, .int .i64 0, .int .i64 0, .int .i64 0] 24))
  have HR := Lib.hid (held_second false 0 0 0 0 24 w (.cells #[.bool false, .int .i64 l, .int .i64 s, .int .i64 v, .int .i64 t] 24))
  have HP := Lib.hid (held_first false l s v t 24 w (.cells #[.bool false, .int .i64 0, .int .i64 0, .int .i64 0, .int .i64 0] 24))
  have R := Lib.hid (fun w => right_b false l s v t _ hr w)
  have A := Lib.hid (ticks2 n d _ hn)
  clear hr hn
  go_enter Try.func9, Try.ntmps9
  go_wp2_with fail
  refine (R.out _).mono ?_
  rintro e w2 ⟨rfl, hb2⟩
  have hb3 := hb2.alloc hb2.size (.cells #[.int .i64 n, .int .i64 d] 3)
  have BB := Lib.hid (B.out.trans (hb3.mono B.out.size))
  have HR3 := Lib.hid (HR.out.below hb3)
  have HP3 := Lib.hid (HP.out.below hb3)
  have hz : w.heap.size + 1 < w2.heap.size := (HR.out.below hb2).lt
  clear R hb2 hb3 HR B HP
  go_wp2_with fail
  refine (A.out _ _ rfl).mono ?_
  rintro e w3 ⟨rfl, rfl⟩
  generalize w2.alloc (.cells #[.int .i64 n, .int .i64 d] 3) = w3 at BB HR3 HP3 ⊢
  clear A
  obtain ⟨r0, r1, r2, r3, r4⟩ := HR3.out.facts
  obtain ⟨f0, f1, f2, f3, f4⟩ := HR3.out.free
  obtain ⟨p0, p1, p2, p3, p4⟩ := HP3.out.facts
  clear HR3 HP3
  go_wp2
  exact bodyPost_ret (v := .tuple #[.agg #[.bool true, .int .i64 n, .int .i64 n, .int .i64 (n.tdiv 2), .int .i64 n], .int .i64 0]) (by simp [results, Try.results9, go_sem, r0, r1, r2, r3, r4]) rfl ⟨rfl, below_five BB.out _ (Nat.le_succ _) _ _ _ _ _⟩
end Go.Proofs.Ytfcojlnbocncpaa
