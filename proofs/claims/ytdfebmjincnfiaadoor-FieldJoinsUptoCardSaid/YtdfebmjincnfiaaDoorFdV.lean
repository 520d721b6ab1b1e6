/- Layer 17: what the law compares, and whether the program is alive. -/
import Derived.Test.YtdfebmjincnfiaaDoorFdU
import Derived.Test.YtdfebmjincnfiaaDoorFdQ
set_option maxRecDepth 100000
set_option linter.unusedSimpArgs false
set_option linter.unusedVariables false
namespace Go.Proofs.YtdfebmjincnfiaaDoor
open Go.RowKit

set_option maxHeartbeats 3200000 in
theorem texts_eq (a b : Value) (ts : List (List UInt8)) (w : World) (ha : RdT w a ts) (hb : RdT w b ts) (hl : ts.length ≤ 4611686018427387904) :
    Calls Tryd.prog 7 #[a, b] w fun e w' => e = .returned (.bool true) ∧ Below w.heap.size w w' := by
  obtain ⟨aa, ac, rfl, _, _⟩ := RdC.isSlice ha
  obtain ⟨ba, bc, rfl, _, _⟩ := RdC.isSlice hb
  have HA := Lib.hid ha
  have HB := Lib.hid hb
  clear ha hb
  have hne : ((ts.length : Int) != (ts.length : Int)) = false := by simp
  obtain ⟨n, hn⟩ : ∃ n, n = ts.length := ⟨_, rfl⟩
  have HN := Lib.hid hn
  rw [← hn] at hne hl ⊢
  clear hn
  go_enter Tryd.func7, Tryd.ntmps7
  go_wp2_with fail
  go_loopw [5] (fun i wr => ∃ (k : Nat), i = .int .i64 k ∧ k ≤ n ∧ Below w.heap.size w wr) (fun i _ => n - (intOf i).toNat)
  case atStart => exact ⟨0, rfl, Nat.zero_le _, Below.refl _ _⟩
  case round =>
    obtain ⟨k, rfl, hk, hbel⟩ := hrel
    by_cases hlt : k < n
    · have ks : k < ts.length := by have := HN.out; omega
      have RA := Lib.hid (HA.out.below hbel)
      have RB := Lib.hid (HB.out.below hbel)
      obtain ⟨p, o, c, e⟩ := RdT.form HA.out (by omega)
      simp only [Value.slice.injEq] at e
      obtain ⟨rfl, _, rfl⟩ := e
      obtain ⟨p', o', c', e⟩ := RdT.form HB.out (by omega)
      simp only [Value.slice.injEq] at e
      obtain ⟨rfl, _, rfl⟩ := e
      have q0 := RA.out.at k ks
      have r0 := RB.out.at k ks
      clear RA RB
      have he : ((txt ts[k]).toList == (txt ts[k]).toList) = true := by simp
      generalize txt ts[k] = s at q0 r0 he
      have hi1 : (k : Int) < (n : Int) := by omega
      have hi2 : (0 : Int) ≤ (k : Int) := by omega
      have hw1 : IntKind.i64.wrap ((k : Int) + 1) = (k : Int) + 1 := wr64 _ (by omega) (by omega)
      have d0 : wr.drew.cell? ⟨p, o + k, none⟩ = some (.string s) := q0
      have d2 : wr.drew.cell? ⟨p', o' + k, none⟩ = some (.string s) := r0
      go_wp2_with fail
      go_quiet (fail)
      go_wp2
      exact ⟨⟨k + 1, by go_num, by omega, below_drewN hbel _⟩, by simp [intOf]; omega⟩
    · have hk2 : ¬ (k : Int) < (n : Int) := by omega
      go_wp2
      go_ret
      exact ⟨rfl, hbel⟩
theorem sps_get (ss : List (Int × Int)) (k j : Nat) (hk : k < ss.length) (hj : j < 2) : (spsC ss)[k * 2 + j]? = (spCell ss[k])[j]? := flat_get spCell 2 (fun _ => rfl) ss k j hk hj
set_option maxHeartbeats 3200000 in
theorem same_eq (a b : Value) (ts : List (Int × Int)) (w : World) (ha : RdSp w a ts) (hb : RdSp w b ts) (hl : ts.length ≤ 16) :
    Calls Tryd.prog 15 #[a, b] w fun e w' => e = .returned (.bool true) ∧ Below w.heap.size w w' := by
  obtain ⟨aa, ac, rfl, _, _⟩ := RdC.isSlice ha
  obtain ⟨ba, bc, rfl, _, _⟩ := RdC.isSlice hb
  have HA := Lib.hid ha
  have HB := Lib.hid hb
  clear ha hb
  have hne : ((ts.length : Int) != (ts.length : Int)) = false := by simp
  obtain ⟨n, hn⟩ : ∃ n, n = ts.length := ⟨_, rfl⟩
  have HN := Lib.hid hn
  rw [← hn] at hne hl ⊢
  clear hn
  go_enter Tryd.func15, Tryd.ntmps15
  go_wp2_with fail
  go_loopw [5] (fun i wr => ∃ (k : Nat), i = .int .i64 k ∧ k ≤ n ∧ Below w.heap.size w wr) (fun i _ => n - (intOf i).toNat)
  case atStart => exact ⟨0, rfl, Nat.zero_le _, Below.refl _ _⟩
  case round =>
    obtain ⟨k, rfl, hk, hbel⟩ := hrel
    by_cases hlt : k < n
    · have ks : k < ts.length := by have := HN.out; omega
      have RA := Lib.hid (RdC.below HA.out hbel)
      have RB := Lib.hid (RdC.below HB.out hbel)
      have form : ∀ (va : Option Addr) (c : Nat), RdC 2 w (.slice va ts.length c) ts.length (spsC ts) → ∃ p o, va = some ⟨p, o, none⟩ := fun va c h => by
        rcases h.2 with ⟨h0, _⟩ | ⟨_, b, o, c', e, _⟩
        · omega
        · simp only [Value.slice.injEq] at e
          exact ⟨b, o, e.1⟩
      obtain ⟨p, o, rfl⟩ := form _ _ HA.out
      obtain ⟨p', o', rfl⟩ := form _ _ HB.out
      have q0 : wr.cell? ⟨p, o + k * 2, none⟩ = some (.int .i64 ts[k].1) := RdC.cell RA.out (k * 2) _ (sps_get ts k 0 ks (by omega)) _ rfl
      have q1 : wr.cell? ⟨p, o + k * 2 + 1, none⟩ = some (.int .i64 ts[k].2) := RdC.cell RA.out (k * 2 + 1) _ (sps_get ts k 1 ks (by omega)) _ (by omega)
      have r0 : wr.cell? ⟨p', o' + k * 2, none⟩ = some (.int .i64 ts[k].1) := RdC.cell RB.out (k * 2) _ (sps_get ts k 0 ks (by omega)) _ rfl
      have r1 : wr.cell? ⟨p', o' + k * 2 + 1, none⟩ = some (.int .i64 ts[k].2) := RdC.cell RB.out (k * 2 + 1) _ (sps_get ts k 1 ks (by omega)) _ (by omega)
      clear RA RB form
      generalize ts[k].1 = x at q0 r0
      generalize ts[k].2 = y at q1 r1
      have hi1 : (k : Int) < (n : Int) := by omega
      have hi2 : (0 : Int) ≤ (k : Int) := by omega
      have hw1 : IntKind.i64.wrap ((k : Int) + 1) = (k : Int) + 1 := wr64 _ (by omega) (by omega)
      have d0 : wr.drew.cell? ⟨p, o + k * 2, none⟩ = some (.int .i64 x) := q0
      have d1 : wr.drew.cell? ⟨p, o + k * 2 + 1, none⟩ = some (.int .i64 y) := q1
      have d2 : wr.drew.cell? ⟨p', o' + k * 2, none⟩ = some (.int .i64 x) := r0
      have d3 : wr.drew.cell? ⟨p', o' + k * 2 + 1, none⟩ = some (.int .i64 y) := r1
      go_wp2_with fail
      go_quiet (fail)
      go_wp2
      exact ⟨⟨k + 1, by go_num, by omega, below_drewN hbel _⟩, by simp [intOf]; omega⟩
    · have hk2 : ¬ (k : Int) < (n : Int) := by omega
      go_wp2
      go_ret
      exact ⟨rfl, hbel⟩
def alvR : List UInt8 := [98, 121, 116, 101, 115, 61, 48, 45, 49, 44, 32, 45, 49]
theorem alv_is : rangesE alvR 10 = ([(0, 1), (9, 9)], 0) := by decide +kernel
theorem lit_two (w : World) (a b c d : Int) (T : TypeId) : RdSp (w.alloc (.cells #[.int .i64 a, .int .i64 b, .int .i64 c, .int .i64 d] T)) (.slice (some ⟨w.heap.size, 0, none⟩) 2 2) [(a, b), (c, d)] := by
  refine ⟨rfl, .inr ⟨by simp, w.heap.size, 0, 2, rfl, Nat.le_refl _, by simp [maxLen], by simp, fun j u hu => ?_⟩⟩
  rw [World.cell?_alloc_at _ _ _ _ rfl, Nat.zero_add]
  simpa [spsC, spCell] using hu
set_option maxHeartbeats 6400000 in
theorem alive_any (w : World) : Calls Tryd.prog 8 #[] w fun e w' => e = .returned (.bool true) ∧ Below w.heap.size w w' := by
  have B1 := Lib.hid ((Below.refl w.heap.size w).alloc (Nat.le_refl _) (.cells #[.string (txt ccN), .string (txt ccV)] 44))
  have F1 : Hid (Cs (w.alloc (.cells #[.string (txt ccN), .string (txt ccV)] 44)) w.heap.size [.string (txt ccN), .string (txt ccV)]) := Cs.made w _ _
  have DI := Lib.hid (directives_one w.heap.size _ (F1.out.get 0 _ rfl) (F1.out.get 1 _ rfl))
  have RA : Hid (∀ W, Calls Tryd.prog 9 #[.string (txt alvR), .int .i64 10] W fun e w' => ∃ v, e = .returned (.tuple #[v, .int .i64 0]) ∧ RdSp w' v [(0, 1), (9, 9)] ∧ Below W.heap.size W w') := fun W => by
    have h := ranges_any alvR 10 (by decide) W (by decide)
    rw [alv_is] at h
    exact h
  have M2 : Hid (∀ W : World, Cs (W.alloc (.cells ctl2.toArray 41)) W.heap.size ctl2) := fun W => Cs.made W _ _
  have DJ := Lib.hid DI.out
  unfold ctl2 at DJ
  go_enter Tryd.func8, Tryd.ntmps8
  go_upto_region 2 with (go_at_call 14; refine DJ.out.mono ?_; rintro e w2 ⟨rfl, hb2⟩; have B2 := Lib.hid (B1.out.trans (hb2.mono B1.out.size)); clear hb2)
  have C2 := Lib.hid (M2.out w2)
  have B3 := Lib.hid (B2.out.trans (((Below.refl _ w2).alloc (Nat.le_refl _) (.cells ctl2.toArray 41)).mono B2.out.size))
  unfold ctl2 at B3
  obtain ⟨W, hW⟩ : ∃ W, W = w2.alloc (.cells ctl2.toArray 41) := ⟨_, rfl⟩
  rw [← hW] at C2
  unfold ctl2 at hW
  rw [← hW] at B3 ⊢
  obtain ⟨g, hg⟩ : ∃ g, g = w2.heap.size := ⟨_, rfl⟩
  rw [← hg] at C2 ⊢
  clear hW hg DI DJ M2 F1 B1 B2
  go_wp2_with (first
    | (go_at_call 9; refine (RA.out _).mono ?_; rintro e w4 ⟨v, rfl, hr, hb4⟩; obtain ⟨va, vc, rfl, _, _⟩ := RdC.isSlice hr; have R4 := Lib.hid hr; have C4 := Lib.hid (C2.out.below hb4); have B4 := Lib.hid (B3.out.trans (hb4.mono B3.out.size)); have c6 : w4.cell? ⟨g, 6, none⟩ = some (.int .i64 60) := C4.out.get 6 _ rfl; have c0 : w4.cell? ⟨g, 0, none⟩ = some (.bool true) := C4.out.get 0 _ rfl; have c7 : w4.cell? ⟨g, 7, none⟩ = some (.int .i64 (-1)) := C4.out.get 7 _ rfl; have B5 := Lib.hid ((Below.refl w4.heap.size w4).alloc (Nat.le_refl _) (.cells #[.int .i64 0, .int .i64 1, .int .i64 9, .int .i64 9] 31)); have R5 := Lib.hid (RdC.below hr B5.out); have L5 : Hid (RdSp (w4.alloc (.cells #[.int .i64 0, .int .i64 1, .int .i64 9, .int .i64 9] 31)) (.slice (some ⟨w4.heap.size, 0, none⟩) 2 2) [(0, 1), (9, 9)]) := lit_two w4 _ _ _ _ _; clear hr hb4)
    | (go_at_call 15; refine (same_eq _ _ [(0, 1), (9, 9)] _ R5.out L5.out (by decide)).mono ?_; rintro e w6 ⟨rfl, hb6⟩))
  trace_state
  go_ret
  exact ⟨rfl, B4.out.trans ((B5.out.trans (hb6.mono B5.out.size)).mono B4.out.size)⟩
end Go.Proofs.YtdfebmjincnfiaaDoor
