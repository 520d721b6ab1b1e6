/- Walks of layer 6: which estimates may be; two estimates compared. -/
import Derived.Test.YtfcojlnbocncpaaRtA
set_option linter.unusedSimpArgs false
set_option linter.unusedVariables false
namespace Go.Proofs.Ytfcojlnbocncpaa
open Go.RowKit

/-- two estimates of the code compared as they are -/
theorem eql_any (h h' : Bool) (a b c d a' b' c' d' : Int) (w : World) :
    (Op.equalIn 10000 24 (.agg #[.bool h, .int .i64 a, .int .i64 b, .int .i64 c, .int .i64 d]) (.agg #[.bool h', .int .i64 a', .int .i64 b', .int .i64 c', .int .i64 d'])).run Try.prog w = .ok (sameB ⟨h, a, b, c, d⟩ ⟨h', a', b', c', d'⟩) w := by
  have u3 := Try.underlying3
  have a3 := Try.isAgg3
  have z3 := Try.sizeOf3
  have u4 := Try.underlying4
  have a4 := Try.isAgg4
  have z4 := Try.sizeOf4
  have hS : Try.prog.underlying 24 = some (.struct (Try.prog.fieldsOf 24)) := by kernel_rfl
  have hp : Try.prog.stoodInHeld 24 = false := by kernel_rfl
  rw [show (10000 : Nat) = 9999 + 1 from rfl, run_equalIn_agg w 9999 24 _ _ hS hp]
  simp only [Program.fieldsOf, Try.underlying24]
  go_simp
  unfold sameB
  by_cases h1 : a = a' <;> by_cases h2 : b = b' <;> by_cases h3 : c = c' <;> by_cases h4 : d = d' <;> cases h <;> cases h' <;> simp [h1, h2, h3, h4]

/-- two estimates of the document compared as they are -/
theorem reql_any (h h' : Bool) (a b c d a' b' c' d' : Int) (w : World) :
    (Op.equalIn 10000 23 (.agg #[.bool h, .int .i64 a, .int .i64 b, .int .i64 c, .int .i64 d]) (.agg #[.bool h', .int .i64 a', .int .i64 b', .int .i64 c', .int .i64 d'])).run Try.prog w = .ok (sameB ⟨h, a, b, c, d⟩ ⟨h', a', b', c', d'⟩) w := by
  have u3 := Try.underlying3
  have a3 := Try.isAgg3
  have z3 := Try.sizeOf3
  have u4 := Try.underlying4
  have a4 := Try.isAgg4
  have z4 := Try.sizeOf4
  have hS : Try.prog.underlying 23 = some (.struct (Try.prog.fieldsOf 23)) := by kernel_rfl
  have hp : Try.prog.stoodInHeld 23 = false := by kernel_rfl
  rw [show (10000 : Nat) = 9999 + 1 from rfl, run_equalIn_agg w 9999 23 _ _ hS hp]
  simp only [Program.fieldsOf, Try.underlying23]
  go_simp
  unfold sameB
  by_cases h1 : a = a' <;> by_cases h2 : b = b' <;> by_cases h3 : c = c' <;> by_cases h4 : d = d' <;> cases h <;> cases h' <;> simp [h1, h2, h3, h4]
theorem ticks4 (l s v t : Int) (b : Bool) (hb : [l, s, v, t].all tickB = b) (p : Nat) (w : World) (hp : p = w.heap.size) :
    Calls Try.prog 21 #[.slice (some ⟨p, 0, none⟩) 4 4] (w.alloc (.cells #[.int .i64 l, .int .i64 s, .int .i64 v, .int .i64 t] 3)) fun e w' => e = .returned (.bool b) ∧ w' = w.alloc (.cells #[.int .i64 l, .int .i64 s, .int .i64 v, .int .i64 t] 3) := by
  subst hp
  rw [← hb]
  exact areTicks_any _ _ _ (Rd.lit [l, s, v, t] (by simp) 4 rfl (by decide) _ rfl)
theorem ticks2 (n d : Int) (b : Bool) (hb : (tickB n && tickB d) = b) (p : Nat) (w : World) (hp : p = w.heap.size) :
    Calls Try.prog 21 #[.slice (some ⟨p, 0, none⟩) 2 2] (w.alloc (.cells #[.int .i64 n, .int .i64 d] 3)) fun e w' => e = .returned (.bool b) ∧ w' = w.alloc (.cells #[.int .i64 n, .int .i64 d] 3) := by
  have e : [n, d].all tickB = b := by rw [← hb]; simp
  subst hp
  rw [← e]
  exact areTicks_any _ _ _ (Rd.lit [n, d] (by simp) 2 rfl (by decide) _ rfl)
theorem guard_not : Try.prog.eqGuardType Try.prog.depth 24 = false := by kernel_rfl
theorem rguard_not : Try.prog.eqGuardType Try.prog.depth 23 = false := by kernel_rfl

set_option maxHeartbeats 400000 in
theorem right_no (l s v t : Int) (w : World) :
    Calls Try.prog 13 #[.agg #[.bool false, .int .i64 l, .int .i64 s, .int .i64 v, .int .i64 t]] w fun e w' => e = .returned (.bool (sameB ⟨false, l, s, v, t⟩ ⟨false, 0, 0, 0, 0⟩)) ∧ Below w.heap.size w w' := by
  have hg := guard_not
  have q24 := fun w => eql_any false false l s v t 0 0 0 0 w
  generalize sameB ⟨false, l, s, v, t⟩ ⟨false, 0, 0, 0, 0⟩ = r at q24 ⊢
  go_enter Try.func13, Try.ntmps13
  go_wp2
  go_ret
  exact ⟨rfl, (Below.refl _ _).alloc (Nat.le_refl _) _⟩

set_option maxHeartbeats 400000 in
theorem right_yes (l s v t : Int) (w : World) :
    Calls Try.prog 13 #[.agg #[.bool true, .int .i64 l, .int .i64 s, .int .i64 v, .int .i64 t]] w fun e w' => e = .returned (.bool ([l, s, v, t].all tickB && decide (l ≤ t))) ∧ Below w.heap.size w w' := by
  have hb := ((Below.refl w.heap.size w).alloc (Nat.le_refl _) (.cells #[.bool true, .int .i64 l, .int .i64 s, .int .i64 v, .int .i64 t] 24)).alloc (by simp) (.cells #[.int .i64 l, .int .i64 s, .int .i64 v, .int .i64 t] 3)
  have HB := Lib.hid hb
  clear hb
  cases hq : [l, s, v, t].all tickB
  · have R := Lib.hid (ticks4 l s v t _ hq)
    rw [Bool.false_and]
    clear hq
    go_enter Try.func13, Try.ntmps13
    go_wp2_with fail
    refine (R.out _ _ (by simp)).mono ?_
    rintro e w2 ⟨rfl, rfl⟩
    go_wp2
    go_ret
    exact ⟨rfl, HB.out⟩
  · have R := Lib.hid (ticks4 l s v t _ hq)
    rw [Bool.true_and]
    clear hq
    go_enter Try.func13, Try.ntmps13
    go_wp2_with fail
    refine (R.out _ _ (by simp)).mono ?_
    rintro e w2 ⟨rfl, rfl⟩
    go_wp2
    go_ret
    exact ⟨rfl, HB.out⟩

theorem right_any (h : Bool) (l s v t : Int) (w : World) :
    Calls Try.prog 13 #[.agg #[.bool h, .int .i64 l, .int .i64 s, .int .i64 v, .int .i64 t]] w fun e w' => e = .returned (.bool (rightB ⟨h, l, s, v, t⟩)) ∧ Below w.heap.size w w' := by
  cases h
  · exact right_no l s v t w
  · exact right_yes l s v t w
theorem right_b (h : Bool) (l s v t : Int) (b : Bool) (hb : rightB ⟨h, l, s, v, t⟩ = b) (w : World) :
    Calls Try.prog 13 #[.agg #[.bool h, .int .i64 l, .int .i64 s, .int .i64 v, .int .i64 t]] w fun e w' => e = .returned (.bool b) ∧ Below w.heap.size w w' := hb ▸ right_any h l s v t w

set_option maxHeartbeats 400000 in
theorem rright_no (l s v t : Int) (w : World) :
    Calls Try.prog 14 #[.agg #[.bool false, .int .i64 l, .int .i64 s, .int .i64 v, .int .i64 t]] w fun e w' => e = .returned (.bool (sameB ⟨false, l, s, v, t⟩ ⟨false, 0, 0, 0, 0⟩)) ∧ Below w.heap.size w w' := by
  have hg := rguard_not
  have q24 := fun w => reql_any false false l s v t 0 0 0 0 w
  generalize sameB ⟨false, l, s, v, t⟩ ⟨false, 0, 0, 0, 0⟩ = r at q24 ⊢
  go_enter Try.func14, Try.ntmps14
  go_wp2
  go_ret
  exact ⟨rfl, (Below.refl _ _).alloc (Nat.le_refl _) _⟩

set_option maxHeartbeats 400000 in
theorem rright_1 (l s v t : Int) (w : World) (hl : tickB l = false) :
    Calls Try.prog 14 #[.agg #[.bool true, .int .i64 l, .int .i64 s, .int .i64 v, .int .i64 t]] w fun e w' => e = .returned (.bool false) ∧ Below w.heap.size w w' := by
  have HB := Lib.hid ((Below.refl w.heap.size w).alloc (Nat.le_refl _) (.cells #[.bool true, .int .i64 l, .int .i64 s, .int .i64 v, .int .i64 t] 23))
  have Tl := Lib.hid (tick_b l _ (w.alloc (.cells #[.bool true, .int .i64 l, .int .i64 s, .int .i64 v, .int .i64 t] 23)) hl)
  clear hl
  go_enter Try.func14, Try.ntmps14
  go_wp2_with fail
  refine Tl.out.mono ?_
  rintro e w2 ⟨rfl, rfl⟩
  go_wp2
  go_ret
  exact ⟨rfl, HB.out⟩

set_option maxHeartbeats 400000 in
theorem rright_2 (l s v t : Int) (w : World) (hl : tickB l = true) (hs : tickB s = false) :
    Calls Try.prog 14 #[.agg #[.bool true, .int .i64 l, .int .i64 s, .int .i64 v, .int .i64 t]] w fun e w' => e = .returned (.bool false) ∧ Below w.heap.size w w' := by
  have HB := Lib.hid ((Below.refl w.heap.size w).alloc (Nat.le_refl _) (.cells #[.bool true, .int .i64 l, .int .i64 s, .int .i64 v, .int .i64 t] 23))
  have Tl := Lib.hid (tick_b l _ (w.alloc (.cells #[.bool true, .int .i64 l, .int .i64 s, .int .i64 v, .int .i64 t] 23)) hl)
  have Ts := Lib.hid (tick_b s _ (w.alloc (.cells #[.bool true, .int .i64 l, .int .i64 s, .int .i64 v, .int .i64 t] 23)) hs)
  clear hl hs
  go_enter Try.func14, Try.ntmps14
  go_wp2_with fail
  refine Tl.out.mono ?_
  rintro e w2 ⟨rfl, rfl⟩
  go_wp2_with fail
  refine Ts.out.mono ?_
  rintro e w2 ⟨rfl, rfl⟩
  go_wp2
  go_ret
  exact ⟨rfl, HB.out⟩

set_option maxHeartbeats 400000 in
theorem rright_3 (l s v t : Int) (w : World) (hl : tickB l = true) (hs : tickB s = true) (hv : tickB v = false) :
    Calls Try.prog 14 #[.agg #[.bool true, .int .i64 l, .int .i64 s, .int .i64 v, .int .i64 t]] w fun e w' => e = .returned (.bool false) ∧ Below w.heap.size w w' := by
  have HB := Lib.hid ((Below.refl w.heap.size w).alloc (Nat.le_refl _) (.cells #[.bool true, .int .i64 l, .int .i64 s, .int .i64 v, .int .i64 t] 23))
  have Tl := Lib.hid (tick_b l _ (w.alloc (.cells #[.bool true, .int .i64 l, .int .i64 s, .int .i64 v, .int .i64 t] 23)) hl)
  have Ts := Lib.hid (tick_b s _ (w.alloc (.cells #[.bool true, .int .i64 l, .int .i64 s, .int .i64 v, .int .i64 t] 23)) hs)
  have Tv := Lib.hid (tick_b v _ (w.alloc (.cells #[.bool true, .int .i64 l, .int .i64 s, .int .i64 v, .int .i64 t] 23)) hv)
  clear hl hs hv
  go_enter Try.func14, Try.ntmps14
  go_wp2_with fail
  refine Tl.out.mono ?_
  rintro e w2 ⟨rfl, rfl⟩
  go_wp2_with fail
  refine Ts.out.mono ?_
  rintro e w2 ⟨rfl, rfl⟩
  go_wp2_with fail
  refine Tv.out.mono ?_
  rintro e w2 ⟨rfl, rfl⟩
  go_wp2
  go_ret
  exact ⟨rfl, HB.out⟩

set_option maxHeartbeats 400000 in
theorem rright_4 (l s v t : Int) (w : World) (hl : tickB l = true) (hs : tickB s = true) (hv : tickB v = true) (ht : tickB t = false) :
    Calls Try.prog 14 #[.agg #[.bool true, .int .i64 l, .int .i64 s, .int .i64 v, .int .i64 t]] w fun e w' => e = .returned (.bool false) ∧ Below w.heap.size w w' := by
  have HB := Lib.hid ((Below.refl w.heap.size w).alloc (Nat.le_refl _) (.cells #[.bool true, .int .i64 l, .int .i64 s, .int .i64 v, .int .i64 t] 23))
  have Tl := Lib.hid (tick_b l _ (w.alloc (.cells #[.bool true, .int .i64 l, .int .i64 s, .int .i64 v, .int .i64 t] 23)) hl)
  have Ts := Lib.hid (tick_b s _ (w.alloc (.cells #[.bool true, .int .i64 l, .int .i64 s, .int .i64 v, .int .i64 t] 23)) hs)
  have Tv := Lib.hid (tick_b v _ (w.alloc (.cells #[.bool true, .int .i64 l, .int .i64 s, .int .i64 v, .int .i64 t] 23)) hv)
  have Tt := Lib.hid (tick_b t _ (w.alloc (.cells #[.bool true, .int .i64 l, .int .i64 s, .int .i64 v, .int .i64 t] 23)) ht)
  clear hl hs hv ht
  go_enter Try.func14, Try.ntmps14
  go_wp2_with fail
  refine Tl.out.mono ?_
  rintro e w2 ⟨rfl, rfl⟩
  go_wp2_with fail
  refine Ts.out.mono ?_
  rintro e w2 ⟨rfl, rfl⟩
  go_wp2_with fail
  refine Tv.out.mono ?_
  rintro e w2 ⟨rfl, rfl⟩
  go_wp2_with fail
  refine Tt.out.mono ?_
  rintro e w2 ⟨rfl, rfl⟩
  go_wp2
  go_ret
  exact ⟨rfl, HB.out⟩

set_option maxHeartbeats 400000 in
theorem rright_5 (l s v t : Int) (w : World) (hl : tickB l = true) (hs : tickB s = true) (hv : tickB v = true) (ht : tickB t = true) :
    Calls Try.prog 14 #[.agg #[.bool true, .int .i64 l, .int .i64 s, .int .i64 v, .int .i64 t]] w fun e w' => e = .returned (.bool (decide (l ≤ t))) ∧ Below w.heap.size w w' := by
  have HB := Lib.hid ((Below.refl w.heap.size w).alloc (Nat.le_refl _) (.cells #[.bool true, .int .i64 l, .int .i64 s, .int .i64 v, .int .i64 t] 23))
  have Tl := Lib.hid (tick_b l _ (w.alloc (.cells #[.bool true, .int .i64 l, .int .i64 s, .int .i64 v, .int .i64 t] 23)) hl)
  have Ts := Lib.hid (tick_b s _ (w.alloc (.cells #[.bool true, .int .i64 l, .int .i64 s, .int .i64 v, .int .i64 t] 23)) hs)
  have Tv := Lib.hid (tick_b v _ (w.alloc (.cells #[.bool true, .int .i64 l, .int .i64 s, .int .i64 v, .int .i64 t] 23)) hv)
  have Tt := Lib.hid (tick_b t _ (w.alloc (.cells #[.bool true, .int .i64 l, .int .i64 s, .int .i64 v, .int .i64 t] 23)) ht)
  clear hl hs hv ht
  go_enter Try.func14, Try.ntmps14
  go_wp2_with fail
  refine Tl.out.mono ?_
  rintro e w2 ⟨rfl, rfl⟩
  go_wp2_with fail
  refine Ts.out.mono ?_
  rintro e w2 ⟨rfl, rfl⟩
  go_wp2_with fail
  refine Tv.out.mono ?_
  rintro e w2 ⟨rfl, rfl⟩
  go_wp2_with fail
  refine Tt.out.mono ?_
  rintro e w2 ⟨rfl, rfl⟩
  go_wp2
  go_ret
  exact ⟨rfl, HB.out⟩

theorem rright_any (h : Bool) (l s v t : Int) (w : World) :
    Calls Try.prog 14 #[.agg #[.bool h, .int .i64 l, .int .i64 s, .int .i64 v, .int .i64 t]] w fun e w' => e = .returned (.bool (rightB ⟨h, l, s, v, t⟩)) ∧ Below w.heap.size w w' := by
  cases h
  · exact rright_no l s v t w
  · have e : rightB ⟨true, l, s, v, t⟩ = ([l, s, v, t].all tickB && decide (l ≤ t)) := rfl
    rw [e]
    clear e
    simp only [List.all_cons, List.all_nil, Bool.and_true]
    cases h1 : tickB l
    · exact rright_1 l s v t w h1
    cases h2 : tickB s
    · exact rright_2 l s v t w h1 h2
    cases h3 : tickB v
    · exact rright_3 l s v t w h1 h2 h3
    cases h4 : tickB t
    · exact rright_4 l s v t w h1 h2 h3 h4
    exact rright_5 l s v t w h1 h2 h3 h4
theorem rright_b (h : Bool) (l s v t : Int) (b : Bool) (hb : rightB ⟨h, l, s, v, t⟩ = b) (w : World) :
    Calls Try.prog 14 #[.agg #[.bool h, .int .i64 l, .int .i64 s, .int .i64 v, .int .i64 t]] w fun e w' => e = .returned (.bool b) ∧ Below w.heap.size w w' := hb ▸ rright_any h l s v t w
end Go.Proofs.Ytfcojlnbocncpaa
