/- Walks of layer 7: what all calls ask first, whatever is to be done then. -/
import Derived.Test.YtiglhdiclfknhaaCgB
import Derived.Test.YtiglhdiclfknhaaCgF
import Derived.Shelf.Abstract
set_option linter.unusedSimpArgs false
set_option linter.unusedVariables false
namespace Go.Proofs.Ytiglhdiclfknhaa
open Go.RowKit
/-- what a call answers: a window, and an error's number -/
def Gives (w : World) (r : St × Int) (e : Ending) (w' : World) : Prop := e = .returned (.tuple #[.agg #[.int .i64 r.1.z, .int .i64 r.1.t, .int .i64 r.1.f, .int .i64 r.1.s, .int .i64 r.1.p], .int .i64 r.2]) ∧ Below w.heap.size w w'
def askE (xs : List Int) (n l : Int) (o : St) : St × Int := if xs.all timeB = true then (if l < n then (nul, 7) else (o, 0)) else (nul, 1)
set_option maxHeartbeats 800000 in
theorem ask_right (z t f s p n l : Int) (v : Value) (g : Nat) (cb : Array Value) (w : World) (hr : rightB ⟨z, t, f, s, p⟩ = false) :
    Calls Try.prog 28 #[.agg #[.int .i64 z, .int .i64 t, .int .i64 f, .int .i64 s, .int .i64 p], .int .i64 n, .int .i64 l, .func (.func g) #[] cb, v] w (Gives w (nul, 1)) := by
  have B2 := Lib.hid (below_two w (.cells #[.int .i64 z, .int .i64 t, .int .i64 f, .int .i64 s, .int .i64 p] 25) (.cells #[.int .i64 0, .int .i64 0, .int .i64 0, .int .i64 0, .int .i64 0] 25))
  have HP := Lib.hid (held_first z t f s p 25 w (.cells #[.int .i64 0, .int .i64 0, .int .i64 0, .int .i64 0, .int .i64 0] 25))
  have HR := Lib.hid (held_second 0 0 0 0 0 25 w (.cells #[.int .i64 z, .int .i64 t, .int .i64 f, .int .i64 s, .int .i64 p] 25))
  have RT := Lib.hid (fun w => right_b z t f s p _ hr w)
  clear hr
  go_enter Try.func28, Try.ntmps28
  go_wp2_with fail
  refine (RT.out _).mono ?_
  rintro e w2 ⟨rfl, bn⟩
  have HP := Lib.hid (HP.out.below bn)
  have HR := Lib.hid (HR.out.below bn)
  have BB := Lib.hid (B2.out.trans (bn.mono B2.out.size))
  clear bn RT B2
  obtain ⟨r0, r1, r2, r3, r4⟩ := HR.out.facts
  obtain ⟨f0, f1, f2, f3, f4⟩ := HR.out.free
  go_wp2
  exact bodyPost_ret (v := .tuple #[.agg #[.int .i64 0, .int .i64 0, .int .i64 0, .int .i64 0, .int .i64 0], .int .i64 1]) (by simp [results, Try.results28, go_sem, r0, r1, r2, r3, r4]) rfl ⟨rfl, below_five BB.out _ (Nat.le_succ _) _ _ _ _ _⟩
set_option maxHeartbeats 800000 in
theorem ask_bytes (z t f s p n l : Int) (v : Value) (g : Nat) (cb : Array Value) (w : World) (hr : rightB ⟨z, t, f, s, p⟩ = true) (hg : gramB n = false) :
    Calls Try.prog 28 #[.agg #[.int .i64 z, .int .i64 t, .int .i64 f, .int .i64 s, .int .i64 p], .int .i64 n, .int .i64 l, .func (.func g) #[] cb, v] w (Gives w (nul, 1)) := by
  have B2 := Lib.hid (below_two w (.cells #[.int .i64 z, .int .i64 t, .int .i64 f, .int .i64 s, .int .i64 p] 25) (.cells #[.int .i64 0, .int .i64 0, .int .i64 0, .int .i64 0, .int .i64 0] 25))
  have HP := Lib.hid (held_first z t f s p 25 w (.cells #[.int .i64 0, .int .i64 0, .int .i64 0, .int .i64 0, .int .i64 0] 25))
  have HR := Lib.hid (held_second 0 0 0 0 0 25 w (.cells #[.int .i64 z, .int .i64 t, .int .i64 f, .int .i64 s, .int .i64 p] 25))
  have RT := Lib.hid (fun w => right_b z t f s p _ hr w)
  have GT := Lib.hid (fun w => within_b n 1 1200 _ hg w)
  clear hg
  clear hr
  go_enter Try.func28, Try.ntmps28
  go_wp2_with fail
  refine (RT.out _).mono ?_
  rintro e w2 ⟨rfl, bn⟩
  have HP := Lib.hid (HP.out.below bn)
  have HR := Lib.hid (HR.out.below bn)
  have BB := Lib.hid (B2.out.trans (bn.mono B2.out.size))
  clear bn RT B2
  obtain ⟨r0, r1, r2, r3, r4⟩ := HR.out.facts
  obtain ⟨f0, f1, f2, f3, f4⟩ := HR.out.free
  go_wp2_with fail
  refine (GT.out _).mono ?_
  rintro e w3 ⟨rfl, rfl⟩
  go_wp2
  exact bodyPost_ret (v := .tuple #[.agg #[.int .i64 0, .int .i64 0, .int .i64 0, .int .i64 0, .int .i64 0], .int .i64 1]) (by simp [results, Try.results28, go_sem, r0, r1, r2, r3, r4]) rfl ⟨rfl, below_five BB.out _ (Nat.le_succ _) _ _ _ _ _⟩
set_option maxHeartbeats 1600000 in
theorem ask_none (z t f s p n l z' t' f' s' p' : Int) (g : Nat) (cb : Array Value) (w : World) (eg : ∀ args w, (callFunc g args).run Try.prog w = .ok (.enter g args) w) (hr : rightB ⟨z, t, f, s, p⟩ = true) (hg : gramB n = true)
    (hc : ([] : List Int).all timeB = true → ¬ l < n → ∀ W : World, Below w.heap.size w W → Calls Try.prog g (#[.agg #[.int .i64 z, .int .i64 t, .int .i64 f, .int .i64 s, .int .i64 p]] ++ cb) W fun e w' => e = .returned (.agg #[.int .i64 z', .int .i64 t', .int .i64 f', .int .i64 s', .int .i64 p']) ∧ Below W.heap.size W w') :
    Calls Try.prog 28 #[.agg #[.int .i64 z, .int .i64 t, .int .i64 f, .int .i64 s, .int .i64 p], .int .i64 n, .int .i64 l, .func (.func g) #[] cb, .slice none 0 0] w (Gives w (askE [] n l ⟨z', t', f', s', p'⟩)) := by
  have B2 := Lib.hid (below_two w (.cells #[.int .i64 z, .int .i64 t, .int .i64 f, .int .i64 s, .int .i64 p] 25) (.cells #[.int .i64 0, .int .i64 0, .int .i64 0, .int .i64 0, .int .i64 0] 25))
  have HP := Lib.hid (held_first z t f s p 25 w (.cells #[.int .i64 0, .int .i64 0, .int .i64 0, .int .i64 0, .int .i64 0] 25))
  have HR := Lib.hid (held_second 0 0 0 0 0 25 w (.cells #[.int .i64 z, .int .i64 t, .int .i64 f, .int .i64 s, .int .i64 p] 25))
  obtain ⟨r, hE⟩ : ∃ r, askE [] n l ⟨z', t', f', s', p'⟩ = r := ⟨_, rfl⟩
  rw [hE]
  have HE := Lib.hid hE
  clear hE
  have RT := Lib.hid (fun w => right_b z t f s p _ hr w)
  have GT := Lib.hid (fun w => within_b n 1 1200 _ hg w)
  have HC := Lib.hid hc
  clear hr hg hc
  go_enter Try.func28, Try.ntmps28
  go_wp2_with fail
  refine (RT.out _).mono ?_
  rintro e w2 ⟨rfl, bn⟩
  have HP := Lib.hid (HP.out.below bn)
  have HR := Lib.hid (HR.out.below bn)
  have BB := Lib.hid (B2.out.trans (bn.mono B2.out.size))
  clear bn RT B2
  obtain ⟨r0, r1, r2, r3, r4⟩ := HR.out.facts
  obtain ⟨f0, f1, f2, f3, f4⟩ := HR.out.free
  obtain ⟨p0, p1, p2, p3, p4⟩ := HP.out.facts
  have hz : w.heap.size + 1 < w2.heap.size := HR.out.lt
  go_wp2_with fail
  refine (GT.out _).mono ?_
  rintro e w3 ⟨rfl, rfl⟩
  go_wp2_with fail
  refine wp_loop_rounds 1 ?_
  rw [rounds_succ]
  by_cases hlt : l < n
  · have d1 : decide (n > l) = true := decide_eq_true hlt
    have HQ : Hid (r = (nul, 7)) := by
      show _ = _
      rw [← HE.out, askE, if_pos (by rfl), if_pos hlt]
    go_wp2
    rw [HQ.out]
    exact bodyPost_ret (v := .tuple #[.agg #[.int .i64 0, .int .i64 0, .int .i64 0, .int .i64 0, .int .i64 0], .int .i64 7]) (by simp [results, Try.results28, go_sem, r0, r1, r2, r3, r4]) rfl ⟨rfl, below_five BB.out _ (Nat.le_succ _) _ _ _ _ _⟩
  · have d1 : decide (n > l) = false := decide_eq_false hlt
    have HQ : Hid (r = (⟨z', t', f', s', p'⟩, 0)) := by
      show _ = _
      rw [← HE.out, askE, if_pos (by rfl), if_neg hlt]
    have HC := Lib.hid (HC.out rfl (by omega) _ BB.out)
    clear hlt
    go_wp2_with (go_at_fn g; refine HC.out.mono ?_; rintro e w3 ⟨rfl, bn⟩; have HR := Lib.hid (HR.out.below bn); have BB := Lib.hid (BB.out.trans (bn.mono BB.out.size)); clear bn; obtain ⟨r0, r1, r2, r3, r4⟩ := HR.out.facts; obtain ⟨f0, f1, f2, f3, f4⟩ := HR.out.free)
    rw [HQ.out]
    exact bodyPost_ret (v := .tuple #[.agg #[.int .i64 z', .int .i64 t', .int .i64 f', .int .i64 s', .int .i64 p'], .int .i64 0]) (by simp [results, Try.results28, go_sem, r0, r1, r2, r3, r4]) rfl ⟨rfl, below_five BB.out _ (Nat.le_succ _) _ _ _ _ _⟩
set_option maxHeartbeats 1600000 in
theorem ask_some (z t f s p n l z' t' f' s' p' : Int) (b o c : Nat) (xs : List Int) (g : Nat) (cb : Array Value) (w : World) (eg : ∀ args w, (callFunc g args).run Try.prog w = .ok (.enter g args) w) (hr : rightB ⟨z, t, f, s, p⟩ = true) (hg : gramB n = true)
    (hb : b < w.heap.size) (hx : xs.length ≤ c) (hm : c ≤ maxLen) (hcell : ∀ i, i < xs.length → w.cell? ⟨b, o + i, none⟩ = some (.int .i64 (xs.getD i 0)))
    (hc : xs.all timeB = true → ¬ l < n → ∀ W : World, Below w.heap.size w W → Calls Try.prog g (#[.agg #[.int .i64 z, .int .i64 t, .int .i64 f, .int .i64 s, .int .i64 p]] ++ cb) W fun e w' => e = .returned (.agg #[.int .i64 z', .int .i64 t', .int .i64 f', .int .i64 s', .int .i64 p']) ∧ Below W.heap.size W w') :
    Calls Try.prog 28 #[.agg #[.int .i64 z, .int .i64 t, .int .i64 f, .int .i64 s, .int .i64 p], .int .i64 n, .int .i64 l, .func (.func g) #[] cb, .slice (some ⟨b, o, none⟩) xs.length c] w (Gives w (askE xs n l ⟨z', t', f', s', p'⟩)) := by
  unfold maxLen at hm
  have B2 := Lib.hid (below_two w (.cells #[.int .i64 z, .int .i64 t, .int .i64 f, .int .i64 s, .int .i64 p] 25) (.cells #[.int .i64 0, .int .i64 0, .int .i64 0, .int .i64 0, .int .i64 0] 25))
  have HP := Lib.hid (held_first z t f s p 25 w (.cells #[.int .i64 0, .int .i64 0, .int .i64 0, .int .i64 0, .int .i64 0] 25))
  have HR := Lib.hid (held_second 0 0 0 0 0 25 w (.cells #[.int .i64 z, .int .i64 t, .int .i64 f, .int .i64 s, .int .i64 p] 25))
  obtain ⟨r, hE⟩ : ∃ r, askE xs n l ⟨z', t', f', s', p'⟩ = r := ⟨_, rfl⟩
  rw [hE]
  have HE := Lib.hid hE
  clear hE
  have RT := Lib.hid (fun w => right_b z t f s p _ hr w)
  have GT := Lib.hid (fun w => within_b n 1 1200 _ hg w)
  have HC := Lib.hid hc
  clear hr hg hc
  have HX := Lib.hid hcell
  clear hcell
  go_enter Try.func28, Try.ntmps28
  go_wp2_with fail
  refine (RT.out _).mono ?_
  rintro e w2 ⟨rfl, bn⟩
  have HP := Lib.hid (HP.out.below bn)
  have HR := Lib.hid (HR.out.below bn)
  have BB := Lib.hid (B2.out.trans (bn.mono B2.out.size))
  clear bn RT B2
  obtain ⟨r0, r1, r2, r3, r4⟩ := HR.out.facts
  obtain ⟨f0, f1, f2, f3, f4⟩ := HR.out.free
  obtain ⟨p0, p1, p2, p3, p4⟩ := HP.out.facts
  have hz : w.heap.size + 1 < w2.heap.size := HR.out.lt
  have HX : Hid (∀ i, i < xs.length → w2.cell? ⟨b, o + i, none⟩ = some (.int .i64 (xs.getD i 0))) := fun i hi => (BB.out.cell (p := ⟨b, o + i, none⟩) hb).trans (HX.out i hi)
  go_wp2_with fail
  refine (GT.out _).mono ?_
  rintro e w3 ⟨rfl, rfl⟩
  go_wp2_with fail
  go_loop [25] (fun i => ∃ (k : Nat), i = .int .i64 k ∧ k ≤ xs.length ∧ (xs.drop k).all timeB = xs.all timeB) (fun i => xs.length - (intOf i).toNat)
  case atStart => exact ⟨0, rfl, Nat.zero_le _, by simp⟩
  case round =>
    obtain ⟨k, rfl, hk, hall⟩ := hrel
    have HA := Lib.hid hall
    clear hall
    by_cases hlt : k < xs.length
    · have hd : xs.drop k = xs.getD k 0 :: xs.drop (k + 1) := by rw [List.drop_eq_getElem_cons hlt]; simp [List.getD, hlt]
      have q0 := HX.out k hlt
      generalize xs.getD k 0 = x at hd q0
      have hi1 : (k : Int) < (xs.length : Int) := by omega
      have hw1 : IntKind.i64.wrap ((k : Int) + 1) = (k : Int) + 1 := wraps_i64' _ (by omega) (by omega)
      have HD := Lib.hid hd
      clear hd
      cases h1 : timeB x
      · have HQ : Hid (r = (nul, 1)) := by
          have e1 : xs.all timeB = false := by rw [← HA.out, HD.out, List.all_cons, h1]; rfl
          show _ = _
          rw [← HE.out, askE, if_neg (by rw [e1]; simp)]
        have WT := Lib.hid (fun w => within_b x 0 1099511627776 _ h1 w)
        clear h1
        go_wp2_with fail
        refine (WT.out _).mono ?_
        rintro e w3 ⟨rfl, rfl⟩
        go_wp2
        rw [HQ.out]
        exact bodyPost_ret (v := .tuple #[.agg #[.int .i64 0, .int .i64 0, .int .i64 0, .int .i64 0, .int .i64 0], .int .i64 1]) (by simp [results, Try.results28, go_sem, r0, r1, r2, r3, r4]) rfl ⟨rfl, below_five BB.out _ (Nat.le_succ _) _ _ _ _ _⟩
      · have HF : Hid ((xs.drop (k + 1)).all timeB = xs.all timeB) := by
          show _ = _; rw [← HA.out, HD.out, List.all_cons, h1, Bool.true_and]
        have WT := Lib.hid (fun w => within_b x 0 1099511627776 _ h1 w)
        clear h1
        go_wp2_with fail
        refine (WT.out _).mono ?_
        rintro e w3 ⟨rfl, rfl⟩
        go_wp2
        go_round
        case rel => exact ⟨k + 1, by go_num, by omega, HF.out⟩
        case measure => simp [intOf, hw1]; omega
    · have hk2 : k = xs.length := by omega
      have HA : Hid (xs.all timeB = true) := by
        show _ = _; rw [← HA.out, hk2, List.drop_length]; rfl
      clear hk2
      by_cases hlt : l < n
      · have d1 : decide (n > l) = true := decide_eq_true hlt
        have HQ : Hid (r = (nul, 7)) := by
          show _ = _
          rw [← HE.out, askE, if_pos HA.out, if_pos hlt]
        go_wp2
        rw [HQ.out]
        exact bodyPost_ret (v := .tuple #[.agg #[.int .i64 0, .int .i64 0, .int .i64 0, .int .i64 0, .int .i64 0], .int .i64 7]) (by simp [results, Try.results28, go_sem, r0, r1, r2, r3, r4]) rfl ⟨rfl, below_five BB.out _ (Nat.le_succ _) _ _ _ _ _⟩
      · have d1 : decide (n > l) = false := decide_eq_false hlt
        have HQ : Hid (r = (⟨z', t', f', s', p'⟩, 0)) := by
          show _ = _
          rw [← HE.out, askE, if_pos HA.out, if_neg hlt]
        have HC := Lib.hid (HC.out HA.out (by omega) _ BB.out)
        clear hlt
        go_wp2_with (go_at_fn g; refine HC.out.mono ?_; rintro e w3 ⟨rfl, bn⟩; have HR := Lib.hid (HR.out.below bn); have BB := Lib.hid (BB.out.trans (bn.mono BB.out.size)); clear bn; obtain ⟨r0, r1, r2, r3, r4⟩ := HR.out.facts; obtain ⟨f0, f1, f2, f3, f4⟩ := HR.out.free)
        rw [HQ.out]
        exact bodyPost_ret (v := .tuple #[.agg #[.int .i64 z', .int .i64 t', .int .i64 f', .int .i64 s', .int .i64 p'], .int .i64 0]) (by simp [results, Try.results28, go_sem, r0, r1, r2, r3, r4]) rfl ⟨rfl, below_five BB.out _ (Nat.le_succ _) _ _ _ _ _⟩
end Go.Proofs.Ytiglhdiclfknhaa
