/- Layer 16: the law Order. -/
import Derived.Test.YtgefnndegjpcpaaDoorDtV
import Derived.BigQuiet
import Derived.Deep.QuietTactic
import Derived.Deep.RegionHeld
set_option maxRecDepth 100000
set_option linter.unusedSimpArgs false
set_option linter.unusedVariables false
namespace Go.Proofs.YtgefnndegjpcpaaDoor
open Go.RowKit

def flds (t : Dt) : List Int := [t.y, t.m, t.d, t.h, t.i, t.s]
theorem ord_lt {a b : Dt} (ha : rightB a = true) (hb : rightB b = true) (k : Nat) (hk : k < 6) (he : ∀ j : Nat, j < k → (flds a).getD j 0 = (flds b).getD j 0) (hl : (flds a).getD k 0 < (flds b).getD k 0) : numI a < numI b := by
  apply num_lt ha hb
  have e0 := he 0
  have e1 := he 1
  have e2 := he 2
  have e3 := he 3
  have e4 := he 4
  simp only [flds, List.getD_cons_zero, List.getD_cons_succ] at e0 e1 e2 e3 e4
  unfold ltD
  obtain h | h | h | h | h | h : k = 0 ∨ k = 1 ∨ k = 2 ∨ k = 3 ∨ k = 4 ∨ k = 5 := by omega
  all_goals
    subst h
    simp only [flds, List.getD_cons_zero, List.getD_cons_succ] at hl
    omega
theorem ord_all {a b : Dt} (he : ∀ j : Nat, j < 6 → (flds a).getD j 0 = (flds b).getD j 0) : a = b := by
  have e0 := he 0 (by omega)
  have e1 := he 1 (by omega)
  have e2 := he 2 (by omega)
  have e3 := he 3 (by omega)
  have e4 := he 4 (by omega)
  have e5 := he 5 (by omega)
  simp only [flds, List.getD_cons_zero, List.getD_cons_succ] at e0 e1 e2 e3 e4 e5
  obtain ⟨y, m, d, h, i, s⟩ := a
  obtain ⟨y', m', d', h', i', s'⟩ := b
  simp only at e0 e1 e2 e3 e4 e5
  subst e0 e1 e2 e3 e4 e5
  rfl
theorem flds_get (t : Dt) (k : Nat) (hk : k < 6) : ([.int .i64 t.y, .int .i64 t.m, .int .i64 t.d, .int .i64 t.h, .int .i64 t.i, .int .i64 t.s] : List Value)[k]? = some (.int .i64 ((flds t).getD k 0)) := by
  obtain h | h | h | h | h | h : k = 0 ∨ k = 1 ∨ k = 2 ∨ k = 3 ∨ k = 4 ∨ k = 5 := by omega
  all_goals subst h; rfl

set_option maxHeartbeats 8000000 in
theorem order_no1 (y m d h i s y' m' d' h' i' s' : Int) (w : World) (ht : Tb w) (hr : rightB ⟨y, m, d, h, i, s⟩ = false) :
    Calls Tryd.prog 8 #[.agg #[.int .i64 y, .int .i64 m, .int .i64 d, .int .i64 h, .int .i64 i, .int .i64 s], .agg #[.int .i64 y', .int .i64 m', .int .i64 d', .int .i64 h', .int .i64 i', .int .i64 s']] w (Yes w) := by
  have hsz : (w.alloc (.cells #[.int .i64 y, .int .i64 m, .int .i64 d, .int .i64 h, .int .i64 i, .int .i64 s] 23)).heap.size = w.heap.size + 1 := by show (w.heap.push _).size = _; simp
  have TT : Hid (Tb ((w.alloc (.cells #[.int .i64 y, .int .i64 m, .int .i64 d, .int .i64 h, .int .i64 i, .int .i64 s] 23)).alloc (.cells #[.int .i64 y', .int .i64 m', .int .i64 d', .int .i64 h', .int .i64 i', .int .i64 s'] 23))) := (ht.below ((Below.refl _ w).alloc (Nat.le_refl _) _)).below ((Below.refl _ _).alloc (Nat.le_refl _) _)
  have BB := Lib.hid (((Below.refl w.heap.size w).alloc (Nat.le_refl _) (.cells #[.int .i64 y, .int .i64 m, .int .i64 d, .int .i64 h, .int .i64 i, .int .i64 s] 23)).alloc (by rw [hsz]; omega) (.cells #[.int .i64 y', .int .i64 m', .int .i64 d', .int .i64 h', .int .i64 i', .int .i64 s'] 23))
  have CA := Lib.hid ((Cs.made w #[.int .i64 y, .int .i64 m, .int .i64 d, .int .i64 h, .int .i64 i, .int .i64 s] 23).below ((Below.refl _ _).alloc (Nat.le_refl _) (.cells #[.int .i64 y', .int .i64 m', .int .i64 d', .int .i64 h', .int .i64 i', .int .i64 s'] 23)))
  have CB := Lib.hid (Cs.made (w.alloc (.cells #[.int .i64 y, .int .i64 m, .int .i64 d, .int .i64 h, .int .i64 i, .int .i64 s] 23)) #[.int .i64 y', .int .i64 m', .int .i64 d', .int .i64 h', .int .i64 i', .int .i64 s'] 23)
  rw [hsz] at CB
  have AL := Lib.hid (fun W hW => alive_any W hW)
  have T1 := Lib.hid (fun W => theirs_any y m d h i s W)
  have T2 := Lib.hid (fun W => theirs_any y' m' d' h' i' s' W)
  have N1 := Lib.hid (fun W => number_no y m d h i s W hr)
  have N2 := Lib.hid (fun W => number_any ⟨y', m', d', h', i', s'⟩ W)
  generalize (numE ⟨y', m', d', h', i', s'⟩).1 = q1 at N2
  generalize (numE ⟨y', m', d', h', i', s'⟩).2 = q2 at N2
  clear hr
  clear ht hsz
  obtain ⟨a0, a1, a2, a3, a4, a5⟩ := CA.out.six
  obtain ⟨b0, b1, b2, b3, b4, b5⟩ := CB.out.six
  go_enter Tryd.func8, Tryd.ntmps8
  go_wp2_with (first
    | (go_at_call_of 10 (Value.agg #[.int .i64 y, .int .i64 m, .int .i64 d, .int .i64 h, .int .i64 i, .int .i64 s]); refine (T1.out _).mono ?_; rintro x w1 ⟨rfl, hb⟩; have CA := Lib.hid (CA.out.below hb); have CB := Lib.hid (CB.out.below hb); have BB := Lib.hid (BB.out.trans (hb.mono BB.out.size)); have TT := Lib.hid (TT.out.below hb); clear hb; obtain ⟨a0, a1, a2, a3, a4, a5⟩ := CA.out.six; obtain ⟨b0, b1, b2, b3, b4, b5⟩ := CB.out.six)
    | (go_at_call_of 10 (Value.agg #[.int .i64 y', .int .i64 m', .int .i64 d', .int .i64 h', .int .i64 i', .int .i64 s']); refine (T2.out _).mono ?_; rintro x w3 ⟨rfl, hb⟩; have CA := Lib.hid (CA.out.below hb); have CB := Lib.hid (CB.out.below hb); have BB := Lib.hid (BB.out.trans (hb.mono BB.out.size)); have TT := Lib.hid (TT.out.below hb); clear hb; obtain ⟨a0, a1, a2, a3, a4, a5⟩ := CA.out.six; obtain ⟨b0, b1, b2, b3, b4, b5⟩ := CB.out.six)
    | (go_at_call_of 9 (Value.agg #[.int .i64 y, .int .i64 m, .int .i64 d, .int .i64 h, .int .i64 i, .int .i64 s]); refine (N1.out _).mono ?_; rintro x w2 ⟨rfl, hb⟩; have CA := Lib.hid (CA.out.below hb); have CB := Lib.hid (CB.out.below hb); have BB := Lib.hid (BB.out.trans (hb.mono BB.out.size)); have TT := Lib.hid (TT.out.below hb); clear hb; obtain ⟨a0, a1, a2, a3, a4, a5⟩ := CA.out.six; obtain ⟨b0, b1, b2, b3, b4, b5⟩ := CB.out.six)
    | (go_at_call_of 9 (Value.agg #[.int .i64 y', .int .i64 m', .int .i64 d', .int .i64 h', .int .i64 i', .int .i64 s']); refine (N2.out _).mono ?_; rintro x w4 ⟨rfl, hb⟩; have CA := Lib.hid (CA.out.below hb); have CB := Lib.hid (CB.out.below hb); have BB := Lib.hid (BB.out.trans (hb.mono BB.out.size)); have TT := Lib.hid (TT.out.below hb); clear hb; obtain ⟨a0, a1, a2, a3, a4, a5⟩ := CA.out.six; obtain ⟨b0, b1, b2, b3, b4, b5⟩ := CB.out.six)
    | (go_at_call 17; refine (AL.out _ TT.out).mono ?_; rintro x w9 ⟨rfl, hb⟩; have BB := Lib.hid (BB.out.trans (hb.mono BB.out.size)); clear hb))
  go_ret
  exact ⟨rfl, BB.out⟩

set_option maxHeartbeats 8000000 in
theorem order_no2 (y m d h i s y' m' d' h' i' s' : Int) (w : World) (ht : Tb w) (hr : rightB ⟨y, m, d, h, i, s⟩ = true) (hr2 : rightB ⟨y', m', d', h', i', s'⟩ = false) :
    Calls Tryd.prog 8 #[.agg #[.int .i64 y, .int .i64 m, .int .i64 d, .int .i64 h, .int .i64 i, .int .i64 s], .agg #[.int .i64 y', .int .i64 m', .int .i64 d', .int .i64 h', .int .i64 i', .int .i64 s']] w (Yes w) := by
  have hsz : (w.alloc (.cells #[.int .i64 y, .int .i64 m, .int .i64 d, .int .i64 h, .int .i64 i, .int .i64 s] 23)).heap.size = w.heap.size + 1 := by show (w.heap.push _).size = _; simp
  have TT : Hid (Tb ((w.alloc (.cells #[.int .i64 y, .int .i64 m, .int .i64 d, .int .i64 h, .int .i64 i, .int .i64 s] 23)).alloc (.cells #[.int .i64 y', .int .i64 m', .int .i64 d', .int .i64 h', .int .i64 i', .int .i64 s'] 23))) := (ht.below ((Below.refl _ w).alloc (Nat.le_refl _) _)).below ((Below.refl _ _).alloc (Nat.le_refl _) _)
  have BB := Lib.hid (((Below.refl w.heap.size w).alloc (Nat.le_refl _) (.cells #[.int .i64 y, .int .i64 m, .int .i64 d, .int .i64 h, .int .i64 i, .int .i64 s] 23)).alloc (by rw [hsz]; omega) (.cells #[.int .i64 y', .int .i64 m', .int .i64 d', .int .i64 h', .int .i64 i', .int .i64 s'] 23))
  have CA := Lib.hid ((Cs.made w #[.int .i64 y, .int .i64 m, .int .i64 d, .int .i64 h, .int .i64 i, .int .i64 s] 23).below ((Below.refl _ _).alloc (Nat.le_refl _) (.cells #[.int .i64 y', .int .i64 m', .int .i64 d', .int .i64 h', .int .i64 i', .int .i64 s'] 23)))
  have CB := Lib.hid (Cs.made (w.alloc (.cells #[.int .i64 y, .int .i64 m, .int .i64 d, .int .i64 h, .int .i64 i, .int .i64 s] 23)) #[.int .i64 y', .int .i64 m', .int .i64 d', .int .i64 h', .int .i64 i', .int .i64 s'] 23)
  rw [hsz] at CB
  have AL := Lib.hid (fun W hW => alive_any W hW)
  have T1 := Lib.hid (fun W => theirs_any y m d h i s W)
  have T2 := Lib.hid (fun W => theirs_any y' m' d' h' i' s' W)
  have N1 := Lib.hid (fun W => number_yes y m d h i s W hr)
  have N2 := Lib.hid (fun W => number_no y' m' d' h' i' s' W hr2)
  generalize numI ⟨y, m, d, h, i, s⟩ = q1 at N1
  clear hr hr2
  clear ht hsz
  obtain ⟨a0, a1, a2, a3, a4, a5⟩ := CA.out.six
  obtain ⟨b0, b1, b2, b3, b4, b5⟩ := CB.out.six
  go_enter Tryd.func8, Tryd.ntmps8
  go_wp2_with (first
    | (go_at_call_of 10 (Value.agg #[.int .i64 y, .int .i64 m, .int .i64 d, .int .i64 h, .int .i64 i, .int .i64 s]); refine (T1.out _).mono ?_; rintro x w1 ⟨rfl, hb⟩; have CA := Lib.hid (CA.out.below hb); have CB := Lib.hid (CB.out.below hb); have BB := Lib.hid (BB.out.trans (hb.mono BB.out.size)); have TT := Lib.hid (TT.out.below hb); clear hb; obtain ⟨a0, a1, a2, a3, a4, a5⟩ := CA.out.six; obtain ⟨b0, b1, b2, b3, b4, b5⟩ := CB.out.six)
    | (go_at_call_of 10 (Value.agg #[.int .i64 y', .int .i64 m', .int .i64 d', .int .i64 h', .int .i64 i', .int .i64 s']); refine (T2.out _).mono ?_; rintro x w3 ⟨rfl, hb⟩; have CA := Lib.hid (CA.out.below hb); have CB := Lib.hid (CB.out.below hb); have BB := Lib.hid (BB.out.trans (hb.mono BB.out.size)); have TT := Lib.hid (TT.out.below hb); clear hb; obtain ⟨a0, a1, a2, a3, a4, a5⟩ := CA.out.six; obtain ⟨b0, b1, b2, b3, b4, b5⟩ := CB.out.six)
    | (go_at_call_of 9 (Value.agg #[.int .i64 y, .int .i64 m, .int .i64 d, .int .i64 h, .int .i64 i, .int .i64 s]); refine (N1.out _).mono ?_; rintro x w2 ⟨rfl, hb⟩; have CA := Lib.hid (CA.out.below hb); have CB := Lib.hid (CB.out.below hb); have BB := Lib.hid (BB.out.trans (hb.mono BB.out.size)); have TT := Lib.hid (TT.out.below hb); clear hb; obtain ⟨a0, a1, a2, a3, a4, a5⟩ := CA.out.six; obtain ⟨b0, b1, b2, b3, b4, b5⟩ := CB.out.six)
    | (go_at_call_of 9 (Value.agg #[.int .i64 y', .int .i64 m', .int .i64 d', .int .i64 h', .int .i64 i', .int .i64 s']); refine (N2.out _).mono ?_; rintro x w4 ⟨rfl, hb⟩; have CA := Lib.hid (CA.out.below hb); have CB := Lib.hid (CB.out.below hb); have BB := Lib.hid (BB.out.trans (hb.mono BB.out.size)); have TT := Lib.hid (TT.out.below hb); clear hb; obtain ⟨a0, a1, a2, a3, a4, a5⟩ := CA.out.six; obtain ⟨b0, b1, b2, b3, b4, b5⟩ := CB.out.six)
    | (go_at_call 17; refine (AL.out _ TT.out).mono ?_; rintro x w9 ⟨rfl, hb⟩; have BB := Lib.hid (BB.out.trans (hb.mono BB.out.size)); clear hb))
  go_ret
  exact ⟨rfl, BB.out⟩

set_option maxHeartbeats 8000000 in
theorem order_yes (y m d h i s y' m' d' h' i' s' : Int) (w : World) (ht : Tb w) (hr : rightB ⟨y, m, d, h, i, s⟩ = true) (hr2 : rightB ⟨y', m', d', h', i', s'⟩ = true) :
    Calls Tryd.prog 8 #[.agg #[.int .i64 y, .int .i64 m, .int .i64 d, .int .i64 h, .int .i64 i, .int .i64 s], .agg #[.int .i64 y', .int .i64 m', .int .i64 d', .int .i64 h', .int .i64 i', .int .i64 s']] w (Yes w) := by
  have hsz : (w.alloc (.cells #[.int .i64 y, .int .i64 m, .int .i64 d, .int .i64 h, .int .i64 i, .int .i64 s] 23)).heap.size = w.heap.size + 1 := by show (w.heap.push _).size = _; simp
  have TT : Hid (Tb ((w.alloc (.cells #[.int .i64 y, .int .i64 m, .int .i64 d, .int .i64 h, .int .i64 i, .int .i64 s] 23)).alloc (.cells #[.int .i64 y', .int .i64 m', .int .i64 d', .int .i64 h', .int .i64 i', .int .i64 s'] 23))) := (ht.below ((Below.refl _ w).alloc (Nat.le_refl _) _)).below ((Below.refl _ _).alloc (Nat.le_refl _) _)
  have BB := Lib.hid (((Below.refl w.heap.size w).alloc (Nat.le_refl _) (.cells #[.int .i64 y, .int .i64 m, .int .i64 d, .int .i64 h, .int .i64 i, .int .i64 s] 23)).alloc (by rw [hsz]; omega) (.cells #[.int .i64 y', .int .i64 m', .int .i64 d', .int .i64 h', .int .i64 i', .int .i64 s'] 23))
  have CA := Lib.hid ((Cs.made w #[.int .i64 y, .int .i64 m, .int .i64 d, .int .i64 h, .int .i64 i, .int .i64 s] 23).below ((Below.refl _ _).alloc (Nat.le_refl _) (.cells #[.int .i64 y', .int .i64 m', .int .i64 d', .int .i64 h', .int .i64 i', .int .i64 s'] 23)))
  have CB := Lib.hid (Cs.made (w.alloc (.cells #[.int .i64 y, .int .i64 m, .int .i64 d, .int .i64 h, .int .i64 i, .int .i64 s] 23)) #[.int .i64 y', .int .i64 m', .int .i64 d', .int .i64 h', .int .i64 i', .int .i64 s'] 23)
  rw [hsz] at CB
  have AL := Lib.hid (fun W hW => alive_any W hW)
  have T1 := Lib.hid (fun W => theirs_any y m d h i s W)
  have T2 := Lib.hid (fun W => theirs_any y' m' d' h' i' s' W)
  have N1 := Lib.hid (fun W => number_yes y m d h i s W hr)
  have N2 := Lib.hid (fun W => number_yes y' m' d' h' i' s' W hr2)
  obtain ⟨xs, hxs⟩ : ∃ xs, flds ⟨y, m, d, h, i, s⟩ = xs := ⟨_, rfl⟩
  obtain ⟨ys, hys⟩ : ∃ ys, flds ⟨y', m', d', h', i', s'⟩ = ys := ⟨_, rfl⟩
  have OL : Hid (∀ k : Nat, k < 6 → (∀ j : Nat, j < k → xs.getD j 0 = ys.getD j 0) → xs.getD k 0 < ys.getD k 0 → numI ⟨y, m, d, h, i, s⟩ < numI ⟨y', m', d', h', i', s'⟩) := fun k hk he hl => by
    rw [← hxs, ← hys] at hl
    refine ord_lt hr hr2 k hk (fun j hj => ?_) hl
    rw [hxs, hys]
    exact he j hj
  have OG : Hid (∀ k : Nat, k < 6 → (∀ j : Nat, j < k → ys.getD j 0 = xs.getD j 0) → ys.getD k 0 < xs.getD k 0 → numI ⟨y', m', d', h', i', s'⟩ < numI ⟨y, m, d, h, i, s⟩) := fun k hk he hl => by
    rw [← hxs, ← hys] at hl
    refine ord_lt hr2 hr k hk (fun j hj => ?_) hl
    rw [hxs, hys]
    exact he j hj
  have OE : Hid ((∀ j : Nat, j < 6 → xs.getD j 0 = ys.getD j 0) → numI ⟨y, m, d, h, i, s⟩ = numI ⟨y', m', d', h', i', s'⟩) := fun he => by
    have e : (⟨y, m, d, h, i, s⟩ : Dt) = ⟨y', m', d', h', i', s'⟩ := ord_all (fun j hj => by rw [hxs, hys]; exact he j hj)
    rw [e]
  have FA : Hid (∀ k : Nat, k < 6 → ([.int .i64 y, .int .i64 m, .int .i64 d, .int .i64 h, .int .i64 i, .int .i64 s] : List Value)[k]? = some (.int .i64 (xs.getD k 0))) := fun k hk => by rw [← hxs]; exact flds_get ⟨y, m, d, h, i, s⟩ k hk
  have FB : Hid (∀ k : Nat, k < 6 → ([.int .i64 y', .int .i64 m', .int .i64 d', .int .i64 h', .int .i64 i', .int .i64 s'] : List Value)[k]? = some (.int .i64 (ys.getD k 0))) := fun k hk => by rw [← hys]; exact flds_get ⟨y', m', d', h', i', s'⟩ k hk
  clear hxs hys
  generalize numI ⟨y, m, d, h, i, s⟩ = n1 at N1 OL OG OE
  generalize numI ⟨y', m', d', h', i', s'⟩ = n2 at N2 OL OG OE
  clear hr hr2
  clear ht hsz
  obtain ⟨a0, a1, a2, a3, a4, a5⟩ := CA.out.six
  obtain ⟨b0, b1, b2, b3, b4, b5⟩ := CB.out.six
  go_enter Tryd.func8, Tryd.ntmps8
  go_upto_region 6 with (first
    | (go_at_call_of 10 (Value.agg #[.int .i64 y, .int .i64 m, .int .i64 d, .int .i64 h, .int .i64 i, .int .i64 s]); refine (T1.out _).mono ?_; rintro x w1 ⟨rfl, hb⟩; have CA := Lib.hid (CA.out.below hb); have CB := Lib.hid (CB.out.below hb); have BB := Lib.hid (BB.out.trans (hb.mono BB.out.size)); have TT := Lib.hid (TT.out.below hb); clear hb; obtain ⟨a0, a1, a2, a3, a4, a5⟩ := CA.out.six; obtain ⟨b0, b1, b2, b3, b4, b5⟩ := CB.out.six)
    | (go_at_call_of 10 (Value.agg #[.int .i64 y', .int .i64 m', .int .i64 d', .int .i64 h', .int .i64 i', .int .i64 s']); refine (T2.out _).mono ?_; rintro x w3 ⟨rfl, hb⟩; have CA := Lib.hid (CA.out.below hb); have CB := Lib.hid (CB.out.below hb); have BB := Lib.hid (BB.out.trans (hb.mono BB.out.size)); have TT := Lib.hid (TT.out.below hb); clear hb; obtain ⟨a0, a1, a2, a3, a4, a5⟩ := CA.out.six; obtain ⟨b0, b1, b2, b3, b4, b5⟩ := CB.out.six)
    | (go_at_call_of 9 (Value.agg #[.int .i64 y, .int .i64 m, .int .i64 d, .int .i64 h, .int .i64 i, .int .i64 s]); refine (N1.out _).mono ?_; rintro x w2 ⟨rfl, hb⟩; have CA := Lib.hid (CA.out.below hb); have CB := Lib.hid (CB.out.below hb); have BB := Lib.hid (BB.out.trans (hb.mono BB.out.size)); have TT := Lib.hid (TT.out.below hb); clear hb; obtain ⟨a0, a1, a2, a3, a4, a5⟩ := CA.out.six; obtain ⟨b0, b1, b2, b3, b4, b5⟩ := CB.out.six)
    | (go_at_call_of 9 (Value.agg #[.int .i64 y', .int .i64 m', .int .i64 d', .int .i64 h', .int .i64 i', .int .i64 s']); refine (N2.out _).mono ?_; rintro x w4 ⟨rfl, hb⟩; have CA := Lib.hid (CA.out.below hb); have CB := Lib.hid (CB.out.below hb); have BB := Lib.hid (BB.out.trans (hb.mono BB.out.size)); have TT := Lib.hid (TT.out.below hb); clear hb; obtain ⟨a0, a1, a2, a3, a4, a5⟩ := CA.out.six; obtain ⟨b0, b1, b2, b3, b4, b5⟩ := CB.out.six)
    | (go_at_call 17; refine (AL.out _ TT.out).mono ?_; rintro x w9 ⟨rfl, hb⟩; have BB := Lib.hid (BB.out.trans (hb.mono BB.out.size)); clear hb))
  have hs4 : (w4.alloc (.cells #[.int .i64 y, .int .i64 m, .int .i64 d, .int .i64 h, .int .i64 i, .int .i64 s] 3)).heap.size = w4.heap.size + 1 := by show (w4.heap.push _).size = _; simp
  have CX := Lib.hid (Cs.made w4 #[.int .i64 y, .int .i64 m, .int .i64 d, .int .i64 h, .int .i64 i, .int .i64 s] 3)
  have CB := Lib.hid (CB.out.below ((Below.refl _ w4).alloc (Nat.le_refl _) (.cells #[.int .i64 y, .int .i64 m, .int .i64 d, .int .i64 h, .int .i64 i, .int .i64 s] 3)))
  have TT := Lib.hid (TT.out.below ((Below.refl _ w4).alloc (Nat.le_refl _) (.cells #[.int .i64 y, .int .i64 m, .int .i64 d, .int .i64 h, .int .i64 i, .int .i64 s] 3)))
  have BB := Lib.hid (BB.out.alloc BB.out.size (.cells #[.int .i64 y, .int .i64 m, .int .i64 d, .int .i64 h, .int .i64 i, .int .i64 s] 3))
  obtain ⟨b0, b1, b2, b3, b4, b5⟩ := CB.out.six
  go_upto_region 7 with fail
  have CY := Lib.hid (Cs.made (w4.alloc (.cells #[.int .i64 y, .int .i64 m, .int .i64 d, .int .i64 h, .int .i64 i, .int .i64 s] 3)) #[.int .i64 y', .int .i64 m', .int .i64 d', .int .i64 h', .int .i64 i', .int .i64 s'] 3)
  rw [hs4] at CY
  have CX := Lib.hid (CX.out.below ((Below.refl _ _).alloc (Nat.le_refl _) (.cells #[.int .i64 y', .int .i64 m', .int .i64 d', .int .i64 h', .int .i64 i', .int .i64 s'] 3)))
  have TT := Lib.hid (TT.out.below ((Below.refl _ _).alloc (Nat.le_refl _) (.cells #[.int .i64 y', .int .i64 m', .int .i64 d', .int .i64 h', .int .i64 i', .int .i64 s'] 3)))
  have BB := Lib.hid (BB.out.alloc BB.out.size (.cells #[.int .i64 y', .int .i64 m', .int .i64 d', .int .i64 h', .int .i64 i', .int .i64 s'] 3))
  obtain ⟨g1, hg1⟩ : ∃ g, g = w4.heap.size := ⟨_, rfl⟩
  generalize (w4.alloc (.cells #[.int .i64 y, .int .i64 m, .int .i64 d, .int .i64 h, .int .i64 i, .int .i64 s] 3)).alloc (.cells #[.int .i64 y', .int .i64 m', .int .i64 d', .int .i64 h', .int .i64 i', .int .i64 s'] 3) = W2 at CX CY TT BB ⊢
  rw [← hg1] at CX CY ⊢
  obtain ⟨g2, hg2⟩ : ∃ g, g = g1 + 1 := ⟨_, rfl⟩
  rw [← hg2] at CY ⊢
  clear hs4 hg1 hg2
  have CX : Hid (Cs W2 g1 ([.int .i64 y, .int .i64 m, .int .i64 d, .int .i64 h, .int .i64 i, .int .i64 s] : List Value)) := CX.out
  have CY : Hid (Cs W2 g2 ([.int .i64 y', .int .i64 m', .int .i64 d', .int .i64 h', .int .i64 i', .int .i64 s'] : List Value)) := CY.out
  generalize ([.int .i64 y, .int .i64 m, .int .i64 d, .int .i64 h, .int .i64 i, .int .i64 s] : List Value) = lx at CX FA
  generalize ([.int .i64 y', .int .i64 m', .int .i64 d', .int .i64 h', .int .i64 i', .int .i64 s'] : List Value) = ly at CY FB
  go_wp2_with fail
  go_loopw [59, 11] (fun a _ wx => ∃ k : Nat, k ≤ 6 ∧ a = .int .i64 (k : Int) ∧ (∀ j : Nat, j < k → xs.getD j 0 = ys.getD j 0) ∧ Cs wx g1 lx ∧ Cs wx g2 ly ∧ Below w.heap.size w wx ∧ Tb wx) (fun a _ _ => 7 - (intOf a).toNat)
  case atStart => exact ⟨0, by omega, rfl, fun j hj => absurd hj (by omega), CX.out, CY.out, BB.out, TT.out⟩
  case round =>
    obtain ⟨k, hk, rfl, hall, hcx, hcy, hbb, htt⟩ := hrel
    have HALL := Lib.hid hall
    have CX := Lib.hid hcx
    have CY := Lib.hid hcy
    have BB := Lib.hid hbb
    have TT := Lib.hid htt
    clear hcx hcy hbb htt
    have p3 := wraps_i64' ((k : Int) + 1) (by omega) (by omega)
    by_cases hlt : k < 6
    · have hi : (k : Int) < 6 := by omega
      have OL2 := Lib.hid (OL.out k hlt hall)
      have OG2 := Lib.hid (OG.out k hlt (fun j hj => (hall j hj).symm))
      clear hall
      have HN : Hid (xs.getD k 0 = ys.getD k 0 → ∀ j : Nat, j < k + 1 → xs.getD j 0 = ys.getD j 0) := fun e j hj => by
        by_cases hjk : j = k
        · rw [hjk]; exact e
        · exact HALL.out j (by omega)
      have cx := CX.out.get k _ (FA.out k hlt)
      have cy := CY.out.get k _ (FB.out k hlt)
      generalize xs.getD k 0 = u at cx OL2 OG2 HN
      generalize ys.getD k 0 = v at cy OL2 OG2 HN
      have CU : Hid (∀ W : World, Cs W g1 lx → W.cell? ⟨g1, k, none⟩ = some (.int .i64 u)) := fun W hW => by
        have h1 := hW.get k _ (FA.out k hlt)
        have h2 := CX.out.get k _ (FA.out k hlt)
        rw [cx] at h2
        rw [h1]
        exact h2.symm
      have CV : Hid (∀ W : World, Cs W g2 ly → W.cell? ⟨g2, k, none⟩ = some (.int .i64 v)) := fun W hW => by
        have h1 := hW.get k _ (FB.out k hlt)
        have h2 := CY.out.get k _ (FB.out k hlt)
        rw [cy] at h2
        rw [h1]
        exact h2.symm
      by_cases e : u = v
      · subst e
        have qb : (u != u) = false := by simp
        go_wp2_with fail
        go_quiet (fail)
        go_wp2
        go_round
        case rel => exact ⟨k + 1, by omega, by go_num, HN.out (by trivial), CX.out, CY.out, below_drewN BB.out _, TT.out⟩
        case measure => simp [intOf, p3]; omega
      · have qb : (u != v) = true := by simp [e]
        have q1 : (n1 != n2) = true ∧ decide (u < v) = decide (n1 < n2) := by
          by_cases c : u < v
          · have := OL2.out c
            exact ⟨by simp; omega, by rw [decide_eq_true c, decide_eq_true this]⟩
          · have := OG2.out (by omega)
            exact ⟨by simp; omega, by rw [decide_eq_false c, decide_eq_false (by omega)]⟩
        obtain ⟨q1, q2⟩ := q1
        obtain ⟨bb, hb1⟩ : ∃ b, decide (n1 < n2) = b := ⟨_, rfl⟩
        rw [hb1] at q2
        have qq : (bb == bb) = true := by simp
        clear OL2 OG2 HN e
        cases bb
        all_goals
          go_wp2_with fail
          go_quiet (fail)
          have CX : Hid (Cs (wr.drewN nq).drew g1 lx) := CX.out
          have CY : Hid (Cs (wr.drewN nq).drew g2 ly) := CY.out
          have BB : Hid (Below w.heap.size w (wr.drewN nq).drew) := (below_drewN BB.out nq).drew
          have TT : Hid (Tb (wr.drewN nq).drew) := TT.out
          have cx := CU.out _ CX.out
          have cy := CV.out _ CY.out
          go_wp2_with fail
          go_region_held (fun W => W.cell? ⟨g1, k, none⟩ = some (.int .i64 u) ∧ W.cell? ⟨g2, k, none⟩ = some (.int .i64 v))
            (first
              | (exact ⟨cx, cy⟩))
            (first
              | (go_at_call 17; refine (AL.out _ TT.out).mono ?_; rintro x w9 ⟨rfl, hb⟩; have CX := Lib.hid (CX.out.below hb); have CY := Lib.hid (CY.out.below hb); have cx := CU.out _ CX.out; have cy := CV.out _ CY.out; have BB := Lib.hid (BB.out.trans (hb.mono BB.out.size)); clear hb))
          all_goals
            go_wp2
            go_ret
            exact ⟨rfl, BB.out⟩
    · have hk2 : k = 6 := by omega
      subst hk2
      have en := OE.out hall
      subst en
      have q1 : (n1 == n1) = true := by simp
      clear hall
      go_wp2_with (go_at_call 17; refine (AL.out _ TT.out).mono ?_; rintro x w9 ⟨rfl, hb⟩; have BB := Lib.hid (BB.out.trans (hb.mono BB.out.size)); clear hb)
      go_ret
      exact ⟨rfl, BB.out⟩
theorem order_walk (y m d h i s y' m' d' h' i' s' : Int) (w : World) (ht : Tb w) : Calls Tryd.prog 8 #[.agg #[.int .i64 y, .int .i64 m, .int .i64 d, .int .i64 h, .int .i64 i, .int .i64 s], .agg #[.int .i64 y', .int .i64 m', .int .i64 d', .int .i64 h', .int .i64 i', .int .i64 s']] w (Yes w) := by
  cases hr : rightB ⟨y, m, d, h, i, s⟩
  · exact order_no1 y m d h i s y' m' d' h' i' s' w ht hr
  · cases hr2 : rightB ⟨y', m', d', h', i', s'⟩
    · exact order_no2 y m d h i s y' m' d' h' i' s' w ht hr hr2
    · exact order_yes y m d h i s y' m' d' h' i' s' w ht hr hr2
end Go.Proofs.YtgefnndegjpcpaaDoor
