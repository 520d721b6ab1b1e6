/- The mathematics of the samples that were taken: the least one, the greatest one, the last one, and Smooth among them. -/
import Derived.Test.YtfcojlnbocncpaaRtJ
set_option linter.unusedSimpArgs false
set_option linter.unusedVariables false
namespace Go.Proofs.Ytfcojlnbocncpaa
open Go.RowKit

/-- the samples lo, hi are the least and the greatest so far, z the last one -/
structure Among (q : St) (lo hi z : Int) : Prop where
  has : q.h = true
  right : rightB q = true
  least : q.l = lo
  last : q.t = z
  low : lo - 1 ≤ q.s
  high : q.s ≤ hi
  some : lo ≤ hi

theorem among_more {q : St} {lo hi z n d : Int} (H : Among q lo hi z) (ht : (tickB n && tickB d) = true) : Among (sampleE q n d).1 (lowI lo n) (highI hi n) n := by
  obtain ⟨h, l, s, v, t⟩ := q
  obtain ⟨hh, hr, rfl, rfl, h1, h2, h3⟩ := H
  simp only at hh h1 h2 h3
  subst hh
  have hr2 := (sample_right hr ht).1
  have hn : 0 ≤ n ∧ n ≤ 1099511627776 := by simp only [Bool.and_eq_true, tick_iff] at ht; exact ht.1
  have hd : 0 ≤ d ∧ d ≤ 1099511627776 := by simp only [Bool.and_eq_true, tick_iff] at ht; exact ht.2
  obtain ⟨hl, hs, hv, _, _⟩ := right_has hr rfl
  simp only at hl hs hv
  rw [sampleE_d hr ht] at hr2 ⊢
  obtain ⟨a, ha⟩ : ∃ a, adjI n d (lowI l n) = a := ⟨_, rfl⟩
  obtain ⟨m, hm⟩ : ∃ m, lowI l n = m := ⟨_, rfl⟩
  obtain ⟨g, hg⟩ : ∃ g, highI hi n = g := ⟨_, rfl⟩
  have b1 : m ≤ l ∧ m ≤ n ∧ 0 ≤ m := by rw [← hm]; unfold lowI; split <;> omega
  have b2 : hi ≤ g ∧ n ≤ g := by rw [← hg]; unfold highI; split <;> omega
  rw [hm] at ha
  have b3 : m ≤ a ∧ a ≤ n := by
    rw [← ha]; unfold adjI cutI
    repeat' split
    all_goals omega
  have e : (moreI ⟨true, l, s, v, t⟩ n d).s = (7 * s + a).tdiv 8 := by unfold moreI; simp only [hm, ha]
  refine ⟨rfl, hr2, rfl, rfl, ?_, ?_, by rw [hm, hg]; omega⟩
  · show _ ≤ (moreI ⟨true, l, s, v, t⟩ n d).s
    rw [e, hm, Int.tdiv_eq_ediv_of_nonneg (by omega)]; omega
  · show (moreI ⟨true, l, s, v, t⟩ n d).s ≤ _
    rw [e, hg, Int.tdiv_eq_ediv_of_nonneg (by omega)]; omega
theorem among_first {n d : Int} (ht : (tickB n && tickB d) = true) : Among (sampleE nul n d).1 n n n := by
  have hr2 := (sample_right (q := nul) right_nul ht).1
  have e : sampleE nul n d = (⟨true, n, n, n.tdiv 2, n⟩, 0) := sampleE_c right_nul ht
  rw [e] at hr2 ⊢
  exact ⟨rfl, hr2, rfl, rfl, by simp only; omega, Int.le_refl _, Int.le_refl _⟩

/-- the samples that are taken alone -/
def runQ (d : Int) (q : St) (ys : List Int) : St := ys.foldl (fun q x => (sampleE q x d).1) q
theorem play_taken (d : Int) (xs : List Int) : ∀ q, xs.foldl (stepQ d) q = runQ d q (takenL d xs) := by
  induction xs with
  | nil => intro q; rfl
  | cons x xs ih =>
    intro q
    rw [List.foldl_cons, ih]
    unfold takenL
    rw [List.filter_cons]
    cases hx : (tickB x && tickB d)
    · rw [stepQ, hx]; rfl
    · rw [stepQ, hx]; rfl
theorem taken_ticks {d : Int} {xs : List Int} : ∀ y ∈ takenL d xs, (tickB y && tickB d) = true := fun y hy => by
  have := (List.mem_filter.1 hy).2
  simpa using this
/-- the least, and the greatest, of n and ys -/
def leastL (n : Int) (ys : List Int) : Int := ys.foldl lowI n
def mostL (n : Int) (ys : List Int) : Int := ys.foldl highI n
theorem run_among {d : Int} : ∀ (ys : List Int) {q : St} {lo hi z : Int}, Among q lo hi z → (∀ y ∈ ys, (tickB y && tickB d) = true) → Among (runQ d q ys) (leastL lo ys) (mostL hi ys) (ys.getLastD z)
  | [], _, _, _, _, H, _ => H
  | y :: ys, q, lo, hi, z, H, ht => by
    have := run_among ys (among_more H (ht y (by simp))) (fun x hx => ht x (by simp [hx]))
    rw [List.getLastD_cons]
    exact this
theorem low_self (n : Int) : lowI n n = n := by unfold lowI; split <;> rfl
theorem high_self (n : Int) : highI n n = n := by unfold highI; split <;> rfl

theorem play_none {d : Int} {xs : List Int} (h : takenL d xs = []) : playQ d xs = nul := by
  rw [playQ, play_taken, h]; rfl
theorem play_among {d : Int} {xs : List Int} {n : Int} {ys : List Int} (h : takenL d xs = n :: ys) : Among (playQ d xs) (leastL n (n :: ys)) (mostL n (n :: ys)) (ys.getLastD n) := by
  have ht := taken_ticks (d := d) (xs := xs)
  rw [h] at ht
  rw [playQ, play_taken, h]
  have := run_among ys (among_first (ht n (by simp))) (fun x hx => ht x (by simp [hx]))
  show Among (runQ d nul (n :: ys)) _ _ _
  rw [leastL, mostL, List.foldl_cons, List.foldl_cons, low_self, high_self]
  exact this
theorem least_more (n : Int) (ys : List Int) (k : Nat) (h : k < ys.length) : leastL n (ys.take (k + 1)) = lowI (leastL n (ys.take k)) (ys.getD k 0) := by
  rw [List.take_succ_eq_append_getElem h, leastL, List.foldl_append]
  simp [leastL, List.getD, h]
theorem most_more (n : Int) (ys : List Int) (k : Nat) (h : k < ys.length) : mostL n (ys.take (k + 1)) = highI (mostL n (ys.take k)) (ys.getD k 0) := by
  rw [List.take_succ_eq_append_getElem h, mostL, List.foldl_append]
  simp [mostL, List.getD, h]
theorem last_getD (n : Int) (ys : List Int) : ys.getLastD n = (n :: ys).getD ys.length 0 := by
  induction ys generalizing n with
  | nil => rfl
  | cons y ys ih => rw [List.getLastD_cons, ih, List.length_cons, List.getD_cons_succ]

/-- SAMPLES THAT ARE ALL ALIKE, without a delay -/
theorem steady_more {n v : Int} (hn : tickB n = true) (hr : rightB ⟨true, n, n, v, n⟩ = true) : ∃ v', (sampleE ⟨true, n, n, v, n⟩ n 0).1 = ⟨true, n, n, v', n⟩ := by
  rw [sampleE_d hr (by rw [hn]; rfl)]
  have hn0 := tick_iff.1 hn
  have e : adjI n 0 n = n := by rw [adjI, cutI, if_neg (by omega), if_neg (by omega)]; omega
  refine ⟨(3 * v + apartI n n).tdiv 4, ?_⟩
  unfold moreI
  simp only [low_self, e]
  rw [Int.tdiv_eq_ediv_of_nonneg (by omega), show (7 * n + n) / 8 = n by omega]
theorem steady_run {n : Int} (hn : tickB n = true) : ∀ (m : Nat) {v : Int}, rightB ⟨true, n, n, v, n⟩ = true → ∃ v', runQ 0 ⟨true, n, n, v, n⟩ (List.replicate m n) = ⟨true, n, n, v', n⟩
  | 0, v, _ => ⟨v, rfl⟩
  | m + 1, v, hr => by
    obtain ⟨v', e⟩ := steady_more hn hr
    have hr2 := (sample_right (n := n) (d := 0) hr (by rw [hn]; rfl)).1
    rw [e] at hr2
    obtain ⟨v'', e2⟩ := steady_run hn m hr2
    exact ⟨v'', by rw [List.replicate_succ, runQ, List.foldl_cons, e]; exact e2⟩
theorem steady_taken (n : Int) (m : Nat) : takenL 0 (List.replicate m n) = if tickB n = true then List.replicate m n else [] := by
  rw [takenL, List.filter_replicate]
  cases tickB n <;> simp [tickB]
theorem steady_yes {n : Int} (m : Nat) (hn : tickB n = true) : ∃ v, playQ 0 (List.replicate (m + 1) n) = ⟨true, n, n, v, n⟩ := by
  rw [playQ, play_taken, steady_taken, if_pos hn, List.replicate_succ, runQ, List.foldl_cons]
  have e : sampleE nul n 0 = (⟨true, n, n, n.tdiv 2, n⟩, 0) := sampleE_c right_nul (by rw [hn]; rfl)
  have hr2 := (sample_right (q := nul) (n := n) (d := 0) right_nul (by rw [hn]; rfl)).1
  rw [e] at hr2 ⊢
  exact steady_run hn m hr2
theorem steady_no {n : Int} (m : Nat) (hn : tickB n = false) : playQ 0 (List.replicate m n) = nul := play_none (by rw [steady_taken, hn]; rfl)
end Go.Proofs.Ytfcojlnbocncpaa
