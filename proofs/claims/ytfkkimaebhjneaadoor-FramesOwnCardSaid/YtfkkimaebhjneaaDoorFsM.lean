/- Layer 4, plain: what is encoded is decoded. -/
import Derived.Test.YtfkkimaebhjneaaDoorFrL
import Derived.Test.YtfkkimaebhjneaaDoorFrY
set_option linter.unusedSimpArgs false
set_option linter.unusedVariables false
namespace Go.Proofs.YtfkkimaebhjneaaDoor
open Go.RowKit

/-- ys IS WHAT STANDS FROM PLACE i ON -/
def Suf (xs : List Int) (i : Nat) (ys : List Int) : Prop := ∃ pre, xs = pre ++ ys ∧ pre.length = i
theorem Suf.step {xs : List Int} {i : Nat} {a ys : List Int} (h : Suf xs i (a ++ ys)) : Suf xs (i + a.length) ys := by
  obtain ⟨pre, rfl, rfl⟩ := h
  exact ⟨pre ++ a, by simp, by simp⟩
theorem Suf.le {xs : List Int} {i : Nat} {ys : List Int} (h : Suf xs i ys) : i + ys.length = xs.length := by
  obtain ⟨pre, rfl, rfl⟩ := h
  simp
theorem Suf.assoc {xs : List Int} {i : Nat} {a b ys : List Int} (h : Suf xs i (a ++ b ++ ys)) : Suf xs i (a ++ (b ++ ys)) := by rwa [← List.append_assoc]

theorem num_E {xs : List Int} {i : Nat} {n : Int} {ys : List Int} (h : Suf xs i (E n ++ ys)) (h0 : 0 ≤ n) (h1 : n ≤ 4611686018427387903) : num xs i = .ok (n, i + (E n).length) := by
  obtain ⟨pre, rfl, rfl⟩ := h
  have hs := sizeI_in (fits_of h0 h1)
  have hg := getS_enc pre ys n (sizeI n) hs.1 hs.2
  unfold num
  rw [show E n = enc n (sizeI n) from rfl, hg, enc_len _ _ hs.1]
theorem atMost_E {xs : List Int} {i : Nat} {n most why : Int} {ys : List Int} (h : Suf xs i (E n ++ ys)) (h0 : 0 ≤ n) (h1 : n ≤ 4611686018427387903) (h2 : n ≤ most) : atMostR xs i most why = .ok (n, i + (E n).length) := by
  unfold atMostR
  rw [num_E h h0 h1]
  exact if_neg (by omega)
theorem span_E {xs : List Int} {i : Nat} {s : Int × Int} {ys : List Int} (h : Suf xs i (E (s.2 - s.1) ++ ys)) (h0 : 0 ≤ s.1) (h1 : s.1 ≤ s.2) (h2 : s.2 ≤ 4611686018427387903) : spanR xs i s.2 = .ok (s, i + (E (s.2 - s.1)).length) := by
  unfold spanR
  rw [atMost_E h (by omega) (by omega) (by omega)]
  show Except.ok ((s.2 - (s.2 - s.1), s.2), _) = _
  rw [show s.2 - (s.2 - s.1) = s.1 by omega]

/-- spans that fall, below hi -/
def Falls (hi : Int × Int) : List (Int × Int) → Prop
  | [] => True
  | s :: r => 0 ≤ s.1 ∧ s.1 ≤ s.2 ∧ s.2 + 2 ≤ hi.1 ∧ hi.1 ≤ 4611686018427387903 ∧ Falls s r
theorem more_E {xs ys : List Int} : ∀ {l : List (Int × Int)} {hi : Int × Int} {i : Nat} {acc : List (Int × Int)}, Suf xs i (downL hi l ++ ys) → Falls hi l → moreR xs l.length hi.1 i acc = .ok (l.reverse ++ acc, i + (downL hi l).length)
  | [], hi, i, acc, _, _ => by simp [moreR, downL]
  | s :: r, hi, i, acc, h, hf => by
    obtain ⟨f1, f2, f3, f4, f5⟩ := hf
    rw [downL, List.append_assoc, List.append_assoc] at h
    have e1 := atMost_E (most := hi.1 - 2) (why := 5) h (by omega) (by omega) (by omega)
    have h2 := h.step
    have e2 := span_E h2 f1 f2 (by omega)
    have e3 := more_E (acc := s :: acc) h2.step f5
    rw [List.length_cons, moreR, e1]
    show (match spanR xs (i + (E (hi.1 - s.2 - 2)).length) (hi.1 - 2 - (hi.1 - s.2 - 2)) with | .error e => _ | .ok (s, j') => _) = _
    rw [show hi.1 - 2 - (hi.1 - s.2 - 2) = s.2 by omega, e2]
    show moreR xs r.length s.1 _ (s :: acc) = _
    rw [e3, downL]
    simp [Nat.add_assoc]
theorem Rises.snoc {A : List (Int × Int)} {s h : Int × Int} (hr : Rises (A ++ [s, h])) : Rises (A ++ [s]) ∧ s.2 + 2 ≤ h.1 := by
  induction A with
  | nil => exact ⟨⟨hr.1, hr.2.1, hr.2.2.2.1⟩, hr.2.2.1⟩
  | cons a A ih =>
    cases A with
    | nil =>
      obtain ⟨h1, h2, h3, h4, h5⟩ := hr
      have := ih h5
      exact ⟨⟨h1, h2, h3, h4, this.1⟩, this.2⟩
    | cons b A =>
      obtain ⟨h1, h2, h3, h4, h5⟩ := hr
      have := ih h5
      exact ⟨⟨h1, h2, h3, h4, this.1⟩, this.2⟩
theorem Rises.last {A : List (Int × Int)} {s : Int × Int} (hr : Rises (A ++ [s])) : 0 ≤ s.1 ∧ s.1 ≤ s.2 ∧ s.2 ≤ 4611686018427387903 := by
  have := hr.at A.length (by simp)
  simpa [List.getD] using this
theorem Rises.falls : ∀ {r : List (Int × Int)} {h : Int × Int}, Rises (r.reverse ++ [h]) → Falls h r
  | [], _, _ => trivial
  | s :: r, h, hr => by
    have e : (s :: r).reverse ++ [h] = r.reverse ++ [s, h] := by simp
    rw [e] at hr
    obtain ⟨h1, h2⟩ := hr.snoc
    have h3 := h1.last
    have h4 : 0 ≤ h.1 ∧ h.1 ≤ h.2 ∧ h.2 ≤ 4611686018427387903 := by
      rw [show r.reverse ++ [s, h] = (r.reverse ++ [s]) ++ [h] by simp] at hr
      exact hr.last
    exact ⟨h3.1, h3.2.1, h2, by omega, h1.falls⟩
theorem spans_E {xs ys : List Int} {i : Nat} {ss : List (Int × Int)} (h : Suf xs i (spanBytes ss ++ ys)) (hr : Rises ss) (h1 : 1 ≤ ss.length) (h32 : ss.length ≤ 32) : spansR xs i (lastTo ss) = .ok (ss, i + (spanBytes ss).length) := by
  obtain ⟨l, r, hlr⟩ : ∃ l r, ss.reverse = l :: r := by
    cases hc : ss.reverse with
    | nil =>
      have e : ss = [] := by simpa using hc
      rw [e] at h1; simp at h1
    | cons l r => exact ⟨l, r, rfl⟩
  have hss : ss = r.reverse ++ [l] := by
    have := congrArg List.reverse hlr
    simpa using this
  have hb : spanBytes ss = E (r.length : Int) ++ E (l.2 - l.1) ++ downL l r := by unfold spanBytes; rw [hlr]
  have hlast : lastTo ss = l.2 := by
    unfold lastTo
    rw [hss]
    simp [List.getD]
  have hl : ss.length = r.length + 1 := by rw [hss]; simp
  rw [hss] at hr
  have v := hr.last
  rw [hb, List.append_assoc, List.append_assoc] at h
  have e1 := atMost_E (most := 31) (why := 6) h (by omega) (by omega) (by omega)
  have e2 := span_E h.step v.1 v.2.1 v.2.2
  have e3 := more_E (acc := [l]) h.step.step hr.falls
  unfold spansR
  rw [e1]
  show (match spanR xs (i + (E (r.length : Int)).length) (lastTo ss) with | .error e => _ | .ok (s, j') => _) = _
  rw [hlast, e2]
  show moreR xs ((r.length : Int)).toNat l.1 _ [l] = _
  rw [show ((r.length : Int)).toNat = r.length by omega, e3, ← hss, hb]
  simp [Nat.add_assoc]
theorem data_E {xs ys ds : List Int} {i : Nat} (h : Suf xs i (ds ++ ys)) : dataR xs i ds.length = .ok (ds, i + ds.length) := by
  have hl := h.le
  rw [List.length_append] at hl
  unfold dataR
  rw [if_neg (by omega)]
  obtain ⟨pre, rfl, rfl⟩ := h
  simp
theorem E_small {n : Int} (h0 : 0 ≤ n) (h1 : n < 64) : E n = [n] := by
  have f1 : fitsB n 1 = true := by simp only [fitsB, decide_eq_true_eq, Int.reduceMul, Int.reduceSub, Int.reduceToNat, Int.reducePow]; omega
  have hs : sizeI n = 1 := by unfold sizeI; rw [if_pos f1]
  unfold E enc
  rw [hs, if_pos rfl]
  simp [be, bm1]
  omega
end Go.Proofs.YtfkkimaebhjneaaDoor
