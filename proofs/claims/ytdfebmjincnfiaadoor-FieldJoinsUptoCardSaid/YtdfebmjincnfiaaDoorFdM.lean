/- The mathematics of layer 17: a value's elements. -/
import Derived.Test.YtdfebmjincnfiaaDoorGen
set_option linter.unusedSimpArgs false
set_option linter.unusedVariables false
namespace Go.Proofs.YtdfebmjincnfiaaDoor
open Go.RowKit

def blank (b : UInt8) : Bool := b == 32 || b == 9
/-- without the blanks at its beginning; at both its ends -/
def ltrim : List UInt8 → List UInt8
  | [] => []
  | b :: l => if blank b then ltrim l else b :: l
def trim (l : List UInt8) : List UInt8 := (ltrim (ltrim l).reverse).reverse
def elem (l : List UInt8) : List (List UInt8) := if trim l = [] then [] else [trim l]
/-- 0: outside of a quoted string; 1: within; 2: behind a backslash within -/
def nxt (q : Nat) (b : UInt8) : Nat := if q = 0 then (if b = 34 then 1 else 0) else if q = 1 then (if b = 92 then 2 else if b = 34 then 0 else 1) else 1
def goE : Nat → List UInt8 → List UInt8 → List (List UInt8)
  | _, cur, [] => elem cur
  | q, cur, b :: l => if q = 0 ∧ b = 44 then elem cur ++ goE 0 [] l else goE (nxt q b) (cur ++ [b]) l
/-- a value's elements -/
def oneE (l : List UInt8) : List (List UInt8) := goE 0 [] l
def allE (vs : List (List UInt8)) : List (List UInt8) := vs.flatMap oneE
/-- no comma outside of a quoted string -/
def clean : Nat → List UInt8 → Bool
  | _, [] => true
  | q, b :: l => !(q == 0 && b == 44) && clean (nxt q b) l
def fin : Nat → List UInt8 → Nat
  | q, [] => q
  | q, b :: l => fin (nxt q b) l

theorem allE_app (a b : List (List UInt8)) : allE (a ++ b) = allE a ++ allE b := List.flatMap_append

/-- a list without a blank at its beginning -/
def solid (l : List UInt8) : Prop := ∀ b r, l = b :: r → blank b = false
theorem ltrim_blanks (p l : List UInt8) (hp : ∀ b ∈ p, blank b = true) : ltrim (p ++ l) = ltrim l := by
  induction p with
  | nil => rfl
  | cons b p ih => rw [List.cons_append, ltrim, if_pos (hp b (by simp)), ih (fun c hc => hp c (by simp [hc]))]
theorem ltrim_solid {l : List UInt8} (h : solid l) : ltrim l = l := by
  cases l with
  | nil => rfl
  | cons b r => rw [ltrim, if_neg (by rw [h b r rfl]; exact Bool.false_ne_true)]
theorem ltrim_is (l : List UInt8) : solid (ltrim l) := by
  induction l with
  | nil => intro b r h; cases h
  | cons b l ih =>
    rw [ltrim]
    by_cases hb : blank b = true
    · rw [if_pos hb]; exact ih
    · rw [if_neg hb]
      intro c r h
      simp only [List.cons.injEq] at h
      rw [← h.1]
      simpa using hb
theorem ltrim_split (l : List UInt8) : ∃ p, l = p ++ ltrim l ∧ ∀ b ∈ p, blank b = true := by
  induction l with
  | nil => exact ⟨[], rfl, by simp⟩
  | cons b l ih =>
    rw [ltrim]
    by_cases hb : blank b = true
    · obtain ⟨p, h1, h2⟩ := ih
      rw [if_pos hb]
      refine ⟨b :: p, by rw [List.cons_append, ← h1], fun c hc => ?_⟩
      rcases List.mem_cons.1 hc with rfl | hc
      · exact hb
      · exact h2 c hc
    · rw [if_neg hb]
      exact ⟨[], rfl, by simp⟩
/-- a text without blanks at its ends, and what lies round it -/
theorem trim_split (l : List UInt8) : ∃ p s, l = p ++ trim l ++ s ∧ (∀ b ∈ p, blank b = true) ∧ (∀ b ∈ s, blank b = true) ∧ solid (trim l) ∧ solid (trim l).reverse := by
  obtain ⟨p, h1, h2⟩ := ltrim_split l
  obtain ⟨s, h3, h4⟩ := ltrim_split (ltrim l).reverse
  have h5 : ltrim l = trim l ++ s.reverse := by
    have := congrArg List.reverse h3
    rw [List.reverse_reverse, List.reverse_append] at this
    exact this
  refine ⟨p, s.reverse, by rw [List.append_assoc, ← h5]; exact h1, h2, fun b hb => h4 b (by simpa using hb), ?_, ?_⟩
  · intro b r h
    refine ltrim_is l b (r ++ s.reverse) ?_
    rw [h5, h, List.cons_append]
  · rw [trim, List.reverse_reverse]
    exact ltrim_is _
theorem trim_around {p x s : List UInt8} (hp : ∀ b ∈ p, blank b = true) (hs : ∀ b ∈ s, blank b = true) (h1 : solid x) (h2 : solid x.reverse) : trim (p ++ x ++ s) = x := by
  rw [trim, List.append_assoc, ltrim_blanks p _ hp]
  by_cases hx : x = []
  · subst hx
    have := ltrim_blanks s [] hs
    rw [List.append_nil] at this
    rw [List.nil_append, this]
    rfl
  · have h3 : solid (x ++ s) := by
      intro b r h
      cases x with
      | nil => exact absurd rfl hx
      | cons c x => simp only [List.cons_append, List.cons.injEq] at h; exact h1 b x (by rw [h.1])
    rw [ltrim_solid h3, List.reverse_append, ltrim_blanks _ _ (fun b hb => hs b (by simpa using hb)), ltrim_solid h2, List.reverse_reverse]
theorem elem_around {p x s : List UInt8} (hp : ∀ b ∈ p, blank b = true) (hs : ∀ b ∈ s, blank b = true) (h1 : solid x) (h2 : solid x.reverse) (hx : x ≠ []) : elem (p ++ x ++ s) = [x] := by
  rw [elem, trim_around hp hs h1 h2, if_neg hx]

theorem clean_app (a b : List UInt8) : ∀ q, clean q (a ++ b) = (clean q a && clean (fin q a) b) := by
  induction a with
  | nil => intro q; rfl
  | cons c a ih => intro q; simp only [List.cons_append, clean, fin, ih, Bool.and_assoc]
theorem fin_app (a b : List UInt8) : ∀ q, fin q (a ++ b) = fin (fin q a) b := by
  induction a with
  | nil => intro q; rfl
  | cons c a ih => intro q; simp only [List.cons_append, fin, ih]
theorem blanks_fin {p : List UInt8} (hp : ∀ b ∈ p, blank b = true) : fin 0 p = 0 := by
  induction p with
  | nil => rfl
  | cons b p ih =>
    have hb := hp b (by simp)
    have : nxt 0 b = 0 := by
      unfold nxt
      rw [if_pos rfl, if_neg]
      intro e
      subst e
      exact absurd hb (by decide)
    rw [fin, this]
    exact ih fun c hc => hp c (by simp [hc])
theorem go_clean : ∀ (e r cur : List UInt8) (q : Nat), clean q e = true → goE q cur (e ++ r) = goE (fin q e) (cur ++ e) r := by
  intro e
  induction e with
  | nil => intro r cur q _; simp [fin]
  | cons b e ih =>
    intro r cur q h
    simp only [clean, Bool.and_eq_true, Bool.not_eq_true'] at h
    have hn : ¬ (q = 0 ∧ b = 44) := by
      rintro ⟨rfl, rfl⟩
      exact absurd h.1 (by decide)
    rw [List.cons_append, goE, if_neg hn, ih r (cur ++ [b]) (nxt q b) h.2, fin, List.append_assoc]
    rfl
/-- what an element is -/
def Elem17 (x : List UInt8) : Prop := x ≠ [] ∧ solid x ∧ solid x.reverse ∧ clean 0 x = true
theorem elem_of_clean {c x : List UInt8} (h : clean 0 c = true) (hx : x ∈ elem c) : Elem17 x := by
  obtain ⟨p, s, hc, hp, hs, h1, h2⟩ := trim_split c
  unfold elem at hx
  split at hx
  · cases hx
  · rename_i hne
    obtain rfl : x = trim c := by simpa using hx
    refine ⟨hne, h1, h2, ?_⟩
    rw [hc, clean_app, clean_app, blanks_fin hp, Bool.and_eq_true, Bool.and_eq_true] at h
    exact h.1.2
theorem go_elems : ∀ (l cur : List UInt8) (q : Nat), clean 0 cur = true → fin 0 cur = q → ∀ x ∈ goE q cur l, Elem17 x := by
  intro l
  induction l with
  | nil => intro cur q h _ x hx; exact elem_of_clean h hx
  | cons b l ih =>
    intro cur q h hf x hx
    rw [goE] at hx
    split at hx
    · rcases List.mem_append.1 hx with hx | hx
      · exact elem_of_clean h hx
      · exact ih [] 0 rfl rfl x hx
    · rename_i hn
      refine ih (cur ++ [b]) (nxt q b) ?_ ?_ x hx
      · rw [clean_app, h, hf, Bool.true_and]
        simp only [clean, Bool.and_true]
        by_cases hq : q = 0
        · subst hq
          have : b ≠ 44 := fun e => hn ⟨rfl, e⟩
          simp [this]
        · simp [hq]
      · rw [fin_app, hf]; rfl
theorem one_elems {l x : List UInt8} (hx : x ∈ oneE l) : Elem17 x := go_elems l [] 0 rfl rfl x hx
theorem all_elems {vs : List (List UInt8)} {x : List UInt8} (hx : x ∈ allE vs) : Elem17 x := by
  obtain ⟨v, _, hx⟩ := List.mem_flatMap.1 hx
  exact one_elems hx

/-- elements with commas between them -/
def sepE : List UInt8 := [32, 44, 44, 32]
def joinE : List (List UInt8) → List UInt8
  | [] => []
  | [x] => x
  | x :: y :: l => x ++ sepE ++ joinE (y :: l)
theorem go_join : ∀ (xs : List (List UInt8)) (x p : List UInt8), (∀ b ∈ p, blank b = true) → (∀ y ∈ x :: xs, Elem17 y ∧ fin 0 y = 0) → goE 0 p (joinE (x :: xs)) = x :: xs := by
  intro xs
  induction xs with
  | nil =>
    intro x p hp h
    obtain ⟨⟨hx, h1, h2, h3⟩, h4⟩ := h x (by simp)
    have g := go_clean x [] p 0 h3
    rw [List.append_nil] at g
    rw [joinE, g, h4, goE]
    have := elem_around hp (s := []) (by simp) h1 h2 hx
    rwa [List.append_nil] at this
  | cons y xs ih =>
    intro x p hp h
    obtain ⟨⟨hx, h1, h2, h3⟩, h4⟩ := h x (by simp)
    rw [joinE, List.append_assoc, go_clean x _ p 0 h3, h4]
    show goE 0 (p ++ x) (32 :: 44 :: 44 :: 32 :: joinE (y :: xs)) = _
    rw [goE, if_neg (by decide), goE, if_pos ⟨by decide, rfl⟩, goE, if_pos ⟨by decide, rfl⟩, goE, if_neg (by decide)]
    have e1 := elem_around hp (s := [32]) (by decide) h1 h2 hx
    rw [e1, show nxt 0 32 = 0 from rfl, show ([] ++ [(32 : UInt8)]) = [32] from rfl, ih y [32] (by decide) (fun z hz => h z (List.mem_cons_of_mem _ hz))]
    rfl
/-- P17.5 -/
theorem one_join {xs : List (List UInt8)} (h : ∀ y ∈ xs, Elem17 y ∧ fin 0 y = 0) : oneE (joinE xs) = xs := by
  cases xs with
  | nil => rfl
  | cons x xs => exact go_join xs x [] (by simp) h
end Go.Proofs.YtdfebmjincnfiaaDoor
