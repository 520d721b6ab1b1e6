/- Sets of numbers, told by spans: the mathematics of layer 5. -/
import Derived.Test.YtobalbaieakcmaaRows
set_option linter.unusedSimpArgs false
set_option linter.unusedVariables false
namespace Go.Proofs.Ytobalbaieakcmaa

/-- spans that rise, from least on -/
def riseB (least : Int) : List (Int × Int) → Bool
  | [] => true
  | s :: r => decide (least ≤ s.1 ∧ s.1 ≤ s.2 ∧ s.2 ≤ 4611686018427387903) && riseB (s.2 + 2) r
def rightB (ss : List (Int × Int)) : Bool := decide (ss.length ≤ 256) && riseB 0 ss
def inB (n : Int) : List (Int × Int) → Bool
  | [] => false
  | s :: r => decide (s.1 ≤ n ∧ n ≤ s.2) || inB n r
def sumL : List (Int × Int) → Int
  | [] => 0
  | s :: r => s.2 - s.1 + 1 + sumL r
def spanB (x y : Int) : Bool := decide (0 ≤ x ∧ x ≤ y ∧ y ≤ 4611686018427387903)

theorem rise_cons {l : Int} {s : Int × Int} {r : List (Int × Int)} : riseB l (s :: r) = true ↔ (l ≤ s.1 ∧ s.1 ≤ s.2 ∧ s.2 ≤ 4611686018427387903) ∧ riseB (s.2 + 2) r = true := by simp [riseB]
theorem rise_mono {l m : Int} {ss : List (Int × Int)} (h : riseB l ss = true) (hm : m ≤ l) : riseB m ss = true := by
  cases ss with
  | nil => rfl
  | cons s r => rw [rise_cons] at h ⊢; exact ⟨⟨by omega, h.1.2⟩, h.2⟩
theorem rise_mem {ss : List (Int × Int)} : ∀ {l : Int}, riseB l ss = true → ∀ s ∈ ss, l ≤ s.1 ∧ s.1 ≤ s.2 ∧ s.2 ≤ 4611686018427387903 := by
  induction ss with
  | nil => intro l _ s hs; cases hs
  | cons x r ih =>
    intro l h s hs
    rw [rise_cons] at h
    rcases List.mem_cons.1 hs with rfl | hs
    · exact h.1
    · have := ih h.2 s hs; omega
theorem rise_append {a b : List (Int × Int)} : ∀ {l m : Int}, riseB l a = true → (∀ s ∈ a, s.2 + 2 ≤ m) → riseB m b = true → l ≤ m → riseB l (a ++ b) = true := by
  induction a with
  | nil => intro l m _ _ h2 h3; exact rise_mono h2 h3
  | cons x r ih =>
    intro l m h1 h2 h3 h4
    rw [rise_cons] at h1
    rw [List.cons_append, rise_cons]
    exact ⟨h1.1, ih h1.2 (fun s hs => h2 s (List.mem_cons_of_mem _ hs)) h3 (h2 x (List.mem_cons_self ..))⟩
theorem in_cons {n : Int} {s : Int × Int} {r : List (Int × Int)} : inB n (s :: r) = true ↔ (s.1 ≤ n ∧ n ≤ s.2) ∨ inB n r = true := by simp [inB]
theorem in_append {n : Int} {a b : List (Int × Int)} : inB n (a ++ b) = (inB n a || inB n b) := by
  induction a with
  | nil => simp [inB]
  | cons s r ih => rw [List.cons_append, inB, inB, ih, Bool.or_assoc]
theorem in_mem {n : Int} {ss : List (Int × Int)} : inB n ss = true ↔ ∃ s ∈ ss, s.1 ≤ n ∧ n ≤ s.2 := by
  induction ss with
  | nil => simp [inB]
  | cons s r ih => rw [in_cons, ih]; simp
theorem in_rise {n l : Int} {ss : List (Int × Int)} (h : riseB l ss = true) (hn : inB n ss = true) : l ≤ n ∧ n ≤ 4611686018427387903 := by
  obtain ⟨s, hs, h1, h2⟩ := in_mem.1 hn
  have := rise_mem h s hs
  omega

/-- A SET HAS ONE LIST ALONE -/
theorem rise_inj {a : List (Int × Int)} : ∀ {b : List (Int × Int)} {l m : Int}, riseB l a = true → riseB m b = true → (∀ n, inB n a = inB n b) → a = b := by
  induction a with
  | nil =>
    intro b l m _ hb h
    cases b with
    | nil => rfl
    | cons s r =>
      rw [rise_cons] at hb
      have := h s.1
      rw [(in_cons (n := s.1)).2 (.inl ⟨Int.le_refl _, hb.1.2.1⟩)] at this
      simp [inB] at this
  | cons x a ih =>
    intro b l m ha hb h
    cases b with
    | nil =>
      rw [rise_cons] at ha
      have := h x.1
      rw [(in_cons (n := x.1)).2 (.inl ⟨Int.le_refl _, ha.1.2.1⟩)] at this
      simp [inB] at this
    | cons s r =>
      rw [rise_cons] at ha hb
      have a0 := fun n (hn : inB n a = true) => in_rise ha.2 hn
      have b0 := fun n (hn : inB n r = true) => in_rise hb.2 hn
      have e : ∀ n, ((x.1 ≤ n ∧ n ≤ x.2) ∨ inB n a = true) ↔ ((s.1 ≤ n ∧ n ≤ s.2) ∨ inB n r = true) := fun n => by
        rw [← in_cons, ← in_cons, h n]
      have e1 : x.1 = s.1 := by
        have h1 := (e x.1).1 (.inl ⟨Int.le_refl _, ha.1.2.1⟩)
        have h2 := (e s.1).2 (.inl ⟨Int.le_refl _, hb.1.2.1⟩)
        rcases h1 with h1 | h1
        · rcases h2 with h2 | h2
          · omega
          · have := a0 _ h2; omega
        · have q := b0 _ h1
          rcases h2 with h2 | h2
          · omega
          · have := a0 _ h2; omega
      have e2 : x.2 = s.2 := by
        have h1 := (e (x.2 + 1))
        have h2 := (e (s.2 + 1))
        have h3 := (e x.2).1 (.inl ⟨ha.1.2.1, Int.le_refl _⟩)
        have h4 := (e s.2).2 (.inl ⟨hb.1.2.1, Int.le_refl _⟩)
        by_cases hlt : x.2 < s.2
        · have := h1.2 (.inl ⟨by omega, by omega⟩)
          rcases this with this | this
          · omega
          · have := a0 _ this; omega
        · by_cases hgt : s.2 < x.2
          · have := h2.1 (.inl ⟨by omega, by omega⟩)
            rcases this with this | this
            · omega
            · have := b0 _ this; omega
          · omega
      obtain rfl : x = s := Prod.ext e1 e2
      rw [ih ha.2 hb.2 fun n => ?_]
      have := e n
      by_cases hn : x.2 + 2 ≤ n
      · rw [Bool.eq_iff_iff]
        constructor
        · intro k; rcases this.1 (.inr k) with q | q
          · omega
          · exact q
        · intro k; rcases this.2 (.inr k) with q | q
          · omega
          · exact q
      · have p1 : inB n a = false := by
          cases q : inB n a with
          | false => rfl
          | true => have := a0 _ q; omega
        have p2 : inB n r = false := by
          cases q : inB n r with
          | false => rfl
          | true => have := b0 _ q; omega
        rw [p1, p2]

theorem sum_rise {ss : List (Int × Int)} : ∀ {l : Int}, riseB l ss = true → l ≤ 4611686018427387905 → 0 ≤ sumL ss ∧ sumL ss + l ≤ 4611686018427387905 := by
  induction ss with
  | nil => intro l _ h; exact ⟨Int.le_refl _, by simpa [sumL] using h⟩
  | cons s r ih =>
    intro l h hl
    rw [rise_cons] at h
    have := ih h.2 (by omega)
    rw [sumL]
    omega

/-- how many spans end below n, from the first on; how many begin at n or below it -/
def upN (n : Int) : List (Int × Int) → Nat
  | [] => 0
  | s :: r => if s.2 < n then upN n r + 1 else 0
def bhN (n : Int) : List (Int × Int) → Nat
  | [] => 0
  | s :: r => if n < s.1 then 0 else bhN n r + 1
theorem upN_is {n : Int} : ∀ {ss : List (Int × Int)} {k : Nat}, k ≤ ss.length → (∀ t, t < k → (ss.getD t (0, 0)).2 < n) → (k < ss.length → ¬ (ss.getD k (0, 0)).2 < n) → upN n ss = k
  | [], k, h, _, _ => by simp at h; subst h; rfl
  | s :: r, 0, _, _, h2 => by
    have := h2 (by simp)
    simp at this
    rw [upN, if_neg (by omega)]
  | s :: r, k + 1, h0, h1, h2 => by
    have := h1 0 (by omega)
    simp at this
    rw [upN, if_pos this, upN_is (k := k) (by simpa using h0) (fun t ht => by have := h1 (t + 1) (by omega); simpa using this) (fun ht => by have := h2 (by simpa using ht); simpa using this)]
theorem bhN_is {n : Int} : ∀ {ss : List (Int × Int)} {k : Nat}, k ≤ ss.length → (∀ t, t < k → ¬ n < (ss.getD t (0, 0)).1) → (k < ss.length → n < (ss.getD k (0, 0)).1) → bhN n ss = k
  | [], k, h, _, _ => by simp at h; subst h; rfl
  | s :: r, 0, _, _, h2 => by
    have := h2 (by simp)
    simp at this
    rw [bhN, if_pos (by omega)]
  | s :: r, k + 1, h0, h1, h2 => by
    have := h1 0 (by omega)
    simp at this
    rw [bhN, if_neg (by omega), bhN_is (k := k) (by simpa using h0) (fun t ht => by have := h1 (t + 1) (by omega); simpa using this) (fun ht => by have := h2 (by simpa using ht); simpa using this)]
theorem upN_le (n : Int) : ∀ ss : List (Int × Int), upN n ss ≤ ss.length
  | [] => Nat.le_refl _
  | s :: r => by rw [upN]; have := upN_le n r; split <;> simp <;> omega
theorem bhN_le (n : Int) : ∀ ss : List (Int × Int), bhN n ss ≤ ss.length
  | [] => Nat.le_refl _
  | s :: r => by rw [bhN]; have := bhN_le n r; split <;> simp <;> omega
theorem up_le_bh {f t : Int} (hft : f ≤ t + 1) : ∀ {ss : List (Int × Int)} {l : Int}, riseB l ss = true → upN f ss ≤ bhN t ss
  | [], _, _ => Nat.le_refl _
  | s :: r, l, h => by
    rw [rise_cons] at h
    rw [upN, bhN]
    have := up_le_bh hft h.2
    split
    · rw [if_neg (by omega)]; omega
    · omega
/-- the order of a rising list -/
theorem rise_get {ss : List (Int × Int)} : ∀ {l : Int} {i j : Nat}, riseB l ss = true → i < j → j < ss.length → (ss.getD i (0, 0)).2 + 2 ≤ (ss.getD j (0, 0)).1 := by
  induction ss with
  | nil => intro l i j _ _ h; simp at h
  | cons s r ih =>
    intro l i j h hij hj
    rw [rise_cons] at h
    cases j with
    | zero => omega
    | succ j =>
      cases i with
      | zero =>
        have hj' : j < r.length := by simpa using hj
        have := rise_mem h.2 (r.getD j (0, 0)) (by simp [List.getD, List.getElem?_eq_getElem hj'])
        simpa using this.1
      | succ i => simpa using ih h.2 (Nat.lt_of_succ_lt_succ hij) (by simpa using hj)
theorem rise_getD {ss : List (Int × Int)} {l : Int} (h : riseB l ss = true) {j : Nat} (hj : j < ss.length) : l ≤ (ss.getD j (0, 0)).1 ∧ (ss.getD j (0, 0)).1 ≤ (ss.getD j (0, 0)).2 ∧ (ss.getD j (0, 0)).2 ≤ 4611686018427387903 :=
  rise_mem h _ (by simp [List.getD, List.getElem?_eq_getElem hj])

/-- THE SET WITH THE NUMBERS FROM f TO t -/
def addR : List (Int × Int) → Int → Int → List (Int × Int)
  | [], f, t => [(f, t)]
  | s :: r, f, t => if s.2 < f - 1 then s :: addR r f t else if t < s.1 - 1 then (f, t) :: s :: r else addR r (min f s.1) (max t s.2)
theorem add_rise : ∀ {ss : List (Int × Int)} {l f t : Int}, riseB l ss = true → l ≤ f → f ≤ t → t ≤ 4611686018427387903 → riseB l (addR ss f t) = true
  | [], l, f, t, _, h1, h2, h3 => by rw [addR, rise_cons]; exact ⟨⟨h1, h2, h3⟩, rfl⟩
  | s :: r, l, f, t, h, h1, h2, h3 => by
    rw [rise_cons] at h
    rw [addR]
    split
    · rw [rise_cons]; exact ⟨h.1, add_rise h.2 (by omega) h2 h3⟩
    · split
      · rw [rise_cons, rise_cons]; exact ⟨⟨h1, h2, h3⟩, ⟨by simp only; omega, h.1.2⟩, h.2⟩
      · exact add_rise (rise_mono h.2 (by omega)) (by omega) (by omega) (by omega)
theorem add_in (n : Int) : ∀ {ss : List (Int × Int)} {l f t : Int}, riseB l ss = true → f ≤ t → inB n (addR ss f t) = (decide (f ≤ n ∧ n ≤ t) || inB n ss)
  | [], l, f, t, _, h2 => by rw [addR]; rfl
  | s :: r, l, f, t, h, h2 => by
    rw [rise_cons] at h
    rw [addR]
    split
    · rw [inB, add_in n h.2 h2, inB, Bool.or_left_comm]
    · split
      · rfl
      · rw [add_in n h.2 (by omega), inB, ← Bool.or_assoc]
        congr 1
        rw [Bool.eq_iff_iff]; simp; omega
theorem add_len : ∀ (ss : List (Int × Int)) (f t : Int), (addR ss f t).length ≤ ss.length + 1
  | [], _, _ => Nat.le_refl _
  | s :: r, f, t => by
    rw [addR]
    split
    · have := add_len r f t; simp; omega
    · split
      · simp
      · have := add_len r (min f s.1) (max t s.2); simp; omega

/-- ADD AS THE PROGRAM HAS IT -/
def wholeP (ss : List (Int × Int)) (f t : Int) (b e : Nat) : Int × Int := if b < e then (min f (ss.getD b (0, 0)).1, max t (ss.getD (e - 1) (0, 0)).2) else (f, t)
def addP (ss : List (Int × Int)) (f t : Int) : List (Int × Int) :=
  ss.take (upN (f - 1) ss) ++ (wholeP ss f t (upN (f - 1) ss) (bhN (t + 1) ss) :: ss.drop (bhN (t + 1) ss))
theorem bh_max {t y : Int} : ∀ {r : List (Int × Int)}, riseB (y + 2) r = true → bhN (max t y + 1) r = bhN (t + 1) r
  | [], _ => rfl
  | s :: r, h => by
    rw [rise_cons] at h
    rw [bhN, bhN, bh_max (rise_mono h.2 (by omega))]
    by_cases c : t + 1 < s.1
    · rw [if_pos c, if_pos (by omega)]
    · rw [if_neg c, if_neg (by omega)]
theorem add_touch : ∀ {r : List (Int × Int)} {y f t : Int}, riseB (y + 2) r = true → f ≤ y + 1 → y ≤ t →
    addR r f t = (f, if 0 < bhN (t + 1) r then max t (r.getD (bhN (t + 1) r - 1) (0, 0)).2 else t) :: r.drop (bhN (t + 1) r)
  | [], y, f, t, _, _, _ => rfl
  | s :: r, y, f, t, h, h1, h2 => by
    rw [rise_cons] at h
    rw [addR, if_neg (by omega)]
    by_cases c : t + 1 < s.1
    · rw [if_pos (by omega), bhN, if_pos c]; simp
    · rw [if_neg (by omega), bhN, if_neg c, add_touch (y := s.2) h.2 (by omega) (by omega), bh_max h.2]
      rw [if_pos (Nat.succ_pos (bhN (t + 1) r)), List.drop_succ_cons, Nat.add_sub_cancel, show min f s.1 = f by omega]
      congr 2
      by_cases d : 0 < bhN (t + 1) r
      · rw [if_pos d]
        obtain ⟨k, hk⟩ : ∃ k, bhN (t + 1) r = k + 1 := ⟨bhN (t + 1) r - 1, by omega⟩
        rw [hk, Nat.add_sub_cancel]
        have := rise_getD h.2 (j := k) (by have := bhN_le (t + 1) r; omega)
        simp only [List.getD_cons_succ]
        omega
      · rw [if_neg d, show bhN (t + 1) r = 0 by omega]
        simp
theorem addP_eq {f t : Int} (hft : f ≤ t) : ∀ {ss : List (Int × Int)} {l : Int}, riseB l ss = true → addP ss f t = addR ss f t
  | [], _, _ => by simp [addP, addR, upN, bhN, wholeP]
  | s :: r, l, h => by
    rw [rise_cons] at h
    have ih := addP_eq hft h.2
    by_cases c : s.2 < f - 1
    · rw [addR, if_pos c, ← ih]
      unfold addP
      rw [upN, if_pos c, bhN, if_neg (by omega), List.take_succ_cons, List.drop_succ_cons, List.cons_append]
      congr 3
      unfold wholeP
      by_cases d : upN (f - 1) r < bhN (t + 1) r
      · rw [if_pos d, if_pos (by omega)]
        obtain ⟨k, hk⟩ : ∃ k, bhN (t + 1) r = k + 1 := ⟨bhN (t + 1) r - 1, by omega⟩
        rw [hk]; simp
      · rw [if_neg d, if_neg (by omega)]
    · rw [addR, if_neg c]
      by_cases d : t < s.1 - 1
      · rw [if_pos d]
        unfold addP
        rw [upN, if_neg c, bhN, if_pos (by omega)]
        simp [wholeP]
      · rw [if_neg d, add_touch (y := s.2) h.2 (by omega) (by omega), bh_max h.2]
        unfold addP
        rw [upN, if_neg c, bhN, if_neg (by omega), List.drop_succ_cons, List.take_zero, List.nil_append]
        unfold wholeP
        rw [if_pos (by omega), Nat.add_sub_cancel]
        congr 2
        by_cases q : 0 < bhN (t + 1) r
        · rw [if_pos q]
          obtain ⟨k, hk⟩ : ∃ k, bhN (t + 1) r = k + 1 := ⟨bhN (t + 1) r - 1, by omega⟩
          rw [hk, Nat.add_sub_cancel]
          have := rise_getD h.2 (j := k) (by have := bhN_le (t + 1) r; omega)
          simp only [List.getD_cons_succ]
          omega
        · rw [if_neg q, show bhN (t + 1) r = 0 by omega]
          simp

/-- ADD AS THE DOCUMENT's ANSWER HAS IT -/
def foldA (f t : Int) : List (Int × Int) → List (Int × Int) → List (Int × Int) → Int → Int → List (Int × Int)
  | [], low, high, x, y => low ++ (x, y) :: high
  | s :: r, low, high, x, y => if s.2 < f - 1 then foldA f t r (low ++ [s]) high x y else if t < s.1 - 1 then foldA f t r low (high ++ [s]) x y else foldA f t r low high (min x s.1) (max y s.2)
theorem fold_high {f t : Int} (hft : f ≤ t) {low : List (Int × Int)} {x y : Int} : ∀ {r high : List (Int × Int)} {l : Int}, riseB l r = true → t + 1 < l → foldA f t r low high x y = low ++ (x, y) :: (high ++ r)
  | [], high, l, _, _ => by simp [foldA]
  | s :: r, high, l, h, hl => by
    rw [rise_cons] at h
    rw [foldA, if_neg (by omega), if_pos (by omega), fold_high hft h.2 (by omega)]
    simp
theorem fold_touch {f t : Int} (hft : f ≤ t) {low : List (Int × Int)} : ∀ {r : List (Int × Int)} {x y : Int}, riseB (y + 2) r = true → f ≤ y + 1 → x ≤ f → foldA f t r low [] x (max t y) = low ++ addR r x (max t y)
  | [], x, y, _, _, _ => by simp [foldA, addR]
  | s :: r, x, y, h, h1, h2 => by
    rw [rise_cons] at h
    rw [foldA, addR, if_neg (show ¬ s.2 < f - 1 by omega), if_neg (show ¬ s.2 < x - 1 by omega)]
    by_cases d : t < s.1 - 1
    · rw [if_pos d, if_pos (show max t y < s.1 - 1 by omega), fold_high hft h.2 (by omega)]
      simp
    · rw [if_neg d, if_neg (show ¬ max t y < s.1 - 1 by omega), show max (max t y) s.2 = max t s.2 by omega]
      exact fold_touch hft h.2 (by omega) (by omega)
theorem fold_eq {f t : Int} (hft : f ≤ t) : ∀ {ss low : List (Int × Int)} {l : Int}, riseB l ss = true → foldA f t ss low [] f t = low ++ addR ss f t
  | [], low, l, _ => by simp [foldA, addR]
  | s :: r, low, l, h => by
    rw [rise_cons] at h
    rw [foldA, addR]
    by_cases c : s.2 < f - 1
    · rw [if_pos c, if_pos c, fold_eq hft h.2]; simp
    · rw [if_neg c, if_neg c]
      by_cases d : t < s.1 - 1
      · rw [if_pos d, if_pos d, fold_high hft h.2 (by omega)]; simp
      · rw [if_neg d, if_neg d]
        exact fold_touch hft h.2 (by omega) (by omega)

/-- WHAT LIES FROM a TO b -/
def clipL (a b : Int) : List (Int × Int) → List (Int × Int)
  | [] => []
  | s :: r => if max s.1 a ≤ min s.2 b then (max s.1 a, min s.2 b) :: clipL a b r else clipL a b r
theorem clip_in (a b n : Int) : ∀ ss : List (Int × Int), inB n (clipL a b ss) = (inB n ss && decide (a ≤ n ∧ n ≤ b))
  | [] => rfl
  | s :: r => by
    rw [clipL]
    split
    · rw [inB, clip_in a b n r, inB, Bool.and_or_distrib_right]
      congr 1
      rw [Bool.eq_iff_iff]; simp; omega
    · rw [clip_in a b n r, inB, Bool.and_or_distrib_right]
      rw [show (decide (s.1 ≤ n ∧ n ≤ s.2) && decide (a ≤ n ∧ n ≤ b)) = false by rw [Bool.eq_false_iff]; simp; omega, Bool.false_or]
theorem clip_rise {a b : Int} : ∀ {ss : List (Int × Int)} {l m : Int}, riseB l ss = true → m ≤ max l a → riseB m (clipL a b ss) = true
  | [], _, _, _, _ => rfl
  | s :: r, l, m, h, hm => by
    rw [rise_cons] at h
    rw [clipL]
    split
    · rw [rise_cons]; exact ⟨by simp only; omega, clip_rise h.2 (by simp only; omega)⟩
    · exact clip_rise h.2 (by omega)
theorem clip_top {a b : Int} : ∀ {ss : List (Int × Int)}, ∀ s ∈ clipL a b ss, a ≤ s.1 ∧ s.2 ≤ b
  | [], s, h => by cases h
  | x :: r, s, h => by
    rw [clipL] at h
    split at h
    · rcases List.mem_cons.1 h with rfl | h
      · exact ⟨by simp only; omega, by simp only; omega⟩
      · exact clip_top s h
    · exact clip_top s h
theorem clip_all {a b : Int} : ∀ {ss : List (Int × Int)}, (∀ s ∈ ss, a ≤ s.1 ∧ s.2 ≤ b ∧ s.1 ≤ s.2) → clipL a b ss = ss
  | [], _ => rfl
  | x :: r, h => by
    have := h x (List.mem_cons_self ..)
    rw [clipL, if_pos (by omega), clip_all fun s hs => h s (List.mem_cons_of_mem _ hs), show max x.1 a = x.1 by omega, show min x.2 b = x.2 by omega]
theorem clip_none {a b : Int} : ∀ {ss : List (Int × Int)} {l : Int}, riseB l ss = true → b < l → clipL a b ss = []
  | [], _, _, _ => rfl
  | x :: r, l, h, hb => by
    rw [rise_cons] at h
    rw [clipL, if_neg (by omega), clip_none h.2 (by omega)]
theorem clip_len {a b : Int} : ∀ ss : List (Int × Int), (clipL a b ss).length ≤ ss.length
  | [] => Nat.le_refl _
  | x :: r => by
    rw [clipL]
    have := clip_len (a := a) (b := b) r
    split <;> simp <;> omega
theorem clip_take {a b : Int} (ss : List (Int × Int)) (k : Nat) (hk : k < ss.length) :
    clipL a b (ss.take (k + 1)) = clipL a b (ss.take k) ++ (if max (ss.getD k (0, 0)).1 a ≤ min (ss.getD k (0, 0)).2 b then [(max (ss.getD k (0, 0)).1 a, min (ss.getD k (0, 0)).2 b)] else []) := by
  have app : ∀ xs ys : List (Int × Int), clipL a b (xs ++ ys) = clipL a b xs ++ clipL a b ys := by
    intro xs ys
    induction xs with
    | nil => rfl
    | cons x r ih => rw [List.cons_append, clipL, clipL, ih]; split <;> rfl
  rw [List.take_succ_eq_append_getElem hk, app]
  congr 1
  rw [clipL, clipL, show ss.getD k (0, 0) = ss[k] by simp [List.getD, hk]]

/-- one span, if there is any number from x to y -/
def apS (x y : Int) : List (Int × Int) := if y < x then [] else [(x, y)]
/-- THE SET WITHOUT THE NUMBERS FROM f TO t, as the program has it -/
def restP (ss : List (Int × Int)) (f t : Int) (b e : Nat) : List (Int × Int) := if b < e then apS (ss.getD b (0, 0)).1 (f - 1) ++ apS (t + 1) (ss.getD (e - 1) (0, 0)).2 else []
def takeP (ss : List (Int × Int)) (f t : Int) : List (Int × Int) := ss.take (upN f ss) ++ (restP ss f t (upN f ss) (bhN t ss) ++ ss.drop (bhN t ss))
def takeR (ss : List (Int × Int)) (f t : Int) : List (Int × Int) := clipL 0 (f - 1) ss ++ clipL (t + 1) 4611686018427387903 ss
theorem take_last {t : Int} : ∀ {r : List (Int × Int)} {s : Int × Int}, riseB (s.2 + 2) r = true → s.1 ≤ t →
    apS (t + 1) ((s :: r).getD (bhN t r) (0, 0)).2 ++ r.drop (bhN t r) = apS (t + 1) s.2 ++ clipL (t + 1) 4611686018427387903 r
  | [], s, _, _ => by simp [bhN, clipL]
  | x :: r, s, h, hs => by
    rw [rise_cons] at h
    by_cases c : t < x.1
    · rw [bhN, if_pos c, clip_all (ss := x :: r) fun q hq => by
        rcases List.mem_cons.1 hq with rfl | hq
        · omega
        · have := rise_mem h.2 q hq; omega]
      simp
    · rw [bhN, if_neg c, List.drop_succ_cons, List.getD_cons_succ, take_last h.2 (by omega)]
      rw [show apS (t + 1) s.2 = [] by rw [apS, if_pos (by omega)], List.nil_append, clipL]
      by_cases d : t + 1 ≤ x.2
      · rw [if_pos (by omega), apS, if_neg (by omega), show max x.1 (t + 1) = t + 1 by omega, show min x.2 4611686018427387903 = x.2 by omega]; rfl
      · rw [if_neg (by omega), apS, if_pos (by omega)]; rfl
theorem takeP_eq {f t : Int} (hft : f ≤ t) : ∀ {ss : List (Int × Int)} {l : Int}, riseB l ss = true → 0 ≤ l → takeP ss f t = takeR ss f t
  | [], _, _, _ => by simp [takeP, takeR, upN, bhN, restP, clipL]
  | s :: r, l, h, hl => by
    rw [rise_cons] at h
    have ih := takeP_eq hft h.2 (by omega)
    by_cases c : s.2 < f
    · have e1 : takeR (s :: r) f t = s :: takeR r f t := by
        unfold takeR
        rw [clipL, if_pos (by omega), clipL, if_neg (by omega), show max s.1 0 = s.1 by omega, show min s.2 (f - 1) = s.2 by omega]
        rfl
      rw [e1, ← ih]
      unfold takeP
      rw [upN, if_pos c, bhN, if_neg (by omega), List.take_succ_cons, List.drop_succ_cons, List.cons_append]
      congr 3
      unfold restP
      by_cases d : upN f r < bhN t r
      · rw [if_pos d, if_pos (by omega)]
        obtain ⟨k, hk⟩ : ∃ k, bhN t r = k + 1 := ⟨bhN t r - 1, by omega⟩
        rw [hk]; simp
      · rw [if_neg d, if_neg (by omega)]
    · by_cases d : t < s.1
      · have e1 : takeR (s :: r) f t = s :: r := by
          unfold takeR
          rw [clip_none (l := s.1) (rise_cons.2 ⟨⟨Int.le_refl _, h.1.2⟩, h.2⟩) (by omega), clip_all (ss := s :: r) fun q hq => by
            rcases List.mem_cons.1 hq with rfl | hq
            · omega
            · have := rise_mem h.2 q hq; omega]
          rfl
        rw [e1]
        unfold takeP
        rw [upN, if_neg c, bhN, if_pos d]
        simp [restP]
      · have e1 : takeR (s :: r) f t = apS s.1 (f - 1) ++ (apS (t + 1) s.2 ++ clipL (t + 1) 4611686018427387903 r) := by
          unfold takeR
          rw [clipL, clip_none h.2 (by omega), clipL]
          congr 1
          · by_cases q : s.1 ≤ f - 1
            · rw [if_pos (by omega), apS, if_neg (by omega), show max s.1 0 = s.1 by omega, show min s.2 (f - 1) = f - 1 by omega]
            · rw [if_neg (by omega), apS, if_pos (by omega)]
          · by_cases q : t + 1 ≤ s.2
            · rw [if_pos (by omega), apS, if_neg (by omega), show max s.1 (t + 1) = t + 1 by omega, show min s.2 4611686018427387903 = s.2 by omega]; rfl
            · rw [if_neg (by omega), apS, if_pos (by omega)]; rfl
        rw [e1, ← take_last h.2 (by omega)]
        unfold takeP
        rw [upN, if_neg c, bhN, if_neg d, List.take_zero, List.nil_append, List.drop_succ_cons]
        unfold restP
        rw [if_pos (by omega), Nat.add_sub_cancel, List.append_assoc]
        rfl
theorem take_rise {ss : List (Int × Int)} {f t : Int} (h : riseB 0 ss = true) (hf : 0 ≤ f) (hft : f ≤ t) : riseB 0 (takeR ss f t) = true :=
  rise_append (m := t + 1) (clip_rise h (by omega)) (fun s hs => by have := (clip_top s hs).2; omega) (clip_rise h (by omega)) (by omega)
theorem take_in {ss : List (Int × Int)} {f t : Int} (n : Int) (h : riseB 0 ss = true) (hft : f ≤ t) : inB n (takeR ss f t) = (inB n ss && !decide (f ≤ n ∧ n ≤ t)) := by
  unfold takeR
  rw [in_append, clip_in, clip_in]
  cases q : inB n ss with
  | false => rfl
  | true =>
    have := in_rise h q
    rw [Bool.eq_iff_iff]; simp; omega

/-- WHAT IS NOT IN A SET, from f to t -/
def gapP (t : Int) : List (Int × Int) → Int → List (Int × Int)
  | [], f => apS f t
  | s :: r, f => apS f (s.1 - 1) ++ gapP t r (s.2 + 1)
def gapR (t : Int) : List (Int × Int) → Int → List (Int × Int)
  | [], f => apS f t
  | s :: r, f => if s.2 < f then gapR t r f else if t < s.1 then apS f t else apS f (s.1 - 1) ++ gapR t r (s.2 + 1)
theorem ap_none {x y : Int} (h : y < x) : apS x y = [] := if_pos h
theorem ap_one {x y : Int} (h : x ≤ y) : apS x y = [(x, y)] := if_neg (by omega)
theorem ap_in (x y n : Int) : inB n (apS x y) = decide (x ≤ n ∧ n ≤ y) := by
  by_cases h : y < x
  · rw [ap_none h, inB]; symm; rw [decide_eq_false_iff_not]; omega
  · rw [ap_one (by omega), inB, inB, Bool.or_false]
theorem gapP_touch {t : Int} : ∀ {r : List (Int × Int)} {y : Int}, riseB (y + 2) r = true → gapP t (r.take (bhN t r)) (y + 1) = gapR t r (y + 1)
  | [], _, _ => rfl
  | s :: r, y, h => by
    rw [rise_cons] at h
    rw [gapR, if_neg (by omega), bhN]
    by_cases c : t < s.1
    · rw [if_pos c, if_pos c]; rfl
    · rw [if_neg c, if_neg c, List.take_succ_cons, gapP, gapP_touch h.2]
theorem gapP_eq {t : Int} : ∀ {ss : List (Int × Int)} {l f : Int}, riseB l ss = true → f ≤ t → gapP t ((ss.take (bhN t ss)).drop (upN f ss)) f = gapR t ss f
  | [], _, _, _, _ => rfl
  | s :: r, l, f, h, hft => by
    rw [rise_cons] at h
    rw [gapR, bhN, upN]
    by_cases c : s.2 < f
    · rw [if_pos c, if_pos c, if_neg (by omega), List.take_succ_cons, List.drop_succ_cons, gapP_eq h.2 hft]
    · rw [if_neg c, if_neg c]
      by_cases d : t < s.1
      · rw [if_pos d, if_pos d]; rfl
      · rw [if_neg d, if_neg d, List.take_succ_cons, List.drop_zero, gapP, gapP_touch h.2]
theorem gapC_touch {t f : Int} : ∀ {r : List (Int × Int)} {y : Int}, riseB (y + 2) r = true → f ≤ y + 1 → gapP t (clipL f t r) (min y t + 1) = gapR t r (y + 1)
  | [], y, _, _ => by
    show apS _ _ = apS _ _
    by_cases c : y ≤ t
    · rw [show min y t = y by omega]
    · rw [ap_none (by omega), ap_none (by omega)]
  | s :: r, y, h, hf => by
    rw [rise_cons] at h
    rw [gapR, if_neg (by omega), clipL]
    by_cases c : t < s.1
    · rw [if_pos c, if_neg (by omega), clip_none h.2 (by omega)]
      show apS _ _ = apS _ _
      by_cases c : y ≤ t
      · rw [show min y t = y by omega]
      · rw [ap_none (by omega), ap_none (by omega)]
    · rw [if_neg c, if_pos (by omega), gapP, gapC_touch h.2 (by omega), show max s.1 f = s.1 by omega, show min y t = y by omega]
theorem gapC_eq {t : Int} : ∀ {ss : List (Int × Int)} {l f : Int}, riseB l ss = true → f ≤ t → gapP t (clipL f t ss) f = gapR t ss f
  | [], _, _, _, _ => rfl
  | s :: r, l, f, h, hft => by
    rw [rise_cons] at h
    rw [gapR, clipL]
    by_cases c : s.2 < f
    · rw [if_pos c, if_neg (by omega), gapC_eq h.2 hft]
    · rw [if_neg c]
      by_cases d : t < s.1
      · rw [if_pos d, if_neg (by omega), clip_none h.2 (by omega)]; rfl
      · rw [if_neg d, if_pos (by omega), gapP, gapC_touch h.2 (by omega)]
        congr 1
        by_cases q : s.1 ≤ f
        · rw [ap_none (by simp only; omega), ap_none (by omega)]
        · rw [show max s.1 f = s.1 by omega]
theorem gap_in {t : Int} (n : Int) : ∀ {ss : List (Int × Int)} {l f : Int}, riseB l ss = true → inB n (gapR t ss f) = (decide (f ≤ n ∧ n ≤ t) && !inB n ss)
  | [], _, f, _ => by rw [gapR, ap_in, inB]; simp
  | s :: r, l, f, h => by
    rw [rise_cons] at h
    rw [gapR]
    by_cases c : s.2 < f
    · rw [if_pos c, gap_in n h.2, inB, Bool.eq_iff_iff]; simp; omega
    · rw [if_neg c]
      by_cases d : t < s.1
      · rw [if_pos d, ap_in]
        cases q : inB n (s :: r) with
        | false => simp
        | true =>
          have := in_rise (rise_cons.2 ⟨⟨Int.le_refl _, h.1.2⟩, h.2⟩) q
          rw [Bool.eq_iff_iff]; simp; omega
      · rw [if_neg d, in_append, ap_in, gap_in n h.2, inB]
        cases q : inB n r with
        | false => rw [Bool.eq_iff_iff]; simp; omega
        | true =>
          have := in_rise h.2 q
          rw [Bool.eq_iff_iff]; simp; omega
theorem gap_rise {t : Int} (ht : t ≤ 4611686018427387903) : ∀ {ss : List (Int × Int)} {l f : Int}, riseB l ss = true → riseB f (gapR t ss f) = true
  | [], _, f, _ => by
    rw [gapR]
    by_cases c : t < f
    · rw [ap_none c]; rfl
    · rw [ap_one (by omega), rise_cons]; exact ⟨⟨Int.le_refl _, by simp only; omega, ht⟩, rfl⟩
  | s :: r, l, f, h => by
    rw [rise_cons] at h
    rw [gapR]
    split
    · exact gap_rise ht h.2
    · split
      · by_cases c : t < f
        · rw [ap_none c]; rfl
        · rw [ap_one (by omega), rise_cons]; exact ⟨⟨Int.le_refl _, by simp only; omega, ht⟩, rfl⟩
      · by_cases c : s.1 - 1 < f
        · rw [ap_none c, List.nil_append]; exact rise_mono (gap_rise ht h.2) (by omega)
        · rw [ap_one (by omega), List.singleton_append, rise_cons]
          exact ⟨⟨Int.le_refl _, by simp only; omega, by simp only; omega⟩, rise_mono (gap_rise ht h.2) (by simp only; omega)⟩
theorem gap_top {t : Int} : ∀ {ss : List (Int × Int)} {l f : Int}, riseB l ss = true → ∀ s ∈ gapR t ss f, s.2 ≤ t
  | [], _, f, _, s, hs => by
    rw [gapR, apS] at hs
    split at hs <;> simp at hs
    subst hs; exact Int.le_refl _
  | x :: r, l, f, h, s, hs => by
    rw [rise_cons] at h
    rw [gapR] at hs
    split at hs
    · exact gap_top h.2 s hs
    · split at hs
      · rw [apS] at hs
        split at hs <;> simp at hs
        subst hs; exact Int.le_refl _
      · rcases List.mem_append.1 hs with hs | hs
        · rw [apS] at hs
          split at hs <;> simp at hs
          subst hs; simp only; omega
        · exact gap_top h.2 s hs
theorem gap_len {t : Int} : ∀ (ss : List (Int × Int)) (f : Int), (gapR t ss f).length ≤ ss.length + 1
  | [], f => by rw [gapR, apS]; split <;> simp
  | s :: r, f => by
    have h1 := gap_len (t := t) r f
    have h2 := gap_len (t := t) r (s.2 + 1)
    rw [gapR]
    split
    · simp; omega
    · split
      · rw [apS]; split <;> simp
      · rw [apS]; split <;> simp <;> omega
theorem sum_append (a b : List (Int × Int)) : sumL (a ++ b) = sumL a + sumL b := by
  induction a with
  | nil => simp [sumL]
  | cons x r ih => rw [List.cons_append, sumL, sumL, ih]; omega
theorem gap_sum {t : Int} : ∀ {ss : List (Int × Int)} {l f : Int}, riseB l ss = true → f ≤ t + 1 → sumL (gapR t ss f) + sumL (clipL f t ss) = t - f + 1
  | [], l, f, _, hf => by
    rw [gapR, clipL]
    by_cases c : t < f
    · rw [ap_none c]; simp [sumL]; omega
    · rw [ap_one (by omega)]; simp [sumL]
  | s :: r, l, f, h, hf => by
    rw [rise_cons] at h
    rw [gapR, clipL]
    by_cases c : s.2 < f
    · rw [if_pos c, if_neg (by omega), gap_sum h.2 hf]
    · rw [if_neg c]
      by_cases d : t < s.1
      · rw [if_pos d, if_neg (by omega), clip_none h.2 (by omega)]
        by_cases q : t < f
        · rw [ap_none q]; simp [sumL]; omega
        · rw [ap_one (by omega)]; simp [sumL]
      · rw [if_neg d]
        have cl : ∀ {r : List (Int × Int)} {l : Int}, riseB l r = true → f ≤ l → s.2 + 1 ≤ l → clipL f t r = clipL (s.2 + 1) t r := by
          intro r
          induction r with
          | nil => intro _ _ _ _; rfl
          | cons x r ih =>
            intro l h h1 h2
            rw [rise_cons] at h
            rw [clipL, clipL, ih h.2 (by omega) (by omega), show max x.1 f = max x.1 (s.2 + 1) by omega]
        by_cases e : f ≤ t
        · rw [if_pos (by omega), sumL, sum_append, cl h.2 (by omega) (by omega)]
          by_cases g : s.2 ≤ t
          · have := gap_sum (t := t) (f := s.2 + 1) h.2 (by omega)
            by_cases q : s.1 - 1 < f
            · rw [ap_none q, sumL]; simp only; omega
            · rw [ap_one (by omega), sumL, sumL]; simp only; omega
          · have z1 : clipL (s.2 + 1) t r = [] := clip_none h.2 (by omega)
            have z2 : gapR t r (s.2 + 1) = [] := by
              cases hr : r with
              | nil => exact ap_none (by omega)
              | cons x r' =>
                rw [hr, rise_cons] at h
                rw [gapR, if_neg (by omega), if_pos (by omega), ap_none (by omega)]
            rw [z1, z2]
            by_cases q : s.1 - 1 < f
            · rw [ap_none q]; simp only [sumL]; omega
            · rw [ap_one (by omega)]; simp only [sumL]; omega
        · rw [if_neg (by omega), clip_none h.2 (by omega), sum_append, ap_none (by omega)]
          have z2 : gapR t r (s.2 + 1) = [] := by
            cases hr : r with
            | nil => exact ap_none (by omega)
            | cons x r' =>
              rw [hr, rise_cons] at h
              rw [gapR, if_neg (by omega), if_pos (by omega), ap_none (by omega)]
          rw [z2]; simp [sumL]; omega
end Go.Proofs.Ytobalbaieakcmaa
