/- Mathematics of layer 12: rooms and words of a code; bits; what bits are decoded to. -/
import Derived.Test.YtjaeccealfeakaaGen
set_option maxRecDepth 100000
namespace Go.Proofs.Ytjaeccealfeakaa

/-- how many words of 24 bits begin with one of n bits -/
def roomN (n : Nat) : Nat := if n = 0 then 0 else 2 ^ (24 - n)
def sumN : List Nat → Nat
  | [] => 0
  | n :: r => roomN n + sumN r
/-- room of the shorter ones -/
def shortN : List Nat → Nat → Nat
  | [], _ => 0
  | m :: r, n => (if m < n then roomN m else 0) + shortN r n
/-- room of those of n bits -/
def evenN : List Nat → Nat → Nat
  | [], _ => 0
  | m :: r, n => (if m = n then roomN m else 0) + evenN r n

theorem short_succ (l : List Nat) (n : Nat) : shortN l (n + 1) = shortN l n + evenN l n := by
  induction l with
  | nil => rfl
  | cons m r ih =>
    simp only [shortN, evenN, ih]
    by_cases h : m < n
    · rw [if_pos h, if_pos (show m < n + 1 by omega), if_neg (show ¬ m = n by omega)]; omega
    · by_cases h2 : m = n
      · rw [if_neg h, if_pos (show m < n + 1 by omega), if_pos h2]; omega
      · rw [if_neg h, if_neg (show ¬ m < n + 1 by omega), if_neg h2]; omega
theorem short_mono (l : List Nat) {n k : Nat} (h : n ≤ k) : shortN l n ≤ shortN l k := by
  induction h with
  | refl => exact Nat.le_refl _
  | step _ ih => rw [short_succ]; omega
theorem short_zero (l : List Nat) : shortN l 0 = 0 := by
  induction l with
  | nil => rfl
  | cons m r ih => simp [shortN, ih]
theorem short_all (l : List Nat) (h : ∀ n ∈ l, n ≤ 24) : shortN l 25 = sumN l := by
  induction l with
  | nil => rfl
  | cons m r ih => rw [shortN, sumN, ih fun n hn => h n (by simp [hn]), if_pos (by have := h m (by simp); omega)]
theorem even_append (a b : List Nat) (n : Nat) : evenN (a ++ b) n = evenN a n + evenN b n := by
  induction a with
  | nil => simp [evenN]
  | cons m r ih => rw [List.cons_append, evenN, evenN, ih]; omega
theorem even_take (l : List Nat) (i n : Nat) (hi : i < l.length) : evenN (l.take (i + 1)) n = evenN (l.take i) n + (if l[i] = n then roomN n else 0) := by
  rw [List.take_succ_eq_append_getElem hi, even_append]
  simp only [evenN, Nat.add_zero]
  by_cases h : l[i] = n
  · rw [if_pos h, if_pos h, h]
  · rw [if_neg h, if_neg h]
theorem even_take_le (l : List Nat) (n : Nat) {i k : Nat} (h : i ≤ k) : evenN (l.take i) n ≤ evenN (l.take k) n := by
  rw [← Nat.add_sub_cancel' h, List.take_add, even_append]; omega
theorem even_take_all (l : List Nat) (i n : Nat) : evenN (l.take i) n ≤ evenN l n := by
  have := even_append (l.take i) (l.drop i) n
  rw [List.take_append_drop] at this
  omega

/-- WHERE THE WORDS OF n BITS GO ON, behind i symbols -/
def posN (l : List Nat) (n i : Nat) : Nat := shortN l n + evenN (l.take i) n
theorem pos_zero (l : List Nat) (n : Nat) : posN l n 0 = shortN l n := by simp [posN, evenN]
theorem pos_end (l : List Nat) (n : Nat) : posN l n l.length = shortN l (n + 1) := by rw [posN, List.take_length, short_succ]
theorem pos_step (l : List Nat) (n i : Nat) (hi : i < l.length) : posN l n (i + 1) = posN l n i + (if l[i] = n then roomN n else 0) := by
  rw [posN, even_take l i n hi, posN]; omega
theorem pos_mono (l : List Nat) (n : Nat) {i k : Nat} (h : i ≤ k) : posN l n i ≤ posN l n k := by
  have := even_take_le l n h
  unfold posN; omega
theorem pos_le (l : List Nat) (n i : Nat) : posN l n i ≤ shortN l (n + 1) := by
  have := even_take_all l i n
  rw [short_succ]; unfold posN; omega

/-- a symbol's word: its bits as a number, and how many -/
def wordN (l : List Nat) (i : Nat) : Nat × Nat := (posN l (l.getD i 0) i / 2 ^ (24 - l.getD i 0), l.getD i 0)
theorem word_zero {l : List Nat} {i : Nat} (h : l.getD i 0 = 0) : wordN l i = (0, 0) := by
  rw [wordN, h]
  have e0 : ∀ r : List Nat, evenN r 0 = 0 := fun r => by
    induction r with
    | nil => rfl
    | cons m r ih => rw [evenN, ih]; by_cases h : m = 0 <;> simp [h, roomN]
  rw [posN, short_zero, e0]
def wordsN (l : List Nat) : List (Nat × Nat) := (List.range l.length).map (wordN l)
theorem words_len (l : List Nat) : (wordsN l).length = l.length := by simp [wordsN]
theorem words_get (l : List Nat) (i : Nat) (hi : i < l.length) : (wordsN l)[i]? = some (wordN l i) := by simp [wordsN, hi]
theorem words_getD (l : List Nat) (i : Nat) (hi : i < l.length) : (wordsN l).getD i (0, 0) = wordN l i := by rw [List.getD, words_get l i hi]; rfl

/-- A CODE THAT MAY BE -/
structure CodeOk (l : List Nat) : Prop where
  few : l.length ≤ 256
  short : ∀ n ∈ l, n ≤ 24
  sum : sumN l < 16777216

theorem CodeOk.at {l : List Nat} (h : CodeOk l) (i : Nat) : l.getD i 0 ≤ 24 := by
  by_cases hi : i < l.length
  · exact h.short _ (by simp [List.getD, hi])
  · simp [List.getD, List.getElem?_eq_none (Nat.le_of_not_lt hi)]
theorem CodeOk.short_le {l : List Nat} (h : CodeOk l) (n : Nat) (hn : n ≤ 25) : shortN l n < 16777216 := by
  have := short_mono l hn
  rw [short_all l h.short] at this
  have := h.sum
  omega

theorem room_pos {n : Nat} (h : 0 < n) : roomN n = 2 ^ (24 - n) := if_neg (by omega)
theorem dvd_room {n m : Nat} (h : m ≤ n) : 2 ^ (24 - n) ∣ roomN m := by
  unfold roomN
  by_cases h0 : m = 0
  · rw [if_pos h0]; exact Nat.dvd_zero _
  · rw [if_neg h0]; exact Nat.pow_dvd_pow 2 (by omega)
theorem dvd_short (l : List Nat) {n k : Nat} (h : k ≤ n + 1) : 2 ^ (24 - n) ∣ shortN l k := by
  induction l with
  | nil => exact Nat.dvd_zero _
  | cons m r ih =>
    rw [shortN]
    refine Nat.dvd_add ?_ ih
    by_cases hm : m < k
    · rw [if_pos hm]; exact dvd_room (by omega)
    · rw [if_neg hm]; exact Nat.dvd_zero _
theorem dvd_even (l : List Nat) (n : Nat) : 2 ^ (24 - n) ∣ evenN l n := by
  induction l with
  | nil => exact Nat.dvd_zero _
  | cons m r ih =>
    rw [evenN]
    refine Nat.dvd_add ?_ ih
    by_cases hm : m = n
    · rw [if_pos hm, hm]; exact dvd_room (Nat.le_refl _)
    · rw [if_neg hm]; exact Nat.dvd_zero _
theorem dvd_pos (l : List Nat) (n i : Nat) : 2 ^ (24 - n) ∣ posN l n i := Nat.dvd_add (dvd_short l (by omega)) (dvd_even _ n)
theorem pos_div (l : List Nat) (n i : Nat) : posN l n i / 2 ^ (24 - n) * 2 ^ (24 - n) = posN l n i := Nat.div_mul_cancel (dvd_pos l n i)

/-- a word ends ahead of where those behind it begin -/
theorem pos_behind {l : List Nat} {i : Nat} (hi : i < l.length) {n : Nat} (hn : l[i] = n) : posN l n i + roomN n ≤ shortN l (n + 1) := by
  have := pos_step l n i hi
  rw [if_pos hn] at this
  have := pos_le l n (i + 1)
  omega
theorem getD_of {l : List Nat} {i : Nat} (hi : i < l.length) : l.getD i 0 = l[i] := by simp [List.getD, hi]
theorem lt_of_len {l : List Nat} {i : Nat} (h : 0 < l.getD i 0) : i < l.length := by
  by_cases hi : i < l.length
  · exact hi
  · simp [List.getD, List.getElem?_eq_none (Nat.le_of_not_lt hi)] at h
/-- no word is all bits 1 -/
theorem word_room {l : List Nat} (h : CodeOk l) {i : Nat} (h0 : 0 < l.getD i 0) : (wordN l i).1 + 1 < 2 ^ l.getD i 0 := by
  have hi := lt_of_len h0
  have h24 := h.at i
  have e := getD_of hi
  generalize l.getD i 0 = n at *
  have hp := pos_behind hi e.symm
  have hs := h.short_le (n + 1) (by omega)
  have hd := pos_div l n i
  rw [room_pos h0] at hp
  have ew : (wordN l i).1 = posN l n i / 2 ^ (24 - n) := by
    rw [wordN, getD_of hi, ← e]
  rw [ew]
  have hpp : 0 < 2 ^ (24 - n) := Nat.pow_pos (by decide)
  have h24' : 2 ^ n * 2 ^ (24 - n) = 16777216 := by rw [← Nat.pow_add, show n + (24 - n) = 24 by omega]
  refine Nat.lt_of_mul_lt_mul_right (a := 2 ^ (24 - n)) ?_
  rw [h24', Nat.add_mul, hd]
  omega
/-- no word begins another one -/
theorem word_free {l : List Nat} (h : CodeOk l) {i k : Nat} (h0 : 0 < l.getD i 0) (hle : l.getD i 0 ≤ l.getD k 0) (hne : i ≠ k) : (wordN l k).1 / 2 ^ (l.getD k 0 - l.getD i 0) ≠ (wordN l i).1 := by
  have hi := lt_of_len h0
  have hk := lt_of_len (Nat.lt_of_lt_of_le h0 hle)
  have hk24 := h.at k
  intro heq
  have ei := getD_of hi
  have ek := getD_of hk
  have wi : (wordN l i).1 = posN l (l.getD i 0) i / 2 ^ (24 - l.getD i 0) := rfl
  have wk : (wordN l k).1 = posN l (l.getD k 0) k / 2 ^ (24 - l.getD k 0) := rfl
  rw [wi, wk] at heq
  generalize hn : l.getD i 0 = n at *
  generalize hm : l.getD k 0 = m at *
  rw [Nat.div_div_eq_div_mul, ← Nat.pow_add, show 24 - m + (m - n) = 24 - n by omega] at heq
  have hpp : 0 < 2 ^ (24 - n) := Nat.pow_pos (by decide)
  have di := pos_div l n i
  have b1 : posN l n i ≤ posN l m k := by
    rw [← di, ← heq]; exact Nat.div_mul_le_self _ _
  have b2 : posN l m k < posN l n i + 2 ^ (24 - n) := by
    have := Nat.lt_mul_div_succ (posN l m k) hpp
    rw [heq, Nat.mul_add, Nat.mul_comm, di] at this
    omega
  have hb := pos_behind hi ei.symm
  rw [room_pos h0] at hb
  by_cases hlt : n < m
  · have := short_mono l (show n + 1 ≤ m by omega)
    have : shortN l m ≤ posN l m k := by unfold posN; omega
    omega
  · obtain rfl : n = m := by omega
    rcases Nat.lt_or_gt_of_ne hne with hik | hki
    · have := pos_mono l n (show i + 1 ≤ k by omega)
      have := pos_step l n i hi
      rw [if_pos ei.symm, room_pos h0] at this
      omega
    · have := pos_mono l n (show k + 1 ≤ i by omega)
      have := pos_step l n k hk
      rw [if_pos ek.symm, room_pos h0] at this
      omega

/-! ### words among words -/
/-- the first symbol that has this word -/
def symN (W : List (Nat × Nat)) (b n : Nat) : Option Nat := W.findIdx? fun w => decide (w = (b, n))
/-- WHAT IS ASKED OF WORDS -/
structure WordsOk (W : List (Nat × Nat)) : Prop where
  few : W.length ≤ 256
  long : ∀ i, (W.getD i (0, 0)).2 ≤ 24
  nil : ∀ i, (W.getD i (0, 0)).2 = 0 → (W.getD i (0, 0)).1 = 0
  room : ∀ i, 0 < (W.getD i (0, 0)).2 → (W.getD i (0, 0)).1 + 1 < 2 ^ (W.getD i (0, 0)).2
  free : ∀ i k, 0 < (W.getD i (0, 0)).2 → (W.getD i (0, 0)).2 ≤ (W.getD k (0, 0)).2 → i ≠ k → (W.getD k (0, 0)).1 / 2 ^ ((W.getD k (0, 0)).2 - (W.getD i (0, 0)).2) ≠ (W.getD i (0, 0)).1
theorem words_out {l : List Nat} {i : Nat} (hi : ¬ i < l.length) : (wordsN l).getD i (0, 0) = (0, 0) := by
  rw [List.getD, List.getElem?_eq_none (by rw [words_len]; omega)]; rfl
theorem CodeOk.words {l : List Nat} (h : CodeOk l) : WordsOk (wordsN l) := by
  have g : ∀ i, (wordsN l).getD i (0, 0) = if i < l.length then wordN l i else (0, 0) := fun i => by
    by_cases hi : i < l.length
    · rw [if_pos hi, words_getD l i hi]
    · rw [if_neg hi, words_out hi]
  have g2 : ∀ i, ((wordsN l).getD i (0, 0)).2 = l.getD i 0 := fun i => by
    rw [g]
    by_cases hi : i < l.length
    · rw [if_pos hi]; rfl
    · rw [if_neg hi]; simp [List.getD, List.getElem?_eq_none (Nat.le_of_not_lt hi)]
  refine ⟨by rw [words_len]; exact h.few, fun i => by rw [g2]; exact h.at i, fun i h0 => ?_, fun i h0 => ?_, fun i k h0 hle hne => ?_⟩
  · rw [g2] at h0
    rw [g]
    by_cases hi : i < l.length
    · rw [if_pos hi, word_zero h0]
    · rw [if_neg hi]
  · rw [g2] at h0 ⊢
    rw [g, if_pos (lt_of_len h0)]
    exact word_room h h0
  · rw [g2] at h0 hle ⊢
    rw [g2] at hle ⊢
    rw [g, g, if_pos (lt_of_len h0), if_pos (lt_of_len (Nat.lt_of_lt_of_le h0 hle))]
    exact word_free h h0 hle hne
theorem sym_some {W : List (Nat × Nat)} {b n i : Nat} (h : symN W b n = some i) : i < W.length ∧ W.getD i (0, 0) = (b, n) := by
  obtain ⟨hi, h1, _⟩ := List.findIdx?_eq_some_iff_getElem.1 h
  exact ⟨hi, by simpa [List.getD, hi] using h1⟩
theorem sym_none {W : List (Nat × Nat)} {b n : Nat} (h : symN W b n = none) (i : Nat) (hi : i < W.length) : W.getD i (0, 0) ≠ (b, n) := by
  have := List.findIdx?_eq_none_iff.1 h W[i] (List.getElem_mem hi)
  simpa [List.getD, hi] using this
theorem WordsOk.inj {W : List (Nat × Nat)} (h : WordsOk W) {i k : Nat} (h0 : 0 < (W.getD i (0, 0)).2) (he : W.getD i (0, 0) = W.getD k (0, 0)) : i = k := by
  by_cases e : i = k
  · exact e
  · have := h.free i k h0 (by rw [he]; exact Nat.le_refl _) e
    rw [he] at this
    simp at this
theorem WordsOk.sym {W : List (Nat × Nat)} (h : WordsOk W) {i : Nat} (hi : i < W.length) (h0 : 0 < (W.getD i (0, 0)).2) : symN W (W.getD i (0, 0)).1 (W.getD i (0, 0)).2 = some i := by
  cases hs : symN W (W.getD i (0, 0)).1 (W.getD i (0, 0)).2 with
  | none => exact absurd rfl (sym_none hs i hi)
  | some k => rw [h.inj h0 (sym_some hs).2.symm]
/-- what a longer word begins with is no word -/
theorem WordsOk.sym_part {W : List (Nat × Nat)} (h : WordsOk W) {i j : Nat} (hj0 : 0 < j) (hj : j < (W.getD i (0, 0)).2) : symN W ((W.getD i (0, 0)).1 / 2 ^ ((W.getD i (0, 0)).2 - j)) j = none := by
  cases hs : symN W ((W.getD i (0, 0)).1 / 2 ^ ((W.getD i (0, 0)).2 - j)) j with
  | none => rfl
  | some k =>
    have e := (sym_some hs).2
    have e2 : (W.getD k (0, 0)).2 = j := by rw [e]
    have e1 : (W.getD k (0, 0)).1 = (W.getD i (0, 0)).1 / 2 ^ ((W.getD i (0, 0)).2 - j) := by rw [e]
    by_cases hki : k = i
    · subst hki; omega
    · have := h.free k i (by rw [e2]; exact hj0) (by rw [e2]; omega) hki
      rw [e2, e1] at this
      exact absurd rfl this
theorem WordsOk.sym_ones {W : List (Nat × Nat)} (h : WordsOk W) {n : Nat} (h0 : 0 < n) : symN W (2 ^ n - 1) n = none := by
  cases hs : symN W (2 ^ n - 1) n with
  | none => rfl
  | some k =>
    have e := (sym_some hs).2
    have := h.room k (by rw [e]; exact h0)
    rw [e] at this
    have : 0 < 2 ^ n := Nat.pow_pos (by decide)
    simp only at *
    omega

/-! ### bits -/
/-- n bits of a number, the highest first -/
def bd (b : Nat) : Nat → List Nat
  | 0 => []
  | n + 1 => b / 2 ^ n % 2 :: bd b n
theorem bd_len (b n : Nat) : (bd b n).length = n := by
  induction n with
  | zero => rfl
  | succ n ih => simp [bd, ih]
theorem bd_bit (b n : Nat) : ∀ x ∈ bd b n, x < 2 := by
  induction n with
  | zero => simp [bd]
  | succ n ih =>
    intro x hx
    rcases List.mem_cons.1 hx with rfl | hx
    · omega
    · exact ih x hx
theorem bd_get (b n i : Nat) (hi : i < n) : (bd b n).getD i 0 = b / 2 ^ (n - 1 - i) % 2 := by
  induction n generalizing i with
  | zero => omega
  | succ n ih =>
    cases i with
    | zero => simp [bd, List.getD]
    | succ i =>
      have := ih i (by omega)
      simp only [bd, List.getD, List.getElem?_cons_succ] at this ⊢
      rw [this, show n + 1 - 1 - (i + 1) = n - 1 - i by omega]
theorem bd_split (b n m : Nat) : bd b (n + m) = bd (b / 2 ^ m) n ++ bd b m := by
  induction n with
  | zero => simp [bd]
  | succ n ih =>
    rw [Nat.succ_add, bd, ih, bd, Nat.div_div_eq_div_mul, ← Nat.pow_add, Nat.add_comm m n]
    rfl
theorem bd_mod (b n : Nat) {m : Nat} (h : n ≤ m) : bd (b % 2 ^ m) n = bd b n := by
  induction n with
  | zero => rfl
  | succ n ih =>
    rw [bd, bd, ih (by omega)]
    congr 1
    have e : 2 ^ m = 2 ^ n * 2 ^ (m - n) := by rw [← Nat.pow_add, show n + (m - n) = m by omega]
    rw [e, Nat.mod_mul_right_div_self, Nat.mod_mod_of_dvd]
    exact ⟨2 ^ (m - n - 1), by rw [← Nat.pow_succ']; congr 1; omega⟩
theorem bd_push (b x n : Nat) (hx : x < 2) : bd b n ++ [x] = bd (2 * b + x) (n + 1) := by
  rw [bd_split (2 * b + x) n 1]
  have e1 : (2 * b + x) / 2 ^ 1 = b := by omega
  have e2 : bd (2 * b + x) 1 = [x] := by simp [bd]; omega
  rw [e1, e2]
theorem bd_ones (n : Nat) : bd (2 ^ n - 1) n = List.replicate n 1 := by
  induction n with
  | zero => rfl
  | succ n ih =>
    have hp : 0 < 2 ^ n := Nat.pow_pos (by decide)
    have e : (2 ^ (n + 1) - 1) % 2 ^ n = 2 ^ n - 1 := by
      rw [show 2 ^ (n + 1) - 1 = (2 ^ n - 1) + 2 ^ n by rw [Nat.pow_succ]; omega, Nat.add_mod_right, Nat.mod_eq_of_lt (by omega)]
    have e2 : (2 ^ (n + 1) - 1) / 2 ^ n = 1 := by
      rw [show 2 ^ (n + 1) - 1 = (2 ^ n - 1) + 2 ^ n by rw [Nat.pow_succ]; omega, Nat.add_div_right _ hp, Nat.div_eq_of_lt (by omega)]
    rw [bd, e2, ← bd_mod _ n (Nat.le_refl n), e, ih]
    rfl
theorem bd_inj {a b : Nat} : ∀ {n : Nat}, a < 2 ^ n → b < 2 ^ n → bd a n = bd b n → a = b
  | 0, ha, hb, _ => by simp at ha hb; omega
  | n + 1, ha, hb, h => by
    simp only [bd, List.cons.injEq] at h
    have hp : 0 < 2 ^ n := Nat.pow_pos (by decide)
    rw [Nat.pow_succ] at ha hb
    have h1 : a / 2 ^ n = b / 2 ^ n := by
      have ha' : a / 2 ^ n < 2 := (Nat.div_lt_iff_lt_mul hp).2 (by omega)
      have hb' : b / 2 ^ n < 2 := (Nat.div_lt_iff_lt_mul hp).2 (by omega)
      have e := h.1
      rw [Nat.mod_eq_of_lt ha', Nat.mod_eq_of_lt hb'] at e
      exact e
    have h2 : a % 2 ^ n = b % 2 ^ n := bd_inj (Nat.mod_lt _ hp) (Nat.mod_lt _ hp) (by rw [bd_mod _ n (Nat.le_refl n), bd_mod _ n (Nat.le_refl n)]; exact h.2)
    rw [← Nat.div_add_mod a (2 ^ n), ← Nat.div_add_mod b (2 ^ n), h1, h2]

/-- bytes' bits -/
def unp (xs : List Int) : List Nat := xs.flatMap fun x => bd x.toNat 8
theorem unp_append (a b : List Int) : unp (a ++ b) = unp a ++ unp b := by simp [unp]
theorem unp_cons (a : Int) (b : List Int) : unp (a :: b) = bd a.toNat 8 ++ unp b := rfl
theorem unp_one (a : Int) : unp [a] = bd a.toNat 8 := by simp [unp]
theorem unp_len (xs : List Int) : (unp xs).length = 8 * xs.length := by
  induction xs with
  | nil => rfl
  | cons x r ih => rw [unp_cons, List.length_append, bd_len, ih, List.length_cons]; omega
theorem unp_bit (xs : List Int) : ∀ x ∈ unp xs, x < 2 := by
  intro x hx
  obtain ⟨y, _, hy⟩ := List.mem_flatMap.1 hx
  exact bd_bit _ _ x hy
theorem unp_inj : ∀ {a b : List Int}, Bts a → Bts b → unp a = unp b → a = b
  | [], [], _, _, _ => rfl
  | [], y :: b, _, _, h => by have := congrArg List.length h; rw [unp_len, unp_len] at this; simp at this
  | x :: a, [], _, _, h => by have := congrArg List.length h; rw [unp_len, unp_len] at this; simp at this
  | x :: a, y :: b, ha, hb, h => by
    rw [unp_cons, unp_cons] at h
    obtain ⟨h1, h2⟩ := List.append_inj h (by rw [bd_len, bd_len])
    have hx := ha x (by simp)
    have hy := hb y (by simp)
    have e : x.toNat = y.toNat := bd_inj (n := 8) (by show _ < 256; omega) (by show _ < 256; omega) h1
    rw [show x = y by omega, unp_inj (fun z hz => ha z (by simp [hz])) (fun z hz => hb z (by simp [hz])) h2]
theorem unp_drop (xs : List Int) (i : Nat) (hi : i < xs.length) : (unp xs).drop (8 * i) = bd (xs.getD i 0).toNat 8 ++ (unp xs).drop (8 * (i + 1)) := by
  have e : xs = xs.take i ++ xs.getD i 0 :: xs.drop (i + 1) := by
    rw [List.getD, List.getElem?_eq_getElem hi]
    simp
  have l1 : (unp (xs.take i)).length = 8 * i := by rw [unp_len, List.length_take]; omega
  have a : unp xs = unp (xs.take i) ++ (bd (xs.getD i 0).toNat 8 ++ unp (xs.drop (i + 1))) := by
    conv => lhs; rw [e]
    rw [unp_append, unp_cons]
  have l2 : (unp (xs.take i) ++ bd (xs.getD i 0).toNat 8).length = 8 * (i + 1) := by rw [List.length_append, l1, bd_len]; omega
  have e1 : (unp xs).drop (8 * i) = bd (xs.getD i 0).toNat 8 ++ unp (xs.drop (i + 1)) := by rw [a]; exact List.drop_left' l1
  have e2 : (unp xs).drop (8 * (i + 1)) = unp (xs.drop (i + 1)) := by rw [a, ← List.append_assoc]; exact List.drop_left' l2
  rw [e1, e2]

/-! ### symbols' bits, and what bits are decoded to -/
def encN (W : List (Nat × Nat)) (ys : List Int) : List Nat := ys.flatMap fun s => bd (W.getD s.toNat (0, 0)).1 (W.getD s.toNat (0, 0)).2
/-- bits 1 up to the end of the byte -/
def fillN (q : List Nat) : List Nat := q ++ List.replicate ((8 - q.length % 8) % 8) 1
/-- every symbol has a word -/
def HasN (W : List (Nat × Nat)) (ys : List Int) : Prop := ∀ s ∈ ys, s.toNat < W.length ∧ (W.getD s.toNat (0, 0)).2 ≠ 0
def decN (W : List (Nat × Nat)) : List Nat → Nat → Nat → Option (List Int)
  | [], b, n => if n > 7 ∨ b ≠ 2 ^ n - 1 then none else some []
  | x :: r, b, n => match symN W (2 * b + x) (n + 1) with
    | some s => (decN W r 0 0).map ((s : Int) :: ·)
    | none => if n + 1 = 24 then none else decN W r (2 * b + x) (n + 1)
theorem enc_cons (W : List (Nat × Nat)) (s : Int) (ys : List Int) : encN W (s :: ys) = bd (W.getD s.toNat (0, 0)).1 (W.getD s.toNat (0, 0)).2 ++ encN W ys := rfl
theorem enc_append (W : List (Nat × Nat)) (a b : List Int) : encN W (a ++ b) = encN W a ++ encN W b := by simp [encN]

theorem dec_word {W : List (Nat × Nat)} (h : WordsOk W) {i : Nat} (hi : i < W.length) (r : List Nat) : ∀ (d j : Nat), j + d = (W.getD i (0, 0)).2 → 0 < d →
    decN W (bd (W.getD i (0, 0)).1 d ++ r) ((W.getD i (0, 0)).1 / 2 ^ d) j = (decN W r 0 0).map ((i : Int) :: ·)
  | 0, _, _, h0 => by omega
  | d + 1, j, hd, _ => by
    have h24 := h.long i
    rw [bd, List.cons_append, decN]
    have e : 2 * ((W.getD i (0, 0)).1 / 2 ^ (d + 1)) + (W.getD i (0, 0)).1 / 2 ^ d % 2 = (W.getD i (0, 0)).1 / 2 ^ d := by
      rw [Nat.pow_succ, ← Nat.div_div_eq_div_mul]; omega
    rw [e]
    by_cases hd0 : d = 0
    · subst hd0
      have es : symN W ((W.getD i (0, 0)).1 / 2 ^ 0) (j + 1) = some i := by
        have := h.sym hi (show 0 < (W.getD i (0, 0)).2 by omega)
        rw [Nat.pow_zero, Nat.div_one, show j + 1 = (W.getD i (0, 0)).2 by omega]
        exact this
      rw [es]; rfl
    · have es : symN W ((W.getD i (0, 0)).1 / 2 ^ d) (j + 1) = none := by
        have := h.sym_part (i := i) (j := j + 1) (by omega) (by omega)
        rw [show (W.getD i (0, 0)).2 - (j + 1) = d by omega] at this
        exact this
      rw [es]
      simp only
      rw [if_neg (by omega)]
      exact dec_word h hi r d (j + 1) (by omega) (by omega)
theorem dec_ones {W : List (Nat × Nat)} (h : WordsOk W) : ∀ (m k : Nat), k + m ≤ 7 → decN W (List.replicate m 1) (2 ^ k - 1) k = some []
  | 0, k, hk => by
    rw [List.replicate_zero, decN, if_neg]
    omega
  | m + 1, k, hk => by
    have hp : 0 < 2 ^ k := Nat.pow_pos (by decide)
    rw [List.replicate_succ, decN]
    have e : 2 * (2 ^ k - 1) + 1 = 2 ^ (k + 1) - 1 := by rw [Nat.pow_succ]; omega
    rw [e, h.sym_ones (by omega)]
    simp only
    rw [if_neg (by omega)]
    exact dec_ones h m (k + 1) (by omega)
/-- WHAT IS ENCODED IS DECODED -/
theorem dec_enc {W : List (Nat × Nat)} (h : WordsOk W) (m : Nat) (hm : m ≤ 7) : ∀ ys : List Int, (∀ s ∈ ys, 0 ≤ s) → HasN W ys → decN W (encN W ys ++ List.replicate m 1) 0 0 = some ys
  | [], _, _ => by
    have := dec_ones h m 0 (by omega)
    simpa [encN] using this
  | s :: ys, h0, hh => by
    obtain ⟨hs, hn⟩ := hh s (by simp)
    have := dec_word h hs (encN W ys ++ List.replicate m 1) (W.getD s.toNat (0, 0)).2 0 (by omega) (by omega)
    have hr : (W.getD s.toNat (0, 0)).1 / 2 ^ (W.getD s.toNat (0, 0)).2 = 0 := Nat.div_eq_of_lt (by have := h.room s.toNat (by omega); omega)
    rw [hr] at this
    rw [enc_cons, List.append_assoc, this, dec_enc h m hm ys (fun z hz => h0 z (by simp [hz])) (fun z hz => hh z (by simp [hz]))]
    have := h0 s (by simp)
    rw [show ((s.toNat : Nat) : Int) = s by omega]
    rfl
/-- WHAT IS DECODED IS ENCODED TO THE SAME BITS -/
theorem enc_dec {W : List (Nat × Nat)} : ∀ (bs : List Nat) (b n : Nat) (ys : List Int), (∀ x ∈ bs, x < 2) → decN W bs b n = some ys →
    (∃ m, m ≤ 7 ∧ bd b n ++ bs = encN W ys ++ List.replicate m 1) ∧ HasN W ys ∧ (∀ s ∈ ys, 0 ≤ s ∧ s < W.length)
  | [], b, n, ys, _, h => by
    rw [decN] at h
    split at h
    · cases h
    · rename_i hc
      cases h
      refine ⟨⟨n, by omega, ?_⟩, (by intro s hs; cases hs), (by intro s hs; cases hs)⟩
      rw [show b = 2 ^ n - 1 by omega, bd_ones]; simp [encN]
  | x :: r, b, n, ys, hb, h => by
    have hx := hb x (by simp)
    have hr : ∀ y ∈ r, y < 2 := fun y hy => hb y (by simp [hy])
    rw [decN] at h
    have ex : bd b n ++ x :: r = bd (2 * b + x) (n + 1) ++ r := by rw [← bd_push b x n hx]; simp
    cases hs : symN W (2 * b + x) (n + 1) with
    | none =>
      rw [hs] at h
      simp only at h
      split at h
      · cases h
      · have := enc_dec r _ _ ys hr h
        rw [ex]; exact this
    | some s =>
      rw [hs] at h
      simp only at h
      obtain ⟨zs, hz, rfl⟩ := Option.map_eq_some_iff.1 h
      obtain ⟨⟨m, hm, e⟩, h2, h3⟩ := enc_dec r 0 0 zs hr hz
      obtain ⟨hl, he⟩ := sym_some hs
      refine ⟨⟨m, hm, ?_⟩, ?_, ?_⟩
      · rw [ex, enc_cons, Int.toNat_natCast, he]
        simp only [bd, List.nil_append] at e
        rw [e, List.append_assoc]
      · intro t ht
        rcases List.mem_cons.1 ht with rfl | ht
        · rw [Int.toNat_natCast, he]; exact ⟨hl, by simp⟩
        · exact h2 t ht
      · intro t ht
        rcases List.mem_cons.1 ht with rfl | ht
        · omega
        · exact h3 t ht
theorem fill_len (q : List Nat) : (fillN q).length % 8 = 0 := by simp [fillN]; omega
theorem fill_of {q : List Nat} {m k : Nat} (hm : m ≤ 7) (h : q.length + m = 8 * k) : q ++ List.replicate m 1 = fillN q := by
  rw [fillN, show (8 - q.length % 8) % 8 = m by omega]
theorem fill_back (q : List Nat) : ∃ m, m ≤ 7 ∧ fillN q = q ++ List.replicate m 1 := ⟨_, by omega, rfl⟩
/-- WHAT BYTES ARE DECODED TO IS ENCODED TO THEM -/
theorem fill_dec {W : List (Nat × Nat)} {b ys : List Int} (h : decN W (unp b) 0 0 = some ys) : fillN (encN W ys) = unp b ∧ HasN W ys ∧ (∀ s ∈ ys, 0 ≤ s ∧ s < W.length) := by
  obtain ⟨⟨m, hm, e⟩, h2, h3⟩ := enc_dec _ _ _ _ (unp_bit b) h
  simp only [bd, List.nil_append] at e
  refine ⟨?_, h2, h3⟩
  rw [e]
  refine (fill_of hm (k := b.length) ?_).symm
  have := congrArg List.length e
  rw [unp_len, List.length_append, List.length_replicate] at this
  omega

/-- the document's way: one bit too many is refused -/
def decR (W : List (Nat × Nat)) : List Nat → Nat → Nat → Option (List Int)
  | [], b, n => if n > 7 ∨ b ≠ 2 ^ n - 1 then none else some []
  | x :: r, b, n => if n + 1 > 24 then none else match symN W (2 * b + x) (n + 1) with
    | some s => (decR W r 0 0).map ((s : Int) :: ·)
    | none => decR W r (2 * b + x) (n + 1)
theorem decR_24 (W : List (Nat × Nat)) (bs : List Nat) (b n : Nat) (h : 24 ≤ n) : decR W bs b n = none := by
  cases bs with
  | nil => rw [decR, if_pos (by omega)]
  | cons x r => rw [decR, if_pos (by omega)]
theorem decR_eq (W : List (Nat × Nat)) : ∀ (bs : List Nat) (b n : Nat), n < 24 → decR W bs b n = decN W bs b n
  | [], b, n, _ => rfl
  | x :: r, b, n, h => by
    rw [decR, decN, if_neg (by omega)]
    cases symN W (2 * b + x) (n + 1) with
    | some s => simp only; rw [decR_eq W r 0 0 (by decide)]
    | none =>
      simp only
      by_cases e : n + 1 = 24
      · rw [if_pos e, decR_24 _ _ _ _ (by omega)]
      · rw [if_neg e, decR_eq W r _ _ (by omega)]
end Go.Proofs.Ytjaeccealfeakaa
