/- Layer 14, out of layer L12's text HfM. -/
/- Layer 14, out of layer L12's text HfW. -/
/- Layer 14, out of layer L12's text HfA. -/
/- Layer 14, out of layer L12's text HfB. -/
/- Layer 14, out of layer L12's text HfC. -/
/- Layer 14, out of layer L12's text HfP. -/
/- Layer 14, out of layer L12's text HfE. -/
/- Layer 14, out of layer L12's text HfS. -/
/- Layer 14, out of layer L12's text HfT. -/
/- Layer 14, out of layer L12's text HfD. -/
/- Layer 14, out of layer L12's text HfF. -/
/- Layer 14, out of layer L12's text HfG. -/
/- Layer 14, out of layer L12's text HfJ. -/
/- Layer 14, out of layer L12's text HfK. -/
/- Layer 14, out of layer L12's text HfL. -/
/- Layer 14, out of layer L12's text HfN. -/
/- Layer 14, out of layer L12's text HfO. -/
/- Layer 14, out of layer L12's text HfR. -/
/- Layer 14, out of layer L12's text HfU. -/
import Derived.Test.YtbkbabaoockigaaGreatDoorPk0
import Derived.BigQuiet
import Derived.Laws.BitsLemmas
import Derived.StillTailTactics
import Derived.Deep.DeepCutAuto
import Derived.Laws.Rows
import Derived.Laws.CopyOwn
import Derived.Deep.RegionHeld3
import Derived.Maps.RangeWalk
import Derived.DeepKeys5
import Derived.WalkArith
import Derived.ChangeKeysEq
import Derived.Lib.OthersKept
import Derived.Lib.ConvBytes
set_option maxRecDepth 100000
set_option maxRecDepth 100000
namespace Go.Proofs.YtbkbabaoockigaaGreatDoor

/-- how many words of 24 bits begin with one of n bits -/
def roomN (n : Nat) : Nat := if n = 0 then 0 else 2 ^ (24 - n)
def sumN : List Nat → Nat
  | [] => 0
  | n :: r => roomN n + sumN r
/-- room of the shorter ones -/
def shortN : List Nat → Nat → Nat
  | [], _ => 0
  | m :: r, n => (if m < n then roomN m else 0) + shortN r n
/-- room of those of n bits -/
def evenN : List Nat → Nat → Nat
  | [], _ => 0
  | m :: r, n => (if m = n then roomN m else 0) + evenN r n

theorem short_succ (l : List Nat) (n : Nat) : shortN l (n + 1) = shortN l n + evenN l n := by
  induction l with
  | nil => rfl
  | cons m r ih =>
    simp only [shortN, evenN, ih]
    by_cases h : m < n
    · rw [if_pos h, if_pos (show m < n + 1 by omega), if_neg (show ¬ m = n by omega)]; omega
    · by_cases h2 : m = n
      · rw [if_neg h, if_pos (show m < n + 1 by omega), if_pos h2]; omega
      · rw [if_neg h, if_neg (show ¬ m < n + 1 by omega), if_neg h2]; omega
theorem short_mono (l : List Nat) {n k : Nat} (h : n ≤ k) : shortN l n ≤ shortN l k := by
  induction h with
  | refl => exact Nat.le_refl _
  | step _ ih => rw [short_succ]; omega
theorem short_zero (l : List Nat) : shortN l 0 = 0 := by
  induction l with
  | nil => rfl
  | cons m r ih => simp [shortN, ih]
theorem short_all (l : List Nat) (h : ∀ n ∈ l, n ≤ 24) : shortN l 25 = sumN l := by
  induction l with
  | nil => rfl
  | cons m r ih => rw [shortN, sumN, ih fun n hn => h n (by simp [hn]), if_pos (by have := h m (by simp); omega)]
theorem even_append (a b : List Nat) (n : Nat) : evenN (a ++ b) n = evenN a n + evenN b n := by
  induction a with
  | nil => simp [evenN]
  | cons m r ih => rw [List.cons_append, evenN, evenN, ih]; omega
theorem even_take (l : List Nat) (i n : Nat) (hi : i < l.length) : evenN (l.take (i + 1)) n = evenN (l.take i) n + (if l[i] = n then roomN n else 0) := by
  rw [List.take_succ_eq_append_getElem hi, even_append]
  simp only [evenN, Nat.add_zero]
  by_cases h : l[i] = n
  · rw [if_pos h, if_pos h, h]
  · rw [if_neg h, if_neg h]
theorem even_take_le (l : List Nat) (n : Nat) {i k : Nat} (h : i ≤ k) : evenN (l.take i) n ≤ evenN (l.take k) n := by
  rw [← Nat.add_sub_cancel' h, List.take_add, even_append]; omega
theorem even_take_all (l : List Nat) (i n : Nat) : evenN (l.take i) n ≤ evenN l n := by
  have := even_append (l.take i) (l.drop i) n
  rw [List.take_append_drop] at this
  omega

/-- WHERE THE WORDS OF n BITS GO ON, behind i symbols -/
def posN (l : List Nat) (n i : Nat) : Nat := shortN l n + evenN (l.take i) n
theorem pos_zero (l : List Nat) (n : Nat) : posN l n 0 = shortN l n := by simp [posN, evenN]
theorem pos_end (l : List Nat) (n : Nat) : posN l n l.length = shortN l (n + 1) := by rw [posN, List.take_length, short_succ]
theorem pos_step (l : List Nat) (n i : Nat) (hi : i < l.length) : posN l n (i + 1) = posN l n i + (if l[i] = n then roomN n else 0) := by
  rw [posN, even_take l i n hi, posN]; omega
theorem pos_mono (l : List Nat) (n : Nat) {i k : Nat} (h : i ≤ k) : posN l n i ≤ posN l n k := by
  have := even_take_le l n h
  unfold posN; omega
theorem pos_le (l : List Nat) (n i : Nat) : posN l n i ≤ shortN l (n + 1) := by
  have := even_take_all l i n
  rw [short_succ]; unfold posN; omega

/-- a symbol's word: its bits as a number, and how many -/
def wordN (l : List Nat) (i : Nat) : Nat × Nat := (posN l (l.getD i 0) i / 2 ^ (24 - l.getD i 0), l.getD i 0)
theorem word_zero {l : List Nat} {i : Nat} (h : l.getD i 0 = 0) : wordN l i = (0, 0) := by
  rw [wordN, h]
  have e0 : ∀ r : List Nat, evenN r 0 = 0 := fun r => by
    induction r with
    | nil => rfl
    | cons m r ih => rw [evenN, ih]; by_cases h : m = 0 <;> simp [h, roomN]
  rw [posN, short_zero, e0]
def wordsN (l : List Nat) : List (Nat × Nat) := (List.range l.length).map (wordN l)
theorem words_len (l : List Nat) : (wordsN l).length = l.length := by simp [wordsN]
theorem words_get (l : List Nat) (i : Nat) (hi : i < l.length) : (wordsN l)[i]? = some (wordN l i) := by simp [wordsN, hi]
theorem words_getD (l : List Nat) (i : Nat) (hi : i < l.length) : (wordsN l).getD i (0, 0) = wordN l i := by rw [List.getD, words_get l i hi]; rfl

/-- A CODE THAT MAY BE -/
structure CodeOk (l : List Nat) : Prop where
  few : l.length ≤ 256
  short : ∀ n ∈ l, n ≤ 24
  sum : sumN l < 16777216

theorem CodeOk.at {l : List Nat} (h : CodeOk l) (i : Nat) : l.getD i 0 ≤ 24 := by
  by_cases hi : i < l.length
  · exact h.short _ (by simp [List.getD, hi])
  · simp [List.getD, List.getElem?_eq_none (Nat.le_of_not_lt hi)]
theorem CodeOk.short_le {l : List Nat} (h : CodeOk l) (n : Nat) (hn : n ≤ 25) : shortN l n < 16777216 := by
  have := short_mono l hn
  rw [short_all l h.short] at this
  have := h.sum
  omega

theorem room_pos {n : Nat} (h : 0 < n) : roomN n = 2 ^ (24 - n) := if_neg (by omega)
theorem dvd_room {n m : Nat} (h : m ≤ n) : 2 ^ (24 - n) ∣ roomN m := by
  unfold roomN
  by_cases h0 : m = 0
  · rw [if_pos h0]; exact Nat.dvd_zero _
  · rw [if_neg h0]; exact Nat.pow_dvd_pow 2 (by omega)
theorem dvd_short (l : List Nat) {n k : Nat} (h : k ≤ n + 1) : 2 ^ (24 - n) ∣ shortN l k := by
  induction l with
  | nil => exact Nat.dvd_zero _
  | cons m r ih =>
    rw [shortN]
    refine Nat.dvd_add ?_ ih
    by_cases hm : m < k
    · rw [if_pos hm]; exact dvd_room (by omega)
    · rw [if_neg hm]; exact Nat.dvd_zero _
theorem dvd_even (l : List Nat) (n : Nat) : 2 ^ (24 - n) ∣ evenN l n := by
  induction l with
  | nil => exact Nat.dvd_zero _
  | cons m r ih =>
    rw [evenN]
    refine Nat.dvd_add ?_ ih
    by_cases hm : m = n
    · rw [if_pos hm, hm]; exact dvd_room (Nat.le_refl _)
    · rw [if_neg hm]; exact Nat.dvd_zero _
theorem dvd_pos (l : List Nat) (n i : Nat) : 2 ^ (24 - n) ∣ posN l n i := Nat.dvd_add (dvd_short l (by omega)) (dvd_even _ n)
theorem pos_div (l : List Nat) (n i : Nat) : posN l n i / 2 ^ (24 - n) * 2 ^ (24 - n) = posN l n i := Nat.div_mul_cancel (dvd_pos l n i)

/-- a word ends ahead of where those behind it begin -/
theorem pos_behind {l : List Nat} {i : Nat} (hi : i < l.length) {n : Nat} (hn : l[i] = n) : posN l n i + roomN n ≤ shortN l (n + 1) := by
  have := pos_step l n i hi
  rw [if_pos hn] at this
  have := pos_le l n (i + 1)
  omega
theorem getD_of12 {l : List Nat} {i : Nat} (hi : i < l.length) : l.getD i 0 = l[i] := by simp [List.getD, hi]
theorem lt_of_len {l : List Nat} {i : Nat} (h : 0 < l.getD i 0) : i < l.length := by
  by_cases hi : i < l.length
  · exact hi
  · simp [List.getD, List.getElem?_eq_none (Nat.le_of_not_lt hi)] at h
/-- no word is all bits 1 -/
theorem word_room {l : List Nat} (h : CodeOk l) {i : Nat} (h0 : 0 < l.getD i 0) : (wordN l i).1 + 1 < 2 ^ l.getD i 0 := by
  have hi := lt_of_len h0
  have h24 := h.at i
  have e := getD_of12 hi
  generalize l.getD i 0 = n at *
  have hp := pos_behind hi e.symm
  have hs := h.short_le (n + 1) (by omega)
  have hd := pos_div l n i
  rw [room_pos h0] at hp
  have ew : (wordN l i).1 = posN l n i / 2 ^ (24 - n) := by
    rw [wordN, getD_of12 hi, ← e]
  rw [ew]
  have hpp : 0 < 2 ^ (24 - n) := Nat.pow_pos (by decide)
  have h24' : 2 ^ n * 2 ^ (24 - n) = 16777216 := by rw [← Nat.pow_add, show n + (24 - n) = 24 by omega]
  refine Nat.lt_of_mul_lt_mul_right (a := 2 ^ (24 - n)) ?_
  rw [h24', Nat.add_mul, hd]
  omega
/-- no word begins another one -/
theorem word_free {l : List Nat} (h : CodeOk l) {i k : Nat} (h0 : 0 < l.getD i 0) (hle : l.getD i 0 ≤ l.getD k 0) (hne : i ≠ k) : (wordN l k).1 / 2 ^ (l.getD k 0 - l.getD i 0) ≠ (wordN l i).1 := by
  have hi := lt_of_len h0
  have hk := lt_of_len (Nat.lt_of_lt_of_le h0 hle)
  have hk24 := h.at k
  intro heq
  have ei := getD_of12 hi
  have ek := getD_of12 hk
  have wi : (wordN l i).1 = posN l (l.getD i 0) i / 2 ^ (24 - l.getD i 0) := rfl
  have wk : (wordN l k).1 = posN l (l.getD k 0) k / 2 ^ (24 - l.getD k 0) := rfl
  rw [wi, wk] at heq
  generalize hn : l.getD i 0 = n at *
  generalize hm : l.getD k 0 = m at *
  rw [Nat.div_div_eq_div_mul, ← Nat.pow_add, show 24 - m + (m - n) = 24 - n by omega] at heq
  have hpp : 0 < 2 ^ (24 - n) := Nat.pow_pos (by decide)
  have di := pos_div l n i
  have b1 : posN l n i ≤ posN l m k := by
    rw [← di, ← heq]; exact Nat.div_mul_le_self _ _
  have b2 : posN l m k < posN l n i + 2 ^ (24 - n) := by
    have := Nat.lt_mul_div_succ (posN l m k) hpp
    rw [heq, Nat.mul_add, Nat.mul_comm, di] at this
    omega
  have hb := pos_behind hi ei.symm
  rw [room_pos h0] at hb
  by_cases hlt : n < m
  · have := short_mono l (show n + 1 ≤ m by omega)
    have : shortN l m ≤ posN l m k := by unfold posN; omega
    omega
  · obtain rfl : n = m := by omega
    rcases Nat.lt_or_gt_of_ne hne with hik | hki
    · have := pos_mono l n (show i + 1 ≤ k by omega)
      have := pos_step l n i hi
      rw [if_pos ei.symm, room_pos h0] at this
      omega
    · have := pos_mono l n (show k + 1 ≤ i by omega)
      have := pos_step l n k hk
      rw [if_pos ek.symm, room_pos h0] at this
      omega

/-! ### words among words -/
/-- the first symbol that has this word -/
def symN (W : List (Nat × Nat)) (b n : Nat) : Option Nat := W.findIdx? fun w => decide (w = (b, n))
/-- WHAT IS ASKED OF WORDS -/
structure WordsOk (W : List (Nat × Nat)) : Prop where
  few : W.length ≤ 256
  long : ∀ i, (W.getD i (0, 0)).2 ≤ 24
  nil : ∀ i, (W.getD i (0, 0)).2 = 0 → (W.getD i (0, 0)).1 = 0
  room : ∀ i, 0 < (W.getD i (0, 0)).2 → (W.getD i (0, 0)).1 + 1 < 2 ^ (W.getD i (0, 0)).2
  free : ∀ i k, 0 < (W.getD i (0, 0)).2 → (W.getD i (0, 0)).2 ≤ (W.getD k (0, 0)).2 → i ≠ k → (W.getD k (0, 0)).1 / 2 ^ ((W.getD k (0, 0)).2 - (W.getD i (0, 0)).2) ≠ (W.getD i (0, 0)).1
theorem words_out {l : List Nat} {i : Nat} (hi : ¬ i < l.length) : (wordsN l).getD i (0, 0) = (0, 0) := by
  rw [List.getD, List.getElem?_eq_none (by rw [words_len]; omega)]; rfl
theorem CodeOk.words {l : List Nat} (h : CodeOk l) : WordsOk (wordsN l) := by
  have g : ∀ i, (wordsN l).getD i (0, 0) = if i < l.length then wordN l i else (0, 0) := fun i => by
    by_cases hi : i < l.length
    · rw [if_pos hi, words_getD l i hi]
    · rw [if_neg hi, words_out hi]
  have g2 : ∀ i, ((wordsN l).getD i (0, 0)).2 = l.getD i 0 := fun i => by
    rw [g]
    by_cases hi : i < l.length
    · rw [if_pos hi]; rfl
    · rw [if_neg hi]; simp [List.getD, List.getElem?_eq_none (Nat.le_of_not_lt hi)]
  refine ⟨by rw [words_len]; exact h.few, fun i => by rw [g2]; exact h.at i, fun i h0 => ?_, fun i h0 => ?_, fun i k h0 hle hne => ?_⟩
  · rw [g2] at h0
    rw [g]
    by_cases hi : i < l.length
    · rw [if_pos hi, word_zero h0]
    · rw [if_neg hi]
  · rw [g2] at h0 ⊢
    rw [g, if_pos (lt_of_len h0)]
    exact word_room h h0
  · rw [g2] at h0 hle ⊢
    rw [g2] at hle ⊢
    rw [g, g, if_pos (lt_of_len h0), if_pos (lt_of_len (Nat.lt_of_lt_of_le h0 hle))]
    exact word_free h h0 hle hne
theorem sym_some {W : List (Nat × Nat)} {b n i : Nat} (h : symN W b n = some i) : i < W.length ∧ W.getD i (0, 0) = (b, n) := by
  obtain ⟨hi, h1, _⟩ := List.findIdx?_eq_some_iff_getElem.1 h
  exact ⟨hi, by simpa [List.getD, hi] using h1⟩
theorem sym_none {W : List (Nat × Nat)} {b n : Nat} (h : symN W b n = none) (i : Nat) (hi : i < W.length) : W.getD i (0, 0) ≠ (b, n) := by
  have := List.findIdx?_eq_none_iff.1 h W[i] (List.getElem_mem hi)
  simpa [List.getD, hi] using this
theorem WordsOk.inj {W : List (Nat × Nat)} (h : WordsOk W) {i k : Nat} (h0 : 0 < (W.getD i (0, 0)).2) (he : W.getD i (0, 0) = W.getD k (0, 0)) : i = k := by
  by_cases e : i = k
  · exact e
  · have := h.free i k h0 (by rw [he]; exact Nat.le_refl _) e
    rw [he] at this
    simp at this
theorem WordsOk.sym {W : List (Nat × Nat)} (h : WordsOk W) {i : Nat} (hi : i < W.length) (h0 : 0 < (W.getD i (0, 0)).2) : symN W (W.getD i (0, 0)).1 (W.getD i (0, 0)).2 = some i := by
  cases hs : symN W (W.getD i (0, 0)).1 (W.getD i (0, 0)).2 with
  | none => exact absurd rfl (sym_none hs i hi)
  | some k => rw [h.inj h0 (sym_some hs).2.symm]
/-- what a longer word begins with is no word -/
theorem WordsOk.sym_part {W : List (Nat × Nat)} (h : WordsOk W) {i j : Nat} (hj0 : 0 < j) (hj : j < (W.getD i (0, 0)).2) : symN W ((W.getD i (0, 0)).1 / 2 ^ ((W.getD i (0, 0)).2 - j)) j = none := by
  cases hs : symN W ((W.getD i (0, 0)).1 / 2 ^ ((W.getD i (0, 0)).2 - j)) j with
  | none => rfl
  | some k =>
    have e := (sym_some hs).2
    have e2 : (W.getD k (0, 0)).2 = j := by rw [e]
    have e1 : (W.getD k (0, 0)).1 = (W.getD i (0, 0)).1 / 2 ^ ((W.getD i (0, 0)).2 - j) := by rw [e]
    by_cases hki : k = i
    · subst hki; omega
    · have := h.free k i (by rw [e2]; exact hj0) (by rw [e2]; omega) hki
      rw [e2, e1] at this
      exact absurd rfl this
theorem WordsOk.sym_ones {W : List (Nat × Nat)} (h : WordsOk W) {n : Nat} (h0 : 0 < n) : symN W (2 ^ n - 1) n = none := by
  cases hs : symN W (2 ^ n - 1) n with
  | none => rfl
  | some k =>
    have e := (sym_some hs).2
    have := h.room k (by rw [e]; exact h0)
    rw [e] at this
    have : 0 < 2 ^ n := Nat.pow_pos (by decide)
    simp only at *
    omega

/-! ### bits -/
/-- n bits of a number, the highest first -/
def bd (b : Nat) : Nat → List Nat
  | 0 => []
  | n + 1 => b / 2 ^ n % 2 :: bd b n
theorem bd_len (b n : Nat) : (bd b n).length = n := by
  induction n with
  | zero => rfl
  | succ n ih => simp [bd, ih]
theorem bd_bit (b n : Nat) : ∀ x ∈ bd b n, x < 2 := by
  induction n with
  | zero => simp [bd]
  | succ n ih =>
    intro x hx
    rcases List.mem_cons.1 hx with rfl | hx
    · omega
    · exact ih x hx
theorem bd_get (b n i : Nat) (hi : i < n) : (bd b n).getD i 0 = b / 2 ^ (n - 1 - i) % 2 := by
  induction n generalizing i with
  | zero => omega
  | succ n ih =>
    cases i with
    | zero => simp [bd, List.getD]
    | succ i =>
      have := ih i (by omega)
      simp only [bd, List.getD, List.getElem?_cons_succ] at this ⊢
      rw [this, show n + 1 - 1 - (i + 1) = n - 1 - i by omega]
theorem bd_split (b n m : Nat) : bd b (n + m) = bd (b / 2 ^ m) n ++ bd b m := by
  induction n with
  | zero => simp [bd]
  | succ n ih =>
    rw [Nat.succ_add, bd, ih, bd, Nat.div_div_eq_div_mul, ← Nat.pow_add, Nat.add_comm m n]
    rfl
theorem bd_mod (b n : Nat) {m : Nat} (h : n ≤ m) : bd (b % 2 ^ m) n = bd b n := by
  induction n with
  | zero => rfl
  | succ n ih =>
    rw [bd, bd, ih (by omega)]
    congr 1
    have e : 2 ^ m = 2 ^ n * 2 ^ (m - n) := by rw [← Nat.pow_add, show n + (m - n) = m by omega]
    rw [e, Nat.mod_mul_right_div_self, Nat.mod_mod_of_dvd]
    exact ⟨2 ^ (m - n - 1), by rw [← Nat.pow_succ']; congr 1; omega⟩
theorem bd_push (b x n : Nat) (hx : x < 2) : bd b n ++ [x] = bd (2 * b + x) (n + 1) := by
  rw [bd_split (2 * b + x) n 1]
  have e1 : (2 * b + x) / 2 ^ 1 = b := by omega
  have e2 : bd (2 * b + x) 1 = [x] := by simp [bd]; omega
  rw [e1, e2]
theorem bd_ones (n : Nat) : bd (2 ^ n - 1) n = List.replicate n 1 := by
  induction n with
  | zero => rfl
  | succ n ih =>
    have hp : 0 < 2 ^ n := Nat.pow_pos (by decide)
    have e : (2 ^ (n + 1) - 1) % 2 ^ n = 2 ^ n - 1 := by
      rw [show 2 ^ (n + 1) - 1 = (2 ^ n - 1) + 2 ^ n by rw [Nat.pow_succ]; omega, Nat.add_mod_right, Nat.mod_eq_of_lt (by omega)]
    have e2 : (2 ^ (n + 1) - 1) / 2 ^ n = 1 := by
      rw [show 2 ^ (n + 1) - 1 = (2 ^ n - 1) + 2 ^ n by rw [Nat.pow_succ]; omega, Nat.add_div_right _ hp, Nat.div_eq_of_lt (by omega)]
    rw [bd, e2, ← bd_mod _ n (Nat.le_refl n), e, ih]
    rfl
theorem bd_inj {a b : Nat} : ∀ {n : Nat}, a < 2 ^ n → b < 2 ^ n → bd a n = bd b n → a = b
  | 0, ha, hb, _ => by simp at ha hb; omega
  | n + 1, ha, hb, h => by
    simp only [bd, List.cons.injEq] at h
    have hp : 0 < 2 ^ n := Nat.pow_pos (by decide)
    rw [Nat.pow_succ] at ha hb
    have h1 : a / 2 ^ n = b / 2 ^ n := by
      have ha' : a / 2 ^ n < 2 := (Nat.div_lt_iff_lt_mul hp).2 (by omega)
      have hb' : b / 2 ^ n < 2 := (Nat.div_lt_iff_lt_mul hp).2 (by omega)
      have e := h.1
      rw [Nat.mod_eq_of_lt ha', Nat.mod_eq_of_lt hb'] at e
      exact e
    have h2 : a % 2 ^ n = b % 2 ^ n := bd_inj (Nat.mod_lt _ hp) (Nat.mod_lt _ hp) (by rw [bd_mod _ n (Nat.le_refl n), bd_mod _ n (Nat.le_refl n)]; exact h.2)
    rw [← Nat.div_add_mod a (2 ^ n), ← Nat.div_add_mod b (2 ^ n), h1, h2]

/-- bytes' bits -/
def unp (xs : List Int) : List Nat := xs.flatMap fun x => bd x.toNat 8
theorem unp_append (a b : List Int) : unp (a ++ b) = unp a ++ unp b := by simp [unp]
theorem unp_cons (a : Int) (b : List Int) : unp (a :: b) = bd a.toNat 8 ++ unp b := rfl
theorem unp_one (a : Int) : unp [a] = bd a.toNat 8 := by simp [unp]
theorem unp_len (xs : List Int) : (unp xs).length = 8 * xs.length := by
  induction xs with
  | nil => rfl
  | cons x r ih => rw [unp_cons, List.length_append, bd_len, ih, List.length_cons]; omega
theorem unp_bit (xs : List Int) : ∀ x ∈ unp xs, x < 2 := by
  intro x hx
  obtain ⟨y, _, hy⟩ := List.mem_flatMap.1 hx
  exact bd_bit _ _ x hy
theorem unp_inj : ∀ {a b : List Int}, Bts a → Bts b → unp a = unp b → a = b
  | [], [], _, _, _ => rfl
  | [], y :: b, _, _, h => by have := congrArg List.length h; rw [unp_len, unp_len] at this; simp at this
  | x :: a, [], _, _, h => by have := congrArg List.length h; rw [unp_len, unp_len] at this; simp at this
  | x :: a, y :: b, ha, hb, h => by
    rw [unp_cons, unp_cons] at h
    obtain ⟨h1, h2⟩ := List.append_inj h (by rw [bd_len, bd_len])
    have hx := ha x (by simp)
    have hy := hb y (by simp)
    have e : x.toNat = y.toNat := bd_inj (n := 8) (by show _ < 256; omega) (by show _ < 256; omega) h1
    rw [show x = y by omega, unp_inj (fun z hz => ha z (by simp [hz])) (fun z hz => hb z (by simp [hz])) h2]
theorem unp_drop (xs : List Int) (i : Nat) (hi : i < xs.length) : (unp xs).drop (8 * i) = bd (xs.getD i 0).toNat 8 ++ (unp xs).drop (8 * (i + 1)) := by
  have e : xs = xs.take i ++ xs.getD i 0 :: xs.drop (i + 1) := by
    rw [List.getD, List.getElem?_eq_getElem hi]
    simp
  have l1 : (unp (xs.take i)).length = 8 * i := by rw [unp_len, List.length_take]; omega
  have a : unp xs = unp (xs.take i) ++ (bd (xs.getD i 0).toNat 8 ++ unp (xs.drop (i + 1))) := by
    conv => lhs; rw [e]
    rw [unp_append, unp_cons]
  have l2 : (unp (xs.take i) ++ bd (xs.getD i 0).toNat 8).length = 8 * (i + 1) := by rw [List.length_append, l1, bd_len]; omega
  have e1 : (unp xs).drop (8 * i) = bd (xs.getD i 0).toNat 8 ++ unp (xs.drop (i + 1)) := by rw [a]; exact List.drop_left' l1
  have e2 : (unp xs).drop (8 * (i + 1)) = unp (xs.drop (i + 1)) := by rw [a, ← List.append_assoc]; exact List.drop_left' l2
  rw [e1, e2]

/-! ### symbols' bits, and what bits are decoded to -/
def encN (W : List (Nat × Nat)) (ys : List Int) : List Nat := ys.flatMap fun s => bd (W.getD s.toNat (0, 0)).1 (W.getD s.toNat (0, 0)).2
/-- bits 1 up to the end of the byte -/
def fillN (q : List Nat) : List Nat := q ++ List.replicate ((8 - q.length % 8) % 8) 1
/-- every symbol has a word -/
def HasN (W : List (Nat × Nat)) (ys : List Int) : Prop := ∀ s ∈ ys, s.toNat < W.length ∧ (W.getD s.toNat (0, 0)).2 ≠ 0
def decN (W : List (Nat × Nat)) : List Nat → Nat → Nat → Option (List Int)
  | [], b, n => if n > 7 ∨ b ≠ 2 ^ n - 1 then none else some []
  | x :: r, b, n => match symN W (2 * b + x) (n + 1) with
    | some s => (decN W r 0 0).map ((s : Int) :: ·)
    | none => if n + 1 = 24 then none else decN W r (2 * b + x) (n + 1)
theorem enc_cons (W : List (Nat × Nat)) (s : Int) (ys : List Int) : encN W (s :: ys) = bd (W.getD s.toNat (0, 0)).1 (W.getD s.toNat (0, 0)).2 ++ encN W ys := rfl
theorem enc_append (W : List (Nat × Nat)) (a b : List Int) : encN W (a ++ b) = encN W a ++ encN W b := by simp [encN]

theorem dec_word {W : List (Nat × Nat)} (h : WordsOk W) {i : Nat} (hi : i < W.length) (r : List Nat) : ∀ (d j : Nat), j + d = (W.getD i (0, 0)).2 → 0 < d →
    decN W (bd (W.getD i (0, 0)).1 d ++ r) ((W.getD i (0, 0)).1 / 2 ^ d) j = (decN W r 0 0).map ((i : Int) :: ·)
  | 0, _, _, h0 => by omega
  | d + 1, j, hd, _ => by
    have h24 := h.long i
    rw [bd, List.cons_append, decN]
    have e : 2 * ((W.getD i (0, 0)).1 / 2 ^ (d + 1)) + (W.getD i (0, 0)).1 / 2 ^ d % 2 = (W.getD i (0, 0)).1 / 2 ^ d := by
      rw [Nat.pow_succ, ← Nat.div_div_eq_div_mul]; omega
    rw [e]
    by_cases hd0 : d = 0
    · subst hd0
      have es : symN W ((W.getD i (0, 0)).1 / 2 ^ 0) (j + 1) = some i := by
        have := h.sym hi (show 0 < (W.getD i (0, 0)).2 by omega)
        rw [Nat.pow_zero, Nat.div_one, show j + 1 = (W.getD i (0, 0)).2 by omega]
        exact this
      rw [es]; rfl
    · have es : symN W ((W.getD i (0, 0)).1 / 2 ^ d) (j + 1) = none := by
        have := h.sym_part (i := i) (j := j + 1) (by omega) (by omega)
        rw [show (W.getD i (0, 0)).2 - (j + 1) = d by omega] at this
        exact this
      rw [es]
      simp only
      rw [if_neg (by omega)]
      exact dec_word h hi r d (j + 1) (by omega) (by omega)
theorem dec_ones {W : List (Nat × Nat)} (h : WordsOk W) : ∀ (m k : Nat), k + m ≤ 7 → decN W (List.replicate m 1) (2 ^ k - 1) k = some []
  | 0, k, hk => by
    rw [List.replicate_zero, decN, if_neg]
    omega
  | m + 1, k, hk => by
    have hp : 0 < 2 ^ k := Nat.pow_pos (by decide)
    rw [List.replicate_succ, decN]
    have e : 2 * (2 ^ k - 1) + 1 = 2 ^ (k + 1) - 1 := by rw [Nat.pow_succ]; omega
    rw [e, h.sym_ones (by omega)]
    simp only
    rw [if_neg (by omega)]
    exact dec_ones h m (k + 1) (by omega)
/-- WHAT IS ENCODED IS DECODED -/
theorem dec_enc {W : List (Nat × Nat)} (h : WordsOk W) (m : Nat) (hm : m ≤ 7) : ∀ ys : List Int, (∀ s ∈ ys, 0 ≤ s) → HasN W ys → decN W (encN W ys ++ List.replicate m 1) 0 0 = some ys
  | [], _, _ => by
    have := dec_ones h m 0 (by omega)
    simpa [encN] using this
  | s :: ys, h0, hh => by
    obtain ⟨hs, hn⟩ := hh s (by simp)
    have := dec_word h hs (encN W ys ++ List.replicate m 1) (W.getD s.toNat (0, 0)).2 0 (by omega) (by omega)
    have hr : (W.getD s.toNat (0, 0)).1 / 2 ^ (W.getD s.toNat (0, 0)).2 = 0 := Nat.div_eq_of_lt (by have := h.room s.toNat (by omega); omega)
    rw [hr] at this
    rw [enc_cons, List.append_assoc, this, dec_enc h m hm ys (fun z hz => h0 z (by simp [hz])) (fun z hz => hh z (by simp [hz]))]
    have := h0 s (by simp)
    rw [show ((s.toNat : Nat) : Int) = s by omega]
    rfl
/-- WHAT IS DECODED IS ENCODED TO THE SAME BITS -/
theorem enc_dec {W : List (Nat × Nat)} : ∀ (bs : List Nat) (b n : Nat) (ys : List Int), (∀ x ∈ bs, x < 2) → decN W bs b n = some ys →
    (∃ m, m ≤ 7 ∧ bd b n ++ bs = encN W ys ++ List.replicate m 1) ∧ HasN W ys ∧ (∀ s ∈ ys, 0 ≤ s ∧ s < W.length)
  | [], b, n, ys, _, h => by
    rw [decN] at h
    split at h
    · cases h
    · rename_i hc
      cases h
      refine ⟨⟨n, by omega, ?_⟩, (by intro s hs; cases hs), (by intro s hs; cases hs)⟩
      rw [show b = 2 ^ n - 1 by omega, bd_ones]; simp [encN]
  | x :: r, b, n, ys, hb, h => by
    have hx := hb x (by simp)
    have hr : ∀ y ∈ r, y < 2 := fun y hy => hb y (by simp [hy])
    rw [decN] at h
    have ex : bd b n ++ x :: r = bd (2 * b + x) (n + 1) ++ r := by rw [← bd_push b x n hx]; simp
    cases hs : symN W (2 * b + x) (n + 1) with
    | none =>
      rw [hs] at h
      simp only at h
      split at h
      · cases h
      · have := enc_dec r _ _ ys hr h
        rw [ex]; exact this
    | some s =>
      rw [hs] at h
      simp only at h
      obtain ⟨zs, hz, rfl⟩ := Option.map_eq_some_iff.1 h
      obtain ⟨⟨m, hm, e⟩, h2, h3⟩ := enc_dec r 0 0 zs hr hz
      obtain ⟨hl, he⟩ := sym_some hs
      refine ⟨⟨m, hm, ?_⟩, ?_, ?_⟩
      · rw [ex, enc_cons, Int.toNat_natCast, he]
        simp only [bd, List.nil_append] at e
        rw [e, List.append_assoc]
      · intro t ht
        rcases List.mem_cons.1 ht with rfl | ht
        · rw [Int.toNat_natCast, he]; exact ⟨hl, by simp⟩
        · exact h2 t ht
      · intro t ht
        rcases List.mem_cons.1 ht with rfl | ht
        · omega
        · exact h3 t ht
theorem fill_len (q : List Nat) : (fillN q).length % 8 = 0 := by simp [fillN]; omega
theorem fill_of {q : List Nat} {m k : Nat} (hm : m ≤ 7) (h : q.length + m = 8 * k) : q ++ List.replicate m 1 = fillN q := by
  rw [fillN, show (8 - q.length % 8) % 8 = m by omega]
theorem fill_back (q : List Nat) : ∃ m, m ≤ 7 ∧ fillN q = q ++ List.replicate m 1 := ⟨_, by omega, rfl⟩
/-- WHAT BYTES ARE DECODED TO IS ENCODED TO THEM -/
theorem fill_dec {W : List (Nat × Nat)} {b ys : List Int} (h : decN W (unp b) 0 0 = some ys) : fillN (encN W ys) = unp b ∧ HasN W ys ∧ (∀ s ∈ ys, 0 ≤ s ∧ s < W.length) := by
  obtain ⟨⟨m, hm, e⟩, h2, h3⟩ := enc_dec _ _ _ _ (unp_bit b) h
  simp only [bd, List.nil_append] at e
  refine ⟨?_, h2, h3⟩
  rw [e]
  refine (fill_of hm (k := b.length) ?_).symm
  have := congrArg List.length e
  rw [unp_len, List.length_append, List.length_replicate] at this
  omega

/-- the document's way: one bit too many is refused -/
def decR (W : List (Nat × Nat)) : List Nat → Nat → Nat → Option (List Int)
  | [], b, n => if n > 7 ∨ b ≠ 2 ^ n - 1 then none else some []
  | x :: r, b, n => if n + 1 > 24 then none else match symN W (2 * b + x) (n + 1) with
    | some s => (decR W r 0 0).map ((s : Int) :: ·)
    | none => decR W r (2 * b + x) (n + 1)
theorem decR_24 (W : List (Nat × Nat)) (bs : List Nat) (b n : Nat) (h : 24 ≤ n) : decR W bs b n = none := by
  cases bs with
  | nil => rw [decR, if_pos (by omega)]
  | cons x r => rw [decR, if_pos (by omega)]
theorem decR_eq (W : List (Nat × Nat)) : ∀ (bs : List Nat) (b n : Nat), n < 24 → decR W bs b n = decN W bs b n
  | [], b, n, _ => rfl
  | x :: r, b, n, h => by
    rw [decR, decN, if_neg (by omega)]
    cases symN W (2 * b + x) (n + 1) with
    | some s => simp only; rw [decR_eq W r 0 0 (by decide)]
    | none =>
      simp only
      by_cases e : n + 1 = 24
      · rw [if_pos e, decR_24 _ _ _ _ (by omega)]
      · rw [if_neg e, decR_eq W r _ _ (by omega)]
end Go.Proofs.YtbkbabaoockigaaGreatDoor

set_option maxRecDepth 100000
namespace Go.Proofs.YtbkbabaoockigaaGreatDoor
open Go.RowKit

def wdCell (s : Nat × Nat) : List Value := [.int .i64 (s.1 : Int), .int .i64 (s.2 : Int)]
def wdC (l : List (Nat × Nat)) : List Value := l.flatMap wdCell
theorem wdC_len (l : List (Nat × Nat)) : (wdC l).length = l.length * 2 := flat_len wdCell 2 (fun _ => rfl) l
theorem wdC_append (a b : List (Nat × Nat)) : wdC (a ++ b) = wdC a ++ wdC b := by simp [wdC]
theorem wdC_get0 (l : List (Nat × Nat)) (i : Nat) (hi : i < l.length) : (wdC l)[i * 2]? = some (.int .i64 (((l.getD i (0, 0)).1 : Nat) : Int)) := by
  have := flat_get wdCell 2 (fun _ => rfl) l i 0 hi (by omega)
  simp only [Nat.add_zero] at this
  rw [wdC, this]; simp [wdCell, List.getD, hi]
theorem wdC_get1 (l : List (Nat × Nat)) (i : Nat) (hi : i < l.length) : (wdC l)[i * 2 + 1]? = some (.int .i64 (((l.getD i (0, 0)).2 : Nat) : Int)) := by
  have := flat_get wdCell 2 (fun _ => rfl) l i 1 hi (by omega)
  rw [wdC, this]; simp [wdCell, List.getD, hi]
theorem wdC_one (l : List (Nat × Nat)) : ∀ u ∈ wdC l, u.oneCell' = true := by
  intro u hu
  obtain ⟨s, _, hs⟩ := List.mem_flatMap.1 hu
  simp only [wdCell, List.mem_cons, List.not_mem_nil, or_false] at hs
  rcases hs with rfl | rfl <;> rfl
theorem wdC_set (l : List (Nat × Nat)) (i : Nat) (s : Nat × Nat) : wdC (l.set i s) = ((wdC l).set (i * 2) (.int .i64 (s.1 : Int))).set (i * 2 + 1) (.int .i64 (s.2 : Int)) := by
  induction l generalizing i with
  | nil => simp [wdC]
  | cons x l ih =>
    cases i with
    | zero => simp [wdC, wdCell]
    | succ i =>
      have h := ih i
      simp only [wdC, List.set_cons_succ, List.flatMap_cons, wdCell] at h ⊢
      rw [h, show (i + 1) * 2 = i * 2 + 1 + 1 by omega]
      simp
theorem wdC_zero (n : Nat) : wdC (List.replicate n (0, 0)) = List.replicate (n * 2) (.int .i64 0) := by
  induction n with
  | zero => rfl
  | succ n ih =>
    rw [List.replicate_succ, wdC, List.flatMap_cons, ← wdC, ih]
    show List.replicate 2 (Value.int .i64 0) ++ _ = _
    rw [List.replicate_append_replicate]
    congr 1; omega
theorem madeCells_zero2 (k : IntKind) (n : Nat) : (madeCells #[Value.int k 0, .int k 0] n).toList = List.replicate n (.int k 0) := by
  apply List.ext_getElem
  · simp [madeCells]
  · intro i h1 h2
    have : i % 2 = 0 ∨ i % 2 = 1 := by omega
    rcases this with e | e <;> simp [madeCells, e]

/-- v READS AS THE WORDS l -/
def RdW (w : World) (v : Value) (l : List (Nat × Nat)) : Prop := RdC 2 w v l.length (wdC l)
/-- v IS A ROW OF THE CALL's OWN THAT HOLDS THE WORDS l -/
def OwnW (e : TypeId) (w : World) (B : Nat) (v : Value) (l : List (Nat × Nat)) : Prop := w.ownsRow B e 2 v l.length (wdC l)
theorem RdW.nil (w : World) : RdW w (.slice none 0 0) [] := RdC.nil 2 w
theorem OwnW.nil (e : TypeId) (w : World) (B : Nat) : OwnW e w B (.slice none 0 0) [] := World.ownsRow_nil w B _ 2
theorem OwnW.rd {e : TypeId} {w : World} {B : Nat} {v : Value} {l : List (Nat × Nat)} (h : OwnW e w B v l) : RdW w v l := RdC.of_owns h
theorem OwnW.kept {e : TypeId} {w w' : World} {B : Nat} {v : Value} {l : List (Nat × Nat)} {row : Option Nat} (h : OwnW e w B v l) (hg : w.grownBy w' row) (hne : ∀ j, v.ownBlock = some j → row ≠ some j) : OwnW e w' B v l := by
  refine World.ownsRow.kept h hg ?_
  cases hv : v.ownBlock with
  | none => exact .inl rfl
  | some j => exact .inr fun e => hne j hv e.symm
theorem OwnW.mono {e : TypeId} {w : World} {B B' : Nat} {v : Value} {l : List (Nat × Nat)} (h : OwnW e w B v l) (hb : B' ≤ B) : OwnW e w B' v l := by
  obtain ⟨h1, h2⟩ := h
  refine ⟨h1, ?_⟩
  rcases h2 with h2 | ⟨g, cap, cur, a1, a2, a3⟩
  · exact .inl h2
  · exact .inr ⟨g, cap, cur, a1, Nat.le_trans hb a2, a3⟩
theorem OwnW.below {e : TypeId} {w w' : World} {B : Nat} {v : Value} {l : List (Nat × Nat)} (h : OwnW e w B v l) (hb : Below w.heap.size w w') : OwnW e w' B v l := by
  obtain ⟨h1, h2⟩ := h
  refine ⟨h1, ?_⟩
  rcases h2 with h2 | ⟨g, cap, cur, a1, a2, a3, a4⟩
  · exact .inl h2
  · exact .inr ⟨g, cap, cur, a1, a2, by rw [hb.block g (Array.getElem?_eq_some_iff.1 a3).1]; exact a3, a4⟩
theorem OwnW.blk {e : TypeId} {w : World} {B : Nat} {v : Value} {l : List (Nat × Nat)} (h : OwnW e w B v l) : ∀ j, v.ownBlock = some j → B ≤ j := fun j hj => (World.ownsRow.lt h j hj).1
theorem OwnW.blt {e : TypeId} {w : World} {B : Nat} {v : Value} {l : List (Nat × Nat)} (h : OwnW e w B v l) : ∀ j, v.ownBlock = some j → j < w.heap.size := fun j hj => (World.ownsRow.lt h j hj).2
theorem OwnW.len {e : TypeId} {w : World} {B g n c : Nat} {l : List (Nat × Nat)} (h : OwnW e w B (.slice (some ⟨g, 0, none⟩) n c) l) : n = l.length := by
  rcases h.2 with ⟨q, _⟩ | ⟨g', cap', cur, q, _⟩
  · cases q
  · simp only [Value.slice.injEq] at q; exact q.2.1
theorem OwnW.at0 {e : TypeId} {w : World} {B g n c : Nat} {l : List (Nat × Nat)} (h : OwnW e w B (.slice (some ⟨g, 0, none⟩) n c) l) (i : Nat) (hi : i < l.length) : w.cell? ⟨g, i * 2, none⟩ = some (.int .i64 (((l.getD i (0, 0)).1 : Nat) : Int)) := by
  obtain rfl := h.len
  rw [World.ownsRow.cellAt h (i * 2) (by omega)]
  exact wdC_get0 l i hi
theorem OwnW.at1 {e : TypeId} {w : World} {B g n c : Nat} {l : List (Nat × Nat)} (h : OwnW e w B (.slice (some ⟨g, 0, none⟩) n c) l) (i : Nat) (hi : i < l.length) : w.cell? ⟨g, i * 2 + 1, none⟩ = some (.int .i64 (((l.getD i (0, 0)).2 : Nat) : Int)) := by
  obtain rfl := h.len
  rw [World.ownsRow.cellAt h (i * 2 + 1) (by omega)]
  exact wdC_get1 l i hi
theorem OwnW.fz {e : TypeId} {w : World} {B g n c : Nat} {l : List (Nat × Nat)} (h : OwnW e w B (.slice (some ⟨g, 0, none⟩) n c) l) (j : Nat) : w.frozen? ⟨g, j, none⟩ = false := by
  obtain rfl := h.len
  exact World.ownsRow.frozenAt h j
theorem OwnW.set {e : TypeId} {w : World} {B g n c : Nat} {l : List (Nat × Nat)} (h : OwnW e w B (.slice (some ⟨g, 0, none⟩) n c) l) (i x y : Nat) :
    OwnW e ((w.setCell ⟨g, i * 2, none⟩ (.int .i64 (x : Int))).setCell ⟨g, i * 2 + 1, none⟩ (.int .i64 (y : Int))) B (.slice (some ⟨g, 0, none⟩) n c) (l.set i (x, y)) := by
  obtain rfl := h.len
  have h1 := (World.ownsRow.stored h (i * 2) (.int .i64 (x : Int))).1
  have h2 := (World.ownsRow.stored h1 (i * 2 + 1) (.int .i64 (y : Int))).1
  unfold OwnW
  rw [List.length_set, wdC_set]
  exact h2
theorem OwnW.slice {e : TypeId} {w : World} {B : Nat} {v : Value} {l : List (Nat × Nat)} (h : OwnW e w B v l) : ∃ a c, v = .slice a l.length c ∧ l.length ≤ c ∧ c ≤ maxLen := RdC.isSlice h.rd
theorem OwnW.shape {e : TypeId} {w : World} {B n c : Nat} {a : Option Addr} {l : List (Nat × Nat)} (h : OwnW e w B (.slice a n c) l) (hl : 0 < l.length) : ∃ g, a = some ⟨g, 0, none⟩ ∧ B ≤ g ∧ g < w.heap.size := by
  rcases h.2 with ⟨q, h0⟩ | ⟨g', cap', cur, q, hb, hg, _⟩
  · omega
  · simp only [Value.slice.injEq] at q
    exact ⟨g', q.1, hb, (Array.getElem?_eq_some_iff.1 hg).1⟩
theorem RdW.cells {w : World} {b o n c : Nat} {ss : List (Nat × Nat)} (h : RdW w (.slice (some ⟨b, o, none⟩) n c) ss) (hn : n = ss.length) (k : Nat) (hk : k < ss.length) :
    w.cell? ⟨b, o + k * 2, none⟩ = some (.int .i64 (((ss.getD k (0, 0)).1 : Nat) : Int)) ∧ w.cell? ⟨b, o + k * 2 + 1, none⟩ = some (.int .i64 (((ss.getD k (0, 0)).2 : Nat) : Int)) := by
  subst hn
  exact ⟨RdC.cell h _ _ (wdC_get0 ss k hk) _ rfl, RdC.cell h _ _ (wdC_get1 ss k hk) _ (by omega)⟩
theorem RdW.form {w : World} {v : Value} {ss : List (Nat × Nat)} (h : RdW w v ss) (hs : 0 < ss.length) : ∃ b o c, v = .slice (some ⟨b, o, none⟩) ss.length c ∧ b < w.heap.size := by
  obtain ⟨_, ⟨h0, _⟩ | ⟨_, b, o, c, rfl, _, _, h4, _⟩⟩ := h
  · omega
  · exact ⟨b, o, c, rfl, h4⟩
theorem RdW.below {w w' : World} {v : Value} {ss : List (Nat × Nat)} (h : RdW w v ss) (hb : Below w.heap.size w w') : RdW w' v ss := RdC.below h hb
theorem RdW.isSlice {w : World} {v : Value} {ss : List (Nat × Nat)} (h : RdW w v ss) : ∃ a c, v = .slice a ss.length c ∧ ss.length ≤ c ∧ c ≤ maxLen := RdC.isSlice h
theorem elemW : ElemC Tryz.prog 200 2 16 (.agg #[.int .i64 0, .int .i64 0]) := ⟨info_parts (by kernel_rfl), rfl, by decide⟩
theorem elemRW : ElemC Tryz.prog 196 2 16 (.agg #[.int .i64 0, .int .i64 0]) := ⟨info_parts (by kernel_rfl), rfl, by decide⟩
theorem elemInt : Elem Tryz.prog 3 .i64 8 := ⟨Tryz.underlying3, info_parts (by kernel_rfl)⟩
theorem alloc_at (w : World) (o : Obj) : (w.alloc o).heap[w.heap.size]? = some o := by show (w.heap.push o)[w.heap.size]? = _; simp

/-- make([]Word, n): a row of n words of no bits -/
theorem wpList_make_words (w : World) {ops : Array Oper} {rest : List Oper} {o : Oper} {a : Act} {Q : Exit → Act → World → Prop} (hgd : o.guard = none) (l c : Operand) (t e : TypeId) (hop : o.op = Op.makeSlice t l c)
    (hE : ElemC Tryz.prog e 2 16 (.agg #[.int .i64 0, .int .i64 0])) (ht : Tryz.prog.underlying t = some (.slice e)) (n : Nat) (hl : a.eval l = .int .i64 (n : Int)) (hc : a.eval c = .int .i64 (n : Int)) (hn : n ≤ 256) (B : Nat) (hB : B ≤ w.heap.size)
    (hK : ∀ g w', B ≤ g → OwnW e w' B (.slice (some ⟨g, 0, none⟩) n n) (List.replicate n (0, 0)) → w.grownBy w' none → wpList Tryz.prog ops Q rest (a.put o.dst (.slice (some ⟨g, 0, none⟩) n n)) w') : wpList Tryz.prog ops Q (o :: rest) a w := by
  obtain ⟨i, hi, hz, hsz, hbs⟩ := hE.info
  have hr := run_make (P := Tryz.prog) w t e i (.agg #[.int .i64 0, .int .i64 0]) ht hi hz .i64 .i64 (n : Int) (n : Int) (by omega) (Int.le_refl _) (by rw [hbs]; omega) (by omega)
  refine wpList_plain hgd fun K hK' => ?_
  unfold Oper.wp
  simp [execOp, hop, hl, hc, hr, Result.andThen]
  have e1 : (madeCells (Value.cells (.agg #[.int .i64 0, .int .i64 0])) (n * i.size)).toList = wdC (List.replicate n (0, 0)) := by
    rw [hsz, wdC_zero]
    exact madeCells_zero2 .i64 (n * 2)
  have own := World.ownsRow_lit (base := B) (e := e) (size := 2) w (madeCells (Value.cells (.agg #[.int .i64 0, .int .i64 0])) (n * i.size)) n hB (by unfold maxLen; omega) (by rw [size_madeCells, hsz])
  rw [e1] at own
  refine hK' _ _ (hK w.heap.size _ hB ?_ (World.grownBy_alloc w _ none))
  show World.ownsRow _ B e 2 _ (List.replicate n (0, 0)).length _
  rw [List.length_replicate]
  exact own

/-! ### blocks of numbers: arrays -/
/-- the cells of numbers -/
def nC (l : List Nat) : List Value := l.map fun (n : Nat) => Value.int .i64 (n : Int)
theorem nC_get (l : List Nat) (i : Nat) (hi : i < l.length) : (nC l)[i]? = some (.int .i64 ((l.getD i 0 : Nat) : Int)) := by simp [nC, List.getD, hi]
theorem nC_set (l : List Nat) (i x : Nat) : nC (l.set i x) = (nC l).set i (.int .i64 (x : Int)) := by simp [nC, List.map_set]
/-- block g HOLDS THE NUMBERS l -/
def Nb (w : World) (g : Nat) (l : List Nat) : Prop := Cs w g (nC l)
theorem Nb.get {w : World} {g : Nat} {l : List Nat} (h : Nb w g l) (i : Nat) (hi : i < l.length) : w.cell? ⟨g, i, none⟩ = some (.int .i64 ((l.getD i 0 : Nat) : Int)) := Cs.get h i _ (nC_get l i hi)
theorem Nb.set {w : World} {g : Nat} {l : List Nat} (h : Nb w g l) (i x : Nat) : Nb (w.setCell ⟨g, i, none⟩ (.int .i64 (x : Int))) g (l.set i x) := by
  have := Cs.set h i (.int .i64 (x : Int))
  unfold Nb; rw [nC_set]; exact this
end Go.Proofs.YtbkbabaoockigaaGreatDoor

set_option maxRecDepth 100000
set_option maxRecDepth 100000
set_option linter.unusedSimpArgs false
set_option linter.unusedVariables false
namespace Go.Proofs.YtbkbabaoockigaaGreatDoor
open Go.RowKit

/-- WHICH LENGTHS MAY BE -/
def RightL (ls : List Int) : Prop := ls.length ≤ 256 ∧ (∀ x ∈ ls, 0 ≤ x ∧ x ≤ 24) ∧ sumN (ls.map Int.toNat) < 16777216
instance (ls : List Int) : Decidable (RightL ls) := by unfold RightL; exact inferInstance
theorem RightL.code {ls : List Int} (h : RightL ls) : CodeOk (ls.map Int.toNat) :=
  ⟨by rw [List.length_map]; exact h.1, fun n hn => by
    obtain ⟨x, hx, rfl⟩ := List.mem_map.1 hn
    have := h.2.1 x hx
    omega, h.2.2⟩
theorem RightL.at {ls : List Int} (h : RightL ls) (i : Nat) (hi : i < ls.length) : ls.getD i 0 = (((ls.map Int.toNat).getD i 0 : Nat) : Int) := by
  have := h.2.1 ls[i] (List.getElem_mem hi)
  simp [List.getD, hi]; omega
theorem sum_append (a b : List Nat) : sumN (a ++ b) = sumN a + sumN b := by
  induction a with
  | nil => simp [sumN]
  | cons m r ih => rw [List.cons_append, sumN, sumN, ih]; omega
theorem sum_take (ls : List Int) (k : Nat) (hk : k < ls.length) : sumN ((ls.take (k + 1)).map Int.toNat) = sumN ((ls.take k).map Int.toNat) + roomN (ls.getD k 0).toNat := by
  rw [List.take_succ_eq_append_getElem hk, List.map_append, sum_append]
  simp [sumN, List.getD, hk]
theorem room_le12 (n : Nat) : roomN n ≤ 8388608 := by
  unfold roomN
  by_cases h : n = 0
  · rw [if_pos h]; omega
  · rw [if_neg h]
    exact Nat.pow_le_pow_right (n := 2) (by decide) (show 24 - n ≤ 23 by omega)
theorem sum_le (l : List Nat) : sumN l ≤ 8388608 * l.length := by
  induction l with
  | nil => simp [sumN]
  | cons m r ih => have := room_le12 m; rw [sumN, List.length_cons]; omega
theorem all_take (ls : List Int) (k : Nat) (hk : k < ls.length) (p : Int → Prop) (h : ∀ x ∈ ls.take k, p x) (hx : p (ls.getD k 0)) : ∀ x ∈ ls.take (k + 1), p x := by
  rw [List.take_succ_eq_append_getElem hk]
  intro x hxx
  rcases List.mem_append.1 hxx with h1 | h1
  · exact h x h1
  · have : x = ls.getD k 0 := by simpa [List.getD, hk] using h1
    rw [this]; exact hx
theorem pow_cases (n : Nat) (h0 : 0 < n) (_ : n ≤ 24) : (2 : Int) ^ (24 - n) = ((roomN n : Nat) : Int) := by
  rw [room_pos h0]; simp

theorem room_any12 (n : Nat) (hn : n ≤ 24) (w : World) : Calls Tryz.prog 133 #[.int .i64 (n : Int)] w fun e w' => e = .returned (.int .i64 ((roomN n : Nat) : Int)) ∧ w = w' := by
  by_cases h0 : n = 0
  · subst h0
    go_enter Tryz.func133, Tryz.ntmps133
    go_wp2
    go_ret
    exact ⟨rfl, rfl⟩
  · have e0 : ((n : Int) == 0) = false := by simp; omega
    have hw : IntKind.i64.wrap (24 - (n : Int)) = ((24 - n : Nat) : Int) := by rw [IntKind.wrap_i64]; omega
    have hp := Lib.hid (pow_cases n (by omega) hn)
    have hr := room_le12 n
    have hw2 : IntKind.i64.wrap ((2 : Int) ^ (24 - n)) = (2 : Int) ^ (24 - n) := by rw [hp.out, IntKind.wrap_i64]; omega
    clear hr h0
    go_enter Tryz.func133, Tryz.ntmps133
    go_wp2
    go_ret
    exact ⟨ret_int hp.out, rfl⟩
theorem room_is {x : Int} {n : Nat} (hx : x = (n : Int)) (hn : n ≤ 24) (w : World) : Calls Tryz.prog 133 #[.int .i64 x] w fun e w' => e = .returned (.int .i64 ((roomN n : Nat) : Int)) ∧ w = w' := hx ▸ room_any12 n hn w

set_option maxHeartbeats 3000000 in
theorem right_any (v : Value) (ls : List Int) (w : World) (hr : Rd .i64 w v ls) : Calls Tryz.prog 131 #[v] w fun e w' => e = .returned (.bool (decide (RightL ls))) ∧ w = w' := by
  have hrl := hr.len
  have hml : maxLen = 9223372036854775807 := rfl
  rw [hml] at hrl
  have hR := Lib.hid hr
  obtain ⟨va, vc, rfl⟩ := hr.isSlice
  obtain ⟨ans, hans⟩ : ∃ ans, ans = decide (RightL ls) := ⟨_, rfl⟩
  rw [← hans]
  have A0 := Lib.hid hans
  clear hans hml hr
  by_cases h256 : ls.length ≤ 256
  · have d : decide ((ls.length : Int) > 256) = false := decide_eq_false (by omega)
    go_enter Tryz.func131, Tryz.ntmps131
    go_wp2_with fail
    go_loop [3, 11] (fun s i => ∃ (k : Nat), k ≤ ls.length ∧ s = .int .i64 ((sumN ((ls.take k).map Int.toNat) : Nat) : Int) ∧ i = .int .i64 k ∧ Hid (∀ x ∈ ls.take k, 0 ≤ x ∧ x ≤ 24)) (fun _ i => ls.length - (intOf i).toNat)
    case atStart => exact ⟨0, by omega, rfl, rfl, fun x hx => by simp at hx⟩
    case round =>
      obtain ⟨k, hk, rfl, rfl, hall⟩ := hrel
      by_cases hlt : k < ls.length
      · obtain ⟨x, hx⟩ : ∃ x, x = ls.getD k 0 := ⟨_, rfl⟩
        have hcell : ∃ b o, va = some ⟨b, o, none⟩ ∧ w.cell? ⟨b, o + k, none⟩ = some (.int .i64 x) := by
          rcases hR.out with ⟨rfl, _⟩ | ⟨_, b, o, cp, he, h2, h3, h4, h5⟩
          · simp at hlt
          · simp only [Value.slice.injEq] at he
            exact ⟨b, o, he.1, by rw [hx]; exact h5 _ hlt⟩
        obtain ⟨b, o, rfl, hcell⟩ := hcell
        have hmem : x ∈ ls := by rw [hx]; simp [List.getD, hlt]
        by_cases h0 : x < 0
        · have d0 : decide (x < 0) = true := decide_eq_true h0
          have AA : Hid (ans = false) := A0.out.trans (decide_eq_false fun h => by have := h.2.1 x hmem; omega)
          clear hall hx hmem h0 A0
          go_wp2_with fail
          refine bodyPost_ret (v := .bool false) (by simp [results, Tryz.results131, go_sem]) rfl ⟨by rw [AA.out], rfl⟩
        · have d0 : decide (x < 0) = false := decide_eq_false h0
          by_cases h1 : x > 24
          · have d1 : decide (x > 24) = true := decide_eq_true h1
            have AA : Hid (ans = false) := A0.out.trans (decide_eq_false fun h => by have := h.2.1 x hmem; omega)
            clear hall hx hmem h0 h1 A0
            go_wp2_with fail
            refine bodyPost_ret (v := .bool false) (by simp [results, Tryz.results131, go_sem]) rfl ⟨by rw [AA.out], rfl⟩
          · have d1 : decide (x > 24) = false := decide_eq_false h1
            have hs := Lib.hid (sum_take ls k hlt)
            have hle := sum_le ((ls.take k).map Int.toNat)
            have hl2 : ((ls.take k).map Int.toNat).length ≤ 256 := by simp; omega
            have hrm := room_le12 x.toNat
            have HA : Hid (∀ y ∈ ls.take (k + 1), 0 ≤ y ∧ y ≤ 24) := all_take ls k hlt _ hall.out (by rw [← hx]; omega)
            have HX := Lib.hid (show x = ((x.toNat : Nat) : Int) ∧ x.toNat ≤ 24 by omega)
            have HS : Hid (sumN ((ls.take (k + 1)).map Int.toNat) = sumN ((ls.take k).map Int.toNat) + roomN x.toNat) := by show _ = _; rw [hs.out, hx]
            clear hall hx hmem h0 h1 hs
            generalize sumN ((ls.take k).map Int.toNat) = S at *
            generalize hrr : roomN x.toNat = r at *
            have hadd : IntKind.i64.wrap ((S : Int) + (r : Int)) = (S : Int) + (r : Int) := by rw [IntKind.wrap_i64]; omega
            have HRR := Lib.hid hrr
            clear hle hl2 hrm hrr
            go_wp2_with (go_at_call 133; refine (room_is HX.out.1 HX.out.2 _).mono ?_; rintro e w' ⟨rfl, rfl⟩; rw [HRR.out])
            go_round
            case rel => exact ⟨k + 1, by omega, by rw [HS.out]; simp, by go_num, HA⟩
            case measure => simp [intOf]; omega
      · have hend : k = ls.length := by omega
        have dl : decide ((k : Int) < (ls.length : Int)) = false := decide_eq_false (by omega)
        have AA : Hid (ans = decide (((sumN ((ls.take k).map Int.toNat) : Nat) : Int) < 16777216)) := by
          show _ = _
          have ha := hall.out
          rw [A0.out, hend, List.take_length]
          rw [hend, List.take_length] at ha
          rw [decide_eq_decide]
          exact ⟨fun h => by have := h.2.2; omega, fun h => ⟨h256, ha, by omega⟩⟩
        clear hall hend A0
        generalize sumN ((ls.take k).map Int.toNat) = S at *
        go_wp2_with fail
        refine bodyPost_ret (v := .bool (decide ((S : Int) < 16777216))) (by simp [results, Tryz.results131, go_sem]) rfl ⟨by rw [AA.out], rfl⟩
  · have d : decide ((ls.length : Int) > 256) = true := decide_eq_true (by omega)
    have AA : Hid (ans = false) := A0.out.trans (decide_eq_false fun h => h256 h.1)
    clear h256 A0
    go_enter Tryz.func131, Tryz.ntmps131
    go_wp2
    go_ret
    exact ⟨by rw [AA.out]; rfl, rfl⟩

set_option maxHeartbeats 3000000 in
theorem rright_any (v : Value) (ls : List Int) (w : World) (hr : Rd .i64 w v ls) : Calls Tryz.prog 122 #[v] w fun e w' => e = .returned (.bool (decide (RightL ls))) ∧ w = w' := by
  have hrl := hr.len
  have hml : maxLen = 9223372036854775807 := rfl
  rw [hml] at hrl
  have hR := Lib.hid hr
  obtain ⟨va, vc, rfl⟩ := hr.isSlice
  obtain ⟨ans, hans⟩ : ∃ ans, ans = decide (RightL ls) := ⟨_, rfl⟩
  rw [← hans]
  have A0 := Lib.hid hans
  clear hans hml hr
  by_cases h256 : ls.length ≤ 256
  · have d : decide ((ls.length : Int) > 256) = false := decide_eq_false (by omega)
    go_enter Tryz.func122, Tryz.ntmps122
    go_wp2_with fail
    go_loop [3, 4] (fun s i => ∃ (k : Nat), k ≤ ls.length ∧ s = .int .i64 ((sumN ((ls.take k).map Int.toNat) : Nat) : Int) ∧ i = .int .i64 k ∧ Hid (∀ x ∈ ls.take k, 0 ≤ x ∧ x ≤ 24)) (fun _ i => ls.length - (intOf i).toNat)
    case atStart => exact ⟨0, by omega, rfl, rfl, fun x hx => by simp at hx⟩
    case round =>
      obtain ⟨k, hk, rfl, rfl, hall⟩ := hrel
      by_cases hlt : k < ls.length
      · obtain ⟨x, hx⟩ : ∃ x, x = ls.getD k 0 := ⟨_, rfl⟩
        have hcell : ∃ b o, va = some ⟨b, o, none⟩ ∧ w.cell? ⟨b, o + k, none⟩ = some (.int .i64 x) := by
          rcases hR.out with ⟨rfl, _⟩ | ⟨_, b, o, cp, he, h2, h3, h4, h5⟩
          · simp at hlt
          · simp only [Value.slice.injEq] at he
            exact ⟨b, o, he.1, by rw [hx]; exact h5 _ hlt⟩
        obtain ⟨b, o, rfl, hcell⟩ := hcell
        have hmem : x ∈ ls := by rw [hx]; simp [List.getD, hlt]
        by_cases h0 : x < 0
        · have d0 : decide (x < 0) = true := decide_eq_true h0
          have AA : Hid (ans = false) := A0.out.trans (decide_eq_false fun h => by have := h.2.1 x hmem; omega)
          clear hall hx hmem h0 A0
          go_wp2_with fail
          refine bodyPost_ret (v := .bool false) (by simp [results, Tryz.results122, go_sem]) rfl ⟨by rw [AA.out], rfl⟩
        · have d0 : decide (x < 0) = false := decide_eq_false h0
          by_cases h1 : x > 24
          · have d1 : decide (x > 24) = true := decide_eq_true h1
            have AA : Hid (ans = false) := A0.out.trans (decide_eq_false fun h => by have := h.2.1 x hmem; omega)
            clear hall hx hmem h0 h1 A0
            go_wp2_with fail
            refine bodyPost_ret (v := .bool false) (by simp [results, Tryz.results122, go_sem]) rfl ⟨by rw [AA.out], rfl⟩
          · have d1 : decide (x > 24) = false := decide_eq_false h1
            have hs := Lib.hid (sum_take ls k hlt)
            have hle := sum_le ((ls.take k).map Int.toNat)
            have hl2 : ((ls.take k).map Int.toNat).length ≤ 256 := by simp; omega
            have hrm := room_le12 x.toNat
            have HA : Hid (∀ y ∈ ls.take (k + 1), 0 ≤ y ∧ y ≤ 24) := all_take ls k hlt _ hall.out (by rw [← hx]; omega)
            have HS : Hid (sumN ((ls.take (k + 1)).map Int.toNat) = sumN ((ls.take k).map Int.toNat) + roomN x.toNat) := by show _ = _; rw [hs.out, hx]
            obtain ⟨n, rfl⟩ : ∃ n : Nat, x = (n : Int) := ⟨x.toNat, by omega⟩
            rw [Int.toNat_natCast] at HS hrm
            have hn : n ≤ 24 := by omega
            clear hall hx hmem h0 h1 hs
            generalize sumN ((ls.take k).map Int.toNat) = S at *
            by_cases hn0 : n = 0
            · subst hn0
              have HS0 : Hid (sumN ((ls.take (k + 1)).map Int.toNat) = S) := HS.out
              clear HS
              go_wp2_with fail
              go_round
              case rel => exact ⟨k + 1, by omega, by rw [HS0.out], by go_num, HA⟩
              case measure => simp [intOf]; omega
            · have dn : decide ((n : Int) > 0) = true := decide_eq_true (by omega)
              have dn' : decide (n > 0) = true := decide_eq_true (by omega)
              have dn'' : decide (0 < n) = true := decide_eq_true (by omega)
              have hw : IntKind.i64.wrap (24 - (n : Int)) = ((24 - n : Nat) : Int) := by rw [IntKind.wrap_i64]; omega
              have hp := Lib.hid (pow_cases n (by omega) hn)
              have hw2 : IntKind.i64.wrap ((2 : Int) ^ (24 - n)) = (2 : Int) ^ (24 - n) := by rw [hp.out, IntKind.wrap_i64]; omega
              have hadd : IntKind.i64.wrap ((S : Int) + (2 : Int) ^ (24 - n)) = (S : Int) + (2 : Int) ^ (24 - n) := by rw [hp.out, IntKind.wrap_i64]; omega
              clear hrm hle hl2 hn0
              go_wp2_with fail
              go_round
              case rel => exact ⟨k + 1, by omega, by rw [HS.out, hp.out]; simp, by go_num, HA⟩
              case measure => simp [intOf]; omega
      · have hend : k = ls.length := by omega
        have dl : decide ((k : Int) < (ls.length : Int)) = false := decide_eq_false (by omega)
        have AA : Hid (ans = decide (((sumN ((ls.take k).map Int.toNat) : Nat) : Int) < 16777216)) := by
          show _ = _
          have ha := hall.out
          rw [A0.out, hend, List.take_length]
          rw [hend, List.take_length] at ha
          rw [decide_eq_decide]
          exact ⟨fun h => by have := h.2.2; omega, fun h => ⟨h256, ha, by omega⟩⟩
        clear hall hend A0
        generalize sumN ((ls.take k).map Int.toNat) = S at *
        go_wp2_with fail
        refine bodyPost_ret (v := .bool (decide ((S : Int) < 16777216))) (by simp [results, Tryz.results122, go_sem]) rfl ⟨by rw [AA.out], rfl⟩
  · have d : decide ((ls.length : Int) > 256) = true := decide_eq_true (by omega)
    have AA : Hid (ans = false) := A0.out.trans (decide_eq_false fun h => h256 h.1)
    clear h256 A0
    go_enter Tryz.func122, Tryz.ntmps122
    go_wp2
    go_ret
    exact ⟨by rw [AA.out]; rfl, rfl⟩

/-! ### bits of numbers -/
theorem wraps62 (n : Int) (h₀ : 0 ≤ n) (h₁ : n < 2 ^ 62) : IntKind.i64.wrap n = n := by rw [IntKind.wrap_i64]; omega
theorem or_join (a x n : Nat) (hx : x < 2 ^ n) (hn : n ≤ 31) (ha : a * 2 ^ n < 2 ^ 62) : bits .or .i64 ((a : Int) * 2 ^ n) (x : Int) = ((a * 2 ^ n + x : Nat) : Int) := by
  have hp : 2 ^ n ≤ 2 ^ 31 := Nat.pow_le_pow_right (by decide) hn
  have e : (a : Int) * 2 ^ n = ((a * 2 ^ n : Nat) : Int) := by simp
  have hx' : (x : Int) < 2 ^ n := by exact_mod_cast hx
  have := bits_join .i64 62 (by decide) wraps62 n ((a : Int) * 2 ^ n) (x : Int) (by rw [e]; omega) (Int.mul_emod_left _ _) (by rw [e]; exact_mod_cast ha) (by omega) hx' (by
    have : x < 2 ^ 62 := by omega
    exact_mod_cast this)
  rw [this, e]; omega
theorem or_bit (b x : Nat) (hb : b < 16777216) (hx : x < 2) : bits .or .i64 ((b : Int) * 2) (x : Int) = ((2 * b + x : Nat) : Int) := by
  have := or_join b x 1 hx (by decide) (by omega)
  rw [Nat.pow_one, Int.pow_succ, Int.pow_zero, Int.one_mul] at this
  rw [this]; omega
theorem and_ones (a n : Nat) (ha : a < 2 ^ 62) (hn : n ≤ 31) : bits .and .i64 (a : Int) ((2 ^ n - 1 : Nat) : Int) = ((a % 2 ^ n : Nat) : Int) := by
  have hpos : 0 < 2 ^ n := Nat.pow_pos (by decide)
  have := bits_mask .i64 62 (by decide) wraps62 n (by omega) (a : Int) (by omega) (by exact_mod_cast ha)
  rw [show ((2 ^ n - 1 : Nat) : Int) = (2 : Int) ^ n - 1 by rw [Int.natCast_sub hpos]; simp, this]
  simp

theorem ones_any12 (n : Nat) (hn : n ≤ 24) (w : World) : Calls Tryz.prog 129 #[.int .i64 (n : Int)] w fun e w' => e = .returned (.agg #[.int .i64 ((2 ^ n - 1 : Nat) : Int), .int .i64 (n : Int)]) ∧ Below w.heap.size w w' := by
  have hpn : 0 < 2 ^ n := Nat.pow_pos (by decide)
  have hp2 : 2 ^ n ≤ 2 ^ 24 := Nat.pow_le_pow_right (by decide) hn
  have hp2' : 2 ^ n ≤ 16777216 := hp2
  have hp : (2 : Int) ^ n = ((2 ^ n : Nat) : Int) := by simp
  have e1 : ((2 ^ n - 1 : Nat) : Int) = (2 : Int) ^ n - 1 := by rw [hp]; omega
  rw [e1]
  have hw1 : IntKind.i64.wrap ((2 : Int) ^ n) = (2 : Int) ^ n := by rw [hp, IntKind.wrap_i64]; omega
  have hw2 : IntKind.i64.wrap ((2 : Int) ^ n - 1) = (2 : Int) ^ n - 1 := by rw [hp, IntKind.wrap_i64]; omega
  clear hp2 hp2' hp e1 hpn
  go_enter Tryz.func129, Tryz.ntmps129
  go_wp2
  refine bodyPost_ret (v := .agg #[.int .i64 ((2 : Int) ^ n - 1), .int .i64 (n : Int)]) (by simp [results, Tryz.results129, go_sem]) rfl ⟨rfl, ?_⟩
  go_grown

theorem field_w (a b : Int) (W : World) : (Instr.field 200 (.agg #[.int .i64 a, .int .i64 b]) 0).run Tryz.prog W = .ok (.int .i64 a) W := by
  simp only [Instr.field, Sem.run_bind, run_underlying Tryz.underlying200]
  go_simp
  simp [asAgg]
/-- a word with a bit more -/
theorem longer_any (b n x : Nat) (hn : n ≤ 24) (hb : b < 2 ^ 24) (hx : x < 2) (w : World) : Calls Tryz.prog 128 #[.agg #[.int .i64 (b : Int), .int .i64 (n : Int)], .int .i64 (x : Int)] w fun e w' => e = .returned (.agg #[.int .i64 ((2 * b + x : Nat) : Int), .int .i64 ((n + 1 : Nat) : Int)]) ∧ Below w.heap.size w w' := by
  have hb' : b < 16777216 := hb
  have hw1 : IntKind.i64.wrap ((b : Int) * 2) = (b : Int) * 2 := by rw [IntKind.wrap_i64]; omega
  have hw2 : IntKind.i64.wrap ((n : Int) + 1) = (n : Int) + 1 := by rw [IntKind.wrap_i64]; omega
  have ho : bits .or .i64 ((b : Int) * 2) (x : Int) = ((2 * b + x : Nat) : Int) := or_bit b x hb' hx
  have e1 : ((n + 1 : Nat) : Int) = (n : Int) + 1 := by omega
  rw [e1]
  clear hb e1
  go_enter Tryz.func128, Tryz.ntmps128
  go_wp2
  refine bodyPost_ret (v := .agg #[.int .i64 ((2 * b + x : Nat) : Int), .int .i64 ((n : Int) + 1)]) (by simp [results, Tryz.results128, go_sem]) rfl ⟨rfl, ?_⟩
  go_grown
end Go.Proofs.YtbkbabaoockigaaGreatDoor

set_option maxRecDepth 100000
set_option maxRecDepth 100000
set_option linter.unusedSimpArgs false
set_option linter.unusedVariables false
namespace Go.Proofs.YtbkbabaoockigaaGreatDoor
open Go.RowKit

def evL (ns : List Nat) (k : Nat) : List Nat := (List.range 25).map fun n => evenN (ns.take k) n
def shL (ns : List Nat) (m : Nat) : List Nat := (List.range 25).map fun n => if n < m then shortN ns n else 0
/-- where the words of each length begin -/
def beL (ns : List Nat) : List Nat := (List.range 25).map (shortN ns)
theorem tab_get (f : Nat → Nat) (n : Nat) (hn : n < 25) : ((List.range 25).map f).getD n 0 = f n := by simp [List.getD, hn]
theorem tab_set (f g : Nat → Nat) (n : Nat) (h : ∀ j, j < 25 → j ≠ n → g j = f j) : ((List.range 25).map f).set n (g n) = (List.range 25).map g := by
  apply List.ext_getElem
  · simp
  · intro j h1 h2
    simp only [List.length_set, List.length_map, List.length_range] at h1
    rw [List.getElem_set]
    by_cases e : n = j
    · subst e; simp
    · rw [if_neg e]; simp [h j h1 (fun x => e x.symm)]
theorem ev_zero (ns : List Nat) : evL ns 0 = List.replicate 25 0 := by unfold evL; simp [evenN]; rfl
theorem ev_step (ns : List Nat) (k : Nat) (hk : k < ns.length) (n : Nat) (hn : ns.getD k 0 = n) : (evL ns k).set n (evenN (ns.take k) n + roomN n) = evL ns (k + 1) := by
  have e : ns[k] = n := by rw [← hn, getD_of12 hk]
  have := tab_set (fun n => evenN (ns.take k) n) (fun n => evenN (ns.take (k + 1)) n) n (fun j hj hne => by
    simp only [even_take ns k j hk]
    rw [if_neg (by rw [e]; exact fun x => hne x.symm)]; rfl)
  rw [even_take ns k n hk, if_pos e] at this
  exact this
theorem sh_one (ns : List Nat) : shL ns 1 = List.replicate 25 0 := by
  apply List.ext_getElem
  · simp [shL]
  · intro j h1 h2
    simp only [shL, List.getElem_map, List.getElem_range, List.getElem_replicate]
    by_cases h : j < 1
    · rw [if_pos h, show j = 0 by omega, short_zero]
    · rw [if_neg h]
theorem sh_step (ns : List Nat) (m : Nat) (hm : m < 24) : (shL ns (m + 1)).set (m + 1) (shortN ns m + evenN ns m) = shL ns (m + 2) := by
  have := tab_set (fun n => if n < m + 1 then shortN ns n else 0) (fun n => if n < m + 2 then shortN ns n else 0) (m + 1) (fun j hj hne => by
    by_cases h : j < m + 1
    · simp only [if_pos h, if_pos (show j < m + 2 by omega)]
    · simp only [if_neg h, if_neg (show ¬ j < m + 2 by omega)])
  rw [if_pos (by omega), short_succ] at this
  exact this
theorem sh_end (ns : List Nat) : shL ns 25 = beL ns := by
  apply List.ext_getElem
  · simp [shL, beL]
  · intro j h1 h2
    have : j < 25 := by simpa [shL] using h1
    simp [shL, beL, this]
theorem nC_len (l : List Nat) : (nC l).length = l.length := by simp [nC]
theorem nC_one (l : List Nat) : (nC l).toArray.all (·.oneCell') = true := by
  rw [Array.all_eq_true_iff_forall_mem]
  intro x hx
  simp only [nC, List.mem_toArray, List.mem_map] at hx
  obtain ⟨n, _, rfl⟩ := hx
  rfl
theorem arr_info (l : List Nat) (h : l.length = 25) : (Tryz.prog.info? 208).map (·.size) = some (nC l).toArray.size := by
  rw [show (nC l).toArray.size = 25 by rw [List.size_toArray, nC_len, h]]; kernel_rfl
theorem alloc2 (w : World) (a b : Obj) : ((w.alloc a).alloc b).heap[w.heap.size]? = some a ∧ ((w.alloc a).alloc b).heap[w.heap.size + 1]? = some b := by
  constructor
  · show ((w.heap.push a).push b)[w.heap.size]? = _
    rw [Array.getElem?_push, if_neg (by simp)]; simp
  · show ((w.heap.push a).push b)[w.heap.size + 1]? = _
    rw [Array.getElem?_push, if_pos (by simp)]
theorem Nb.of {w : World} {g : Nat} {l : List Nat} {cs : Array Value} {T : TypeId} (h : w.heap[g]? = some (.cells cs T)) (hc : cs = (nC l).toArray) : Nb w g l := ⟨T, by rw [h, hc]⟩
theorem zero25 : (#[Value.int .i64 0, .int .i64 0, .int .i64 0, .int .i64 0, .int .i64 0, .int .i64 0, .int .i64 0, .int .i64 0, .int .i64 0, .int .i64 0, .int .i64 0, .int .i64 0, .int .i64 0, .int .i64 0, .int .i64 0, .int .i64 0, .int .i64 0, .int .i64 0, .int .i64 0, .int .i64 0, .int .i64 0, .int .i64 0, .int .i64 0, .int .i64 0, .int .i64 0] : Array Value) = (nC (List.replicate 25 0)).toArray := rfl
theorem Nb.drew {w : World} {g : Nat} {l : List Nat} (h : Nb w g l) : Nb w.drew g l := h
theorem Nb.lt {w : World} {g : Nat} {l : List Nat} (h : Nb w g l) : g < w.heap.size := Cs.lt h
theorem Nb.free {w : World} {g : Nat} {l : List Nat} (h : Nb w g l) (j : Nat) : w.frozen? ⟨g, j, none⟩ = false := Cs.free h j
theorem Nb.other {w : World} {g : Nat} {l : List Nat} (h : Nb w g l) (b o : Nat) (x : Value) (hne : g ≠ b) : Nb (w.setCell ⟨b, o, none⟩ x) g l := Cs.grown h (grown_set b o w x) (fun e => hne (by simpa using e))
theorem Nb.alloc {w : World} {g : Nat} {l : List Nat} (h : Nb w g l) (o : Obj) : Nb (w.alloc o) g l := Cs.grown h (World.grownBy_alloc w o none) (by simp)
theorem Nb.below {w w' : World} {g : Nat} {l : List Nat} (h : Nb w g l) (hb : Below w.heap.size w w') : Nb w' g l := Cs.below h hb

set_option maxHeartbeats 3000000 in
theorem begin_any (v : Value) (ls : List Int) (w : World) (hr : Rd .i64 w v ls) (hc : RightL ls) : Calls Tryz.prog 132 #[v] w fun e w' => e = .returned (.agg (nC (beL (ls.map Int.toNat))).toArray) ∧ Below w.heap.size w w' := by
  have hrl := hc.1
  have hR := Lib.hid hr
  have hC := Lib.hid hc
  obtain ⟨va, vc, rfl⟩ := hr.isSlice
  obtain ⟨ns, hns⟩ : ∃ ns, ns = ls.map Int.toNat := ⟨_, rfl⟩
  rw [← hns]
  have HN := Lib.hid hns
  have HNL : Hid (ns.length = ls.length) := by show _ = _; rw [hns, List.length_map]
  have HM := Lib.hid hc.code.sum
  clear hr hc hns
  go_enter Tryz.func132, Tryz.ntmps132
  go_wp2_with fail
  obtain ⟨x0, x1⟩ := alloc2 w (.cells #[Value.int .i64 0, .int .i64 0, .int .i64 0, .int .i64 0, .int .i64 0, .int .i64 0, .int .i64 0, .int .i64 0, .int .i64 0, .int .i64 0, .int .i64 0, .int .i64 0, .int .i64 0, .int .i64 0, .int .i64 0, .int .i64 0, .int .i64 0, .int .i64 0, .int .i64 0, .int .i64 0, .int .i64 0, .int .i64 0, .int .i64 0, .int .i64 0, .int .i64 0] 208) (.cells #[Value.int .i64 0, .int .i64 0, .int .i64 0, .int .i64 0, .int .i64 0, .int .i64 0, .int .i64 0, .int .i64 0, .int .i64 0, .int .i64 0, .int .i64 0, .int .i64 0, .int .i64 0, .int .i64 0, .int .i64 0, .int .i64 0, .int .i64 0, .int .i64 0, .int .i64 0, .int .i64 0, .int .i64 0, .int .i64 0, .int .i64 0, .int .i64 0, .int .i64 0] 208)
  have N0 := Lib.hid (Nb.of x0 zero25)
  have N1 := Lib.hid (Nb.of x1 zero25)
  have B0 := Lib.hid (((Below.refl w.heap.size w).alloc (Nat.le_refl _) (.cells #[Value.int .i64 0, .int .i64 0, .int .i64 0, .int .i64 0, .int .i64 0, .int .i64 0, .int .i64 0, .int .i64 0, .int .i64 0, .int .i64 0, .int .i64 0, .int .i64 0, .int .i64 0, .int .i64 0, .int .i64 0, .int .i64 0, .int .i64 0, .int .i64 0, .int .i64 0, .int .i64 0, .int .i64 0, .int .i64 0, .int .i64 0, .int .i64 0, .int .i64 0] 208)).alloc (by simp) (.cells #[Value.int .i64 0, .int .i64 0, .int .i64 0, .int .i64 0, .int .i64 0, .int .i64 0, .int .i64 0, .int .i64 0, .int .i64 0, .int .i64 0, .int .i64 0, .int .i64 0, .int .i64 0, .int .i64 0, .int .i64 0, .int .i64 0, .int .i64 0, .int .i64 0, .int .i64 0, .int .i64 0, .int .i64 0, .int .i64 0, .int .i64 0, .int .i64 0, .int .i64 0] 208))
  clear x0 x1
  generalize (w.alloc _).alloc _ = w0 at N0 N1 B0 ⊢
  rw [← ev_zero ns] at N1
  go_loopw [10] (fun i wr => ∃ k : Nat, k ≤ ls.length ∧ i = .int .i64 k ∧ Nb wr (w.heap.size + 1) (evL ns k) ∧ Nb wr w.heap.size (List.replicate 25 0) ∧ Below w.heap.size w wr) (fun i _ => ls.length - (intOf i).toNat)
  case atStart => exact ⟨0, Nat.zero_le _, rfl, N1.out, N0.out, B0.out⟩
  case round =>
    obtain ⟨k, hk, rfl, n1, n0, hb⟩ := hrel
    clear N0 N1 B0
    by_cases hlt : k < ls.length
    · obtain ⟨n, hn⟩ : ∃ n, n = ns.getD k 0 := ⟨_, rfl⟩
      have hx : ls.getD k 0 = (n : Int) := by rw [hC.out.at k hlt, hn, HN.out]
      have hn24 : n ≤ 24 := by rw [hn, HN.out]; exact hC.out.code.at k
      have hcell : ∃ b o, va = some ⟨b, o, none⟩ ∧ wr.cell? ⟨b, o + k, none⟩ = some (.int .i64 (n : Int)) := by
        rcases hR.out.below hb with ⟨rfl, _⟩ | ⟨_, b, o, cp, he, h2, h3, h4, h5⟩
        · simp at hlt
        · simp only [Value.slice.injEq] at he
          exact ⟨b, o, he.1, by rw [← hx]; exact h5 _ hlt⟩
      obtain ⟨b, o, rfl, hcell⟩ := hcell
      have hE := n1.get n (by simp [evL]; omega)
      rw [evL, tab_get _ n (by omega)] at hE
      have hS := Lib.hid (ev_step ns k (by rw [HNL.out]; exact hlt) n hn.symm)
      have hle : evenN (ns.take k) n + roomN n ≤ 16777216 := by
        have e1 := even_take ns k n (by rw [HNL.out]; exact hlt)
        rw [if_pos (by rw [hn, getD_of12]), ] at e1
        have e2 := even_take_all ns (k + 1) n
        have e3 := short_succ ns n
        have e4 := (show CodeOk ns by rw [HN.out]; exact hC.out.code).short_le (n + 1) (by omega)
        omega
      generalize evenN (ns.take k) n = E at hE hS hle
      have NN1 := Lib.hid n1
      have NN0 := Lib.hid n0
      have fz := n1.free n
      have hEd : wr.drew.cell? ⟨w.heap.size + 1, n, none⟩ = some (.int .i64 (E : Int)) := hE
      have fzd : wr.drew.frozen? ⟨w.heap.size + 1, n, none⟩ = false := fz
      have hadd : IntKind.i64.wrap ((E : Int) + ((roomN n : Nat) : Int)) = (E : Int) + ((roomN n : Nat) : Int) := by rw [IntKind.wrap_i64]; omega
      have hi1 : (0 : Int) ≤ (n : Int) := by omega
      have hi2 : (n : Int) < 25 := by omega
      have HB := Lib.hid hb
      clear hn hx n1 n0 hb
      go_wp2_with fail
      go_still_tail 7, (by kernel_rfl)
      still_call ((room_any12 n hn24 wr.drew).mono fun e w' h => ⟨h.1, h.2.symm⟩)
      repeat still_step
      change wpList _ _ _ _ _ wr.drew
      have D1 := Lib.hid NN1.out.drew
      have D0 := Lib.hid NN0.out.drew
      have DB := Lib.hid HB.out.drew
      clear NN1 NN0 HB hE fz
      generalize wr.drew = wd at *
      go_wp2_with fail
      go_roundw
      case rel =>
        have := D1.out.set n (E + roomN n)
        rw [hS.out, Int.natCast_add] at this
        exact ⟨k + 1, by omega, by go_num, this, D0.out.other (w.heap.size + 1) _ _ (by omega), DB.out.setCell (by simp) _⟩
      case measure => simp [intOf]; omega
    · have hend : k = ls.length := by omega
      have hall : Hid (∀ n, n < 25 → (evL ns k).getD n 0 = evenN ns n) := fun n hn => by
        rw [evL, tab_get _ n hn, hend, ← HNL.out, List.take_length]
      have dl : decide ((k : Int) < (ls.length : Int)) = false := decide_eq_false (by omega)
      have dl' : decide (k < ls.length) = false := decide_eq_false (by omega)
      have HB := Lib.hid hb
      have NN1 := Lib.hid n1
      have NN0 := Lib.hid n0
      have HEL : Hid ((evL ns k).length = 25) := by show _ = _; simp [evL]
      generalize evL ns k = EL at NN1 hall HEL
      clear hend n1 n0 hb
      go_wp2_with fail
      have M0 := Lib.hid (Nb.of (heap_alloc_new wr (.cells #[Value.int .i64 0, .int .i64 0, .int .i64 0, .int .i64 0, .int .i64 0, .int .i64 0, .int .i64 0, .int .i64 0, .int .i64 0, .int .i64 0, .int .i64 0, .int .i64 0, .int .i64 0, .int .i64 0, .int .i64 0, .int .i64 0, .int .i64 0, .int .i64 0, .int .i64 0, .int .i64 0, .int .i64 0, .int .i64 0, .int .i64 0, .int .i64 0, .int .i64 0] 208)) zero25)
      have M1 := Lib.hid (NN1.out.alloc (.cells #[Value.int .i64 0, .int .i64 0, .int .i64 0, .int .i64 0, .int .i64 0, .int .i64 0, .int .i64 0, .int .i64 0, .int .i64 0, .int .i64 0, .int .i64 0, .int .i64 0, .int .i64 0, .int .i64 0, .int .i64 0, .int .i64 0, .int .i64 0, .int .i64 0, .int .i64 0, .int .i64 0, .int .i64 0, .int .i64 0, .int .i64 0, .int .i64 0, .int .i64 0] 208))
      have M2 := Lib.hid (NN0.out.alloc (.cells #[Value.int .i64 0, .int .i64 0, .int .i64 0, .int .i64 0, .int .i64 0, .int .i64 0, .int .i64 0, .int .i64 0, .int .i64 0, .int .i64 0, .int .i64 0, .int .i64 0, .int .i64 0, .int .i64 0, .int .i64 0, .int .i64 0, .int .i64 0, .int .i64 0, .int .i64 0, .int .i64 0, .int .i64 0, .int .i64 0, .int .i64 0, .int .i64 0, .int .i64 0] 208))
      have MB := Lib.hid (HB.out.alloc HB.out.size (.cells #[Value.int .i64 0, .int .i64 0, .int .i64 0, .int .i64 0, .int .i64 0, .int .i64 0, .int .i64 0, .int .i64 0, .int .i64 0, .int .i64 0, .int .i64 0, .int .i64 0, .int .i64 0, .int .i64 0, .int .i64 0, .int .i64 0, .int .i64 0, .int .i64 0, .int .i64 0, .int .i64 0, .int .i64 0, .int .i64 0, .int .i64 0, .int .i64 0, .int .i64 0] 208))
      have hG1 : w.heap.size + 1 < wr.heap.size := NN1.out.lt
      generalize wr.alloc _ = w1 at M0 M1 M2 MB ⊢
      generalize wr.heap.size = G at M0 hG1 ⊢
      rw [← sh_one ns] at M0
      go_loopw [7] (fun i wq => ∃ m : Nat, m ≤ 24 ∧ i = .int .i64 ((m : Int) + 1) ∧ Nb wq G (shL ns (m + 1)) ∧ Nb wq (w.heap.size + 1) EL ∧ Nb wq w.heap.size (List.replicate 25 0) ∧ Below w.heap.size w wq) (fun i _ => 25 - (intOf i).toNat)
      case atStart => exact ⟨0, by omega, rfl, M0.out, M1.out, M2.out, MB.out⟩
      case round =>
        obtain ⟨m, hm, rfl, m0, m1, m2, hb⟩ := hrel
        clear M0 M1 M2 MB HB NN1 NN0
        have K0 := Lib.hid m0
        have K1 := Lib.hid m1
        have K2 := Lib.hid m2
        have KB := Lib.hid hb
        clear m0 m1 m2 hb
        by_cases hlt : m < 24
        · have dm : decide ((m : Int) + 1 ≤ 24) = true := decide_eq_true (by omega)
          have c0 := K0.out.get m (by simp [shL]; omega)
          rw [shL, tab_get _ m (by omega), if_pos (by omega)] at c0
          have c2d : wr.drew.cell? ⟨G, m + 1, none⟩ = some (.int .i64 (((shL ns (m + 1)).getD (m + 1) 0 : Nat) : Int)) := K0.out.get (m + 1) (by simp [shL]; omega)
          generalize (shL ns (m + 1)).getD (m + 1) 0 = Z at c2d
          have c1 := K1.out.get m (by rw [HEL.out]; omega)
          rw [hall.out m (by omega)] at c1
          have hS := Lib.hid (sh_step ns m hlt)
          have hle : shortN ns m + evenN ns m ≤ 16777216 := by
            have e3 := short_succ ns m
            have e4 := (show CodeOk ns by rw [HN.out]; exact hC.out.code).short_le (m + 1) (by omega)
            omega
          have fz := K0.out.free (m + 1)
          generalize shortN ns m = S at c0 hS hle
          generalize evenN ns m = E at c1 hS hle
          have c0d : wr.drew.cell? ⟨G, m, none⟩ = some (.int .i64 (S : Int)) := c0
          have c1d : wr.drew.cell? ⟨w.heap.size + 1, m, none⟩ = some (.int .i64 (E : Int)) := c1
          have fzd : wr.drew.frozen? ⟨G, m + 1, none⟩ = false := fz
          have hw0 : IntKind.i64.wrap ((m : Int) + 1 - 1) = (m : Int) := by rw [IntKind.wrap_i64]; omega
          have hw1 : IntKind.i64.wrap (m : Int) = (m : Int) := by rw [IntKind.wrap_i64]; omega
          have hi1 : (0 : Int) ≤ (m : Int) := by omega
          have hi2 : (m : Int) < 25 := by omega
          have hi3 : (0 : Int) ≤ (m : Int) + 1 := by omega
          have hi4 : (m : Int) + 1 < 25 := by omega
          have hi5 : ((m : Int) + 1).toNat = m + 1 := by omega
          have hadd : IntKind.i64.wrap ((S : Int) + (E : Int)) = (S : Int) + (E : Int) := by rw [IntKind.wrap_i64]; omega
          go_wp2_with fail
          go_still_tail 11, (by kernel_rfl)
          repeat still_step
          change wpList _ _ _ _ _ wr.drew
          have D0 := Lib.hid K0.out.drew
          have D1 := Lib.hid K1.out.drew
          have D2 := Lib.hid K2.out.drew
          have DB := Lib.hid KB.out.drew
          clear K0 K1 K2 KB c0 c1 fz
          generalize wr.drew = wd at *
          go_wp2_with fail
          go_roundw
          case rel =>
            have := D0.out.set (m + 1) (S + E)
            rw [hS.out, Int.natCast_add] at this
            exact ⟨m + 1, by omega, by go_num, this, D1.out.other G _ _ (by omega), D2.out.other G _ _ (by omega), DB.out.setCell (by simp; omega) _⟩
          case measure => simp [intOf]; omega
        · have hm24 : m = 24 := by omega
          have dm : decide ((m : Int) + 1 ≤ 24) = false := decide_eq_false (by omega)
          have K3 : Hid (Nb wr G (beL ns)) := by
            have := K0.out
            rw [hm24, sh_end] at this
            exact this
          clear hm24 K0 hlt
          obtain ⟨T0, f0⟩ := K3.out
          obtain ⟨T2, f2⟩ := K2.out
          have F0 := Lib.hid f0
          have F2 := Lib.hid f2
          clear f0 f2
          go_wp2_with (first
            | ((with_reducible refine wpList_load_row ?_ 208 (.tmp 6) ?_ G ?_ T0 (nC (beL ns)).toArray (0, 0) _ F0.out Tryz.underlying208 ?_ (arr_info _ (by simp [beL])) ?_); rfl; rfl; rfl; rfl)
            | ((with_reducible refine wpList_store_row ?_ 208 (.tmp 2) (.tmp 37) ?_ w.heap.size (nC (beL ns)).toArray ?_ ?_ T2 _ F2.out (arr_info _ (by simp [beL])) ?_ (nC_one _) ?_); rfl; rfl; rfl; rfl; (simp [nC, beL])))
          exact bodyPost_ret (v := .agg (nC (beL ns)).toArray) (results_cell_row (h := Tryz.results132) _ _ w.heap.size T2 _ (0, 0) _ rfl (setRow_heap _ _ _ _ _ _ F2.out) Tryz.underlying208 rfl (arr_info _ (by simp [beL]))) rfl ⟨rfl, below_setRow KB.out (Nat.le_refl _) _⟩
end Go.Proofs.YtbkbabaoockigaaGreatDoor

set_option maxRecDepth 100000
set_option maxRecDepth 100000
set_option linter.unusedSimpArgs false
set_option linter.unusedVariables false
namespace Go.Proofs.YtbkbabaoockigaaGreatDoor
open Go.RowKit

def posL (ns : List Nat) (k : Nat) : List Nat := (List.range 25).map fun n => posN ns n k
theorem posL_zero (ns : List Nat) : posL ns 0 = beL ns := by unfold posL beL; simp [pos_zero]
theorem posL_step (ns : List Nat) (k : Nat) (hk : k < ns.length) (n : Nat) (hn : ns.getD k 0 = n) : (posL ns k).set n (posN ns n k + roomN n) = posL ns (k + 1) := by
  have e : ns[k] = n := by rw [← hn, getD_of12 hk]
  have := tab_set (fun n => posN ns n k) (fun n => posN ns n (k + 1)) n (fun j hj hne => by
    simp only [pos_step ns j k hk]
    rw [if_neg (by rw [e]; exact fun x => hne x.symm)]; rfl)
  rw [pos_step ns n k hk, if_pos e] at this
  exact this
theorem posL_skip (ns : List Nat) (k : Nat) (hk : k < ns.length) (hn : ns.getD k 0 = 0) : posL ns (k + 1) = posL ns k := by
  have e : ns[k] = 0 := by rw [← hn, getD_of12 hk]
  unfold posL
  refine List.map_congr_left fun n hn => ?_
  rw [pos_step ns n k hk]
  by_cases h : ns[k] = n
  · rw [if_pos h, ← h, e]; rfl
  · rw [if_neg h]; rfl
/-- the words of the first k symbols -/
def wdL (ns : List Nat) (k : Nat) : List (Nat × Nat) := (wordsN ns).take k ++ List.replicate (ns.length - k) (0, 0)
theorem wdL_len (ns : List Nat) (k : Nat) (hk : k ≤ ns.length) : (wdL ns k).length = ns.length := by simp [wdL, words_len]; omega
theorem wdL_zero (ns : List Nat) : wdL ns 0 = List.replicate ns.length (0, 0) := by simp [wdL]
theorem wdL_end (ns : List Nat) : wdL ns ns.length = wordsN ns := by
  rw [wdL, Nat.sub_self, List.replicate_zero, List.append_nil, List.take_of_length_le (by rw [words_len]; omega)]
theorem wdL_set (ns : List Nat) (k : Nat) (hk : k < ns.length) : (wdL ns k).set k (wordN ns k) = wdL ns (k + 1) := by
  have l1 : ((wordsN ns).take k).length = k := by rw [List.length_take, words_len]; omega
  unfold wdL
  rw [List.set_append_right _ _ (by omega), l1, Nat.sub_self, show ns.length - k = (ns.length - (k + 1)) + 1 by omega, List.replicate_succ, List.set_cons_zero,
    List.take_succ_eq_append_getElem (by rw [words_len]; exact hk)]
  have : (wordsN ns)[k]'(by rw [words_len]; exact hk) = wordN ns k := by simp [wordsN]
  rw [this, List.append_assoc]; rfl
theorem wdL_skip (ns : List Nat) (k : Nat) (hk : k < ns.length) (hn : ns.getD k 0 = 0) : wdL ns (k + 1) = wdL ns k := by
  rw [← wdL_set ns k hk, word_zero hn]
  refine List.ext_getElem (by simp) fun j h1 h2 => ?_
  rw [List.getElem_set]
  by_cases e : k = j
  · subst e
    rw [if_pos rfl]
    have l1 : ((wordsN ns).take k).length = k := by rw [List.length_take, words_len]; omega
    simp only [wdL]
    rw [List.getElem_append_right (by omega)]
    simp
  · rw [if_neg e]

theorem words_no (v : Value) (ls : List Int) (w : World) (hr : Rd .i64 w v ls) (hc : ¬ RightL ls) : Calls Tryz.prog 123 #[v] w fun e w' => e = .returned (.tuple #[.slice none 0 0, .int .i64 1]) ∧ w = w' := by
  have H := Lib.hid (right_any v ls w hr)
  rw [decide_eq_false hc] at H
  clear hr hc
  go_enter Tryz.func123, Tryz.ntmps123
  go_wp2_with (go_at_call 131; refine H.out.mono ?_; rintro e w' ⟨rfl, rfl⟩)
  go_ret2
  exact ⟨rfl, rfl⟩

/-- WHAT IS ANSWERED OF A CODE THAT MAY BE: words of the call's own -/
def WdIs (T : TypeId) (w : World) (ns : List Nat) (e : Ending) (w' : World) : Prop := ∃ u, e = .returned (.tuple #[u, .int .i64 0]) ∧ OwnW T w' w.heap.size u (wordsN ns) ∧ Below w.heap.size w w'

set_option maxHeartbeats 4000000 in
theorem words_yes (v : Value) (ls : List Int) (w : World) (hr : Rd .i64 w v ls) (hc : RightL ls) : Calls Tryz.prog 123 #[v] w (WdIs 200 w (ls.map Int.toNat)) := by
  have H := Lib.hid (right_any v ls w hr)
  rw [decide_eq_true hc] at H
  have HG := Lib.hid (begin_any v ls w hr hc)
  have hrl := hc.1
  have hR := Lib.hid hr
  have hC := Lib.hid hc
  obtain ⟨va, vc, rfl⟩ := hr.isSlice
  obtain ⟨ns, hns⟩ : ∃ ns, ns = ls.map Int.toNat := ⟨_, rfl⟩
  rw [← hns] at HG ⊢
  have HN := Lib.hid hns
  have HNL : Hid (ns.length = ls.length) := by show _ = _; rw [hns, List.length_map]
  have HK : Hid (CodeOk ns) := by show CodeOk ns; rw [hns]; exact hc.code
  clear hr hc hns
  go_enter Tryz.func123, Tryz.ntmps123
  go_wp2_with (first
    | (go_at_call 131; refine H.out.mono ?_; rintro e w' ⟨rfl, rfl⟩)
    | (go_at_call 132; refine HG.out.mono ?_; rintro e w1 ⟨rfl, hb1⟩; have B1 := Lib.hid hb1; clear hb1)
    | ((with_reducible refine wpList_store_row ?_ 208 (.tmp 4) (.tmp 12) ?_ w1.heap.size (nC (beL ns)).toArray ?_ ?_ 208 _ (heap_alloc_new _ _) (arr_info _ (by simp [beL])) ?_ (nC_one _) ?_); rfl; rfl; rfl; rfl; (simp [nC, beL]))
    | ((with_reducible refine wpList_make_words _ ?_ (.tmp 14) (.tmp 14) 197 200 ?_ elemW Tryz.underlying197 ls.length ?_ ?_ hrl (w1.heap.size + 1) ?_ ?_); rfl; rfl; rfl; rfl; (simp); intro g w2 hg o2 g2; have O2 := Lib.hid o2; have G2 := Lib.hid g2; clear o2 g2))
  have hz1 : w.heap.size ≤ w1.heap.size := B1.out.size
  have hgl : g < w2.heap.size := by
    obtain ⟨T, h⟩ : ∃ T, w2.heap[g]? = some T := by
      rcases O2.out.2 with ⟨q, _⟩ | ⟨g', cap', cur, q, _, hq, _⟩
      · cases q
      · simp only [Value.slice.injEq, Option.some.injEq, Addr.mk.injEq, and_true] at q
        rw [q.1]; exact ⟨_, hq⟩
    exact (Array.getElem?_eq_some_iff.1 h).1
  have OO : Hid (OwnW 200 w2 w.heap.size (.slice (some ⟨g, 0, none⟩) ls.length ls.length) (wdL ns 0)) := by
    rw [wdL_zero, HNL.out]; exact O2.out.mono (by omega)
  have NB : Hid (Nb w2 w1.heap.size (posL ns 0)) := by
    rw [posL_zero]
    exact Cs.grown (⟨208, setRow_heap _ _ _ _ _ _ (heap_alloc_new _ _)⟩ : Cs _ w1.heap.size (nC (beL ns))) G2.out (by simp)
  have BB : Hid (Below w.heap.size w w2) := (below_setRow (B1.out.alloc hz1 _) hz1 _).grown G2.out (by simp; omega) (by simp)
  have hne : g ≠ w1.heap.size := by omega
  have hne2 : w1.heap.size ≠ g := by omega
  have hgg : w.heap.size ≤ g := by omega
  clear O2 G2 B1 HG H hgl
  generalize w1.heap.size = g1 at hne hne2 NB hz1 ⊢
  clear hg
  go_loopw [18] (fun i wr => ∃ k : Nat, k ≤ ls.length ∧ i = .int .i64 k ∧ Nb wr g1 (posL ns k) ∧ OwnW 200 wr w.heap.size (.slice (some ⟨g, 0, none⟩) ls.length ls.length) (wdL ns k) ∧ Below w.heap.size w wr) (fun i _ => ls.length - (intOf i).toNat)
  case atStart => exact ⟨0, Nat.zero_le _, rfl, NB.out, OO.out, BB.out⟩
  case round =>
    obtain ⟨k, hk, rfl, nb, oo, hb⟩ := hrel
    clear NB OO BB
    have NB := Lib.hid nb
    have OO := Lib.hid oo
    have BB := Lib.hid hb
    clear nb oo hb
    by_cases hlt : k < ls.length
    · obtain ⟨n, hn⟩ : ∃ n, n = ns.getD k 0 := ⟨_, rfl⟩
      have hx : ls.getD k 0 = (n : Int) := by rw [hC.out.at k hlt, hn, HN.out]
      have hn24 : n ≤ 24 := by rw [hn]; exact HK.out.at k
      have hkn : k < ns.length := by rw [HNL.out]; exact hlt
      have hcell : ∃ b o, va = some ⟨b, o, none⟩ ∧ wr.cell? ⟨b, o + k, none⟩ = some (.int .i64 (n : Int)) := by
        rcases hR.out.below BB.out with ⟨rfl, _⟩ | ⟨_, b, o, cp, he, h2, h3, h4, h5⟩
        · simp at hlt
        · simp only [Value.slice.injEq] at he
          exact ⟨b, o, he.1, by rw [← hx]; exact h5 _ hlt⟩
      obtain ⟨b, o, rfl, hcell⟩ := hcell
      by_cases h0 : n = 0
      · have h1 : Hid (posL ns (k + 1) = posL ns k ∧ wdL ns (k + 1) = wdL ns k) := ⟨posL_skip ns k hkn (by rw [← hn, h0]), wdL_skip ns k hkn (by rw [← hn, h0])⟩
        subst h0
        clear hn hx hkn
        go_wp2_with fail
        go_roundw
        case rel => exact ⟨k + 1, by omega, by go_num, by rw [h1.out.1]; exact NB.out, by rw [h1.out.2]; exact OO.out, BB.out⟩
        case measure => simp [intOf]; omega
      · have dn : decide ((n : Int) > 0) = true := decide_eq_true (by omega)
        have dn' : decide (n > 0) = true := decide_eq_true (by omega)
        have dn'' : decide (0 < n) = true := decide_eq_true (by omega)
        have h1 : Hid ((posL ns k).set n (posN ns n k + roomN n) = posL ns (k + 1)) := posL_step ns k hkn n hn.symm
        have h2 : Hid ((wdL ns k).set k (posN ns n k / 2 ^ (24 - n), n) = wdL ns (k + 1)) := by
          have := wdL_set ns k hkn
          rw [wordN, ← hn] at this; exact this
        have hwl := wdL_len ns k (by omega)
        have c0 := OO.out.at0 k (by omega)
        have c1 := OO.out.at1 k (by omega)
        have z0 := OO.out.fz (k * 2)
        have z1 := OO.out.fz (k * 2 + 1)
        have e0 := NB.out.get n (by simp [posL]; omega)
        rw [posL, tab_get _ n (by omega)] at e0
        have zf := NB.out.free n
        have hP : posN ns n k + roomN n ≤ 16777216 := by
          have e1 := pos_step ns n k hkn
          rw [if_pos (by rw [hn, getD_of12])] at e1
          have e2 := pos_le ns n (k + 1)
          have e4 := HK.out.short_le (n + 1) (by omega)
          omega
        generalize posN ns n k = P at e0 hP h1 h2
        have hw : IntKind.i64.wrap (24 - (n : Int)) = ((24 - n : Nat) : Int) := by rw [IntKind.wrap_i64]; omega
        obtain ⟨X, hX⟩ : ∃ X, X = P / 2 ^ (24 - n) := ⟨_, rfl⟩
        rw [← hX] at h2
        have hdiv : (P : Int) / 2 ^ (24 - n) = (X : Int) := by rw [hX, Int.natCast_ediv]; simp
        have hadd : IntKind.i64.wrap ((P : Int) + ((roomN n : Nat) : Int)) = (P : Int) + ((roomN n : Nat) : Int) := by rw [IntKind.wrap_i64]; omega
        have hi1 : (0 : Int) ≤ (n : Int) := by omega
        have hi2 : (n : Int) < 25 := by omega
        have hgs : g < wr.heap.size := by have := OO.out.blt g rfl; omega
        have hgs1 : g1 < wr.heap.size := NB.out.lt
        have HL := Lib.hid hwl
        clear hn hx hkn hwl hX h0
        go_upto_region 10 with fail
        have A1 := Lib.hid (OO.out.set k X n)
        rw [h2.out] at A1
        have A2 := Lib.hid ((NB.out.other g (k * 2) (.int .i64 (X : Int)) hne2).other g (k * 2 + 1) (.int .i64 (n : Int)) hne2)
        have A3 := Lib.hid ((BB.out.setCell (p := ⟨g, k * 2, none⟩) hgg (.int .i64 (X : Int))).setCell (p := ⟨g, k * 2 + 1, none⟩) hgg (.int .i64 (n : Int)))
        have e0' := A2.out.get n (by simp [posL]; omega)
        have hq : (posL ns k).getD n 0 = P := by
          have a := NB.out.get n (by simp [posL]; omega)
          rw [e0] at a
          have e := (Value.int.inj (Option.some.inj a)).2
          omega
        rw [hq] at e0'
        clear hq c0 c1 z0 z1 e0 zf
        generalize (wr.setCell ⟨g, k * 2, none⟩ _).setCell ⟨g, k * 2 + 1, none⟩ _ = w3 at A1 A2 A3 e0' ⊢
        have zf := A2.out.free n
        have e0d : w3.drew.cell? ⟨g1, n, none⟩ = some (.int .i64 (P : Int)) := e0'
        have zfd : w3.drew.frozen? ⟨g1, n, none⟩ = false := zf
        go_still_tail 7, (by kernel_rfl)
        still_call ((room_any12 n hn24 w3.drew).mono fun e w' h => ⟨h.1, h.2.symm⟩)
        repeat still_step
        change wpList _ _ _ _ _ w3.drew
        have D1 : Hid (OwnW 200 w3.drew w.heap.size (.slice (some ⟨g, 0, none⟩) ls.length ls.length) (wdL ns (k + 1))) := A1.out
        have D2 := Lib.hid A2.out.drew
        have DB := Lib.hid A3.out.drew
        clear A1 A2 A3 e0' zf
        generalize w3.drew = wd at *
        go_wp2_with fail
        go_roundw
        case rel =>
          have := D2.out.set n (P + roomN n)
          rw [h1.out, Int.natCast_add] at this
          exact ⟨k + 1, by omega, by go_num, this, D1.out.kept (grown_set g1 n wd _) (by intro j hj; cases hj; simpa using hne2), DB.out.setCell (by simp; omega) _⟩
        case measure => simp [intOf]; omega
    · have hend : k = ls.length := by omega
      have dl : decide ((k : Int) < (ls.length : Int)) = false := decide_eq_false (by omega)
      have dl' : decide (k < ls.length) = false := decide_eq_false (by omega)
      have O3 : Hid (OwnW 200 wr w.heap.size (.slice (some ⟨g, 0, none⟩) ls.length ls.length) (wordsN ns)) := by
        have := OO.out
        rw [hend, ← HNL.out, wdL_end, HNL.out] at this
        exact this
      clear hend OO
      go_wp2_with fail
      go_ret2
      exact ⟨_, rfl, O3.out, BB.out⟩
end Go.Proofs.YtbkbabaoockigaaGreatDoor

set_option maxRecDepth 100000
set_option maxRecDepth 100000
set_option linter.unusedSimpArgs false
set_option linter.unusedVariables false
namespace Go.Proofs.YtbkbabaoockigaaGreatDoor
open Go.RowKit

/-- a writer's cells -/
def Wc (w : World) (e : Nat) (u : Value) (V L : Nat) : Prop := w.heap[e]? = some (.cells #[u, .int .i64 (V : Int), .int .i64 (L : Int)] 202 (0, 0))
theorem Wc.cs {w : World} {e : Nat} {u : Value} {V L : Nat} (h : Wc w e u V L) : Cs w e [u, .int .i64 (V : Int), .int .i64 (L : Int)] := ⟨_, h⟩
theorem Wc.facts {w : World} {e : Nat} {u : Value} {V L : Nat} (h : Wc w e u V L) : w.cell? ⟨e, 0, none⟩ = some u ∧ w.cell? ⟨e, 1, none⟩ = some (.int .i64 (V : Int)) ∧ w.cell? ⟨e, 2, none⟩ = some (.int .i64 (L : Int)) := ⟨Cs.get h.cs 0 _ rfl, Cs.get h.cs 1 _ rfl, Cs.get h.cs 2 _ rfl⟩
theorem Wc.free {w : World} {e : Nat} {u : Value} {V L : Nat} (h : Wc w e u V L) (j : Nat) : w.frozen? ⟨e, j, none⟩ = false := Cs.free h.cs j
theorem Wc.lt {w : World} {e : Nat} {u : Value} {V L : Nat} (h : Wc w e u V L) : e < w.heap.size := Cs.lt h.cs
theorem Wc.drew {w : World} {e : Nat} {u : Value} {V L : Nat} (h : Wc w e u V L) : Wc w.drew e u V L := h
theorem Wc.kept {w w' : World} {row : Option Nat} {e : Nat} {u : Value} {V L : Nat} (h : Wc w e u V L) (hg : w.grownBy w' row) (hn : some e ≠ row) : Wc w' e u V L := (hg.block e h.lt hn).trans h
theorem Wc.alloc {w : World} {e : Nat} {u : Value} {V L : Nat} (h : Wc w e u V L) (o : Obj) : Wc (w.alloc o) e u V L := h.kept (World.grownBy_alloc w o none) (by simp)
theorem Wc.below {w w' : World} {e : Nat} {u : Value} {V L : Nat} (h : Wc w e u V L) (hb : Below w.heap.size w w') : Wc w' e u V L := (hb.block e h.lt).trans h
theorem Wc.set0 {w : World} {e : Nat} {u : Value} {V L : Nat} (h : Wc w e u V L) (u' : Value) : Wc (w.setCell ⟨e, 0, none⟩ u') e u' V L := by
  unfold Wc at h ⊢; simp [World.setCell, Array.getElem?_modify, h]
theorem Wc.set1 {w : World} {e : Nat} {u : Value} {V L : Nat} (h : Wc w e u V L) (V' : Nat) : Wc (w.setCell ⟨e, 1, none⟩ (.int .i64 (V' : Int))) e u V' L := by
  unfold Wc at h ⊢; simp [World.setCell, Array.getElem?_modify, h]
theorem Wc.set2 {w : World} {e : Nat} {u : Value} {V L : Nat} (h : Wc w e u V L) (L' : Nat) : Wc (w.setCell ⟨e, 2, none⟩ (.int .i64 (L' : Int))) e u V L' := by
  unfold Wc at h ⊢; simp [World.setCell, Array.getElem?_modify, h]
/-- bytes lie in none of the writer's cells -/
theorem Wc.apart {w : World} {e B : Nat} {u u' : Value} {V L : Nat} {o : List Int} (h : Wc w e u V L) (ho : Own .u8 5 w B u' o) : ∀ j, u'.ownBlock = some j → j ≠ e := by
  intro j hj e1
  rcases ho.2 with ⟨rfl, _⟩ | ⟨g, cap, cur, rfl, _, hg, _⟩
  · cases hj
  · simp only [Value.ownBlock, Option.some.injEq] at hj
    subst hj; subst e1
    unfold Wc at h
    rw [h] at hg
    simp only [Option.some.injEq, Obj.cells.injEq] at hg
    exact absurd hg.2.1 (by decide)

/-- A WRITER IN THE WORLD: its bytes are a row of the call's own -/
structure Wr (B e : Nat) (w : World) (u : Value) (o : List Int) (V L : Nat) : Prop where
  row : Wc w e u V L
  own : Own .u8 5 w B u o
  bts : Bts o
/-- THE WRITER HAS THE BITS T -/
def WrHas (B e : Nat) (w : World) (T : List Nat) : Prop := ∃ u o R k, Wr B e w u o R k ∧ k < 8 ∧ R < 2 ^ k ∧ unp o ++ bd R k = T
def PutW (B e : Nat) (w : World) (T : List Nat) (x : Ending) (w' : World) : Prop := x = .returned (.tuple #[]) ∧ WrHas B e w' T ∧ Below B w w'

theorem Wr.ne {B e : Nat} {w : World} {u : Value} {o : List Int} {V L : Nat} (h : Wr B e w u o V L) : ∀ j, u.ownBlock = some j → j ≠ e := h.row.apart h.own
theorem Wr.drew {B e : Nat} {w : World} {u : Value} {o : List Int} {V L : Nat} (h : Wr B e w u o V L) : Wr B e w.drew u o V L := ⟨h.row, h.own, h.bts⟩
theorem Wr.alloc {B e : Nat} {w : World} {u : Value} {o : List Int} {V L : Nat} (h : Wr B e w u o V L) (x : Obj) : Wr B e (w.alloc x) u o V L := ⟨h.row.alloc x, h.own.alloc x, h.bts⟩
theorem Wr.below {B e : Nat} {w w' : World} {u : Value} {o : List Int} {V L : Nat} (h : Wr B e w u o V L) (hb : Below w.heap.size w w') : Wr B e w' u o V L := ⟨h.row.below hb, h.own.below hb, h.bts⟩
theorem Own.other {k : IntKind} {e B : Nat} {w : World} {v : Value} {xs : List Int} (h : Own k e w B v xs) (b o : Nat) (x : Value) (hn : ∀ j, v.ownBlock = some j → j ≠ b) : Own k e (w.setCell ⟨b, o, none⟩ x) B v xs :=
  h.kept (grown_set b o w x) (fun j hj e => hn j hj (by simpa using e.symm))
theorem Wr.set2 {B e : Nat} {w : World} {u : Value} {o : List Int} {V L : Nat} (h : Wr B e w u o V L) (L' : Nat) : Wr B e (w.setCell ⟨e, 2, none⟩ (.int .i64 (L' : Int))) u o V L' := ⟨h.row.set2 L', h.own.other _ _ _ h.ne, h.bts⟩
theorem Wr.set1 {B e : Nat} {w : World} {u : Value} {o : List Int} {V L : Nat} (h : Wr B e w u o V L) (V' : Nat) : Wr B e (w.setCell ⟨e, 1, none⟩ (.int .i64 (V' : Int))) u o V' L := ⟨h.row.set1 V', h.own.other _ _ _ h.ne, h.bts⟩
/-- a row that has grown is laid into the writer -/
theorem Wr.put {B e : Nat} {w w' : World} {u u' : Value} {o o' : List Int} {V L : Nat} (h : Wr B e w u o V L) (hg : w.grownBy w' u.ownBlock) (ho : Own .u8 5 w' B u' o') (hb : Bts o') : Wr B e (w'.setCell ⟨e, 0, none⟩ u') u' o' V L := by
  have r := h.row.kept hg (fun e1 => h.ne e e1.symm rfl)
  exact ⟨r.set0 u', ho.other _ _ _ (r.apart ho), hb⟩

theorem byte_bits (V L : Nat) : bd V (L + 8) = bd (V / 2 ^ L % 256) 8 ++ bd V L := by
  rw [Nat.add_comm L 8, bd_split V 8 L]
  congr 1
  exact (bd_mod (V / 2 ^ L) 8 (m := 8) (Nat.le_refl _)).symm

set_option maxHeartbeats 4000000 in
theorem put_any12 (B e : Nat) (u : Value) (o : List Int) (R k x n : Nat) (w : World) (hW : Wr B e w u o R k) (hB : B ≤ e) (hk : k < 8) (hR : R < 2 ^ k) (hn : n ≤ 24) (hx : x < 2 ^ n) (hol : o.length ≤ 1099511627776) :
    Calls Tryz.prog 124 #[.pointer (some ⟨e, 0, none⟩), .agg #[.int .i64 (x : Int), .int .i64 (n : Int)]] w (PutW B e w ((unp o ++ bd R k) ++ bd x n)) := by
  obtain ⟨T, hT⟩ : ∃ T, T = (unp o ++ bd R k) ++ bd x n := ⟨_, rfl⟩
  rw [← hT]
  have hTl : T.length ≤ 8796093022208 + 32 := by
    rw [hT, List.length_append, List.length_append, unp_len, bd_len, bd_len]; omega
  obtain ⟨V, hV⟩ : ∃ V, V = R * 2 ^ n + x := ⟨_, rfl⟩
  have hV31 : V < 2 ^ (k + n) := by
    rw [hV, Nat.pow_add]
    calc R * 2 ^ n + x < R * 2 ^ n + 2 ^ n := by omega
      _ = (R + 1) * 2 ^ n := by rw [Nat.add_mul, Nat.one_mul]
      _ ≤ 2 ^ k * 2 ^ n := Nat.mul_le_mul_right _ hR
  have hV62 : V < 2147483648 := Nat.lt_of_lt_of_le hV31 (Nat.pow_le_pow_right (n := 2) (by decide) (show k + n ≤ 31 by omega))
  have hRn : R * 2 ^ n < 2147483648 := by omega
  have hT2 : unp o ++ bd V (k + n) = T := by
    rw [hT, List.append_assoc]
    congr 1
    rw [bd_split V k n, hV]
    have e1 : (R * 2 ^ n + x) / 2 ^ n = R := by
      rw [Nat.mul_comm, Nat.mul_add_div (Nat.pow_pos (by decide)), Nat.div_eq_of_lt hx]; omega
    have e2 : bd (R * 2 ^ n + x) n = bd x n := by
      rw [← bd_mod (R * 2 ^ n + x) n (Nat.le_refl n), Nat.mul_comm, Nat.mul_add_mod, Nat.mod_eq_of_lt hx]
    rw [e1, e2]
  have hRc : (R : Int) * 2 ^ n = ((R * 2 ^ n : Nat) : Int) := by simp
  have hsh : IntKind.i64.wrap ((R : Int) * 2 ^ n) = (R : Int) * 2 ^ n := by rw [hRc, IntKind.wrap_i64]; omega
  have hor : bits .or .i64 ((R : Int) * 2 ^ n) (x : Int) = (V : Int) := by rw [or_join R x n hx (by omega) (by omega), hV]
  have hadd : IntKind.i64.wrap ((k : Int) + (n : Int)) = (k : Int) + (n : Int) := by rw [IntKind.wrap_i64]; omega
  have HT2 := Lib.hid hT2
  have HTl := Lib.hid hTl
  have HV62 := Lib.hid hV62
  have HW := Lib.hid hW
  obtain ⟨c0, c1, c2⟩ := hW.row.facts
  have he := hW.row.lt
  clear hT hV hV31 hRn hT2 hRc hTl hV62 hW hR hx
  go_enter Tryz.func124, Tryz.ntmps124
  go_upto_region 1 with fail
  have x0 : (w.alloc (.cells #[.int .i64 (x : Int), .int .i64 (n : Int)] 200)).cell? ⟨w.heap.size, 0, none⟩ = some (.int .i64 (x : Int)) := by
    rw [World.cell?_alloc_at _ _ _ _ rfl]; rfl
  have x1 : (w.alloc (.cells #[.int .i64 (x : Int), .int .i64 (n : Int)] 200)).cell? ⟨w.heap.size, 1, none⟩ = some (.int .i64 (n : Int)) := by
    rw [World.cell?_alloc_at _ _ _ _ rfl]; rfl
  have W0 := Lib.hid (HW.out.alloc (.cells #[.int .i64 (x : Int), .int .i64 (n : Int)] 200))
  have B0 := Lib.hid ((Below.refl B w).alloc (by omega) (.cells #[.int .i64 (x : Int), .int .i64 (n : Int)] 200))
  clear c0 c1 c2
  generalize w.alloc _ = w0 at *
  obtain ⟨d0, d1, d2⟩ := W0.out.drew.row.facts
  have f1 := W0.out.drew.row.free 1
  have f2 := W0.out.drew.row.free 2
  have x0d : w0.drew.cell? ⟨w.heap.size, 0, none⟩ = some (.int .i64 (x : Int)) := x0
  have x1d : w0.drew.cell? ⟨w.heap.size, 1, none⟩ = some (.int .i64 (n : Int)) := x1
  go_still_tail 23, (by kernel_rfl)
  repeat still_step
  change wpList _ _ _ _ _ w0.drew
  have W1 := Lib.hid W0.out.drew
  have B1 := Lib.hid B0.out.drew
  clear W0 B0 x0 x1
  generalize w0.drew = w1 at *
  go_wp2_with fail
  have W2 : Hid (Wr B e ((w1.setCell ⟨e, 1, none⟩ (.int .i64 (V : Int))).setCell ⟨e, 2, none⟩ (.int .i64 ((k : Int) + (n : Int)))) u o V (k + n)) := by
    have := (W1.out.set1 V).set2 (k + n)
    rw [Int.natCast_add] at this
    exact this
  have B2 := Lib.hid ((B1.out.setCell (p := ⟨e, 1, none⟩) hB (.int .i64 (V : Int))).setCell (p := ⟨e, 2, none⟩) hB (.int .i64 ((k : Int) + (n : Int))))
  clear d0 d1 d2 f1 f2 x0d x1d W1 B1
  generalize (w1.setCell ⟨e, 1, none⟩ _).setCell ⟨e, 2, none⟩ _ = w2 at W2 B2 ⊢
  have hL0 : k + n ≤ 31 := by omega
  generalize k + n = L0 at HT2 W2 hL0
  clear hsh hor hadd HW he w1 w0 hk hn
  go_loopw [31] (fun _ wr => ∃ (L : Nat) (u' : Value) (o' : List Int), L ≤ 31 ∧ Wr B e wr u' o' V L ∧ Hid (unp o' ++ bd V L = T) ∧ Below B w wr) (fun _ wr => (intOf ((wr.cell? ⟨e, 2, none⟩).getD undef)).toNat)
  case atStart => exact ⟨L0, u, o, hL0, W2.out, HT2, B2.out⟩
  case round =>
    obtain ⟨L, u', o', hL, hW, hT, hb⟩ := hrel
    clear W2 B2 HT2 hL0
    have HW := Lib.hid hW
    have HB := Lib.hid hb
    obtain ⟨c0, c1, c2⟩ := hW.row.facts
    have z2 := hW.row.free 2
    have he := hW.row.lt
    by_cases h8 : 8 ≤ L
    · obtain ⟨M, rfl⟩ : ∃ M, L = M + 8 := ⟨L - 8, by omega⟩
      have dl : decide (((M + 8 : Nat) : Int) ≥ 8) = true := decide_eq_true (by omega)
      have dl' : decide ((M : Int) + 8 ≥ 8) = true := decide_eq_true (by omega)
      have hsub : IntKind.i64.wrap ((M : Int) + 8 - 8) = (M : Int) := by rw [IntKind.wrap_i64]; omega
      have hsub' : IntKind.i64.wrap (M : Int) = (M : Int) := by rw [IntKind.wrap_i64]; omega
      rw [Int.natCast_add] at c2
      have HM := Lib.hid c2
      clear hW hb
      go_upto_region 4 with fail
      have W3 := Lib.hid (HW.out.set2 M)
      have B3 := Lib.hid (HB.out.setCell (p := ⟨e, 2, none⟩) hB (.int .i64 (M : Int)))
      clear c0 c1 c2 z2 HW HB he
      generalize wr.setCell ⟨e, 2, none⟩ _ = w3 at W3 B3 ⊢
      obtain ⟨c0, c1, c2⟩ := W3.out.row.facts
      obtain ⟨d0, d1, d2⟩ := W3.out.row.drew.facts
      have z0 := W3.out.row.drew.free 0
      have he := W3.out.row.lt
      have he' : e ≠ w3.heap.size := by omega
      have cA : ∀ x, (w3.alloc x).drew.cell? ⟨e, 0, none⟩ = some u' := fun x => ((W3.out.alloc x).row.drew.facts).1
      obtain ⟨y, hy⟩ : ∃ y : Int, y = ((V / 2 ^ M % 256 : Nat) : Int) := ⟨_, rfl⟩
      have hyw : IntKind.u8.wrap ((V : Int) / 2 ^ M) = y := by rw [hy, IntKind.wrap_u8]; simp
      have hy0 : 0 ≤ y ∧ y < 256 := by omega
      have HY : Hid (bd y.toNat 8 ++ bd V M = bd V (M + 8)) := by show _ = _; rw [byte_bits V M, hy, Int.toNat_natCast]
      have hol' : o'.length ≤ 1099511627780 := by
        have := congrArg List.length hT.out
        rw [List.length_append, unp_len] at this
        have := HTl.out
        omega
      have HOL := Lib.hid hol'
      have HBy := Lib.hid hy0
      have HLE : Hid ((o' ++ [y]).length = o'.length + 1) := by show _ = _; simp
      clear hy hol' hy0
      go_wp2_with fail
      go_region_law (refine step_append_rd rfl (.tmp 46) (.tmp 59) 38 rfl elemU8 Tryz.underlying38 B u' o' rfl (Own.alloc W3.out.own.drew _) (.slice (some ⟨w3.heap.size, 0, none⟩) 1 1) [_] rfl (Rd.one .u8 5 w3.drew _) ?_ ?_ ?_ ?_; (have := HOL.out; simp; omega); (have := HOL.out; simp [maxLen]; omega); (have := B3.out.size; simp; omega); intro v4 w4 o4 g4; obtain ⟨a4, k4, hv4⟩ := o4.len; subst hv4; rw [HLE.out] at o4; have r4 := (W3.out.drew.alloc _).row.kept g4 (fun e1 => W3.out.ne e e1.symm rfl); have q0 := r4.facts.1; have q1 := r4.free 0; have O4 := Lib.hid o4; have G4 := Lib.hid g4; clear o4 g4 r4)
      all_goals
        have WW := Lib.hid ((W3.out.alloc _).drew.put G4.out O4.out (by
          intro z hz
          rcases List.mem_append.1 hz with hz | hz
          · exact W3.out.bts z hz
          · rw [List.mem_singleton.1 hz]; exact HBy.out))
        have WB := Lib.hid ((((B3.out.alloc (by have := B3.out.size; omega) _).drew).grown G4.out (by have := B3.out.size; simp; omega) W3.out.own.blk).setCell (p := ⟨e, 0, none⟩) hB (.slice a4 (o'.length + 1) k4))
        clear O4 G4 q0 q1
        go_wp2_with fail
        go_roundw
        case rel =>
          refine ⟨M, _, _, by omega, WW.out, ?_, WB.out⟩
          show _ = _
          rw [unp_append, unp_one, List.append_assoc, HY.out]
          exact hT.out
        case measure =>
          rw [WW.out.row.facts.2.2, HM.out]
          simp [intOf]; omega
    · have dl : decide ((L : Int) ≥ 8) = false := decide_eq_false (by omega)
      have dl' : decide (L ≥ 8) = false := decide_eq_false (by omega)
      have hL8 : L < 8 := by omega
      obtain ⟨Q, hQ⟩ : ∃ Q, Q = 2 ^ L - 1 := ⟨_, rfl⟩
      have H1 : Hid (∀ W : World, Calls Tryz.prog 129 #[.int .i64 (L : Int)] W fun x w' => x = .returned (.agg #[.int .i64 (Q : Int), .int .i64 (L : Int)]) ∧ Below W.heap.size W w') := fun W => by rw [hQ]; exact ones_any12 L (by omega) W
      obtain ⟨X, hX⟩ : ∃ X, X = V % 2 ^ L := ⟨_, rfl⟩
      have hand : bits .and .i64 (V : Int) (Q : Int) = (X : Int) := by rw [hQ, hX]; exact and_ones V L (by have := HV62.out; omega) (by omega)
      have HX : Hid (X < 2 ^ L ∧ unp o' ++ bd X L = T) := by
        refine ⟨by rw [hX]; exact Nat.mod_lt _ (Nat.pow_pos (by decide)), ?_⟩
        rw [hX, bd_mod V L (Nat.le_refl L)]; exact hT.out
      have HC : Hid (∀ W, Below wr.heap.size wr W → W.cell? ⟨e, 1, none⟩ = some (.int .i64 (V : Int)) ∧ W.cell? ⟨e, 2, none⟩ = some (.int .i64 (L : Int))) := fun W hW => ((HW.out.row.below hW).facts).2
      clear hQ hX hW hb
      go_wp2_with fail
      have d1 : wr.drew.cell? ⟨e, 1, none⟩ = some (.int .i64 (V : Int)) := c1
      have d2 : wr.drew.cell? ⟨e, 2, none⟩ = some (.int .i64 (L : Int)) := c2
      have hfw : ∀ W : World, (Instr.field 200 (.agg #[.int .i64 (Q : Int), .int .i64 (L : Int)]) 0).run Tryz.prog W = .ok (.int .i64 (Q : Int)) W := field_w _ _
      go_region_law
        ((go_simp; go_at_call 129; refine (H1.out _).mono ?_; rintro x w7 ⟨rfl, hb7⟩; have r7 := HW.out.drew.row.below hb7; obtain ⟨k0, k1, k2⟩ := r7.facts; have kz := r7.free 1; have HB7 := Lib.hid hb7; clear hb7 r7))
      all_goals
        have WW := Lib.hid ((HW.out.drew.below HB7.out).set1 X)
        have WB := Lib.hid ((HB.out.drew.trans (HB7.out.mono (by have := HB.out.size; simp; omega))).setCell (p := ⟨e, 1, none⟩) hB (.int .i64 (X : Int)))
        go_wp2_with fail
        go_end0
        exact ⟨rfl, ⟨u', o', X, L, WW.out, hL8, HX.out.1, HX.out.2⟩, WB.out⟩
end Go.Proofs.YtbkbabaoockigaaGreatDoor

set_option maxRecDepth 100000
set_option maxRecDepth 100000
set_option linter.unusedSimpArgs false
set_option linter.unusedVariables false
namespace Go.Proofs.YtbkbabaoockigaaGreatDoor
open Go.RowKit

set_option maxHeartbeats 4000000 in
theorem fill_any (B e : Nat) (T : List Nat) (w : World) (hW : WrHas B e w T) (hB : B ≤ e) (hT : T.length ≤ 8796093022208) :
    Calls Tryz.prog 125 #[.pointer (some ⟨e, 0, none⟩)] w (PutW B e w (fillN T)) := by
  obtain ⟨u, o, R, k, hW, hk, hR, hTe⟩ := hW
  have hTl := congrArg List.length hTe
  rw [List.length_append, unp_len, bd_len] at hTl
  have HW := Lib.hid hW
  obtain ⟨c0, c1, c2⟩ := hW.row.facts
  by_cases h0 : k = 0
  · have HF : Hid (unp o ++ bd R k = fillN T) := by
      show _ = _
      rw [hTe, fillN, show (8 - T.length % 8) % 8 = 0 by omega]; simp
    have HR := Lib.hid hR
    subst h0
    clear hTl hW hTe hR
    go_enter Tryz.func125, Tryz.ntmps125
    go_wp2_with fail
    go_end0
    exact ⟨rfl, ⟨u, o, R, 0, HW.out, by omega, HR.out, HF.out⟩, Below.refl _ _⟩
  · have dk : decide ((k : Int) > 0) = true := decide_eq_true (by omega)
    have dk' : decide (k > 0) = true := decide_eq_true (by omega)
    have dk'' : decide (0 < k) = true := decide_eq_true (by omega)
    have hsub : IntKind.i64.wrap (8 - (k : Int)) = ((8 - k : Nat) : Int) := by rw [IntKind.wrap_i64]; omega
    have hp : 2 ^ (8 - k) - 1 < 2 ^ (8 - k) := by have : 0 < 2 ^ (8 - k) := Nat.pow_pos (by decide); omega
    have HF : Hid ((unp o ++ bd R k) ++ bd (2 ^ (8 - k) - 1) (8 - k) = fillN T) := by
      show _ = _
      rw [hTe, fillN, bd_ones, show (8 - T.length % 8) % 8 = 8 - k by omega]
    have H1 := Lib.hid (fun W => ones_any12 (8 - k) (by omega) W)
    have H2 := Lib.hid (fun W (h : Wr B e W u o R k) => put_any12 B e u o R k (2 ^ (8 - k) - 1) (8 - k) W h hB hk hR (by omega) hp (by omega))
    rw [HF.out] at H2
    clear hp hW hTe hR hTl h0 HF
    generalize 8 - k = m at *
    generalize 2 ^ m - 1 = q at *
    go_enter Tryz.func125, Tryz.ntmps125
    go_wp2_with fail
    refine (H1.out _).mono ?_
    rintro x w1 ⟨rfl, hb1⟩
    have HB := Lib.hid hb1
    have W1 := Lib.hid (HW.out.below hb1)
    clear hb1
    go_wp2_with fail
    refine (H2.out _ W1.out).mono ?_
    rintro x w2 ⟨rfl, h3, h4⟩
    have K3 := Lib.hid h3
    have K4 := Lib.hid h4
    clear h3 h4
    go_wp2_with fail
    go_end0
    exact ⟨rfl, K3.out, (HB.out.mono (by have := HW.out.row.lt; omega)).trans K4.out⟩

/-- WHAT IS ANSWERED OF SYMBOLS IN A CODE THAT MAY BE -/
def EncIs (w : World) (W : List (Nat × Nat)) (ys : List Int) (e : Ending) (w' : World) : Prop :=
  Below w.heap.size w w' ∧ ((HasN W ys ∧ ∃ v o, e = .returned (.tuple #[v, .int .i64 0]) ∧ Rd .u8 w' v o ∧ Bts o ∧ unp o = fillN (encN W ys) ∧ ∀ j, v.ownBlock = some j → w.heap.size ≤ j) ∨
    (¬ HasN W ys ∧ e = .returned (.tuple #[.slice none 0 0, .int .i64 1])))

theorem enc_no (v u : Value) (ls : List Int) (w : World) (hr : Rd .i64 w v ls) (hc : ¬ RightL ls) : Calls Tryz.prog 110 #[v, u] w fun e w' => e = .returned (.tuple #[.slice none 0 0, .int .i64 1]) ∧ w = w' := by
  have H := Lib.hid (words_no v ls w hr hc)
  clear hr hc
  go_enter Tryz.func110, Tryz.ntmps110
  go_wp2_with (go_at_call 123; refine H.out.mono ?_; rintro e w' ⟨rfl, rfl⟩)
  go_ret2
  exact ⟨rfl, rfl⟩

theorem enc_len {W : List (Nat × Nat)} (h : WordsOk W) (ys : List Int) : (encN W ys).length ≤ 24 * ys.length := by
  induction ys with
  | nil => simp [encN]
  | cons s r ih => rw [enc_cons, List.length_append, bd_len, List.length_cons]; have := h.long s.toNat; omega
theorem has_take {W : List (Nat × Nat)} (ys : List Int) (k : Nat) (hk : k < ys.length) (h : HasN W (ys.take k)) (hs : (ys.getD k 0).toNat < W.length ∧ (W.getD (ys.getD k 0).toNat (0, 0)).2 ≠ 0) : HasN W (ys.take (k + 1)) := by
  rw [List.take_succ_eq_append_getElem hk]
  intro s hss
  rcases List.mem_append.1 hss with h1 | h1
  · exact h s h1
  · have : s = ys.getD k 0 := by simpa [List.getD, hk] using h1
    rw [this]; exact hs
theorem enc_take (W : List (Nat × Nat)) (ys : List Int) (k : Nat) (hk : k < ys.length) : encN W (ys.take (k + 1)) = encN W (ys.take k) ++ bd (W.getD (ys.getD k 0).toNat (0, 0)).1 (W.getD (ys.getD k 0).toNat (0, 0)).2 := by
  rw [List.take_succ_eq_append_getElem hk, enc_append]
  simp [encN, List.getD, hk]

set_option maxHeartbeats 4000000 in
theorem enc_yes (v u : Value) (ls ys : List Int) (w : World) (hr : Rd .i64 w v ls) (hu : Rd .u8 w u ys) (hy : Bts ys) (hyl : ys.length ≤ 68719476736) (hc : RightL ls) :
    Calls Tryz.prog 110 #[v, u] w (EncIs w (wordsN (ls.map Int.toNat)) ys) := by
  have H := Lib.hid (words_yes v ls w hr hc)
  have HOK := Lib.hid hc.code.words
  generalize hWd : wordsN (ls.map Int.toNat) = W at *
  have HWd := Lib.hid hWd
  have HU := Lib.hid hu
  have HY := Lib.hid hy
  obtain ⟨ua, uc, rfl⟩ := hu.isSlice
  clear hr hu hy hc hWd
  go_enter Tryz.func110, Tryz.ntmps110
  go_wp2_with (go_at_call 123; refine H.out.mono ?_; rintro e w1 ⟨x, rfl, ho, hb⟩; rw [HWd.out] at ho; have OW := Lib.hid ho; have HB := Lib.hid hb; obtain ⟨xa, xc, rfl, _, _⟩ := ho.slice; clear ho hb)
  have hz : w.heap.size ≤ w1.heap.size := HB.out.size
  have W0 : Hid (WrHas w1.heap.size w1.heap.size (w1.alloc (.cells #[.slice none 0 0, .int .i64 0, .int .i64 0] 202)) (encN W (ys.take 0))) :=
    ⟨.slice none 0 0, [], 0, 0, ⟨alloc_at _ _, Own.nil _ _ _ _, by intro z hz; cases hz⟩, by decide, by decide, by simp [encN, unp, bd]⟩
  have B0 := Lib.hid ((Below.refl w1.heap.size w1).alloc (Nat.le_refl _) (.cells #[.slice none 0 0, .int .i64 0, .int .i64 0] 202))
  have hlt0 : w1.heap.size < (w1.alloc (.cells #[.slice none 0 0, .int .i64 0, .int .i64 0] 202)).heap.size := by simp
  generalize w1.alloc _ = w2 at *
  go_loopw [21] (fun i wr => ∃ k : Nat, k ≤ ys.length ∧ i = .int .i64 (k : Int) ∧ WrHas w1.heap.size w1.heap.size wr (encN W (ys.take k)) ∧ Hid (HasN W (ys.take k)) ∧ Below w1.heap.size w1 wr) (fun i _ => ys.length - (intOf i).toNat)
  case atStart => exact ⟨0, Nat.zero_le _, rfl, W0.out, (by intro s hs; simp at hs), B0.out⟩
  case round =>
    obtain ⟨k, hk, rfl, hw, hh, hb⟩ := hrel
    clear W0 B0
    have HW := Lib.hid hw
    have BB := Lib.hid hb
    have BW := Lib.hid (HB.out.trans (hb.mono hz))
    have hz2 := hb.size
    clear hw hb
    by_cases hlt : k < ys.length
    · obtain ⟨s, hs⟩ : ∃ s : Nat, s = (ys.getD k 0).toNat := ⟨_, rfl⟩
      have hs0 := getD_bts HY.out k
      have hx : ys.getD k 0 = (s : Int) := by omega
      have hs256 : s < 256 := by omega
      have hcell : ∃ b o, ua = some ⟨b, o, none⟩ ∧ wr.cell? ⟨b, o + k, none⟩ = some (.int .u8 (s : Int)) := by
        rcases HU.out.below BW.out with ⟨rfl, _⟩ | ⟨_, b, o, cp, he, h2, h3, h4, h5⟩
        · simp at hlt
        · simp only [Value.slice.injEq] at he
          exact ⟨b, o, he.1, by rw [← hx]; exact h5 _ hlt⟩
      obtain ⟨b, o, rfl, hcell⟩ := hcell
      have hmem : ys.getD k 0 ∈ ys := by simp [List.getD, hlt]
      by_cases hsl : s < W.length
      · have d1 : decide ((s : Int) ≥ (W.length : Int)) = false := decide_eq_false (by omega)
        have d1' : decide (s ≥ W.length) = false := decide_eq_false (by omega)
        have d1'' : decide (W.length ≤ s) = false := decide_eq_false (by omega)
        obtain ⟨g, rfl, hg, hg2⟩ := OW.out.shape (by omega)
        have O2 := Lib.hid (OW.out.below BB.out)
        have c0 := O2.out.at0 s hsl
        have c1 := O2.out.at1 s hsl
        have hi1 : (0 : Int) ≤ (s : Int) := by omega
        have hi2 : (s : Int) < (W.length : Int) := by omega
        have HE := Lib.hid (enc_take W ys k hlt)
        have HL := Lib.hid (enc_len HOK.out (ys.take k))
        have hlong := HOK.out.long s
        have hroom := fun h => HOK.out.room s h
        have HH : Hid ((W.getD s (0, 0)).2 ≠ 0 → HasN W (ys.take (k + 1))) := fun h => has_take ys k hlt hh.out (by rw [← hs]; exact ⟨hsl, h⟩)
        have HNO : Hid ((W.getD s (0, 0)).2 = 0 → ¬ HasN W ys) := fun h hn => (hn _ hmem).2 (by rw [← hs]; exact h)
        rw [← hs] at HE
        generalize (W.getD s (0, 0)).1 = x at *
        generalize (W.getD s (0, 0)).2 = n at *
        clear hs hs0 hx hmem O2
        by_cases hn : n = 0
        · have e1 := Lib.hid (HNO.out hn)
          subst hn
          clear hroom HH HNO HE HL
          go_wp2_with fail
          go_ret2
          exact ⟨BW.out, .inr ⟨e1.out, rfl⟩⟩
        · have dn : ((n : Int) == 0) = false := by simp; omega
          have dn' : (n == 0) = false := by simp; omega
          have HR := Lib.hid (hroom (by omega))
          have HH2 := Lib.hid (HH.out hn)
          obtain ⟨u', o', R, k', hW, hk', hR, hTe⟩ := HW.out
          have hll : (unp o').length ≤ (encN W (ys.take k)).length := by rw [← hTe, List.length_append]; omega
          rw [unp_len] at hll
          have hlt' : (ys.take k).length ≤ k := List.length_take_le _ _
          have HP := Lib.hid (put_any12 w1.heap.size w1.heap.size u' o' R k' x n wr hW (Nat.le_refl _) hk' hR hlong (by have := HR.out; omega) (by have := HL.out; omega))
          rw [hTe, ← HE.out] at HP
          clear hroom HH HNO HE HL hW hk' hR hTe hll hlt' hn HR
          go_wp2_with (go_at_call 124; refine HP.out.mono ?_; rintro z w3 ⟨rfl, h3, h4⟩; have K3 := Lib.hid h3; have K4 := Lib.hid h4; clear h3 h4)
          go_roundw
          case rel => exact ⟨k + 1, by omega, by go_num, K3.out, HH2, BB.out.trans K4.out⟩
          case measure => simp [intOf]; omega
      · have d1 : decide ((s : Int) ≥ (W.length : Int)) = true := decide_eq_true (by omega)
        have d1' : decide (s ≥ W.length) = true := decide_eq_true (by omega)
        have d1'' : decide (W.length ≤ s) = true := decide_eq_true (by omega)
        have e1 : Hid (¬ HasN W ys) := fun hn => hsl (by rw [hs]; exact (hn _ hmem).1)
        clear hs hs0 hx hmem hsl
        go_wp2_with fail
        go_ret2
        exact ⟨BW.out, .inr ⟨e1.out, rfl⟩⟩
    · have hend : k = ys.length := by omega
      have dl : decide ((k : Int) < (ys.length : Int)) = false := decide_eq_false (by omega)
      have dl' : decide (k < ys.length) = false := decide_eq_false (by omega)
      have HH : Hid (HasN W ys) := by
        have := hh.out; rw [hend, List.take_length] at this; exact this
      have HL := enc_len HOK.out ys
      have HF := Lib.hid (fill_any w1.heap.size w1.heap.size (encN W ys) wr (by have := HW.out; rw [hend, List.take_length] at this; exact this) (Nat.le_refl _) (by omega))
      clear hend HL
      go_wp2_with (go_at_call 125; refine HF.out.mono ?_; rintro z w3 ⟨rfl, ⟨u3, o3, R3, k3, r3, hk3, hR3, hT3⟩, h4⟩; have K4 := Lib.hid h4; have R3' := Lib.hid r3; have HT3 := Lib.hid hT3; obtain ⟨q0, q1, q2⟩ := r3.row.facts; clear h4 r3 hT3 hR3)
      go_ret2
      have hk0 : k3 = 0 := by
        have := congrArg List.length HT3.out
        rw [List.length_append, unp_len, bd_len] at this
        have := fill_len (encN W ys)
        omega
      subst hk0
      have e2 : unp o3 = fillN (encN W ys) := by have := HT3.out; simpa [bd] using this
      exact ⟨HB.out.trans ((BB.out.trans K4.out).mono hz), .inl ⟨HH.out, u3, o3, rfl, R3'.out.own.rd, R3'.out.bts, e2, fun j hj => Nat.le_trans hz (R3'.out.own.blk j hj)⟩⟩
end Go.Proofs.YtbkbabaoockigaaGreatDoor

set_option maxRecDepth 100000
set_option maxRecDepth 100000
set_option linter.unusedSimpArgs false
set_option linter.unusedVariables false
namespace Go.Proofs.YtbkbabaoockigaaGreatDoor
open Go.RowKit Go.Maps

/-- a word as a key -/
def kW (a b : Nat) : Lit := .string (keyBytes [.int .i64 (a : Int), .int .i64 (b : Int)])
theorem laidW : laidOutB Tryz.prog = true := by kernel_rfl
theorem rowW : (200 : TypeId) < Tryz.prog.types.size := of_decide_eq_true (by kernel_rfl)
theorem wideW : (match Tryz.prog.underlying 200 with | some (.array _ _) | some (.struct _) => true | _ => false) = true := by rw [Tryz.underlying200]
theorem lawW : Keyed Tryz.prog 200 := Keyed.of_law (deep_law_laid laidW (m := 2) (by omega) rowW (by kernel_rfl) wideW)
theorem wf_small {a : Nat} (h : a < 4611686018427387904) : (Lit.int .i64 (a : Int)).wf = true := WalkArith.wf_i64 (by omega)
theorem keyTypeW : Tryz.prog.keyType 200 = true := by kernel_rfl
theorem cellsW : Tryz.prog.cellsOf 200 = 2 := by kernel_rfl
theorem cellsI : Tryz.prog.cellsOf 3 = 1 := by kernel_rfl
theorem key_mk (a b : Nat) (ha : a < 4611686018427387904) (hb : b < 4611686018427387904) : keyOf Tryz.prog 200 (.agg #[.int .i64 (a : Int), .int .i64 (b : Int)]) = some (kW a b) := by
  have hs : ∃ n, Tryz.prog.types.size = n + 1 := ⟨Tryz.prog.types.size - 1, (Nat.succ_pred_eq_of_pos (Nat.lt_of_le_of_lt (Nat.zero_le _) rowW)).symm⟩
  obtain ⟨n, hn⟩ := hs
  have wa := wf_small ha
  have wb := wf_small hb
  have hl : Tryz.prog.keyLits (n + 1 + 1) 200 [.int .i64 (a : Int), .int .i64 (b : Int)] = some [.int .i64 (a : Int), .int .i64 (b : Int)] := by
    simp [Program.keyLits, Tryz.underlying200, Tryz.underlying3, cellsW, cellsI, wa, wb]
  simp only [keyOf, Tryz.underlying200, keyTypeW, Value.formed, cellsW, hn, Value.cells]
  simp [hl, kW]
theorem kW_inj {a b a' b' : Nat} (ha : a < 4611686018427387904) (hb : b < 4611686018427387904) (ha' : a' < 4611686018427387904) (hb' : b' < 4611686018427387904) (h : kW a b = kW a' b') : a = a' ∧ b = b' := by
  have := lawW.inj (key_mk a b ha hb) (by rw [h]; exact key_mk a' b' ha' hb')
  simp only [Value.agg.injEq, Array.mk.injEq, List.cons.injEq, Value.int.injEq, true_and, and_true] at this
  omega
theorem kW_key (a b : Nat) : WideAt.IsKeyLit (kW a b) := trivial

theorem sym_take (W : List (Nat × Nat)) (i a b : Nat) (hi : i < W.length) : symN (W.take (i + 1)) a b = (symN (W.take i) a b).or (if W.getD i (0, 0) = (a, b) then some i else none) := by
  have l1 : (W.take i).length = i := by rw [List.length_take]; omega
  unfold symN
  rw [List.take_succ_eq_append_getElem hi, List.findIdx?_append, l1]
  congr 1
  have e : W.getD i (0, 0) = W[i] := by simp [List.getD, hi]
  rw [e]
  by_cases h : W[i] = (a, b)
  · rw [if_pos h]; simp [List.findIdx?_cons, h]
  · rw [if_neg h]; simp [List.findIdx?_cons, h]

/-- block mb IS THE MAP OF THE FIRST i SYMBOLS BY THEIR WORDS -/
def SyM (w : World) (mb : Nat) (W : List (Nat × Nat)) (i : Nat) : Prop :=
  ∃ (n : Nat) (D : DataW Unit), w.ownsMap Tryz.prog 200 (plainElem Tryz.prog 5) mb n D ∧ n ≤ i ∧
    ∀ a b, 0 < b → a < 4611686018427387904 → b < 4611686018427387904 → has D (kW a b) = (symN (W.take i) a b).isSome ∧ ∀ j, symN (W.take i) a b = some j → ∀ z, D.atKey (kW a b) z = .lit (.int .u8 (j : Int))
theorem SyM.made (w : World) (W : List (Nat × Nat)) : SyM (w.alloc (.map #[] 0)) w.heap.size W 0 :=
  ⟨0, .map [], World.ownsMap_made w _ _ _, Nat.le_refl _, fun a b _ _ _ => ⟨by simp [symN]; rfl, fun j hj => by simp [symN] at hj⟩⟩
theorem SyM.kept {w w' : World} {mb i : Nat} {W : List (Nat × Nat)} {row : Option Nat} (h : SyM w mb W i) (hg : w.grownBy w' row) (hne : some mb ≠ row) : SyM w' mb W i := by
  obtain ⟨n, D, h1, h2, h3⟩ := h
  exact ⟨n, D, h1.kept hg hne, h2, h3⟩
theorem SyM.lt {w : World} {mb i : Nat} {W : List (Nat × Nat)} (h : SyM w mb W i) : mb < w.heap.size := by
  obtain ⟨n, D, h1, h2, h3⟩ := h
  exact h1.lt
theorem SyM.below {w w' : World} {mb i : Nat} {W : List (Nat × Nat)} (h : SyM w mb W i) (hb : Below w.heap.size w w') : SyM w' mb W i :=
  h.kept (row := none) ⟨hb.os, hb.tape, hb.output, hb.size, fun j hj _ => hb.block j hj⟩ (by simp)
theorem SyM.skip {w : World} {mb i : Nat} {W : List (Nat × Nat)} (h : SyM w mb W i) (hi : i < W.length) (h0 : (W.getD i (0, 0)).2 = 0) : SyM w mb W (i + 1) := by
  obtain ⟨n, D, h1, h2, h3⟩ := h
  refine ⟨n, D, h1, by omega, fun a b hb ha hb' => ?_⟩
  rw [sym_take W i a b hi, if_neg (by intro e; rw [e] at h0; simp only at h0; omega), Option.or_none]
  exact h3 a b hb ha hb'

section
variable (w : World) {ops : Array Oper} {rest : List Oper} {o : Oper} {a : Act} {Q : Exit → Act → World → Prop}
/-- 'm[word] = symbol' -/
theorem wpList_put_word (hg : o.guard = none) (m x v : Operand) (hop : o.op = Op.mapUpdate 204 m x v) (mb i : Nat) (W : List (Nat × Nat)) (hm : a.eval m = .map (some mb)) (hM : SyM w mb W i) (hW : WordsOk W) (hi : i < W.length)
    (p q : Nat) (hpq : W.getD i (0, 0) = (p, q)) (hx : a.eval x = .agg #[.int .i64 (p : Int), .int .i64 (q : Int)]) (hv : a.eval v = .int .u8 (i : Int)) (hq0 : 0 < q)
    (hK : ∀ w', SyM w' mb W (i + 1) → w.mapTurned w' mb → wpList Tryz.prog ops Q rest (a.put o.dst undef) w') : wpList Tryz.prog ops Q (o :: rest) a w := by
  obtain ⟨n, D, h1, h2, h3⟩ := hM
  obtain rfl : p = (W.getD i (0, 0)).1 := by rw [hpq]
  obtain rfl : q = (W.getD i (0, 0)).2 := by rw [hpq]
  have h0 := hq0
  clear hpq hq0
  have hl := hW.few
  have hn24 := hW.long i
  have hr := hW.room i h0
  have hx24 : (W.getD i (0, 0)).1 < 16777216 := by
    have : 2 ^ (W.getD i (0, 0)).2 ≤ 2 ^ 24 := Nat.pow_le_pow_right (by decide) hn24
    have e : (2 : Nat) ^ 24 = 16777216 := rfl
    omega
  refine wpList_mapUpdate_in w hg m x v 204 hop 200 5 lawW Tryz.underlying204 (plainElem Tryz.prog 5) mb n D hm h1 (by unfold maxLen; omega) _ _ (kW (W.getD i (0, 0)).1 (W.getD i (0, 0)).2) hx hv (key_mk _ _ (by omega) (by omega)) (.lit (.int .u8 (i : Int))) [] (plainElem_int Tryz.underlying5 (WalkArith.wf_u8 (by omega))) fun w' k1 k2 => hK w' ⟨n + 1, _, k1, by omega, fun a b hb ha hb' => ?_⟩ k2
  rw [sym_take W i a b hi]
  by_cases e : W.getD i (0, 0) = (a, b)
  · have ns : symN (W.take i) a b = none := by
      cases hs : symN (W.take i) a b with
      | none => rfl
      | some j =>
        obtain ⟨hj, hj2⟩ := sym_some hs
        rw [List.length_take] at hj
        have hj4 : (W.take i).getD j (0, 0) = W.getD j (0, 0) := by simp [List.getD, List.getElem?_take, show j < i by omega]
        have hj3 : W.getD j (0, 0) = (a, b) := hj4.symm.trans hj2
        have := hW.inj (i := i) (k := j) h0 (e.trans hj3.symm)
        omega
    rw [if_pos e, ns]
    rw [e]
    exact ⟨by rw [has_put_same h1.isMap (kW_key _ _)]; rfl, fun j hj z => by
      rw [atKey_put_same h1.isMap (kW_key _ _)]
      simp only [Option.none_or, Option.some.injEq] at hj
      rw [hj]⟩
  · have hne : kW a b ≠ kW (W.getD i (0, 0)).1 (W.getD i (0, 0)).2 := fun h => by
      have := kW_inj ha hb' (by omega) (by omega) h
      exact e (Prod.ext this.1.symm this.2.symm)
    rw [if_neg e, Option.or_none, has_put_other hne]
    refine ⟨(h3 a b hb ha hb').1, fun j hj z => ?_⟩
    rw [atKey_put_other hne]
    exact (h3 a b hb ha hb').2 j hj z
/-- 'symbol, is := m[word]' -/
theorem wpList_look_word (hg : o.guard = none) (m x : Operand) (hop : o.op = Op.lookup 204 m x true) (mb : Nat) (W : List (Nat × Nat)) (hm : a.eval m = .map (some mb)) (hM : SyM w mb W W.length) (p q : Nat)
    (hx : a.eval x = .agg #[.int .i64 (p : Int), .int .i64 (q : Int)]) (hq : 0 < q) (hp1 : p < 4611686018427387904) (hq1 : q < 4611686018427387904)
    (hK : ∀ c : Int, (∀ s, symN W p q = some s → c = (s : Int)) → wpList Tryz.prog ops Q rest (a.put o.dst (.tuple #[.int .u8 c, .bool (symN W p q).isSome])) w) : wpList Tryz.prog ops Q (o :: rest) a w := by
  obtain ⟨n, D, h1, h2, h3⟩ := hM
  have h4 := h3 p q hq hp1 hq1
  rw [List.take_length] at h4
  refine wpList_lookup_own_ok_int w hg m x 204 hop 200 5 .u8 lawW Tryz.underlying204 Tryz.underlying5 (by kernel_rfl) mb n D hm h1 _ (kW p q) hx (key_mk p q hp1 hq1) fun c hat hwc => ?_
  rw [h4.1]
  refine hK c fun s hs => ?_
  have := h4.2 s hs (.lit (.int .u8 0))
  rw [hat] at this
  simpa using this
end

/-- WHAT symbolsOf ANSWERS -/
def MapIs (w : World) (W : List (Nat × Nat)) (e : Ending) (w' : World) : Prop := ∃ mb, e = .returned (.map (some mb)) ∧ SyM w' mb W W.length ∧ Below w.heap.size w w' ∧ w.heap.size ≤ mb

set_option maxHeartbeats 4000000 in
theorem symbols_any (v : Value) (W : List (Nat × Nat)) (w : World) (hr : RdW w v W) (hW : WordsOk W) : Calls Tryz.prog 127 #[v] w (MapIs w W) := by
  have HR := Lib.hid hr
  have HOK := Lib.hid hW
  have hwl := hW.few
  obtain ⟨va, vc, rfl, _, _⟩ := hr.isSlice
  have hmm : ∀ (n : Int) (w : World), (Instr.makeMap 204 (some (.int .i64 n))).run Tryz.prog w = .ok (.map (some w.heap.size)) (w.alloc (.map #[] 0)) := fun n w => by
    simp [Instr.makeMap, run_underlying Tryz.underlying204, asInt, asIntOf]
  clear hr hW
  go_enter Tryz.func127, Tryz.ntmps127
  go_wp2_with fail
  clear hmm
  have M0 := Lib.hid (SyM.made w W)
  have B0 := Lib.hid ((Below.refl w.heap.size w).alloc (Nat.le_refl _) (.map #[] 0))
  generalize w.alloc _ = w0 at *
  go_loopw [11] (fun i wr => ∃ k : Nat, k ≤ W.length ∧ i = .int .i64 (k : Int) ∧ SyM wr w.heap.size W k ∧ Below w.heap.size w wr) (fun i _ => W.length - (intOf i).toNat)
  case atStart => exact ⟨0, Nat.zero_le _, rfl, M0.out, B0.out⟩
  case round =>
    obtain ⟨k, hk, rfl, hm, hb⟩ := hrel
    clear M0 B0
    have MM := Lib.hid hm
    have BB := Lib.hid hb
    have hz := hb.size
    have hml := hm.lt
    clear hm hb
    by_cases hlt : k < W.length
    · obtain ⟨g, go, gc, hge, hgl⟩ := HR.out.form (by omega)
      simp only [Value.slice.injEq, true_and] at hge
      obtain ⟨rfl, rfl⟩ := hge
      obtain ⟨c0, c1⟩ := (HR.out.below BB.out).cells rfl k hlt
      obtain ⟨p, q, hpq⟩ : ∃ p q, W.getD k (0, 0) = (p, q) := ⟨_, _, rfl⟩
      rw [hpq] at c0 c1
      simp only at c0 c1
      have HPQ := Lib.hid hpq
      have hkw : IntKind.u8.wrap (k : Int) = (k : Int) := by rw [IntKind.wrap_u8]; omega
      have M1 := Lib.hid (MM.out.kept (World.grownBy_alloc wr (.cells #[.int .i64 (p : Int), .int .i64 (q : Int)] 200) none) (by simp))
      have B1 := Lib.hid (BB.out.alloc hz (.cells #[.int .i64 (p : Int), .int .i64 (q : Int)] 200))
      clear hpq
      by_cases h0 : q = 0
      · have M2 := Lib.hid (M1.out.skip hlt (by rw [HPQ.out, h0]))
        subst h0
        go_wp2_with fail
        go_roundw
        case rel => exact ⟨k + 1, by omega, by go_num, M2.out, B1.out⟩
        case measure => simp [intOf]; omega
      · have hq0 : 0 < q := by omega
        have d0 : decide ((q : Int) > 0) = true := decide_eq_true (by omega)
        have d0' : decide (q > 0) = true := decide_eq_true (by omega)
        have d0'' : decide (0 < q) = true := decide_eq_true (by omega)
        have hz1 : w.heap.size ≤ wr.heap.size + 1 := by omega
        clear h0
        go_wp2_with (at_mapUpdate; refine wpList_put_word _ rfl (.tmp 19) (.tmp 20) (.tmp 22) rfl w.heap.size k W rfl M1.out HOK.out hlt p q HPQ.out rfl rfl hq0 ?_; intro w4 m4 t4; have M4 := Lib.hid m4; have G4 := Lib.hid t4.grown; clear m4 t4)
        go_roundw
        case rel => exact ⟨k + 1, by omega, by go_num, M4.out, B1.out.grown G4.out (by simp; omega) (by intro j hj; cases hj; exact Nat.le_refl _)⟩
        case measure => simp [intOf]; omega
    · have hend : k = W.length := by omega
      have dl : decide ((k : Int) < (W.length : Int)) = false := decide_eq_false (by omega)
      have dl' : decide (k < W.length) = false := decide_eq_false (by omega)
      have M3 : Hid (SyM wr w.heap.size W W.length) := by have := MM.out; rw [hend] at this; exact this
      clear hend
      go_wp2_with fail
      go_ret
      exact ⟨w.heap.size, rfl, M3.out, BB.out, Nat.le_refl _⟩
end Go.Proofs.YtbkbabaoockigaaGreatDoor

set_option maxRecDepth 100000
set_option maxRecDepth 100000
set_option linter.unusedSimpArgs false
set_option linter.unusedVariables false
namespace Go.Proofs.YtbkbabaoockigaaGreatDoor
open Go.RowKit Go.Maps

/-- two words compared -/
theorem eqw_any (a b a' b' : Int) (w : World) : (Op.equalIn 10000 200 (.agg #[.int .i64 a, .int .i64 b]) (.agg #[.int .i64 a', .int .i64 b'])).run Tryz.prog w = .ok (decide (a = a' ∧ b = b')) w := by
  have u3 := Tryz.underlying3
  have a3 := Tryz.isAgg3
  have z3 := Tryz.sizeOf3
  have hS : Tryz.prog.underlying 200 = some (.struct (Tryz.prog.fieldsOf 200)) := by kernel_rfl
  have hp : Tryz.prog.stoodInHeld 200 = false := by kernel_rfl
  rw [show (10000 : Nat) = 9999 + 1 from rfl, run_equalIn_agg w 9999 200 _ _ hS hp]
  simp only [Program.fieldsOf, Tryz.underlying200]
  go_simp
  by_cases h1 : a = a' <;> by_cases h2 : b = b' <;> simp [h1, h2]
theorem reqw_any (a b a' b' : Int) (w : World) : (Op.equalIn 10000 196 (.agg #[.int .i64 a, .int .i64 b]) (.agg #[.int .i64 a', .int .i64 b'])).run Tryz.prog w = .ok (decide (a = a' ∧ b = b')) w := by
  have u3 := Tryz.underlying3
  have a3 := Tryz.isAgg3
  have z3 := Tryz.sizeOf3
  have hS : Tryz.prog.underlying 196 = some (.struct (Tryz.prog.fieldsOf 196)) := by kernel_rfl
  have hp : Tryz.prog.stoodInHeld 196 = false := by kernel_rfl
  rw [show (10000 : Nat) = 9999 + 1 from rfl, run_equalIn_agg w 9999 196 _ _ hS hp]
  simp only [Program.fieldsOf, Tryz.underlying196]
  go_simp
  by_cases h1 : a = a' <;> by_cases h2 : b = b' <;> simp [h1, h2]
theorem guardW : Tryz.prog.eqGuardType Tryz.prog.depth 200 = false := by kernel_rfl
theorem rguardW : Tryz.prog.eqGuardType Tryz.prog.depth 196 = false := by kernel_rfl

/-- WHAT IS ANSWERED OF BYTES IN A CODE THAT MAY BE -/
def DecIs (w : World) (ans : Option (List Int)) (e : Ending) (w' : World) : Prop :=
  Below w.heap.size w w' ∧ ((∃ ys v, ans = some ys ∧ e = .returned (.tuple #[v, .int .i64 0]) ∧ Rd .u8 w' v ys ∧ Bts ys) ∨ (ans = none ∧ e = .returned (.tuple #[.slice none 0 0, .int .i64 12])))

theorem dec_no (v u : Value) (ls : List Int) (w : World) (hr : Rd .i64 w v ls) (hc : ¬ RightL ls) : Calls Tryz.prog 114 #[v, u] w fun e w' => e = .returned (.tuple #[.slice none 0 0, .int .i64 1]) ∧ w = w' := by
  have H := Lib.hid (words_no v ls w hr hc)
  clear hr hc
  go_enter Tryz.func114, Tryz.ntmps114
  go_wp2_with (go_at_call 123; refine H.out.mono ?_; rintro e w' ⟨rfl, rfl⟩)
  go_ret2
  exact ⟨rfl, rfl⟩

/-- the word that is begun -/
def Bg (w : World) (g b n : Nat) : Prop := w.heap[g]? = some (.cells #[.int .i64 (b : Int), .int .i64 (n : Int)] 200 (0, 0))
theorem Bg.cs {w : World} {g b n : Nat} (h : Bg w g b n) : Cs w g [.int .i64 (b : Int), .int .i64 (n : Int)] := ⟨_, h⟩
theorem Bg.facts {w : World} {g b n : Nat} (h : Bg w g b n) : w.cell? ⟨g, 0, none⟩ = some (.int .i64 (b : Int)) ∧ w.cell? ⟨g, 1, none⟩ = some (.int .i64 (n : Int)) := ⟨Cs.get h.cs 0 _ rfl, Cs.get h.cs 1 _ rfl⟩
theorem Bg.free {w : World} {g b n : Nat} (h : Bg w g b n) (j : Nat) : w.frozen? ⟨g, j, none⟩ = false := Cs.free h.cs j
theorem Bg.lt {w : World} {g b n : Nat} (h : Bg w g b n) : g < w.heap.size := Cs.lt h.cs
theorem Bg.drew {w : World} {g b n : Nat} (h : Bg w g b n) : Bg w.drew g b n := h
theorem Bg.below {w w' : World} {g b n : Nat} (h : Bg w g b n) (hb : Below w.heap.size w w') : Bg w' g b n := (hb.block g h.lt).trans h
theorem Bg.kept {w w' : World} {row : Option Nat} {g b n : Nat} (h : Bg w g b n) (hg : w.grownBy w' row) (hn : some g ≠ row) : Bg w' g b n := (hg.block g h.lt hn).trans h
theorem Bg.alloc {w : World} {g b n : Nat} (h : Bg w g b n) (o : Obj) : Bg (w.alloc o) g b n := h.kept (World.grownBy_alloc w o none) (by simp)
theorem Bg.set {w : World} {g b n : Nat} (h : Bg w g b n) (b' n' : Nat) : Bg ((w.setCell ⟨g, 0, none⟩ (.int .i64 (b' : Int))).setCell ⟨g, 1, none⟩ (.int .i64 (n' : Int))) g b' n' := by
  unfold Bg at h ⊢; simp [World.setCell, Array.getElem?_modify, h]
theorem Bg.apart {w : World} {g b n B : Nat} {u : Value} {o : List Int} (h : Bg w g b n) (ho : Own .u8 5 w B u o) : ∀ j, u.ownBlock = some j → j ≠ g := by
  intro j hj e1
  rcases ho.2 with ⟨rfl, _⟩ | ⟨g', cap, cur, rfl, _, hg, _⟩
  · cases hj
  · simp only [Value.ownBlock, Option.some.injEq] at hj
    subst hj; subst e1
    unfold Bg at h
    rw [h] at hg
    simp only [Option.some.injEq, Obj.cells.injEq] at hg
    exact absurd hg.2.1 (by decide)
/-- DECODING UNDER WAY -/
structure Dc (B g : Nat) (w0 w : World) (u : Value) (o : List Int) (b n : Nat) : Prop where
  row : Bg w g b n
  own : Own .u8 5 w B u o
  bts : Bts o
  bit : b < 2 ^ n
  few : n < 24
  below : Below B w0 w
theorem Dc.b24 {B g : Nat} {w0 w : World} {u : Value} {o : List Int} {b n : Nat} (h : Dc B g w0 w u o b n) : b < 8388608 := by
  have := h.bit
  have h2 := h.few
  have : 2 ^ n ≤ 2 ^ 23 := Nat.pow_le_pow_right (by decide) (by omega)
  have e : (2 : Nat) ^ 23 = 8388608 := rfl
  omega
/-- what is still to come -/
def togo (W : List (Nat × Nat)) (bs : List Nat) (b n : Nat) (o : List Int) : Option (List Int) := (decN W bs b n).map (o ++ ·)

set_option maxHeartbeats 8000000 in
theorem dec_yes (v u : Value) (ls xs : List Int) (w : World) (hr : Rd .i64 w v ls) (hu : Rd .u8 w u xs) (hx : Bts xs) (hxl : xs.length ≤ 68719476736) (hc : RightL ls) :
    Calls Tryz.prog 114 #[v, u] w (DecIs w (decN (wordsN (ls.map Int.toNat)) (unp xs) 0 0)) := by
  have H := Lib.hid (words_yes v ls w hr hc)
  have HOK := Lib.hid hc.code.words
  generalize hWd : wordsN (ls.map Int.toNat) = W at *
  have HWd := Lib.hid hWd
  have HU := Lib.hid hu
  have HX := Lib.hid hx
  obtain ⟨ua, uc, rfl⟩ := hu.isSlice
  obtain ⟨ans, hans⟩ : ∃ ans, ans = decN W (unp xs) 0 0 := ⟨_, rfl⟩
  rw [← hans]
  have A0 : Hid (ans = togo W ((unp xs).drop (8 * 0)) 0 0 []) := by
    show _ = _; rw [hans, togo]; simp
  clear hr hu hx hc hWd hans
  go_enter Tryz.func114, Tryz.ntmps114
  go_wp2_with (go_at_call 123; refine H.out.mono ?_; rintro e w1 ⟨x, rfl, ho, hb⟩; rw [HWd.out] at ho; have OW := Lib.hid ho; have HB := Lib.hid hb; obtain ⟨xa, xc, rfl, _, _⟩ := ho.slice; clear ho hb)
  refine (symbols_any _ W w1 OW.out.rd HOK.out).mono ?_
  rintro e w2 ⟨mb, rfl, hm, hb2, hmb⟩
  have hz : w.heap.size ≤ w1.heap.size := HB.out.size
  have B2 := Lib.hid (HB.out.trans (hb2.mono hz))
  have M2 := Lib.hid hm
  have hz2 : w.heap.size ≤ w2.heap.size := B2.out.size
  clear hm hb2 H OW HB hmb
  go_wp2_with fail
  have D0 : Hid (Dc w2.heap.size w2.heap.size w2 (w2.alloc (.cells #[.int .i64 0, .int .i64 0] 200)) (.slice none 0 0) [] 0 0) :=
    ⟨alloc_at _ _, Own.nil _ _ _ _, (by intro z hz; cases hz), by decide, by decide, (Below.refl _ _).alloc (Nat.le_refl _) _⟩
  generalize w2.alloc _ = w3 at *
  go_loopw [9, 28] (fun q i wr => ∃ (k b n : Nat) (o : List Int), k ≤ xs.length ∧ i = .int .i64 (k : Int) ∧ Dc w2.heap.size w2.heap.size w2 wr q o b n ∧ o.length ≤ 8 * k ∧ Hid (ans = togo W ((unp xs).drop (8 * k)) b n o)) (fun _ i _ => xs.length - (intOf i).toNat)
  case atStart => exact ⟨0, 0, 0, [], by omega, rfl, D0.out, by simp, A0⟩
  case round =>
    obtain ⟨k, b, n, o, hk, rfl, hd, hol, hA⟩ := hrel
    clear D0 A0
    have DD := Lib.hid hd
    have hzr := hd.below.size
    by_cases hlt : k < xs.length
    · obtain ⟨x, hx⟩ : ∃ x : Nat, x = (xs.getD k 0).toNat := ⟨_, rfl⟩
      have hx0 := getD_bts HX.out k
      have hxx : xs.getD k 0 = (x : Int) := by omega
      have hx256 : x < 256 := by omega
      have hcell : ∃ b o, ua = some ⟨b, o, none⟩ ∧ wr.cell? ⟨b, o + k, none⟩ = some (.int .u8 (x : Int)) := by
        rcases HU.out.below (B2.out.trans (hd.below.mono hz2)) with ⟨rfl, _⟩ | ⟨_, b, o, cp, he, h2, h3, h4, h5⟩
        · simp at hlt
        · simp only [Value.slice.injEq] at he
          exact ⟨b, o, he.1, by rw [← hxx]; exact h5 _ hlt⟩
      obtain ⟨bb, bo, rfl, hcell⟩ := hcell
      obtain ⟨R, hR⟩ : ∃ R, R = (unp xs).drop (8 * (k + 1)) := ⟨_, rfl⟩
      have hA2 : Hid (ans = togo W (bd x 8 ++ R) b n o) := by
        have := hA.out
        rw [unp_drop xs k hlt, hxx, Int.toNat_natCast, ← hR] at this
        exact this
      have HR := Lib.hid hR
      clear hx hx0 hxx hA hR hd
      go_wp2_with fail
      go_loopw [9, 32] (fun q j wq => ∃ (m i b n : Nat) (o : List Int), i + m = 8 ∧ j = .int .i64 (i : Int) ∧ Dc w2.heap.size w2.heap.size w2 wq q o b n ∧ o.length ≤ 8 * k + i ∧ Hid (ans = togo W (bd x m ++ R) b n o)) (fun _ j _ => 8 - (intOf j).toNat)
      case atStart => exact ⟨8, 0, b, n, o, by omega, rfl, DD.out, by omega, hA2⟩
      case round =>
        obtain ⟨m, i, b', n', o', him, rfl, hd, hol', hA⟩ := hrel
        clear DD hA2 hcell hol
        have DD := Lib.hid hd
        have hzq := hd.below.size
        by_cases hm0 : m = 0
        · have hi8 : i = 8 := by omega
          have di : decide ((i : Int) < 8) = false := decide_eq_false (by omega)
          have di' : decide (i < 8) = false := decide_eq_false (by omega)
          have hA3 : Hid (ans = togo W ((unp xs).drop (8 * (k + 1))) b' n' o') := by
            have := hA.out
            rw [hm0] at this
            rw [← HR.out]; exact Lib.hid (by simpa [bd] using this)
          have hol3 : o'.length ≤ 8 * (k + 1) := by omega
          clear hm0 hi8 hd hA him
          go_wp2_with fail
          refine ⟨⟨k + 1, b', n', o', by omega, by go_num, DD.out, hol3, hA3⟩, ?_⟩
          simp [intOf]; omega
        · obtain ⟨m', rfl⟩ : ∃ m', m = m' + 1 := ⟨m - 1, by omega⟩
          obtain ⟨y, hy⟩ : ∃ y, y = x / 2 ^ m' % 2 := ⟨_, rfl⟩
          have hy2 : y < 2 := by rw [hy]; omega
          obtain ⟨X, hX⟩ : ∃ X, X = x / 2 ^ m' := ⟨_, rfl⟩
          have hX256 : X < 256 := Nat.lt_of_le_of_lt (by rw [hX]; exact Nat.div_le_self _ _) hx256
          have hdiv : (x : Int) / 2 ^ m' = (X : Int) := by rw [hX, Int.natCast_ediv]; simp
          have hand : bits .and .i64 (X : Int) 1 = (y : Int) := by
            have := and_ones X 1 (by omega) (by omega)
            rw [hy, ← hX]
            exact this
          have hsub : IntKind.i64.wrap (7 - (i : Int)) = (m' : Int) := by rw [IntKind.wrap_i64]; omega
          have hA2 : Hid (ans = togo W (y :: (bd x m' ++ R)) b' n' o') := by
            have := hA.out
            rw [bd, ← hy] at this
            exact this
          have hb24 := hd.b24
          have hn24 := hd.few
          obtain ⟨b2, hb2⟩ : ∃ b2, b2 = 2 * b' + y := ⟨_, rfl⟩
          obtain ⟨n2, hn2⟩ : ∃ n2, n2 = n' + 1 := ⟨_, rfl⟩
          have HL : Hid (∀ w' : World, Calls Tryz.prog 128 #[.agg #[.int .i64 (b' : Int), .int .i64 (n' : Int)], .int .i64 (y : Int)] w' fun e w'' => e = .returned (.agg #[.int .i64 (b2 : Int), .int .i64 (n2 : Int)]) ∧ Below w'.heap.size w' w'') := fun w' => by
            rw [hb2, hn2]; exact longer_any b' n' y (by omega) (by show _ < 16777216; omega) hy2 w'
          have hbit2 : b2 < 2 ^ n2 := by have := hd.bit; rw [hb2, hn2, Nat.pow_succ]; omega
          have hS : Hid (togo W (y :: (bd x m' ++ R)) b' n' o' = match symN W b2 n2 with | some s => togo W (bd x m' ++ R) 0 0 (o' ++ [(s : Int)]) | none => if n2 = 24 then none else togo W (bd x m' ++ R) b2 n2 o') := by
            show _ = _
            rw [togo, decN, ← hb2, ← hn2]
            cases symN W b2 n2 with
            | none =>
              simp only
              by_cases e : n2 = 24
              · rw [if_pos e, if_pos e]; rfl
              · rw [if_neg e, if_neg e]; rfl
            | some s =>
              simp only [togo, Option.map_map]
              congr 1
              funext l
              simp
          have hn2' : 0 < n2 ∧ n2 ≤ 24 := by omega
          have hb2' : b2 < 16777216 := by omega
          have HN2 := Lib.hid hn2
          obtain ⟨c0, c1⟩ := hd.row.facts
          obtain ⟨d0, d1⟩ := hd.row.drew.facts
          have z0 := hd.row.drew.free 0
          have z1 := hd.row.drew.free 1
          have him' : i < 8 := by omega
          have hmin : min m' 64 = m' := by omega
          have hime : i + 1 + m' = 8 := by omega
          have HIME := Lib.hid hime
          have HIM := Lib.hid him
          clear hy hX hd hb2 hn2 hA hm0 him hime
          have hwx : IntKind.i64.wrap (x : Int) = (x : Int) := by rw [IntKind.wrap_i64]; omega
          go_upto_region 13 with fail
          go_still_tail 7, (by kernel_rfl)
          repeat still_step
          change wpList _ _ _ _ _ wr.drew
          go_upto_region 14 with (go_at_call 128; refine (HL.out _).mono ?_; rintro e w7 ⟨rfl, hb7⟩; have r7 := DD.out.row.drew.below hb7; obtain ⟨k0, k1⟩ := r7.facts; have kz0 := r7.free 0; have kz1 := r7.free 1; have HB7 := Lib.hid hb7; clear hb7 r7)
          have ROW7 := Lib.hid ((DD.out.row.drew.below HB7.out).set b2 n2)
          have OWN7 := Lib.hid (((show Own .u8 5 wr.drew w2.heap.size u9 o' from DD.out.own).below HB7.out).other w2.heap.size 0 (.int .i64 (b2 : Int)) (DD.out.row.apart DD.out.own) |>.other w2.heap.size 1 (.int .i64 (n2 : Int)) (DD.out.row.apart DD.out.own))
          have BEL7 := Lib.hid (((DD.out.below.drew.trans (HB7.out.mono hzq)).setCell (p := ⟨w2.heap.size, 0, none⟩) (Nat.le_refl _) (.int .i64 (b2 : Int))).setCell (p := ⟨w2.heap.size, 1, none⟩) (Nat.le_refl _) (.int .i64 (n2 : Int)))
          clear k0 k1 kz0 kz1 c0 c1 d0 d1 z0 z1 hwx hmin hsub hdiv hand HL
          generalize (w7.setCell ⟨w2.heap.size, 0, none⟩ _).setCell ⟨w2.heap.size, 1, none⟩ _ = w8 at ROW7 OWN7 BEL7 ⊢
          obtain ⟨c0, c1⟩ := ROW7.out.facts
          have z0 := ROW7.out.free 0
          have z1 := ROW7.out.free 1
          have M8 := Lib.hid (M2.out.below BEL7.out)
          have hz8 := BEL7.out.size
          have hg8 : w2.heap.size < w8.heap.size := ROW7.out.lt
          obtain ⟨hn2a, hn2b⟩ := hn2'
          cases hsym : symN W b2 n2 with
          | some s =>
            have HSY := Lib.hid hsym
            have HIS : Hid ((symN W b2 n2).isSome = true) := by show _ = _; rw [hsym]; rfl
            have hA3 : Hid (ans = togo W (bd x m' ++ R) 0 0 (o' ++ [(s : Int)])) := by
              have := hA2.out.trans hS.out
              rw [hsym] at this
              exact this
            have hsw := (sym_some hsym).1
            have hs256 : s < 256 := by have := HOK.out.few; omega
            clear hsym hS hA2
            go_wp2_with (first
              | (at_lookup; refine wpList_look_word _ rfl (.tmp 44) (.tmp 45) rfl mb W rfl M8.out b2 n2 rfl hn2a (by omega) (by omega) ?_; intro c hc; obtain rfl : c = (s : Int) := hc s HSY.out; rw [HIS.out]; clear hc)
              | (at_builtin; ((with_reducible refine wpList_append_rd _ ?_ (.tmp 50) (.tmp 52) 38 ?_ elemU8 Tryz.underlying38 w2.heap.size u9 o' ?_ (OWN7.out.alloc _) (.slice (some ⟨w8.heap.size, 0, none⟩) 1 1) [(s : Int)] ?_ (Rd.one .u8 5 w8 _) ?_ ?_ ?_ ?_)); rfl; rfl; rfl; rfl; (simp; omega); (simp [maxLen]; omega); (simp; omega); intro v9 w9 o9 g9; have r9 := (ROW7.out.alloc _).kept g9 (fun e1 => (ROW7.out.apart OWN7.out) w2.heap.size e1.symm rfl); obtain ⟨q0, q1⟩ := r9.facts; have qz0 := r9.free 0; have qz1 := r9.free 1; have R9 := Lib.hid r9; have O9 := Lib.hid o9; have G9 := Lib.hid g9; clear o9 g9 r9))
            have D9 : Hid (Dc w2.heap.size w2.heap.size w2 ((w9.setCell ⟨w2.heap.size, 0, none⟩ (.int .i64 0)).setCell ⟨w2.heap.size, 1, none⟩ (.int .i64 0)) v9 (o' ++ [(s : Int)]) 0 0) :=
              ⟨R9.out.set 0 0, (O9.out.other _ _ _ (R9.out.apart O9.out)).other _ _ _ (R9.out.apart O9.out), DD.out.bts.append (fun z hz => by rw [List.mem_singleton.1 hz]; omega), by decide, by decide,
                ((((BEL7.out.alloc hz8 _).grown G9.out (by simp; omega) OWN7.out.blk).setCell (p := ⟨w2.heap.size, 0, none⟩) (Nat.le_refl _) (.int .i64 0)).setCell (p := ⟨w2.heap.size, 1, none⟩) (Nat.le_refl _) (.int .i64 0))⟩
            have hol9 : (o' ++ [(s : Int)]).length ≤ 8 * k + (i + 1) := by simp; omega
            have HOL9 := Lib.hid hol9
            clear hol9
            exact ⟨⟨m', i + 1, 0, 0, o' ++ [(s : Int)], HIME.out, by go_num, D9.out, HOL9.out, hA3⟩, by simp [intOf]; omega⟩
          | none =>
            have HIS : Hid ((symN W b2 n2).isSome = false) := by show _ = _; rw [hsym]; rfl
            have hA3 : Hid (ans = if n2 = 24 then none else togo W (bd x m' ++ R) b2 n2 o') := by
              have := hA2.out.trans hS.out
              rw [hsym] at this
              exact this
            have BW := Lib.hid (B2.out.trans (BEL7.out.mono hz2))
            clear hsym hS hA2
            by_cases he : n2 = 24
            · have de : ((n2 : Int) == 24) = true := by simp; omega
              have de' : (n2 == 24) = true := by simp; omega
              have hA4 : Hid (ans = none) := by have := hA3.out; rw [if_pos he] at this; exact this
              clear hA3 he
              go_wp2_with (at_lookup; refine wpList_look_word _ rfl (.tmp 44) (.tmp 45) rfl mb W rfl M8.out b2 n2 rfl hn2a (by omega) (by omega) ?_; intro c hc; rw [HIS.out]; clear hc)
              go_ret2
              exact ⟨BW.out, .inr ⟨hA4.out, rfl⟩⟩
            · have de : ((n2 : Int) == 24) = false := by simp; omega
              have de' : (n2 == 24) = false := by simp; omega
              have hA4 : Hid (ans = togo W (bd x m' ++ R) b2 n2 o') := by have := hA3.out; rw [if_neg he] at this; exact this
              have D9 : Hid (Dc w2.heap.size w2.heap.size w2 w8 u9 o' b2 n2) := ⟨ROW7.out, OWN7.out, DD.out.bts, hbit2, by omega, BEL7.out⟩
              have hol9 : o'.length ≤ 8 * k + (i + 1) := by omega
              have HOL9 := Lib.hid hol9
              clear hA3 he hol9
              go_wp2_with (at_lookup; refine wpList_look_word _ rfl (.tmp 44) (.tmp 45) rfl mb W rfl M8.out b2 n2 rfl hn2a (by omega) (by omega) ?_; intro c hc; rw [HIS.out]; clear hc)
              exact ⟨⟨m', i + 1, b2, n2, o', HIME.out, by go_num, D9.out, HOL9.out, hA4⟩, by simp [intOf]; omega⟩
    · have hend : k = xs.length := by omega
      have dl : decide ((k : Int) < (xs.length : Int)) = false := decide_eq_false (by omega)
      have dl' : decide (k < xs.length) = false := decide_eq_false (by omega)
      have hA2 : Hid (ans = if n > 7 ∨ b ≠ 2 ^ n - 1 then none else some o) := by
        have := hA.out
        rw [hend, List.drop_of_length_le (by rw [unp_len]; omega), togo, decN] at this
        show _ = _
        rw [this]
        by_cases e : n > 7 ∨ b ≠ 2 ^ n - 1
        · rw [if_pos e, if_pos e]; rfl
        · rw [if_neg e, if_neg e]; simp
      have BW := Lib.hid (B2.out.trans (hd.below.mono hz2))
      obtain ⟨c0, c1⟩ := hd.row.facts
      obtain ⟨d0, d1⟩ := hd.row.drew.facts
      have hn24 := hd.few
      clear hend hA hd
      by_cases h7 : n > 7
      · have d7 : decide ((n : Int) > 7) = true := decide_eq_true (by omega)
        have d7' : decide (n > 7) = true := decide_eq_true (by omega)
        have d7'' : decide (7 < n) = true := decide_eq_true (by omega)
        have hA3 : Hid (ans = none) := by have := hA2.out; rw [if_pos (.inl h7)] at this; exact this
        clear hA2
        go_wp2_with fail
        go_quiet (fail)
        go_wp2_with fail
        go_ret2
        exact ⟨below_drewN BW.out _, .inr ⟨hA3.out, rfl⟩⟩
      · have d7 : decide ((n : Int) > 7) = false := decide_eq_false (by omega)
        have d7' : decide (n > 7) = false := decide_eq_false (by omega)
        have d7'' : decide (7 < n) = false := decide_eq_false (by omega)
        obtain ⟨q, hq⟩ : ∃ q, q = 2 ^ n - 1 := ⟨_, rfl⟩
        have H1 : Hid (∀ W : World, Calls Tryz.prog 129 #[.int .i64 (n : Int)] W fun x w' => x = .returned (.agg #[.int .i64 (q : Int), .int .i64 (n : Int)]) ∧ Below W.heap.size W w') := fun W => by rw [hq]; exact ones_any12 n (by omega) W
        by_cases he : b = q
        · have q44 : ∀ w, (Op.equalIn 10000 200 (.agg #[.int .i64 (b : Int), .int .i64 (n : Int)]) (.agg #[.int .i64 (q : Int), .int .i64 (n : Int)])).run Tryz.prog w = .ok true w := fun w => by rw [eqw_any, decide_eq_true]; exact ⟨by omega, rfl⟩
          have g44 := guardW
          have hA3 : Hid (ans = some o) := by have := hA2.out; rw [if_neg (by rw [← hq]; omega)] at this; exact this
          clear hA2 hq he
          go_wp2_with fail
          go_region_law (go_simp; go_at_call 129; refine (H1.out _).mono ?_; rintro x w7 ⟨rfl, hb7⟩; have r7 := DD.out.row.drew.below hb7; obtain ⟨k0, k1⟩ := r7.facts; have HB7 := Lib.hid hb7; clear hb7 r7)
          all_goals
            go_wp2_with fail
            go_ret2
            exact ⟨BW.out.drew.trans (HB7.out.mono (BW.out.size)), .inl ⟨o, _, hA3.out, rfl, ((show Own .u8 5 wr.drew w2.heap.size u9 o from DD.out.own).below HB7.out).rd, DD.out.bts⟩⟩
        · have q44 : ∀ w, (Op.equalIn 10000 200 (.agg #[.int .i64 (b : Int), .int .i64 (n : Int)]) (.agg #[.int .i64 (q : Int), .int .i64 (n : Int)])).run Tryz.prog w = .ok false w := fun w => by rw [eqw_any, decide_eq_false]; intro h; exact he (by omega)
          have g44 := guardW
          have hA3 : Hid (ans = none) := by have := hA2.out; rw [if_pos (.inr (by rw [← hq]; exact he))] at this; exact this
          clear hA2 hq he
          go_wp2_with fail
          go_region_law (go_simp; go_at_call 129; refine (H1.out _).mono ?_; rintro x w7 ⟨rfl, hb7⟩; have r7 := DD.out.row.drew.below hb7; obtain ⟨k0, k1⟩ := r7.facts; have HB7 := Lib.hid hb7; clear hb7 r7)
          all_goals
            go_wp2_with fail
            go_ret2
            exact ⟨BW.out.drew.trans (HB7.out.mono (BW.out.size)), .inr ⟨hA3.out, rfl⟩⟩
end Go.Proofs.YtbkbabaoockigaaGreatDoor

set_option maxRecDepth 100000
set_option maxRecDepth 100000
set_option linter.unusedSimpArgs false
set_option linter.unusedVariables false
namespace Go.Proofs.YtbkbabaoockigaaGreatDoor
open Go.RowKit

/-- the words that are known when those of n bits are told up to symbol k -/
def rwL (ns : List Nat) (n k : Nat) : List (Nat × Nat) := (List.range ns.length).map fun j => if ns.getD j 0 < n ∨ (ns.getD j 0 = n ∧ j < k) then wordN ns j else (0, 0)
theorem rwL_len (ns : List Nat) (n k : Nat) : (rwL ns n k).length = ns.length := by simp [rwL]
theorem rwL_get (ns : List Nat) (n k j : Nat) (h : j < (rwL ns n k).length) : (rwL ns n k)[j] = if ns.getD j 0 < n ∨ (ns.getD j 0 = n ∧ j < k) then wordN ns j else (0, 0) := by simp only [rwL, List.getElem_map, List.getElem_range]
theorem rwL_start (ns : List Nat) : rwL ns 1 0 = List.replicate ns.length (0, 0) := by
  refine List.ext_getElem (by simp [rwL]) fun j h1 h2 => ?_
  rw [rwL_get, List.getElem_replicate]
  by_cases h : ns.getD j 0 < 1
  · rw [if_pos (.inl h), word_zero (by omega)]
  · rw [if_neg (by omega)]
theorem rwL_next (ns : List Nat) (n : Nat) : rwL ns n ns.length = rwL ns (n + 1) 0 := by
  refine List.ext_getElem (by simp [rwL]) fun j h1 h2 => ?_
  rw [rwL_get, rwL_get]
  have hj : j < ns.length := by rw [rwL_len] at h1; exact h1
  by_cases h : ns.getD j 0 < n + 1
  · rw [if_pos (by omega), if_pos (.inl h)]
  · rw [if_neg (by omega), if_neg (by omega)]
theorem rwL_end {ns : List Nat} (h : CodeOk ns) : rwL ns 25 0 = wordsN ns := by
  refine List.ext_getElem (by simp [rwL, words_len]) fun j h1 h2 => ?_
  rw [rwL_get, if_pos (.inl (by have := h.at j; omega))]
  simp [wordsN]
theorem rwL_set (ns : List Nat) (n k : Nat) (hk : k < ns.length) (hn : ns.getD k 0 = n) : (rwL ns n k).set k (wordN ns k) = rwL ns n (k + 1) := by
  refine List.ext_getElem (by simp [rwL]) fun j h1 h2 => ?_
  rw [List.getElem_set, rwL_get]
  by_cases e : k = j
  · subst e; rw [if_pos rfl, rwL_get, if_pos (by omega)]
  · rw [if_neg e, rwL_get]
    by_cases h : ns.getD j 0 < n ∨ (ns.getD j 0 = n ∧ j < k)
    · rw [if_pos h, if_pos (by omega)]
    · rw [if_neg h, if_neg (by omega)]
theorem rwL_skip (ns : List Nat) (n k : Nat) (hn : ns.getD k 0 ≠ n) : rwL ns n (k + 1) = rwL ns n k := by
  refine List.ext_getElem (by simp [rwL]) fun j h1 h2 => ?_
  rw [rwL_get, rwL_get]
  by_cases e : k = j
  · subst e
    by_cases h : ns.getD k 0 < n
    · rw [if_pos (.inl h), if_pos (.inl h)]
    · rw [if_neg (by omega), if_neg (by omega)]
  · by_cases h : ns.getD j 0 < n ∨ (ns.getD j 0 = n ∧ j < k)
    · rw [if_pos h, if_pos (by omega)]
    · rw [if_neg h, if_neg (by omega)]
theorem short_one (ns : List Nat) : shortN ns 1 = 0 := by
  rw [short_succ, short_zero]
  have : ∀ r : List Nat, evenN r 0 = 0 := fun r => by
    induction r with
    | nil => rfl
    | cons m r ih => rw [evenN, ih]; by_cases h : m = 0 <;> simp [h, roomN]
  rw [this]
theorem mul_lt (y n p : Nat) (h : y * 2 ^ (24 - n) = p) (hp : p ≤ 16777216) : y ≤ 16777216 := by
  have : 0 < 2 ^ (24 - n) := Nat.pow_pos (by decide)
  have := Nat.le_mul_of_pos_right y this
  omega

theorem rwords_no (v : Value) (ls : List Int) (w : World) (hr : Rd .i64 w v ls) (hc : ¬ RightL ls) : Calls Tryz.prog 100 #[v] w fun e w' => e = .returned (.tuple #[.slice none 0 0, .int .i64 1]) ∧ w = w' := by
  have H := Lib.hid (rright_any v ls w hr)
  rw [decide_eq_false hc] at H
  clear hr hc
  go_enter Tryz.func100, Tryz.ntmps100
  go_wp2_with (go_at_call 122; refine H.out.mono ?_; rintro e w' ⟨rfl, rfl⟩)
  go_ret2
  exact ⟨rfl, rfl⟩

set_option maxHeartbeats 4000000 in
theorem rwords_yes (v : Value) (ls : List Int) (w : World) (hr : Rd .i64 w v ls) (hc : RightL ls) : Calls Tryz.prog 100 #[v] w (WdIs 196 w (ls.map Int.toNat)) := by
  have H := Lib.hid (rright_any v ls w hr)
  rw [decide_eq_true hc] at H
  have hrl := hc.1
  have hR := Lib.hid hr
  have hC := Lib.hid hc
  obtain ⟨va, vc, rfl⟩ := hr.isSlice
  obtain ⟨ns, hns⟩ : ∃ ns, ns = ls.map Int.toNat := ⟨_, rfl⟩
  rw [← hns]
  have HN := Lib.hid hns
  have HNL : Hid (ns.length = ls.length) := by show _ = _; rw [hns, List.length_map]
  have HK : Hid (CodeOk ns) := by show CodeOk ns; rw [hns]; exact hc.code
  clear hr hc hns
  go_enter Tryz.func100, Tryz.ntmps100
  go_wp2_with (first
    | (go_at_call 122; refine H.out.mono ?_; rintro e w' ⟨rfl, rfl⟩)
    | ((with_reducible refine wpList_make_words _ ?_ (.tmp 12) (.tmp 12) 165 196 ?_ elemRW Tryz.underlying165 ls.length ?_ ?_ hrl w.heap.size ?_ ?_); rfl; rfl; rfl; rfl; (exact Nat.le_refl _); intro g w2 hg o2 g2; have O2 := Lib.hid o2; have G2 := Lib.hid g2; clear o2 g2))
  have hgl : g < w2.heap.size := O2.out.blt g rfl
  have OO : Hid (OwnW 196 w2 w.heap.size (.slice (some ⟨g, 0, none⟩) ls.length ls.length) (rwL ns 1 0)) := by
    rw [rwL_start, HNL.out]; exact O2.out
  have BB : Hid (Below w.heap.size w w2) := (Below.refl _ _).grown G2.out (Nat.le_refl _) (by simp)
  have HS : Hid (0 * 2 ^ (24 - 0) = shortN ns (0 + 1)) := by show _ = _; rw [short_one]
  clear O2 G2 H hgl
  go_loopw [5, 6, 7] (fun y i _ wr => ∃ (m Y : Nat), m ≤ 24 ∧ i = .int .i64 ((m + 1 : Nat) : Int) ∧ y = .int .i64 (Y : Int) ∧ Hid (Y * 2 ^ (24 - m) = shortN ns (m + 1)) ∧ OwnW 196 wr w.heap.size (.slice (some ⟨g, 0, none⟩) ls.length ls.length) (rwL ns (m + 1) 0) ∧ Below w.heap.size w wr) (fun _ i _ _ => 25 - (intOf i).toNat)
  case atStart => exact ⟨0, 0, by omega, rfl, rfl, HS, OO.out, BB.out⟩
  case round =>
    obtain ⟨m, Y, hm, rfl, rfl, hY, oo, hb⟩ := hrel
    clear OO BB HS
    have OO := Lib.hid oo
    have BB := Lib.hid hb
    clear oo hb
    obtain ⟨n, hn⟩ : ∃ n, n = m + 1 := ⟨_, rfl⟩
    rw [← hn] at OO ⊢
    by_cases hlt : m < 24
    · have dn : decide ((n : Int) ≤ 24) = true := decide_eq_true (by omega)
      have dn' : decide (n ≤ 24) = true := decide_eq_true (by omega)
      have hp0 : Y * 2 ^ (24 - m) ≤ 16777216 := by
        rw [hY.out]; have := HK.out.short_le (m + 1) (by omega); omega
      have hY24 := mul_lt Y m _ rfl hp0
      have hw2 : IntKind.i64.wrap (2 * (Y : Int)) = 2 * (Y : Int) := by rw [IntKind.wrap_i64]; omega
      have HY2 : Hid ((2 * Y) * 2 ^ (24 - n) = posN ns n 0) := by
        show _ = _
        rw [pos_zero, hn, ← hY.out, show 24 - m = (24 - (m + 1)) + 1 by omega, Nat.pow_succ, Nat.mul_comm 2 Y, Nat.mul_assoc, Nat.mul_comm 2]
      have hn24 : n ≤ 24 := by omega
      have hn1 : 1 ≤ n := by omega
      have HNM := Lib.hid hn
      clear hn hp0 hlt
      go_wp2_with fail
      clear hw2
      go_loopw [5, 7] (fun y i wq => ∃ (k Z : Nat), k ≤ ls.length ∧ i = .int .i64 (k : Int) ∧ y = .int .i64 (Z : Int) ∧ Hid (Z * 2 ^ (24 - n) = posN ns n k) ∧ OwnW 196 wq w.heap.size (.slice (some ⟨g, 0, none⟩) ls.length ls.length) (rwL ns n k) ∧ Below w.heap.size w wq) (fun _ i _ => ls.length - (intOf i).toNat)
      case atStart => exact ⟨0, 2 * Y, by omega, rfl, by go_num, HY2, OO.out, BB.out⟩
      case round =>
        obtain ⟨k, Z, hk, rfl, rfl, hZ, oo, hb⟩ := hrel
        clear OO BB HY2
        have OO := Lib.hid oo
        have BB := Lib.hid hb
        clear oo hb
        have hp1 : Z * 2 ^ (24 - n) ≤ 16777216 := by
          rw [hZ.out]
          have := pos_le ns n k
          have := HK.out.short_le (n + 1) (by omega)
          omega
        have hZ24 := mul_lt Z n _ rfl hp1
        by_cases hkl : k < ls.length
        · obtain ⟨x, hxn⟩ : ∃ x, x = ns.getD k 0 := ⟨_, rfl⟩
          have hx : ls.getD k 0 = (x : Int) := by rw [hC.out.at k hkl, hxn, HN.out]
          have hkn : k < ns.length := by rw [HNL.out]; exact hkl
          have hcell : ∃ b o, va = some ⟨b, o, none⟩ ∧ wr.cell? ⟨b, o + k, none⟩ = some (.int .i64 (x : Int)) := by
            rcases hR.out.below BB.out with ⟨rfl, _⟩ | ⟨_, b, o, cp, he, h2, h3, h4, h5⟩
            · simp at hkl
            · simp only [Value.slice.injEq] at he
              exact ⟨b, o, he.1, by rw [← hx]; exact h5 _ hkl⟩
          obtain ⟨b, o, rfl, hcell⟩ := hcell
          have hps := pos_step ns n k hkn
          rw [← getD_of12 hkn, ← hxn] at hps
          by_cases he : x = n
          · rw [if_pos he, room_pos (by omega)] at hps
            have hS : Hid ((rwL ns n k).set k (Z, n) = rwL ns n (k + 1)) := by
              have e : (Z, n) = wordN ns k := by
                rw [wordN, ← hxn, he, ← hZ.out, Nat.mul_div_cancel _ (Nat.pow_pos (by decide))]
              rw [e]
              exact rwL_set ns n k hkn (by rw [← hxn, he])
            have HZ : Hid ((Z + 1) * 2 ^ (24 - n) = posN ns n (k + 1)) := by
              show _ = _; rw [hps, ← hZ.out, Nat.add_mul, Nat.one_mul]
            have c0 := OO.out.at0 k (by rw [rwL_len]; exact hkn)
            have c1 := OO.out.at1 k (by rw [rwL_len]; exact hkn)
            have z0 := OO.out.fz (k * 2)
            have z1 := OO.out.fz (k * 2 + 1)
            subst he
            have hgs : g < wr.heap.size := OO.out.blt g rfl
            have OS := Lib.hid (OO.out.set k Z x)
            rw [hS.out] at OS
            have BS := Lib.hid ((BB.out.setCell (p := ⟨g, k * 2, none⟩) hg (.int .i64 (Z : Int))).setCell (p := ⟨g, k * 2 + 1, none⟩) hg (.int .i64 (x : Int)))
            clear hxn hx hkn hps OO BB hZ hp1 hS
            go_wp2_with fail
            go_roundw
            case rel => exact ⟨k + 1, Z + 1, by omega, by go_num, by go_num, HZ, OS.out, BS.out⟩
            case measure => simp [intOf]; omega
          · rw [if_neg he, Nat.add_zero] at hps
            have hS : Hid (rwL ns n (k + 1) = rwL ns n k) := rwL_skip ns n k (by rw [← hxn]; exact he)
            have HZ : Hid (Z * 2 ^ (24 - n) = posN ns n (k + 1)) := by show _ = _; rw [hps]; exact hZ.out
            have d1 : ((x : Int) == (n : Int)) = false := by simp; omega
            have d2 : (x == n) = false := by simp; omega
            have d3 : decide (x = n) = false := decide_eq_false he
            clear hxn hx hkn hps hZ hp1 he
            go_wp2_with fail
            go_roundw
            case rel => exact ⟨k + 1, Z, by omega, by go_num, rfl, HZ, by rw [hS.out]; exact OO.out, BB.out⟩
            case measure => simp [intOf]; omega
        · have hend : k = ls.length := by omega
          have dl : decide ((k : Int) < (ls.length : Int)) = false := decide_eq_false (by omega)
          have dl' : decide (k < ls.length) = false := decide_eq_false (by omega)
          have O3 : Hid (OwnW 196 wr w.heap.size (.slice (some ⟨g, 0, none⟩) ls.length ls.length) (rwL ns (n + 1) 0)) := by
            have := OO.out
            rw [hend, ← HNL.out, rwL_next, HNL.out] at this
            exact this
          have HZ : Hid (Z * 2 ^ (24 - n) = shortN ns (n + 1)) := by
            have := hZ.out
            rw [hend, ← HNL.out, pos_end] at this
            exact this
          clear hend OO hZ hp1
          go_wp2_with fail
          refine ⟨⟨n, Z, hn24, by go_num, rfl, HZ, O3.out, BB.out⟩, ?_⟩
          simp [intOf]; omega
    · have hm24 : m = 24 := by omega
      have dn : decide ((n : Int) ≤ 24) = false := decide_eq_false (by omega)
      have dn' : decide (n ≤ 24) = false := decide_eq_false (by omega)
      have O3 : Hid (OwnW 196 wr w.heap.size (.slice (some ⟨g, 0, none⟩) ls.length ls.length) (wordsN ns)) := by
        have := OO.out
        rw [hn, hm24, rwL_end HK.out] at this
        exact this
      clear hn hm24 OO hlt
      go_wp2_with fail
      go_ret2
      exact ⟨_, rfl, O3.out, BB.out⟩
end Go.Proofs.YtbkbabaoockigaaGreatDoor

set_option maxRecDepth 100000
set_option maxRecDepth 100000
set_option linter.unusedSimpArgs false
set_option linter.unusedVariables false
namespace Go.Proofs.YtbkbabaoockigaaGreatDoor
open Go.RowKit

/-- bits as they lie in the world -/
def bI (l : List Nat) : List Int := l.map fun (n : Nat) => (n : Int)
theorem bI_len (l : List Nat) : (bI l).length = l.length := by simp [bI]
theorem bI_append (a b : List Nat) : bI (a ++ b) = bI a ++ bI b := by simp [bI]
theorem bI_get (l : List Nat) (i : Nat) : (bI l).getD i 0 = ((l.getD i 0 : Nat) : Int) := by
  simp only [bI, List.getD, List.getElem?_map]
  cases l[i]? <;> rfl

/-- what the reference's bits answers -/
def BitsIs (w : World) (W : List (Nat × Nat)) (ys : List Int) (e : Ending) (w' : World) : Prop :=
  Below w.heap.size w w' ∧ ((HasN W ys ∧ ∃ v, e = .returned (.tuple #[v, .bool true]) ∧ Own .u8 5 w' w.heap.size v (bI (encN W ys))) ∨
    (¬ HasN W ys ∧ e = .returned (.tuple #[.slice none 0 0, .bool false])))

end Go.Proofs.YtbkbabaoockigaaGreatDoor

set_option maxRecDepth 100000
set_option maxRecDepth 100000
set_option linter.unusedSimpArgs false
set_option linter.unusedVariables false
namespace Go.Proofs.YtbkbabaoockigaaGreatDoor
open Go.RowKit

def slLen : Value → Nat
  | .slice _ n _ => n
  | _ => 0
theorem or_u8 (c x : Nat) (hc : c < 128) (hx : x < 2) : bits .or .u8 ((c : Int) * 2) (x : Int) = ((2 * c + x : Nat) : Int) := by
  have := bits_join .u8 8 (by decide) wraps_u8 1 ((c : Int) * 2) (x : Int) (by omega) (by omega) (by omega) (by omega) (by omega) (by omega)
  rw [this]; omega
theorem getD_bit {l : List Nat} (h : ∀ x ∈ l, x < 2) (i : Nat) : l.getD i 0 < 2 := by
  by_cases hi : i < l.length
  · exact h _ (by simp [List.getD, hi])
  · simp [List.getD, List.getElem?_eq_none (Nat.le_of_not_lt hi)]
theorem enc_bit (W : List (Nat × Nat)) (ys : List Int) : ∀ x ∈ encN W ys, x < 2 := by
  intro x hx
  obtain ⟨s, _, hs⟩ := List.mem_flatMap.1 hx
  exact bd_bit _ _ x hs
theorem fill_bit {q : List Nat} (h : ∀ x ∈ q, x < 2) : ∀ x ∈ fillN q, x < 2 := by
  intro x hx
  rcases List.mem_append.1 hx with hx | hx
  · exact h x hx
  · rw [(List.mem_replicate.1 hx).2]; decide
theorem byte_val (c : Nat) (l : List Nat) (hc : c < 2 ^ 8) (h : bd c 8 = l) : unp [(c : Int)] = l := by rw [unp_one, Int.toNat_natCast, h]

end Go.Proofs.YtbkbabaoockigaaGreatDoor

set_option maxRecDepth 100000
set_option maxRecDepth 100000
set_option linter.unusedSimpArgs false
set_option linter.unusedVariables false
namespace Go.Proofs.YtbkbabaoockigaaGreatDoor
open Go.RowKit Go.Maps

def symI (W : List (Nat × Nat)) (b n : Nat) : Int := match symN W b n with | some s => (s : Int) | none => -1
theorem sym_is {W : List (Nat × Nat)} {b n k : Nat} (hk : k < W.length) (he : W.getD k (0, 0) = (b, n)) (h : ∀ j, j < k → W.getD j (0, 0) ≠ (b, n)) : symN W b n = some k := by
  unfold symN
  rw [List.findIdx?_eq_some_iff_getElem]
  refine ⟨hk, by simpa [List.getD, hk] using he, fun j hj => ?_⟩
  have := h j hj
  simpa [List.getD, show j < W.length by omega] using this
theorem sym_not {W : List (Nat × Nat)} {b n : Nat} (h : ∀ j, j < W.length → W.getD j (0, 0) ≠ (b, n)) : symN W b n = none := by
  unfold symN
  rw [List.findIdx?_eq_none_iff]
  intro x hx
  obtain ⟨j, hj, rfl⟩ := List.mem_iff_getElem.1 hx
  have := h j hj
  simpa [List.getD, hj] using this

set_option maxHeartbeats 4000000 in
theorem rsymbol_any (v : Value) (W : List (Nat × Nat)) (b n : Nat) (w : World) (hr : RdW w v W) (hW : W.length ≤ 256) : Calls Tryz.prog 101 #[v, .int .i64 (b : Int), .int .i64 (n : Int)] w fun e w' => e = .returned (.int .i64 (symI W b n)) ∧ w = w' := by
  have HR := Lib.hid hr
  obtain ⟨va, vc, rfl, _, _⟩ := hr.isSlice
  obtain ⟨ans, hans⟩ : ∃ ans, ans = symI W b n := ⟨_, rfl⟩
  rw [← hans]
  have A0 := Lib.hid hans
  clear hr hans
  go_enter Tryz.func101, Tryz.ntmps101
  go_wp2_with fail
  go_loop [7] (fun i => ∃ k : Nat, k ≤ W.length ∧ i = .int .i64 (k : Int) ∧ Hid (∀ j, j < k → W.getD j (0, 0) ≠ (b, n))) (fun i => W.length - (intOf i).toNat)
  case atStart => exact ⟨0, Nat.zero_le _, rfl, fun j hj => by omega⟩
  case round =>
    obtain ⟨k, hk, rfl, hno⟩ := hrel
    by_cases hlt : k < W.length
    · obtain ⟨g, go, gc, hge, hgl⟩ := HR.out.form (by omega)
      simp only [Value.slice.injEq, true_and] at hge
      obtain ⟨rfl, rfl⟩ := hge
      obtain ⟨c0, c1⟩ := HR.out.cells rfl k hlt
      obtain ⟨p, q, hpq⟩ : ∃ p q, W.getD k (0, 0) = (p, q) := ⟨_, _, rfl⟩
      rw [hpq] at c0 c1
      simp only at c0 c1
      by_cases hq : q = n
      · have dq : ((q : Int) == (n : Int)) = true := by simp; omega
        have dq' : (q == n) = true := by simp; omega
        by_cases hp : p = b
        · have dp : ((p : Int) == (b : Int)) = true := by simp; omega
          have dp' : (p == b) = true := by simp; omega
          have AA : Hid (ans = (k : Int)) := by
            show _ = _
            rw [A0.out, symI, sym_is hlt (by rw [hpq, hp, hq]) hno.out]
          subst hp; subst hq
          clear hno hpq A0 dq dq' dp dp'
          go_wp2_with fail
          refine bodyPost_ret (v := .int .i64 (k : Int)) (by simp [results, Tryz.results101, go_sem]) rfl ⟨by rw [AA.out], rfl⟩
        · have dp : ((p : Int) == (b : Int)) = false := by simp; omega
          have dp' : (p == b) = false := by simp; omega
          have dp'' : decide (p = b) = false := decide_eq_false hp
          have HN : Hid (∀ j, j < k + 1 → W.getD j (0, 0) ≠ (b, n)) := fun j hj => by
            by_cases e : j = k
            · rw [e, hpq]; intro h; exact hp (Prod.ext_iff.1 h).1
            · exact hno.out j (by omega)
          subst hq
          clear hno hpq hp dq dq'
          go_wp2_with fail
          go_round
          case rel => exact ⟨k + 1, by omega, by go_num, HN⟩
          case measure => simp [intOf]; omega
      · have dq : ((q : Int) == (n : Int)) = false := by simp; omega
        have dq' : (q == n) = false := by simp; omega
        have dq'' : decide (q = n) = false := decide_eq_false hq
        have HN : Hid (∀ j, j < k + 1 → W.getD j (0, 0) ≠ (b, n)) := fun j hj => by
          by_cases e : j = k
          · rw [e, hpq]; intro h; exact hq (Prod.ext_iff.1 h).2
          · exact hno.out j (by omega)
        clear hno hpq hq
        go_wp2_with fail
        go_round
        case rel => exact ⟨k + 1, by omega, by go_num, HN⟩
        case measure => simp [intOf]; omega
    · have AA : Hid (ans = -1) := by
        show _ = _
        rw [A0.out, symI, sym_not fun j hj => hno.out j (by omega)]
      have dl : decide ((k : Int) < (W.length : Int)) = false := decide_eq_false (by omega)
      have dl' : decide (k < W.length) = false := decide_eq_false (by omega)
      clear hno A0
      go_wp2_with fail
      refine bodyPost_ret (v := .int .i64 (-1)) (by simp [results, Tryz.results101, go_sem]) rfl ⟨by rw [AA.out], rfl⟩

theorem rdec_no (v u : Value) (ls : List Int) (w : World) (hr : Rd .i64 w v ls) (hc : ¬ RightL ls) : Calls Tryz.prog 76 #[v, u] w fun e w' => e = .returned (.tuple #[.slice none 0 0, .int .i64 1]) ∧ w = w' := by
  have H := Lib.hid (rwords_no v ls w hr hc)
  clear hr hc
  go_enter Tryz.func76, Tryz.ntmps76
  go_wp2_with (go_at_call 100; refine H.out.mono ?_; rintro e w' ⟨rfl, rfl⟩)
  go_ret2
  exact ⟨rfl, rfl⟩
theorem unp_get (xs : List Int) (j r : Nat) (hj : j < xs.length) (hr : r < 8) : (unp xs).drop (8 * j + r) = ((xs.getD j 0).toNat / 2 ^ (7 - r) % 2) :: (unp xs).drop (8 * j + r + 1) := by
  have hl : 8 * j + r < (unp xs).length := by rw [unp_len]; omega
  rw [List.drop_eq_getElem_cons hl]
  congr 1
  have h := unp_drop xs j hj
  have e : (unp xs)[8 * j + r] = ((unp xs).drop (8 * j)).getD r 0 := by
    simp [List.getD, hl]
  rw [e, h]
  have e2 : (bd (xs.getD j 0).toNat 8 ++ (unp xs).drop (8 * (j + 1))).getD r 0 = (bd (xs.getD j 0).toNat 8).getD r 0 := by
    simp only [List.getD]
    rw [List.getElem?_append_left (by rw [bd_len]; exact hr)]
  rw [e2, bd_get _ _ _ hr]
theorem and_u8_one (x : Nat) (hx : x < 256) : bits .and .u8 (x : Int) 1 = ((x % 2 : Nat) : Int) := by
  have := bits_mask .u8 8 (by decide) wraps_u8 1 (by decide) (x : Int) (by omega) (by omega)
  rw [show ((2 : Int) ^ 1 - 1) = 1 from rfl] at this
  rw [this]; omega

set_option maxHeartbeats 8000000 in
theorem rdec_yes (v u : Value) (ls xs : List Int) (w : World) (hr : Rd .i64 w v ls) (hu : Rd .u8 w u xs) (hx : Bts xs) (hxl : xs.length ≤ 68719476736) (hc : RightL ls) :
    Calls Tryz.prog 76 #[v, u] w (DecIs w (decN (wordsN (ls.map Int.toNat)) (unp xs) 0 0)) := by
  have H := Lib.hid (rwords_yes v ls w hr hc)
  have HOK := Lib.hid hc.code.words
  generalize hWd : wordsN (ls.map Int.toNat) = W at *
  have HWd := Lib.hid hWd
  have HU := Lib.hid hu
  have HX := Lib.hid hx
  obtain ⟨ua, uc, rfl⟩ := hu.isSlice
  obtain ⟨ans, hans⟩ : ∃ ans, ans = decN W (unp xs) 0 0 := ⟨_, rfl⟩
  rw [← hans]
  have A0 : Hid (ans = (decR W ((unp xs).drop 0) 0 0).map ([] ++ ·)) := by
    show _ = _; rw [hans, decR_eq _ _ _ _ (by decide)]; simp
  clear hr hu hx hc hWd hans
  go_enter Tryz.func76, Tryz.ntmps76
  go_wp2_with (go_at_call 100; refine H.out.mono ?_; rintro e w1 ⟨x, rfl, ho, hb⟩; rw [HWd.out] at ho; have OW := Lib.hid ho; have HB := Lib.hid hb; obtain ⟨xa, xc, rfl, _, _⟩ := ho.slice; clear ho hb)
  have hz : w.heap.size ≤ w1.heap.size := HB.out.size
  have RW := Lib.hid OW.out.rd
  clear H OW
  go_loopw [8, 9, 10, 11] (fun q n many i wr => ∃ (k b m : Nat) (o : List Int), k ≤ 8 * xs.length ∧ i = .int .i64 (k : Int) ∧ n = .int .i64 (b : Int) ∧ many = .int .i64 (m : Int) ∧ Own .u8 5 wr w1.heap.size q o ∧ Bts o ∧ b < 2 ^ m ∧ m ≤ 24 ∧ o.length ≤ k ∧ Hid (ans = (decR W ((unp xs).drop k) b m).map (o ++ ·)) ∧ Below w1.heap.size w1 wr) (fun _ _ _ i _ => 8 * xs.length - (intOf i).toNat)
  case atStart => exact ⟨0, 0, 0, [], by omega, rfl, rfl, rfl, Own.nil _ _ _ _, (by intro z hz; cases hz), by decide, by decide, by simp, A0, Below.refl _ _⟩
  case round =>
    obtain ⟨k, b, m, o, hk, rfl, rfl, rfl, ho, hbt, hbit, hm, hol, hA, hb⟩ := hrel
    clear A0
    have OO := Lib.hid ho
    have BT := Lib.hid hbt
    have BB := Lib.hid hb
    have hzr := hb.size
    have hb24 : b < 16777216 := by
      have : 2 ^ m ≤ 2 ^ 24 := Nat.pow_le_pow_right (by decide) hm
      have e : (2 : Nat) ^ 24 = 16777216 := rfl
      omega
    clear ho hbt hb
    have hw8 : IntKind.i64.wrap (8 * (xs.length : Int)) = 8 * (xs.length : Int) := by rw [IntKind.wrap_i64]; omega
    by_cases hlt : k < 8 * xs.length
    · obtain ⟨j, r, hjr, hr8⟩ : ∃ j r, k = 8 * j + r ∧ r < 8 := ⟨k / 8, k % 8, by omega, by omega⟩
      have hj : j < xs.length := by omega
      obtain ⟨x, hx⟩ : ∃ x : Nat, x = (xs.getD j 0).toNat := ⟨_, rfl⟩
      have hx0 := getD_bts HX.out j
      have hxx : xs.getD j 0 = (x : Int) := by omega
      have hx256 : x < 256 := by omega
      have hcell : ∃ b o, ua = some ⟨b, o, none⟩ ∧ wr.cell? ⟨b, o + j, none⟩ = some (.int .u8 (x : Int)) := by
        rcases HU.out.below (HB.out.trans (BB.out.mono hz)) with ⟨rfl, _⟩ | ⟨_, b, o, cp, he, h2, h3, h4, h5⟩
        · simp at hlt
        · simp only [Value.slice.injEq] at he
          exact ⟨b, o, he.1, by rw [← hxx]; exact h5 _ hj⟩
      obtain ⟨bb, bo, rfl, hcell⟩ := hcell
      have dlt : decide ((k : Int) < 8 * (xs.length : Int)) = true := decide_eq_true (by omega)
      have hq1 : (k : Int) / 8 = (j : Int) := by omega
      have hq2 : (k : Int).tdiv 8 = (j : Int) := by rw [Int.tdiv_eq_ediv_of_nonneg (by omega)]; exact hq1
      have hr1 : (k : Int) % 8 = (r : Int) := by omega
      have hr2 : (k : Int).tmod 8 = (r : Int) := by rw [Int.tmod_eq_emod_of_nonneg (by omega)]; exact hr1
      have hsub : IntKind.i64.wrap (7 - (r : Int)) = ((7 - r : Nat) : Int) := by rw [IntKind.wrap_i64]; omega
      obtain ⟨X, hX⟩ : ∃ X, X = x / 2 ^ (7 - r) := ⟨_, rfl⟩
      have hX256 : X < 256 := Nat.lt_of_le_of_lt (by rw [hX]; exact Nat.div_le_self _ _) hx256
      have hdiv : (x : Int) / 2 ^ (7 - r) = (X : Int) := by rw [hX, Int.natCast_ediv]; simp
      obtain ⟨y, hy⟩ : ∃ y, y = X % 2 := ⟨_, rfl⟩
      have hand : bits .and .u8 (X : Int) 1 = (y : Int) := by rw [hy]; exact and_u8_one X hX256
      have hy2 : y < 2 := by rw [hy]; omega
      have hwy : IntKind.i64.wrap (y : Int) = (y : Int) := by rw [IntKind.wrap_i64]; omega
      obtain ⟨b2, hb2⟩ : ∃ b2, b2 = 2 * b + y := ⟨_, rfl⟩
      have hor : bits .or .i64 ((b : Int) * 2) (y : Int) = (b2 : Int) := by rw [hb2]; exact or_bit b y hb24 hy2
      have hwb : IntKind.i64.wrap ((b : Int) * 2) = (b : Int) * 2 := by rw [IntKind.wrap_i64]; omega
      have hA2 : Hid (ans = (decR W (y :: (unp xs).drop (k + 1)) b m).map (o ++ ·)) := by
        have := hA.out
        rw [hjr, unp_get xs j r hj hr8, ← hx, ← hX, ← hy, ← hjr] at this
        exact this
      have hbit2 : b2 < 2 ^ (m + 1) := by rw [hb2, Nat.pow_succ]; omega
      have hi1 : (0 : Int) ≤ (j : Int) := by omega
      have hi2 : (j : Int) < (xs.length : Int) := by omega
      have HB2 := Lib.hid hb2
      have HBIT2 := Lib.hid hbit2
      clear hjr hx hx0 hxx hX hy hb2 hbit2 hbit hA
      by_cases h24 : m = 24
      · have dm : decide ((m : Int) + 1 > 24) = true := decide_eq_true (by omega)
        have hA3 : Hid (ans = none) := by have := hA2.out; rw [decR, if_pos (by omega)] at this; exact this
        subst h24
        clear hA2
        go_wp2_with fail
        go_ret2
        exact ⟨HB.out.trans (BB.out.mono hz), .inr ⟨hA3.out, rfl⟩⟩
      · have dm : decide ((m : Int) + 1 > 24) = false := decide_eq_false (by omega)
        have hm2 : m + 1 ≤ 24 := by omega
        have HSY := Lib.hid (fun w' h => rsymbol_any (.slice xa W.length xc) W b2 (m + 1) w' h HOK.out.few)
        have RW2 := Lib.hid (RW.out.below BB.out)
        have e1 : ((m + 1 : Nat) : Int) = (m : Int) + 1 := by omega
        rw [e1] at HSY
        cases hsym : symN W b2 (m + 1) with
        | some s =>
          have hA3 : Hid (ans = (decR W ((unp xs).drop (k + 1)) 0 0).map ((o ++ [(s : Int)]) ++ ·)) := by
            have := hA2.out
            rw [decR, if_neg (by omega), ← HB2.out, hsym] at this
            simp only [Option.map_map] at this
            show _ = _
            rw [this]
            congr 1
            funext l
            simp
          have hsw := (sym_some hsym).1
          have hs256 : s < 256 := by have := HOK.out.few; omega
          have HSI : Hid (symI W b2 (m + 1) = (s : Int)) := by show _ = _; rw [symI, hsym]
          have hws : IntKind.u8.wrap (s : Int) = (s : Int) := by rw [IntKind.wrap_u8]; omega
          have ds : decide ((s : Int) ≥ 0) = true := decide_eq_true (by omega)
          clear hsym hA2 e1
          go_wp2_with (first
            | (go_at_call 101; refine (HSY.out _ RW2.out).mono ?_; rintro e w' ⟨rfl, rfl⟩; rw [HSI.out])
            | (at_builtin; ((with_reducible refine wpList_append_rd _ ?_ (.tmp 52) (.tmp 55) 38 ?_ elemU8 Tryz.underlying38 w1.heap.size u8 o ?_ (OO.out.alloc _) (.slice (some ⟨wr.heap.size, 0, none⟩) 1 1) [(s : Int)] ?_ (Rd.one .u8 5 wr _) ?_ ?_ ?_ ?_)); rfl; rfl; rfl; rfl; (simp; omega); (simp [maxLen]; omega); (simp; omega); intro v9 w9 o9 g9; have O9 := Lib.hid o9; have G9 := Lib.hid g9; clear o9 g9))
          have hlen : Hid ((o ++ [(s : Int)]).length ≤ k + 1) := by show _ ≤ _; simp; omega
          exact ⟨⟨k + 1, 0, 0, o ++ [(s : Int)], by omega, by go_num, rfl, rfl, O9.out, BT.out.append (fun z hz => by rw [List.mem_singleton.1 hz]; omega), by decide, by decide, hlen.out, hA3, (BB.out.alloc hzr _).grown G9.out (by simp; omega) OO.out.blk⟩, by simp [intOf]; omega⟩
        | none =>
          have hA3 : Hid (ans = (decR W ((unp xs).drop (k + 1)) b2 (m + 1)).map (o ++ ·)) := by
            have := hA2.out
            rw [decR, if_neg (by omega), ← HB2.out, hsym] at this
            exact this
          have HSI : Hid (symI W b2 (m + 1) = -1) := by show _ = _; rw [symI, hsym]
          clear hsym hA2 e1
          go_wp2_with (go_at_call 101; refine (HSY.out _ RW2.out).mono ?_; rintro e w' ⟨rfl, rfl⟩; rw [HSI.out])
          exact ⟨⟨k + 1, b2, m + 1, o, by omega, by go_num, rfl, by go_num, OO.out, BT.out, HBIT2.out, hm2, by omega, hA3, BB.out⟩, by simp [intOf]; omega⟩
    · have hend : k = 8 * xs.length := by omega
      have dlt : decide ((k : Int) < 8 * (xs.length : Int)) = false := decide_eq_false (by omega)
      have hA2 : Hid (ans = if m > 7 ∨ b ≠ 2 ^ m - 1 then none else some o) := by
        have := hA.out
        rw [hend, List.drop_of_length_le (by rw [unp_len]; omega), decR] at this
        show _ = _
        rw [this]
        by_cases e : m > 7 ∨ b ≠ 2 ^ m - 1
        · rw [if_pos e, if_pos e]; rfl
        · rw [if_neg e, if_neg e]; simp
      have BW := Lib.hid (HB.out.trans (BB.out.mono hz))
      clear hend hA
      by_cases h7 : m > 7
      · have d7 : decide ((m : Int) > 7) = true := decide_eq_true (by omega)
        have d7' : decide (m > 7) = true := decide_eq_true (by omega)
        have d7'' : decide (7 < m) = true := decide_eq_true (by omega)
        have hA3 : Hid (ans = none) := by have := hA2.out; rw [if_pos (.inl h7)] at this; exact this
        clear hA2
        go_wp2_with fail
        go_ret2
        exact ⟨BW.out, .inr ⟨hA3.out, rfl⟩⟩
      · have d7 : decide ((m : Int) > 7) = false := decide_eq_false (by omega)
        have d7' : decide (m > 7) = false := decide_eq_false (by omega)
        have d7'' : decide (7 < m) = false := decide_eq_false (by omega)
        have hp2 : 2 ^ m ≤ 2 ^ 7 := Nat.pow_le_pow_right (by decide) (by omega)
        have e7 : (2 : Nat) ^ 7 = 128 := rfl
        have hpc : (2 : Int) ^ m = ((2 ^ m : Nat) : Int) := by simp
        have hpp : 0 < 2 ^ m := Nat.pow_pos (by decide)
        have hw1 : IntKind.i64.wrap ((2 : Int) ^ m) = (2 : Int) ^ m := by rw [hpc, IntKind.wrap_i64]; omega
        have hw2 : IntKind.i64.wrap ((2 : Int) ^ m - 1) = (2 : Int) ^ m - 1 := by rw [hpc, IntKind.wrap_i64]; omega
        by_cases he : b = 2 ^ m - 1
        · have de : ((b : Int) != (2 : Int) ^ m - 1) = false := by rw [hpc]; simp; omega
          have de' : ((b : Int) == (2 : Int) ^ m - 1) = true := by rw [hpc]; simp; omega
          have hA3 : Hid (ans = some o) := by have := hA2.out; rw [if_neg (by omega)] at this; exact this
          clear hA2 he hp2 hpc hpp hbit
          go_wp2_with fail
          go_ret2
          exact ⟨BW.out, .inl ⟨o, _, hA3.out, rfl, OO.out.rd, BT.out⟩⟩
        · have de : ((b : Int) != (2 : Int) ^ m - 1) = true := by rw [hpc]; simp; omega
          have de' : ((b : Int) == (2 : Int) ^ m - 1) = false := by rw [hpc]; simp; omega
          have hA3 : Hid (ans = none) := by have := hA2.out; rw [if_pos (.inr he)] at this; exact this
          clear hA2 he hp2 hpc hpp hbit
          go_wp2_with fail
          go_ret2
          exact ⟨BW.out, .inr ⟨hA3.out, rfl⟩⟩
end Go.Proofs.YtbkbabaoockigaaGreatDoor

set_option maxRecDepth 100000
set_option maxRecDepth 100000
set_option linter.unusedSimpArgs false
set_option linter.unusedVariables false
namespace Go.Proofs.YtbkbabaoockigaaGreatDoor
open Go.RowKit

def baseN (n : Nat) : Nat := if (97 ≤ n ∧ n ≤ 122) ∨ (48 ≤ n ∧ n ≤ 57) then 7 else if 33 ≤ n ∧ n ≤ 126 then 9 else 13
abbrev sLong : ByteArray := { data := #[32, 58, 59, 61, 44, 37, 95, 42, 34, 63, 38, 43] }
abbrev sFew : ByteArray := { data := #[97, 99, 101, 105, 110, 111, 114, 115, 116, 47, 45, 46, 48, 49, 50] }
def chars (s : ByteArray) : List Nat := s.data.toList.map UInt8.toNat
/-- the length of a byte in the fields' code -/
def fldN (n : Nat) : Nat := if n ∈ chars sFew then 5 else if (97 ≤ n ∧ n ≤ 122) ∨ (48 ≤ n ∧ n ≤ 57) ∨ n ∈ chars sLong then 7 else if 33 ≤ n ∧ n ≤ 126 then 9 else 13
def fldL : List Int := (List.range 256).map fun n => (fldN n : Int)

theorem flen_any (n : Nat) (hn : n < 256) (w : World) : Calls Tryz.prog 126 #[.int .i64 (n : Int)] w fun e w' => e = .returned (.int .i64 ((baseN n : Nat) : Int)) ∧ w = w' := by
  obtain ⟨b, hb⟩ : ∃ b, b = baseN n := ⟨_, rfl⟩
  rw [← hb]
  have hcase : (n < 33 ∧ b = 13) ∨ (33 ≤ n ∧ n < 48 ∧ b = 9) ∨ (48 ≤ n ∧ n ≤ 57 ∧ b = 7) ∨ (58 ≤ n ∧ n < 97 ∧ b = 9) ∨ (97 ≤ n ∧ n ≤ 122 ∧ b = 7) ∨ (123 ≤ n ∧ n ≤ 126 ∧ b = 9) ∨ (127 ≤ n ∧ b = 13) := by
    rw [hb, baseN]
    by_cases h1 : (97 ≤ n ∧ n ≤ 122) ∨ (48 ≤ n ∧ n ≤ 57)
    · rw [if_pos h1]; omega
    · rw [if_neg h1]
      by_cases h2 : 33 ≤ n ∧ n ≤ 126
      · rw [if_pos h2]; omega
      · rw [if_neg h2]; omega
  clear hb
  rcases hcase with ⟨h1, rfl⟩ | ⟨h1, h2, rfl⟩ | ⟨h1, h2, rfl⟩ | ⟨h1, h2, rfl⟩ | ⟨h1, h2, rfl⟩ | ⟨h1, h2, rfl⟩ | ⟨h1, rfl⟩
  · have e1 : decide ((n : Int) ≥ 97) = false := decide_eq_false (by omega)
    have e2 : decide ((n : Int) ≥ 48) = false := decide_eq_false (by omega)
    have e3 : decide ((n : Int) ≥ 33) = false := decide_eq_false (by omega)
    go_enter Tryz.func126, Tryz.ntmps126
    go_wp2
    go_ret
    exact ⟨rfl, rfl⟩
  · have e1 : decide ((n : Int) ≥ 97) = false := decide_eq_false (by omega)
    have e2 : decide ((n : Int) ≥ 48) = false := decide_eq_false (by omega)
    have e3 : decide ((n : Int) ≥ 33) = true := decide_eq_true (by omega)
    have e4 : decide ((n : Int) ≤ 126) = true := decide_eq_true (by omega)
    go_enter Tryz.func126, Tryz.ntmps126
    go_wp2
    go_ret
    exact ⟨rfl, rfl⟩
  · have e1 : decide ((n : Int) ≥ 97) = false := decide_eq_false (by omega)
    have e2 : decide ((n : Int) ≥ 48) = true := decide_eq_true (by omega)
    have e3 : decide ((n : Int) ≤ 57) = true := decide_eq_true (by omega)
    go_enter Tryz.func126, Tryz.ntmps126
    go_wp2
    go_ret
    exact ⟨rfl, rfl⟩
  · have e1 : decide ((n : Int) ≥ 97) = false := decide_eq_false (by omega)
    have e2 : decide ((n : Int) ≥ 48) = true := decide_eq_true (by omega)
    have e3 : decide ((n : Int) ≤ 57) = false := decide_eq_false (by omega)
    have e4 : decide ((n : Int) ≥ 33) = true := decide_eq_true (by omega)
    have e5 : decide ((n : Int) ≤ 126) = true := decide_eq_true (by omega)
    go_enter Tryz.func126, Tryz.ntmps126
    go_wp2
    go_ret
    exact ⟨rfl, rfl⟩
  · have e1 : decide ((n : Int) ≥ 97) = true := decide_eq_true (by omega)
    have e2 : decide ((n : Int) ≤ 122) = true := decide_eq_true (by omega)
    go_enter Tryz.func126, Tryz.ntmps126
    go_wp2
    go_ret
    exact ⟨rfl, rfl⟩
  · have e1 : decide ((n : Int) ≥ 97) = true := decide_eq_true (by omega)
    have e2 : decide ((n : Int) ≤ 122) = false := decide_eq_false (by omega)
    have e3 : decide ((n : Int) ≥ 48) = true := decide_eq_true (by omega)
    have e6 : decide ((n : Int) ≤ 57) = false := decide_eq_false (by omega)
    have e4 : decide ((n : Int) ≥ 33) = true := decide_eq_true (by omega)
    have e5 : decide ((n : Int) ≤ 126) = true := decide_eq_true (by omega)
    go_enter Tryz.func126, Tryz.ntmps126
    go_wp2
    go_ret
    exact ⟨rfl, rfl⟩
  · have e1 : decide ((n : Int) ≥ 97) = true := decide_eq_true (by omega)
    have e2 : decide ((n : Int) ≤ 122) = false := decide_eq_false (by omega)
    have e3 : decide ((n : Int) ≥ 48) = true := decide_eq_true (by omega)
    have e6 : decide ((n : Int) ≤ 57) = false := decide_eq_false (by omega)
    have e4 : decide ((n : Int) ≥ 33) = true := decide_eq_true (by omega)
    have e5 : decide ((n : Int) ≤ 126) = false := decide_eq_false (by omega)
    go_enter Tryz.func126, Tryz.ntmps126
    go_wp2
    go_ret
    exact ⟨rfl, rfl⟩

set_option maxHeartbeats 1000000 in
theorem among_any (s : ByteArray) (c : Nat) (w : World) (hs : s.size ≤ 256) (hc : c < 256) : Calls Tryz.prog 102 #[.string s, .int .u8 (c : Int)] w fun e w' => e = .returned (.bool (decide (c ∈ chars s))) ∧ w = w' := by
  obtain ⟨ans, hans⟩ : ∃ ans, ans = decide (c ∈ chars s) := ⟨_, rfl⟩
  rw [← hans]
  have A0 := Lib.hid hans
  have HG : Hid (∀ k (h : k < s.size), (s[k]'h).toNat ∈ chars s ∧ ∀ x ∈ chars s, ∃ k, ∃ h : k < s.size, (s[k]'h).toNat = x) := fun k h => by
    have hl : s.data.toList.length = s.size := rfl
    refine ⟨List.mem_map.2 ⟨s.data.toList[k]'(by rw [hl]; exact h), List.getElem_mem _, rfl⟩, fun x hx => ?_⟩
    obtain ⟨y, hy, rfl⟩ := List.mem_map.1 hx
    obtain ⟨j, hj, rfl⟩ := List.mem_iff_getElem.1 hy
    exact ⟨j, by rw [← hl]; exact hj, rfl⟩
  clear hans
  go_enter Tryz.func102, Tryz.ntmps102
  go_wp2_with fail
  go_loop [5] (fun i => ∃ k : Nat, k ≤ s.size ∧ i = .int .i64 (k : Int) ∧ Hid (∀ j (h : j < s.size), j < k → (s[j]'h).toNat ≠ c)) (fun i => s.size - (intOf i).toNat)
  case atStart => exact ⟨0, Nat.zero_le _, rfl, fun j h hj => by omega⟩
  case round =>
    obtain ⟨k, hk, rfl, hno⟩ := hrel
    by_cases hlt : k < s.size
    · by_cases he : (s[k]'hlt).toNat = c
      · have AA : Hid (ans = true) := A0.out.trans (decide_eq_true (by rw [← he]; exact (HG.out k hlt).1))
        have de : (((s[k]'hlt).toNat : Int) == (c : Int)) = true := by simp; omega
        have de' : ((s[k]'hlt).toNat == c) = true := by simp; omega
        clear hno he A0
        go_wp2_with fail
        refine bodyPost_ret (v := .bool true) (by simp [results, Tryz.results102, go_sem]) rfl ⟨by rw [AA.out], rfl⟩
      · have de : (((s[k]'hlt).toNat : Int) == (c : Int)) = false := by simp; omega
        have de' : ((s[k]'hlt).toNat == c) = false := by simp; omega
        have de'' : decide ((s[k]'hlt).toNat = c) = false := decide_eq_false he
        have HN : Hid (∀ j (h : j < s.size), j < k + 1 → (s[j]'h).toNat ≠ c) := fun j h hj => by
          by_cases e : j = k
          · subst e; exact he
          · exact hno.out j h (by omega)
        clear hno he
        go_wp2_with fail
        go_round
        case rel => exact ⟨k + 1, by omega, by go_num, HN⟩
        case measure => simp [intOf]; omega
    · have AA : Hid (ans = false) := A0.out.trans (decide_eq_false fun h => by
        by_cases h0 : 0 < s.size
        · obtain ⟨j, hj, e⟩ := (HG.out 0 h0).2 c h
          exact hno.out j hj (by omega) e
        · have : chars s = [] := List.eq_nil_of_length_eq_zero (by simp only [chars, List.length_map]; show s.size = 0; omega)
          rw [this] at h; cases h)
      have dl : decide ((k : Int) < (s.size : Int)) = false := decide_eq_false (by omega)
      have dl' : decide (k < s.size) = false := decide_eq_false (by omega)
      clear hno A0
      go_wp2_with fail
      refine bodyPost_ret (v := .bool false) (by simp [results, Tryz.results102, go_sem]) rfl ⟨by rw [AA.out], rfl⟩
theorem among_b (s : ByteArray) (c : Nat) (b : Bool) (hb : decide (c ∈ chars s) = b) (hs : s.size ≤ 256) (hc : c < 256) (w : World) : Calls Tryz.prog 102 #[.string s, .int .u8 (c : Int)] w fun e w' => e = .returned (.bool b) ∧ w = w' := hb ▸ among_any s c w hs hc
end Go.Proofs.YtbkbabaoockigaaGreatDoor

set_option maxRecDepth 100000
set_option maxRecDepth 100000
set_option linter.unusedSimpArgs false
set_option linter.unusedVariables false
namespace Go.Proofs.YtbkbabaoockigaaGreatDoor
open Go.RowKit

/-- WHAT BOTH ANSWER -/
def FldIs (w : World) (e : Ending) (w' : World) : Prop := ∃ v, e = .returned v ∧ Own .i64 3 w' w.heap.size v fldL ∧ Below w.heap.size w w'
def fldP (k : Nat) : List Int := (List.range k).map fun n => (fldN n : Int)
theorem fldP_succ (k : Nat) : fldP (k + 1) = fldP k ++ [(fldN k : Int)] := by simp [fldP, List.range_succ]

set_option maxHeartbeats 8000000 in
theorem rfields_any (w : World) : Calls Tryz.prog 77 #[] w (FldIs w) := by
  have HF : Hid (∀ (c : Nat) (b : Bool), decide (c ∈ chars sFew) = b → c < 256 → ∀ W : World, Calls Tryz.prog 102 #[.string sFew, .int .u8 (c : Int)] W fun e w' => e = .returned (.bool b) ∧ W = w') := fun c b h hc W => among_b sFew c b h (by decide) hc W
  have HL : Hid (∀ (c : Nat) (b : Bool), decide (c ∈ chars sLong) = b → c < 256 → ∀ W : World, Calls Tryz.prog 102 #[.string sLong, .int .u8 (c : Int)] W fun e w' => e = .returned (.bool b) ∧ W = w') := fun c b h hc W => among_b sLong c b h (by decide) hc W
  go_enter Tryz.func77, Tryz.ntmps77
  go_wp2_with fail
  go_loopw [1, 2] (fun q i wr => ∃ k : Nat, k ≤ 256 ∧ i = .int .i64 (k : Int) ∧ Own .i64 3 wr w.heap.size q (fldP k) ∧ Below w.heap.size w wr) (fun _ i _ => 256 - (intOf i).toNat)
  case atStart => exact ⟨0, by omega, rfl, Own.nil _ _ _ _, Below.refl _ _⟩
  case round =>
    obtain ⟨k, hk, rfl, ho, hb⟩ := hrel
    have OO := Lib.hid ho
    have BB := Lib.hid hb
    have hz := hb.size
    clear ho hb
    by_cases hlt : k < 256
    · have d256 : decide ((k : Int) < 256) = true := decide_eq_true (by omega)
      have hkw : IntKind.u8.wrap (k : Int) = (k : Int) := by rw [IntKind.wrap_u8]; omega
      have HLN : Hid ((fldP k).length = k) := by show _ = _; simp [fldP]
      have HOO : Hid (∀ x : Int, Hid ((fldN k : Int) = x) → fldP k ++ [x] = fldP (k + 1)) := fun x hx => by rw [fldP_succ, hx.out]
      by_cases hf : k ∈ chars sFew
      · have HV := Lib.hid (HOO.out 5 (by show _ = _; rw [fldN, if_pos hf]; rfl))
        have H1 := Lib.hid (HF.out k true (decide_eq_true hf) hlt)
        clear hf HOO
        go_wp2_with (first
          | (go_at_call 102; refine (H1.out _).mono ?_; rintro e w' ⟨rfl, rfl⟩)
          | (at_builtin; ((with_reducible refine wpList_append_rd _ ?_ (.tmp 16) (.tmp 17) 142 ?_ elemInt Tryz.underlying142 w.heap.size u1 (fldP k) ?_ (OO.out.alloc _) (.slice (some ⟨wr.heap.size, 0, none⟩) 1 1) [5] ?_ (Rd.one .i64 3 wr _) ?_ ?_ ?_ ?_)); rfl; rfl; rfl; rfl; (rw [HLN.out]; simp; omega); (rw [HLN.out]; simp [maxLen]; omega); (simp; omega); intro v9 w9 o9 g9; have O9 := Lib.hid o9; have G9 := Lib.hid g9; clear o9 g9))
        go_roundw
        case rel => exact ⟨k + 1, by omega, by go_num, by rw [← HV.out]; exact O9.out, (BB.out.alloc hz _).grown G9.out (by simp; omega) OO.out.blk⟩
        case measure => simp [intOf]; omega
      · have H1 := Lib.hid (HF.out k false (decide_eq_false hf) hlt)
        have letter : (97 ≤ k ∧ k ≤ 122) → Hid ((fldN k : Int) = 7) := fun h => by show _ = _; rw [fldN, if_neg hf, if_pos (.inl h)]; rfl
        have digit : (48 ≤ k ∧ k ≤ 57) → Hid ((fldN k : Int) = 7) := fun h => by show _ = _; rw [fldN, if_neg hf, if_pos (.inr (.inl h))]; rfl
        have other : k ∈ chars sLong → Hid ((fldN k : Int) = 7) := fun h => by show _ = _; rw [fldN, if_neg hf, if_pos (.inr (.inr h))]; rfl
        have seen : ¬ (97 ≤ k ∧ k ≤ 122) → ¬ (48 ≤ k ∧ k ≤ 57) → ¬ k ∈ chars sLong → (33 ≤ k ∧ k ≤ 126) → Hid ((fldN k : Int) = 9) := fun a b c h => by show _ = _; rw [fldN, if_neg hf, if_neg (by rintro (x | x | x) <;> contradiction), if_pos h]; rfl
        have unseen : ¬ (97 ≤ k ∧ k ≤ 122) → ¬ (48 ≤ k ∧ k ≤ 57) → ¬ k ∈ chars sLong → ¬ (33 ≤ k ∧ k ≤ 126) → Hid ((fldN k : Int) = 13) := fun a b c h => by show _ = _; rw [fldN, if_neg hf, if_neg (by rintro (x | x | x) <;> contradiction), if_neg h]; rfl
        have LET := Lib.hid letter
        have DIG := Lib.hid digit
        have OTH := Lib.hid other
        have SEE := Lib.hid seen
        have UNS := Lib.hid unseen
        clear letter digit other seen unseen hf
        by_cases ha : 97 ≤ k ∧ k ≤ 122
        · have e1 : decide ((k : Int) ≥ 97) = true := decide_eq_true (by omega)
          have e2 : decide ((k : Int) ≤ 122) = true := decide_eq_true (by omega)
          have HV := Lib.hid (HOO.out 7 (LET.out ha))
          clear LET DIG OTH SEE UNS HOO ha
          go_wp2_with (first
            | (go_at_call 102; refine (H1.out _).mono ?_; rintro e w' ⟨rfl, rfl⟩)
            | (at_builtin; ((with_reducible refine wpList_append_rd _ ?_ (.tmp 38) (.tmp 39) 142 ?_ elemInt Tryz.underlying142 w.heap.size u1 (fldP k) ?_ (OO.out.alloc _) (.slice (some ⟨wr.heap.size, 0, none⟩) 1 1) [7] ?_ (Rd.one .i64 3 wr _) ?_ ?_ ?_ ?_)); rfl; rfl; rfl; rfl; (rw [HLN.out]; simp; omega); (rw [HLN.out]; simp [maxLen]; omega); (simp; omega); intro v9 w9 o9 g9; have O9 := Lib.hid o9; have G9 := Lib.hid g9; clear o9 g9))
          go_roundw
          case rel => exact ⟨k + 1, by omega, by go_num, by rw [← HV.out]; exact O9.out, (BB.out.alloc hz _).grown G9.out (by simp; omega) OO.out.blk⟩
          case measure => simp [intOf]; omega
        · by_cases hd : 48 ≤ k ∧ k ≤ 57
          · have e1 : decide ((k : Int) ≥ 97) = false := decide_eq_false (by omega)
            have e3 : decide ((k : Int) ≥ 48) = true := decide_eq_true (by omega)
            have e4 : decide ((k : Int) ≤ 57) = true := decide_eq_true (by omega)
            have HV := Lib.hid (HOO.out 7 (DIG.out hd))
            clear LET DIG OTH SEE UNS HOO ha hd
            go_wp2_with (first
              | (go_at_call 102; refine (H1.out _).mono ?_; rintro e w' ⟨rfl, rfl⟩)
              | (at_builtin; ((with_reducible refine wpList_append_rd _ ?_ (.tmp 38) (.tmp 39) 142 ?_ elemInt Tryz.underlying142 w.heap.size u1 (fldP k) ?_ (OO.out.alloc _) (.slice (some ⟨wr.heap.size, 0, none⟩) 1 1) [7] ?_ (Rd.one .i64 3 wr _) ?_ ?_ ?_ ?_)); rfl; rfl; rfl; rfl; (rw [HLN.out]; simp; omega); (rw [HLN.out]; simp [maxLen]; omega); (simp; omega); intro v9 w9 o9 g9; have O9 := Lib.hid o9; have G9 := Lib.hid g9; clear o9 g9))
            go_roundw
            case rel => exact ⟨k + 1, by omega, by go_num, by rw [← HV.out]; exact O9.out, (BB.out.alloc hz _).grown G9.out (by simp; omega) OO.out.blk⟩
            case measure => simp [intOf]; omega
          · have hnd : ¬ (97 ≤ k ∧ k ≤ 122) ∧ ¬ (48 ≤ k ∧ k ≤ 57) := ⟨ha, hd⟩
            have HND := Lib.hid hnd
            have hc : (k < 48) ∨ (57 < k ∧ k < 97) ∨ (122 < k) := by omega
            clear ha hd hnd
            by_cases ho : k ∈ chars sLong
            · have HV := Lib.hid (HOO.out 7 (OTH.out ho))
              have H2 := Lib.hid (HL.out k true (decide_eq_true ho) hlt)
              clear LET DIG OTH SEE UNS HOO ho HND
              rcases hc with hc | hc | hc
              · have ea0 : decide ((k : Int) ≥ 97) = false := decide_eq_false (by omega)
                have eb1 : decide ((k : Int) ≥ 48) = false := decide_eq_false (by omega)
                go_wp2_with (first
                  | (go_at_call 102; first | ((with_reducible refine (H1.out _).mono ?_); rintro e w' ⟨rfl, rfl⟩) | ((with_reducible refine (H2.out _).mono ?_); rintro e w' ⟨rfl, rfl⟩))
                  | (at_builtin; ((with_reducible refine wpList_append_rd _ ?_ (.tmp 38) (.tmp 39) 142 ?_ elemInt Tryz.underlying142 w.heap.size u1 (fldP k) ?_ (OO.out.alloc _) (.slice (some ⟨wr.heap.size, 0, none⟩) 1 1) [7] ?_ (Rd.one .i64 3 wr _) ?_ ?_ ?_ ?_)); rfl; rfl; rfl; rfl; (rw [HLN.out]; simp; omega); (rw [HLN.out]; simp [maxLen]; omega); (simp; omega); intro v9 w9 o9 g9; have O9 := Lib.hid o9; have G9 := Lib.hid g9; clear o9 g9))
                go_roundw
                case rel => exact ⟨k + 1, by omega, by go_num, by rw [← HV.out]; exact O9.out, (BB.out.alloc hz _).grown G9.out (by simp; omega) OO.out.blk⟩
                case measure => simp [intOf]; omega
              · have ea0 : decide ((k : Int) ≥ 97) = false := decide_eq_false (by omega)
                have eb1 : decide ((k : Int) ≥ 48) = true := decide_eq_true (by omega)
                have ec2 : decide ((k : Int) ≤ 57) = false := decide_eq_false (by omega)
                go_wp2_with (first
                  | (go_at_call 102; first | ((with_reducible refine (H1.out _).mono ?_); rintro e w' ⟨rfl, rfl⟩) | ((with_reducible refine (H2.out _).mono ?_); rintro e w' ⟨rfl, rfl⟩))
                  | (at_builtin; ((with_reducible refine wpList_append_rd _ ?_ (.tmp 38) (.tmp 39) 142 ?_ elemInt Tryz.underlying142 w.heap.size u1 (fldP k) ?_ (OO.out.alloc _) (.slice (some ⟨wr.heap.size, 0, none⟩) 1 1) [7] ?_ (Rd.one .i64 3 wr _) ?_ ?_ ?_ ?_)); rfl; rfl; rfl; rfl; (rw [HLN.out]; simp; omega); (rw [HLN.out]; simp [maxLen]; omega); (simp; omega); intro v9 w9 o9 g9; have O9 := Lib.hid o9; have G9 := Lib.hid g9; clear o9 g9))
                go_roundw
                case rel => exact ⟨k + 1, by omega, by go_num, by rw [← HV.out]; exact O9.out, (BB.out.alloc hz _).grown G9.out (by simp; omega) OO.out.blk⟩
                case measure => simp [intOf]; omega
              · have ea0 : decide ((k : Int) ≥ 97) = true := decide_eq_true (by omega)
                have ed1 : decide ((k : Int) ≤ 122) = false := decide_eq_false (by omega)
                have eb2 : decide ((k : Int) ≥ 48) = true := decide_eq_true (by omega)
                have ec3 : decide ((k : Int) ≤ 57) = false := decide_eq_false (by omega)
                go_wp2_with (first
                  | (go_at_call 102; first | ((with_reducible refine (H1.out _).mono ?_); rintro e w' ⟨rfl, rfl⟩) | ((with_reducible refine (H2.out _).mono ?_); rintro e w' ⟨rfl, rfl⟩))
                  | (at_builtin; ((with_reducible refine wpList_append_rd _ ?_ (.tmp 38) (.tmp 39) 142 ?_ elemInt Tryz.underlying142 w.heap.size u1 (fldP k) ?_ (OO.out.alloc _) (.slice (some ⟨wr.heap.size, 0, none⟩) 1 1) [7] ?_ (Rd.one .i64 3 wr _) ?_ ?_ ?_ ?_)); rfl; rfl; rfl; rfl; (rw [HLN.out]; simp; omega); (rw [HLN.out]; simp [maxLen]; omega); (simp; omega); intro v9 w9 o9 g9; have O9 := Lib.hid o9; have G9 := Lib.hid g9; clear o9 g9))
                go_roundw
                case rel => exact ⟨k + 1, by omega, by go_num, by rw [← HV.out]; exact O9.out, (BB.out.alloc hz _).grown G9.out (by simp; omega) OO.out.blk⟩
                case measure => simp [intOf]; omega
            · have H2 := Lib.hid (HL.out k false (decide_eq_false ho) hlt)
              by_cases h33 : 33 ≤ k ∧ k ≤ 126
              · have HV := Lib.hid (HOO.out 9 (SEE.out HND.out.1 HND.out.2 ho h33))
                clear LET DIG OTH SEE UNS HOO ho HND
                rcases hc with hc | hc | hc
                · have ea0 : decide ((k : Int) ≥ 97) = false := decide_eq_false (by omega)
                  have eb1 : decide ((k : Int) ≥ 48) = false := decide_eq_false (by omega)
                  have ef2 : decide ((k : Int) ≥ 33) = true := decide_eq_true (by omega)
                  have eg3 : decide ((k : Int) ≤ 126) = true := decide_eq_true (by omega)
                  go_wp2_with (first
                    | (go_at_call 102; first | ((with_reducible refine (H1.out _).mono ?_); rintro e w' ⟨rfl, rfl⟩) | ((with_reducible refine (H2.out _).mono ?_); rintro e w' ⟨rfl, rfl⟩))
                    | (at_builtin; ((with_reducible refine wpList_append_rd _ ?_ (.tmp 48) (.tmp 49) 142 ?_ elemInt Tryz.underlying142 w.heap.size u1 (fldP k) ?_ (OO.out.alloc _) (.slice (some ⟨wr.heap.size, 0, none⟩) 1 1) [9] ?_ (Rd.one .i64 3 wr _) ?_ ?_ ?_ ?_)); rfl; rfl; rfl; rfl; (rw [HLN.out]; simp; omega); (rw [HLN.out]; simp [maxLen]; omega); (simp; omega); intro v9 w9 o9 g9; have O9 := Lib.hid o9; have G9 := Lib.hid g9; clear o9 g9))
                  go_roundw
                  case rel => exact ⟨k + 1, by omega, by go_num, by rw [← HV.out]; exact O9.out, (BB.out.alloc hz _).grown G9.out (by simp; omega) OO.out.blk⟩
                  case measure => simp [intOf]; omega
                · have ea0 : decide ((k : Int) ≥ 97) = false := decide_eq_false (by omega)
                  have eb1 : decide ((k : Int) ≥ 48) = true := decide_eq_true (by omega)
                  have ec2 : decide ((k : Int) ≤ 57) = false := decide_eq_false (by omega)
                  have ef3 : decide ((k : Int) ≥ 33) = true := decide_eq_true (by omega)
                  have eg4 : decide ((k : Int) ≤ 126) = true := decide_eq_true (by omega)
                  go_wp2_with (first
                    | (go_at_call 102; first | ((with_reducible refine (H1.out _).mono ?_); rintro e w' ⟨rfl, rfl⟩) | ((with_reducible refine (H2.out _).mono ?_); rintro e w' ⟨rfl, rfl⟩))
                    | (at_builtin; ((with_reducible refine wpList_append_rd _ ?_ (.tmp 48) (.tmp 49) 142 ?_ elemInt Tryz.underlying142 w.heap.size u1 (fldP k) ?_ (OO.out.alloc _) (.slice (some ⟨wr.heap.size, 0, none⟩) 1 1) [9] ?_ (Rd.one .i64 3 wr _) ?_ ?_ ?_ ?_)); rfl; rfl; rfl; rfl; (rw [HLN.out]; simp; omega); (rw [HLN.out]; simp [maxLen]; omega); (simp; omega); intro v9 w9 o9 g9; have O9 := Lib.hid o9; have G9 := Lib.hid g9; clear o9 g9))
                  go_roundw
                  case rel => exact ⟨k + 1, by omega, by go_num, by rw [← HV.out]; exact O9.out, (BB.out.alloc hz _).grown G9.out (by simp; omega) OO.out.blk⟩
                  case measure => simp [intOf]; omega
                · have ea0 : decide ((k : Int) ≥ 97) = true := decide_eq_true (by omega)
                  have ed1 : decide ((k : Int) ≤ 122) = false := decide_eq_false (by omega)
                  have eb2 : decide ((k : Int) ≥ 48) = true := decide_eq_true (by omega)
                  have ec3 : decide ((k : Int) ≤ 57) = false := decide_eq_false (by omega)
                  have ef4 : decide ((k : Int) ≥ 33) = true := decide_eq_true (by omega)
                  have eg5 : decide ((k : Int) ≤ 126) = true := decide_eq_true (by omega)
                  go_wp2_with (first
                    | (go_at_call 102; first | ((with_reducible refine (H1.out _).mono ?_); rintro e w' ⟨rfl, rfl⟩) | ((with_reducible refine (H2.out _).mono ?_); rintro e w' ⟨rfl, rfl⟩))
                    | (at_builtin; ((with_reducible refine wpList_append_rd _ ?_ (.tmp 48) (.tmp 49) 142 ?_ elemInt Tryz.underlying142 w.heap.size u1 (fldP k) ?_ (OO.out.alloc _) (.slice (some ⟨wr.heap.size, 0, none⟩) 1 1) [9] ?_ (Rd.one .i64 3 wr _) ?_ ?_ ?_ ?_)); rfl; rfl; rfl; rfl; (rw [HLN.out]; simp; omega); (rw [HLN.out]; simp [maxLen]; omega); (simp; omega); intro v9 w9 o9 g9; have O9 := Lib.hid o9; have G9 := Lib.hid g9; clear o9 g9))
                  go_roundw
                  case rel => exact ⟨k + 1, by omega, by go_num, by rw [← HV.out]; exact O9.out, (BB.out.alloc hz _).grown G9.out (by simp; omega) OO.out.blk⟩
                  case measure => simp [intOf]; omega
              · have HV := Lib.hid (HOO.out 13 (UNS.out HND.out.1 HND.out.2 ho h33))
                clear LET DIG OTH SEE UNS HOO ho HND
                have hc2 : k < 33 ∨ 126 < k := by omega
                rcases hc2 with hc2 | hc2
                · have ea0 : decide ((k : Int) ≥ 97) = false := decide_eq_false (by omega)
                  have eb1 : decide ((k : Int) ≥ 48) = false := decide_eq_false (by omega)
                  have ef2 : decide ((k : Int) ≥ 33) = false := decide_eq_false (by omega)
                  go_wp2_with (first
                    | (go_at_call 102; first | ((with_reducible refine (H1.out _).mono ?_); rintro e w' ⟨rfl, rfl⟩) | ((with_reducible refine (H2.out _).mono ?_); rintro e w' ⟨rfl, rfl⟩))
                    | (at_builtin; ((with_reducible refine wpList_append_rd _ ?_ (.tmp 10) (.tmp 11) 142 ?_ elemInt Tryz.underlying142 w.heap.size u1 (fldP k) ?_ (OO.out.alloc _) (.slice (some ⟨wr.heap.size, 0, none⟩) 1 1) [13] ?_ (Rd.one .i64 3 wr _) ?_ ?_ ?_ ?_)); rfl; rfl; rfl; rfl; (rw [HLN.out]; simp; omega); (rw [HLN.out]; simp [maxLen]; omega); (simp; omega); intro v9 w9 o9 g9; have O9 := Lib.hid o9; have G9 := Lib.hid g9; clear o9 g9))
                  go_roundw
                  case rel => exact ⟨k + 1, by omega, by go_num, by rw [← HV.out]; exact O9.out, (BB.out.alloc hz _).grown G9.out (by simp; omega) OO.out.blk⟩
                  case measure => simp [intOf]; omega
                · have ea0 : decide ((k : Int) ≥ 97) = true := decide_eq_true (by omega)
                  have ed1 : decide ((k : Int) ≤ 122) = false := decide_eq_false (by omega)
                  have eb2 : decide ((k : Int) ≥ 48) = true := decide_eq_true (by omega)
                  have ec3 : decide ((k : Int) ≤ 57) = false := decide_eq_false (by omega)
                  have ef4 : decide ((k : Int) ≥ 33) = true := decide_eq_true (by omega)
                  have eg5 : decide ((k : Int) ≤ 126) = false := decide_eq_false (by omega)
                  go_wp2_with (first
                    | (go_at_call 102; first | ((with_reducible refine (H1.out _).mono ?_); rintro e w' ⟨rfl, rfl⟩) | ((with_reducible refine (H2.out _).mono ?_); rintro e w' ⟨rfl, rfl⟩))
                    | (at_builtin; ((with_reducible refine wpList_append_rd _ ?_ (.tmp 10) (.tmp 11) 142 ?_ elemInt Tryz.underlying142 w.heap.size u1 (fldP k) ?_ (OO.out.alloc _) (.slice (some ⟨wr.heap.size, 0, none⟩) 1 1) [13] ?_ (Rd.one .i64 3 wr _) ?_ ?_ ?_ ?_)); rfl; rfl; rfl; rfl; (rw [HLN.out]; simp; omega); (rw [HLN.out]; simp [maxLen]; omega); (simp; omega); intro v9 w9 o9 g9; have O9 := Lib.hid o9; have G9 := Lib.hid g9; clear o9 g9))
                  go_roundw
                  case rel => exact ⟨k + 1, by omega, by go_num, by rw [← HV.out]; exact O9.out, (BB.out.alloc hz _).grown G9.out (by simp; omega) OO.out.blk⟩
                  case measure => simp [intOf]; omega
    · have hend : k = 256 := by omega
      subst hend
      have HE : Hid (fldP 256 = fldL) := rfl
      go_wp2_with fail
      go_ret
      exact ⟨u1, rfl, by rw [← HE.out]; exact OO.out, BB.out⟩

/-- each of these bytes gets this length -/
def laySet (l : List Int) (cs : List Nat) (v : Int) : List Int := cs.foldl (fun l c => l.set c v) l
def basP (k : Nat) : List Int := (List.range 256).map fun n => if n < k then (baseN n : Int) else 0
theorem basP_zero : basP 0 = List.replicate 256 0 := by decide +kernel
theorem basP_set (k : Nat) (hk : k < 256) : (basP k).set k ((baseN k : Nat) : Int) = basP (k + 1) := by
  apply List.ext_getElem
  · simp [basP]
  · intro j h1 h2
    simp only [basP, List.length_set, List.length_map, List.length_range] at h1
    rw [List.getElem_set]
    by_cases e : k = j
    · subst e; simp [basP]
    · rw [if_neg e]
      simp only [basP, List.getElem_map, List.getElem_range]
      by_cases h : j < k
      · rw [if_pos h, if_pos (by omega)]
      · rw [if_neg h, if_neg (by omega)]
theorem fld_all : laySet (laySet (basP 256) (chars sLong) 7) (chars sFew) 5 = fldL := by decide +kernel
theorem lay_len (l : List Int) (cs : List Nat) (v : Int) : (laySet l cs v).length = l.length := by
  induction cs generalizing l with
  | nil => rfl
  | cons c r ih => rw [laySet, List.foldl_cons, ← laySet, ih]; simp
theorem lay_take (l : List Int) (s : ByteArray) (v : Int) (k : Nat) (hk : k < s.size) : laySet l ((chars s).take (k + 1)) v = (laySet l ((chars s).take k) v).set (s[k]'hk).toNat v := by
  have hl : (chars s).length = s.size := by simp only [chars, List.length_map]; rfl
  rw [List.take_succ_eq_append_getElem (by rw [hl]; exact hk), laySet, List.foldl_append]
  simp only [List.foldl_cons, List.foldl_nil]
  congr 1
  simp only [chars, List.getElem_map]
  rfl
theorem iter_grown (w : World) (p : Nat) (s : ByteArray) (pos : Nat) : w.grownBy (w.iterAt p s pos) (some p) :=
  ⟨rfl, rfl, rfl, by rw [Lib.iterAt_size]; exact Nat.le_refl _, fun i _ hi => Lib.iterAt_other w p i s pos (fun e => hi (by rw [e]))⟩
def itPos : Option Obj → Nat
  | some (.stringIter _ p) => p
  | _ => 0

set_option maxHeartbeats 8000000 in
theorem fields_any (w : World) : Calls Tryz.prog 111 #[] w (FldIs w) := by
  go_enter Tryz.func111, Tryz.ntmps111
  go_wp2_with ((with_reducible refine wpList_make_nums _ ?_ (.const (.int .i64 256)) (.const (.int .i64 256)) 142 ?_ elemInt Tryz.underlying142 .i64 .i64 256 256 256 ?_ ?_ ?_ ?_ ?_ ?_ w.heap.size ?_ ?_); rfl; rfl; rfl; rfl; rfl; rfl; decide; decide; (exact Nat.le_refl _); intro w1 o1 g1; have O1 := Lib.hid o1; have G1 := Lib.hid g1; clear o1 g1)
  have B1 : Hid (Below w.heap.size w w1) := (Below.refl _ _).grown G1.out (Nat.le_refl _) (by simp)
  have R1 : Hid (Own .i64 3 w1 w.heap.size (.slice (some ⟨w.heap.size, 0, none⟩) 256 256) (basP 0)) := by rw [basP_zero]; exact O1.out
  clear O1 G1
  go_loopw [10] (fun i wr => ∃ k : Nat, k ≤ 256 ∧ i = .int .i64 (k : Int) ∧ Own .i64 3 wr w.heap.size (.slice (some ⟨w.heap.size, 0, none⟩) 256 256) (basP k) ∧ Below w.heap.size w wr) (fun i _ => 256 - (intOf i).toNat)
  case atStart => exact ⟨0, by omega, rfl, R1.out, B1.out⟩
  case round =>
    obtain ⟨k, hk, rfl, ho, hb⟩ := hrel
    clear R1 B1
    have OO := Lib.hid ho
    have BB := Lib.hid hb
    have hz := hb.size
    clear ho hb
    by_cases hlt : k < 256
    · have dk : decide ((k : Int) < 256) = true := decide_eq_true (by omega)
      obtain ⟨c0, f0⟩ := OO.out.at k (by simp [basP]; omega)
      generalize (basP k).getD k 0 = z at c0
      have hi1 : (0 : Int) ≤ (k : Int) := by omega
      have hi2 : (k : Int) < 256 := by omega
      have hgl : w.heap.size < wr.heap.size := OO.out.blt w.heap.size rfl
      have HS := Lib.hid (basP_set k hlt)
      have HO := Lib.hid (OO.out.set k ((baseN k : Nat) : Int))
      rw [HS.out] at HO
      go_wp2_with (go_at_call 126; refine (flen_any k hlt _).mono ?_; rintro e w' ⟨rfl, rfl⟩)
      go_roundw
      case rel => exact ⟨k + 1, by omega, by go_num, HO.out, BB.out.setCell (Nat.le_refl _) _⟩
      case measure => simp [intOf]; omega
    · have hend : k = 256 := by omega
      subst hend
      have dk : decide ((256 : Int) < 256) = false := by decide
      obtain ⟨w3, hw3⟩ : ∃ w3, w3 = wr := ⟨_, rfl⟩
      subst hw3
      have hgl : w.heap.size < w3.heap.size := OO.out.blt w.heap.size rfl
      go_wp2_with fail
      have I0 : Hid ((w3.iter sLong 0).heap[w3.heap.size]? = some (.stringIter sLong 0)) := World.iter_heap w3 sLong 0
      have O0 : Hid (Own .i64 3 (w3.iter sLong 0) w.heap.size (.slice (some ⟨w.heap.size, 0, none⟩) 256 256) (laySet (basP 256) ((chars sLong).take 0) 7)) := OO.out.alloc _
      have B0 : Hid (Below w.heap.size w (w3.iter sLong 0)) := BB.out.alloc hz _
      generalize w3.iter _ 0 = w4 at *
      generalize w3.heap.size = p at *
      clear OO BB
      go_loopw [20] (fun _ wr => ∃ k : Nat, k ≤ 12 ∧ wr.heap[p]? = some (.stringIter sLong k) ∧ Own .i64 3 wr w.heap.size (.slice (some ⟨w.heap.size, 0, none⟩) 256 256) (laySet (basP 256) ((chars sLong).take k) 7) ∧ Below w.heap.size w wr) (fun _ wr => 12 - itPos wr.heap[p]?)
      case atStart => exact ⟨0, by omega, I0.out, O0.out, B0.out⟩
      case round =>
        obtain ⟨k, hk, hi, ho, hb⟩ := hrel
        clear I0 O0 B0
        have II := Lib.hid hi
        have OO := Lib.hid ho
        have BB := Lib.hid hb
        have hz := hb.size
        have hpl : p < wr.heap.size := (Array.getElem?_eq_some_iff.1 hi).1
        clear ho hb hi
        by_cases hlt : k < 12
        · have hsz : k < sLong.size := hlt
          have hasc : (sLong[k]'hsz).toNat < 128 := by
            have : ∀ j : Fin 12, (sLong[j.val]'(by exact j.isLt)).toNat < 128 := by decide
            exact this ⟨k, hlt⟩
          have hnx := fun ty => Lib.run_next_ascii_at (P := Tryz.prog) wr p sLong k ty II.out hsz hasc
          have HTK := Lib.hid (lay_take (basP 256) sLong 7 k hsz)
          obtain ⟨c, hc⟩ : ∃ c, c = (sLong[k]'hsz).toNat := ⟨_, rfl⟩
          rw [← hc] at hnx hasc HTK
          have O1 := Lib.hid (OO.out.kept (iter_grown wr p sLong (k + 1)) (by intro j hj e; have e1 : w.heap.size = j := Option.some.inj hj; have e2 := Option.some.inj e; omega))
          have I1 := Lib.hid (Lib.iterAt_heap wr p sLong k (k + 1) II.out)
          have B1 := Lib.hid (Lib.below_iterAt BB.out (k := p) (by omega) sLong (k + 1))
          have HM : Hid (itPos wr.heap[p]? = k) := by show _ = _; rw [II.out]; rfl
          generalize wr.iterAt p sLong (k + 1) = w5 at *
          obtain ⟨c0, f0⟩ := O1.out.at c (by rw [lay_len]; simp [basP]; omega)
          generalize (laySet (basP 256) ((chars sLong).take k) 7).getD c 0 = z at c0
          have hi1 : (0 : Int) ≤ (c : Int) := by omega
          have hi2 : (c : Int) < 256 := by omega
          have HO := Lib.hid (O1.out.set c 7)
          rw [← HTK.out] at HO
          have HI : Hid ((w5.setCell ⟨w.heap.size, c, none⟩ (.int .i64 7)).heap[p]? = some (.stringIter sLong (k + 1))) := by
            show _ = _
            rw [Below.heap_setCell _ _ _ _ (by simp; omega)]; exact I1.out
          have HB := Lib.hid (B1.out.setCell (p := ⟨w.heap.size, c, none⟩) (Nat.le_refl _) (.int .i64 7))
          clear hc
          go_wp2_with fail
          go_roundw
          case rel => exact ⟨k + 1, by omega, HI.out, HO.out, HB.out⟩
          case measure => rw [HI.out, HM.out]; simp only [itPos]; omega
        · have hend : k = 12 := by omega
          have hnx := fun ty => Lib.run_next_end_at (P := Tryz.prog) wr p sLong k ty II.out (by rw [hend]; decide)
          have O1 : Hid (Own .i64 3 wr w.heap.size (.slice (some ⟨w.heap.size, 0, none⟩) 256 256) (laySet (laySet (basP 256) (chars sLong) 7) ((chars sFew).take 0) 5)) := by
            have := OO.out; rw [hend] at this; exact this
          clear hend OO II
          obtain ⟨w6, hw6⟩ : ∃ w6, w6 = wr := ⟨_, rfl⟩
          subst hw6
          have hgl : w.heap.size < w6.heap.size := O1.out.blt w.heap.size rfl
          go_wp2_with fail
          clear hnx
          have I0 : Hid ((w6.iter sFew 0).heap[w6.heap.size]? = some (.stringIter sFew 0)) := World.iter_heap w6 sFew 0
          have O0 : Hid (Own .i64 3 (w6.iter sFew 0) w.heap.size (.slice (some ⟨w.heap.size, 0, none⟩) 256 256) (laySet (laySet (basP 256) (chars sLong) 7) ((chars sFew).take 0) 5)) := O1.out.alloc _
          have B0 : Hid (Below w.heap.size w (w6.iter sFew 0)) := BB.out.alloc hz _
          generalize w6.iter _ 0 = w7 at *
          generalize w6.heap.size = r at *
          clear O1 BB
          go_loopw [27] (fun _ wr => ∃ k : Nat, k ≤ 15 ∧ wr.heap[r]? = some (.stringIter sFew k) ∧ Own .i64 3 wr w.heap.size (.slice (some ⟨w.heap.size, 0, none⟩) 256 256) (laySet (laySet (basP 256) (chars sLong) 7) ((chars sFew).take k) 5) ∧ Below w.heap.size w wr) (fun _ wr => 15 - itPos wr.heap[r]?)
          case atStart => exact ⟨0, by omega, I0.out, O0.out, B0.out⟩
          case round =>
            obtain ⟨k, hk, hi, ho, hb⟩ := hrel
            clear I0 O0 B0
            have II := Lib.hid hi
            have OO := Lib.hid ho
            have BB := Lib.hid hb
            have hz := hb.size
            have hpl : r < wr.heap.size := (Array.getElem?_eq_some_iff.1 hi).1
            clear ho hb hi
            by_cases hlt : k < 15
            · have hsz : k < sFew.size := hlt
              have hasc : (sFew[k]'hsz).toNat < 128 := by
                have : ∀ j : Fin 15, (sFew[j.val]'(by exact j.isLt)).toNat < 128 := by decide
                exact this ⟨k, hlt⟩
              have hnx := fun ty => Lib.run_next_ascii_at (P := Tryz.prog) wr r sFew k ty II.out hsz hasc
              have HTK := Lib.hid (lay_take (laySet (basP 256) (chars sLong) 7) sFew 5 k hsz)
              obtain ⟨c, hc⟩ : ∃ c, c = (sFew[k]'hsz).toNat := ⟨_, rfl⟩
              rw [← hc] at hnx hasc HTK
              have O1 := Lib.hid (OO.out.kept (iter_grown wr r sFew (k + 1)) (by intro j hj e; have e1 : w.heap.size = j := Option.some.inj hj; have e2 := Option.some.inj e; omega))
              have I1 := Lib.hid (Lib.iterAt_heap wr r sFew k (k + 1) II.out)
              have B1 := Lib.hid (Lib.below_iterAt BB.out (k := r) (by omega) sFew (k + 1))
              have HM : Hid (itPos wr.heap[r]? = k) := by show _ = _; rw [II.out]; rfl
              generalize wr.iterAt r sFew (k + 1) = w5 at *
              obtain ⟨c0, f0⟩ := O1.out.at c (by rw [lay_len, lay_len]; simp [basP]; omega)
              generalize (laySet (laySet (basP 256) (chars sLong) 7) ((chars sFew).take k) 5).getD c 0 = z at c0
              have hi1 : (0 : Int) ≤ (c : Int) := by omega
              have hi2 : (c : Int) < 256 := by omega
              have HO := Lib.hid (O1.out.set c 5)
              rw [← HTK.out] at HO
              have HI : Hid ((w5.setCell ⟨w.heap.size, c, none⟩ (.int .i64 5)).heap[r]? = some (.stringIter sFew (k + 1))) := by
                show _ = _
                rw [Below.heap_setCell _ _ _ _ (by simp; omega)]; exact I1.out
              have HB := Lib.hid (B1.out.setCell (p := ⟨w.heap.size, c, none⟩) (Nat.le_refl _) (.int .i64 5))
              clear hc
              go_wp2_with fail
              go_roundw
              case rel => exact ⟨k + 1, by omega, HI.out, HO.out, HB.out⟩
              case measure => rw [HI.out, HM.out]; simp only [itPos]; omega
            · have hend : k = 15 := by omega
              have hnx := fun ty => Lib.run_next_end_at (P := Tryz.prog) wr r sFew k ty II.out (by rw [hend]; decide)
              have O1 : Hid (Own .i64 3 wr w.heap.size (.slice (some ⟨w.heap.size, 0, none⟩) 256 256) fldL) := by
                have := OO.out
                rw [hend] at this
                rw [← fld_all]
                exact this
              clear hend OO II
              go_wp2_with fail
              go_ret
              exact ⟨_, rfl, O1.out, BB.out⟩
end Go.Proofs.YtbkbabaoockigaaGreatDoor

set_option maxRecDepth 100000
set_option maxRecDepth 100000
set_option linter.unusedSimpArgs false
set_option linter.unusedVariables false
namespace Go.Proofs.YtbkbabaoockigaaGreatDoor
open Go.RowKit

/-- rows of words of the call's own -/
def OursIs (w : World) (W : List (Nat × Nat)) (e : Ending) (w' : World) : Prop := ∃ v, e = .returned v ∧ RdW w' v W ∧ Below w.heap.size w w'
end Go.Proofs.YtbkbabaoockigaaGreatDoor

set_option maxRecDepth 100000
set_option maxRecDepth 100000
set_option linter.unusedSimpArgs false
set_option linter.unusedVariables false
namespace Go.Proofs.YtbkbabaoockigaaGreatDoor
open Go.RowKit

theorem right3 : RightL [1, 2, 3] := by decide
theorem has3 : HasN (wordsN ([1, 2, 3].map Int.toNat)) [1, 0, 2] := by
  have : ∀ s ∈ ([1, 0, 2] : List Int), s.toNat < (wordsN ([1, 2, 3].map Int.toNat)).length ∧ ((wordsN ([1, 2, 3].map Int.toNat)).getD s.toNat (0, 0)).2 ≠ 0 := by decide
  exact this
theorem enc3 : fillN (encN (wordsN ([1, 2, 3].map Int.toNat)) [1, 0, 2]) = unp [155] := by decide
theorem dec3 : decN (wordsN ([1, 2, 3].map Int.toNat)) (unp [155]) 0 0 = some [1, 0, 2] := by decide
theorem bts1 : Bts [155] := by intro x hx; simp at hx; omega
theorem bts3 : Bts [1, 0, 2] := by intro x hx; simp at hx; omega

end Go.Proofs.YtbkbabaoockigaaGreatDoor

set_option maxRecDepth 100000
set_option maxRecDepth 100000
set_option linter.unusedSimpArgs false
set_option linter.unusedVariables false
namespace Go.Proofs.YtbkbabaoockigaaGreatDoor
open Go.RowKit

/-- the words of a code -/
abbrev wdsOf (ls : List Int) : List (Nat × Nat) := wordsN (ls.map Int.toNat)
/-- WHAT Encode ANSWERS, whatever comes in -/
def EncAll (w : World) (ls ys : List Int) (e : Ending) (w' : World) : Prop :=
  Below w.heap.size w w' ∧ (((RightL ls ∧ HasN (wdsOf ls) ys) ∧ ∃ v o, e = .returned (.tuple #[v, .int .i64 0]) ∧ Rd .u8 w' v o ∧ Bts o ∧ unp o = fillN (encN (wdsOf ls) ys) ∧ ∀ j, v.ownBlock = some j → w.heap.size ≤ j) ∨
    (¬ (RightL ls ∧ HasN (wdsOf ls) ys) ∧ e = .returned (.tuple #[.slice none 0 0, .int .i64 1])))
theorem EncIs.all {w : World} {ls ys : List Int} {e : Ending} {w' : World} (hc : RightL ls) (h : EncIs w (wdsOf ls) ys e w') : EncAll w ls ys e w' := by
  obtain ⟨hb, ⟨a, b⟩ | ⟨a, b⟩⟩ := h
  · exact ⟨hb, .inl ⟨⟨hc, a⟩, b⟩⟩
  · exact ⟨hb, .inr ⟨fun x => a x.2, b⟩⟩
theorem enc_all (v u : Value) (ls ys : List Int) (w : World) (hr : Rd .i64 w v ls) (hu : Rd .u8 w u ys) (hy : Bts ys) (hyl : ys.length ≤ 68719476736) : Calls Tryz.prog 110 #[v, u] w (EncAll w ls ys) := by
  by_cases hc : RightL ls
  · exact (enc_yes v u ls ys w hr hu hy hyl hc).mono fun e w' h => h.all hc
  · exact (enc_no v u ls w hr hc).mono fun e w' ⟨h1, h2⟩ => ⟨h2 ▸ Below.refl _ _, .inr ⟨fun x => hc x.1, h1⟩⟩
/-- WHAT Decode ANSWERS, whatever comes in -/
def DecAll (w : World) (ls xs : List Int) (e : Ending) (w' : World) : Prop :=
  Below w.heap.size w w' ∧ ((RightL ls ∧ ∃ ys v, decN (wdsOf ls) (unp xs) 0 0 = some ys ∧ e = .returned (.tuple #[v, .int .i64 0]) ∧ Rd .u8 w' v ys ∧ Bts ys) ∨
    ∃ c : Int, c ≠ 0 ∧ c = (if RightL ls then 12 else 1) ∧ (RightL ls → decN (wdsOf ls) (unp xs) 0 0 = none) ∧ e = .returned (.tuple #[.slice none 0 0, .int .i64 c]))
theorem DecIs.all {w : World} {ls xs : List Int} {e : Ending} {w' : World} (hc : RightL ls) (h : DecIs w (decN (wdsOf ls) (unp xs) 0 0) e w') : DecAll w ls xs e w' := by
  obtain ⟨hb, ⟨a, b⟩ | ⟨a, b⟩⟩ := h
  · exact ⟨hb, .inl ⟨hc, a, b⟩⟩
  · exact ⟨hb, .inr ⟨12, by decide, by rw [if_pos hc], fun _ => a, b⟩⟩
theorem dec_all (v u : Value) (ls xs : List Int) (w : World) (hr : Rd .i64 w v ls) (hu : Rd .u8 w u xs) (hx : Bts xs) (hxl : xs.length ≤ 68719476736) : Calls Tryz.prog 114 #[v, u] w (DecAll w ls xs) := by
  by_cases hc : RightL ls
  · exact (dec_yes v u ls xs w hr hu hx hxl hc).mono fun e w' h => h.all hc
  · exact (dec_no v u ls w hr hc).mono fun e w' ⟨h1, h2⟩ => ⟨h2 ▸ Below.refl _ _, .inr ⟨1, by decide, by rw [if_neg hc], fun h => absurd h hc, h1⟩⟩
theorem rdec_all (v u : Value) (ls xs : List Int) (w : World) (hr : Rd .i64 w v ls) (hu : Rd .u8 w u xs) (hx : Bts xs) (hxl : xs.length ≤ 68719476736) : Calls Tryz.prog 76 #[v, u] w (DecAll w ls xs) := by
  by_cases hc : RightL ls
  · exact (rdec_yes v u ls xs w hr hu hx hxl hc).mono fun e w' h => h.all hc
  · exact (rdec_no v u ls w hr hc).mono fun e w' ⟨h1, h2⟩ => ⟨h2 ▸ Below.refl _ _, .inr ⟨1, by decide, by rw [if_neg hc], fun h => absurd h hc, h1⟩⟩
theorem bts_nil : Bts [] := by intro x hx; cases hx

end Go.Proofs.YtbkbabaoockigaaGreatDoor

set_option maxRecDepth 100000
set_option maxRecDepth 100000
set_option linter.unusedSimpArgs false
set_option linter.unusedVariables false
namespace Go.Proofs.YtbkbabaoockigaaGreatDoor
open Go.RowKit

theorem right_fld : RightL fldL := by
  refine ⟨by decide +kernel, ?_, by decide +kernel⟩
  have : fldL.all (fun x => decide (0 ≤ x ∧ x ≤ 24)) = true := by decide +kernel
  intro x hx
  simpa using List.all_eq_true.1 this x hx
theorem has_fld (ys : List Int) (hy : Bts ys) : HasN (wdsOf fldL) ys := by
  have : ∀ n : Fin 256, n.val < (wdsOf fldL).length ∧ ((wdsOf fldL).getD n.val (0, 0)).2 ≠ 0 := by decide +kernel
  intro s hs
  have h := hy s hs
  exact this ⟨s.toNat, by omega⟩

/-- a text's bytes -/
def bytesOf (s : ByteArray) : List Int := s.data.toList.map fun b => (b.toNat : Int)
theorem bytesOf_bts (s : ByteArray) : Bts (bytesOf s) := by
  intro x hx
  obtain ⟨b, _, rfl⟩ := List.mem_map.1 hx
  have := b.toNat_lt
  omega
theorem bytesOf_len (s : ByteArray) : (bytesOf s).length = s.size := by simp only [bytesOf, List.length_map]; rfl
theorem str_back (s : ByteArray) : strOfNums (bytesOf s) = s := by
  have h : (bytesOf s).map (fun n => UInt8.ofNat n.toNat) = s.data.toList := by
    rw [bytesOf, List.map_map]
    conv => rhs; rw [← List.map_id s.data.toList]
    refine List.map_congr_left fun b _ => ?_
    simp
  have e : ∀ l : List Int, strOfNums l = ⟨(l.map (fun n => UInt8.ofNat n.toNat)).toArray⟩ := fun l => rfl
  rw [e, h]
theorem bytes_below (w : World) (e : TypeId) (s : ByteArray) : Below w.heap.size w (Lib.bytesWorld w e s) := by
  refine ⟨?_, ?_, ?_, by rw [Lib.bytesWorld_size]; omega, fun i hi => Lib.bytesWorld_at_old w e s i hi⟩ <;>
    (unfold Lib.bytesWorld World.freeze; split <;> rfl)
theorem bytes_rd (w : World) (e : TypeId) (s : ByteArray) (hs : s.size ≤ 1048576) : Rd .u8 (Lib.bytesWorld w e s) (.slice (some ⟨w.heap.size, 0, none⟩) s.size (grownCap w s.size 0 e)) (bytesOf s) := by
  have hm := grownCap_le_maxLen w s.size 0 e (by unfold maxLen; omega)
  by_cases h0 : s.size = 0
  · refine .inl ⟨List.eq_nil_of_length_eq_zero (by rw [bytesOf_len]; exact h0), some ⟨w.heap.size, 0, none⟩, grownCap w s.size 0 e, by generalize grownCap w s.size 0 e = c; rw [h0], hm, fun h => by cases h⟩
  · refine .inr ⟨fun h => h0 (by rw [← bytesOf_len, h]; rfl), w.heap.size, 0, _, by rw [bytesOf_len], by rw [bytesOf_len]; exact grownCap_ge _ _ _ _, hm, by rw [Lib.bytesWorld_size]; omega, fun i hi => ?_⟩
    rw [bytesOf_len] at hi
    rw [Nat.zero_add, Lib.bytesWorld_cell w e s i hi]
    have hl : i < s.data.toList.length := hi
    simp [bytesOf, List.getD, hi]

end Go.Proofs.YtbkbabaoockigaaGreatDoor
