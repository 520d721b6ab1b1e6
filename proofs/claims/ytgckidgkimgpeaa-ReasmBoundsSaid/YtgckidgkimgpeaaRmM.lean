/- The mathematics of layer 9: a stream's bytes in order. -/
import Derived.Test.YtgckidgkimgpeaaGen
set_option linter.unusedSimpArgs false
set_option linter.unusedVariables false
namespace Go.Proofs.Ytgckidgkimgpeaa
open Go.RowKit

/-- what a stream has: its row, which of it came, how many were read, what stands behind the last that came, its end, whether it was broken off -/
structure St where
  row : List Int
  came : List Bool
  p : Nat
  top : Nat
  e : Int
  br : Bool

theorem tt_of {b : Bool} (h : ¬ b = false) : b = true := by simpa using h
theorem ff_of {b : Bool} (h : ¬ b = true) : b = false := by simpa using h
def withinB (n a b : Int) : Bool := decide (a ≤ n) && decide (n ≤ b)
theorem within_iff {n a b : Int} : withinB n a b = true ↔ a ≤ n ∧ n ≤ b := by simp [withinB]
theorem within_not {n a b : Int} (h : withinB n a b = false) : ¬ (a ≤ n ∧ n ≤ b) := fun k => by rw [within_iff.2 k] at h; cases h

theorem ext_getD {α : Type} (d : α) {l l' : List α} (hl : l.length = l'.length) (h : ∀ i, i < l.length → l.getD i d = l'.getD i d) : l = l' := by
  refine List.ext_getElem hl fun i h1 h2 => ?_
  have := h i h1
  simpa [List.getD, h1, h2] using this
theorem getD_lt {α : Type} {l : List α} {i : Nat} {d : α} (h : i < l.length) : l.getD i d = l[i] := by simp [List.getD, h]
theorem getD_ge {α : Type} {l : List α} {i : Nat} {d : α} (h : l.length ≤ i) : l.getD i d = d := by simp [List.getD, h]
theorem getD_drop {α : Type} (l : List α) (j i : Nat) (d : α) : (l.drop j).getD i d = l.getD (j + i) d := by simp [List.getD]
theorem getD_take {α : Type} (l : List α) (j i : Nat) (d : α) (h : i < j) : (l.take j).getD i d = l.getD i d := by simp [List.getD, h]
theorem getD_rep {α : Type} (n i : Nat) (x d : α) (h : i < n) : (List.replicate n x).getD i d = x := by simp [List.getD, h]
theorem getD_rep' {α : Type} (n i : Nat) (x : α) : (List.replicate n x).getD i x = x := by
  by_cases h : i < n
  · exact getD_rep n i x x h
  · exact getD_ge (by simp; omega)
theorem getD_app {α : Type} (l l' : List α) (i : Nat) (d : α) : (l ++ l').getD i d = if i < l.length then l.getD i d else l'.getD (i - l.length) d := by
  by_cases h : i < l.length
  · rw [if_pos h]; simp [List.getD, h, List.getElem?_append_left h]
  · rw [if_neg h]; simp [List.getD, List.getElem?_append_right (Nat.le_of_not_lt h)]
theorem getD_splice {α : Type} (L : List α) (o i : Nat) (cs : List α) (d : α) (h : o + cs.length ≤ L.length) : (splice L o cs).getD i d = if o ≤ i ∧ i < o + cs.length then cs.getD (i - o) d else L.getD i d := by
  have ht : (L.take o).length = o := by rw [List.length_take]; omega
  unfold splice
  rw [getD_app, ht]
  by_cases h1 : i < o
  · rw [if_pos h1, getD_take _ _ _ _ h1, if_neg (by omega)]
  · rw [if_neg h1, getD_app]
    by_cases h2 : i - o < cs.length
    · rw [if_pos h2, if_pos ⟨by omega, by omega⟩]
    · rw [if_neg h2, getD_drop, if_neg (by omega), show o + cs.length + (i - o - cs.length) = i by omega]
theorem map_splice {α β : Type} (f : α → β) (L : List α) (o : Nat) (cs : List α) : (splice L o cs).map f = splice (L.map f) o (cs.map f) := by
  simp [splice, List.map_take, List.map_drop]

/-! ### marks that are alike -/
def lead (so : Bool) (cs : List Bool) : Nat := (cs.takeWhile (fun c => c == so)).length
theorem lead_le (so : Bool) : ∀ cs : List Bool, lead so cs ≤ cs.length
  | [] => Nat.le_refl _
  | c :: cs => by
    unfold lead
    rw [List.takeWhile_cons]
    split
    · simp only [List.length_cons]; have := lead_le so cs; unfold lead at this; omega
    · simp
theorem lead_lt (so d : Bool) : ∀ (cs : List Bool) (i : Nat), i < lead so cs → cs.getD i d = so
  | [], i, h => by simp [lead] at h
  | c :: cs, i, h => by
    unfold lead at h
    rw [List.takeWhile_cons] at h
    split at h
    · rename_i hc
      cases i with
      | zero => simpa using hc
      | succ i =>
        simp only [List.length_cons] at h
        have := lead_lt so d cs i (by unfold lead; omega)
        simpa [List.getD] using this
    · simp at h
theorem lead_is (so : Bool) : ∀ (cs : List Bool) (k : Nat), k ≤ cs.length → (∀ i, i < k → cs.getD i false = so) → (k < cs.length → cs.getD k false ≠ so) → lead so cs = k
  | [], k, h, _, _ => by simp at h; subst h; rfl
  | c :: cs, k, h, h1, h2 => by
    unfold lead
    rw [List.takeWhile_cons]
    cases k with
    | zero =>
      have := h2 (by simp)
      simp [List.getD] at this
      rw [if_neg (by simpa using this)]; rfl
    | succ k =>
      have h0 := h1 0 (by omega)
      simp [List.getD] at h0
      rw [if_pos (by simpa using h0)]
      have := lead_is so cs k (by simpa using h) (fun i hi => by have := h1 (i + 1) (by omega); simpa [List.getD] using this) (fun hk => by have := h2 (by simpa using hk); simpa [List.getD] using this)
      unfold lead at this
      simp [this]
def heldN (cs : List Bool) : Nat := cs.count true
theorem lead_held (cs : List Bool) : lead true cs ≤ heldN cs := by
  unfold lead heldN
  induction cs with
  | nil => simp
  | cons c cs ih =>
    rw [List.takeWhile_cons]
    cases c
    · simp
    · simp at ih ⊢; omega
theorem held_le (cs : List Bool) : heldN cs ≤ cs.length := List.count_le_length
theorem held_take (cs : List Bool) (k : Nat) (h : k < cs.length) : heldN (cs.take (k + 1)) = heldN (cs.take k) + (if cs.getD k false = true then 1 else 0) := by
  unfold heldN
  rw [List.take_succ_eq_append_getElem h, List.count_append, getD_lt h]
  cases cs[k] <;> simp

/-! ### bytes that come -/
def mixR (p : Nat) (row : List Int) (came : List Bool) (o : Nat) (b : List Int) : List Int :=
  (List.range row.length).map fun i => if came.getD i false = true then row.getD i 0 else if o ≤ p + i ∧ p + i < o + b.length then b.getD (p + i - o) 0 else row.getD i 0
def mixC (p : Nat) (came : List Bool) (o n : Nat) : List Bool := (List.range came.length).map fun i => came.getD i false || decide (o ≤ p + i ∧ p + i < o + n)
theorem mixR_len (p : Nat) (row : List Int) (came : List Bool) (o : Nat) (b : List Int) : (mixR p row came o b).length = row.length := by simp [mixR]
theorem mixC_len (p : Nat) (came : List Bool) (o n : Nat) : (mixC p came o n).length = came.length := by simp [mixC]
theorem mixR_get {p : Nat} {row : List Int} {came : List Bool} {o : Nat} {b : List Int} {i : Nat} (h : i < row.length) :
    (mixR p row came o b).getD i 0 = if came.getD i false = true then row.getD i 0 else if o ≤ p + i ∧ p + i < o + b.length then b.getD (p + i - o) 0 else row.getD i 0 := by
  rw [getD_lt (by rw [mixR_len]; exact h)]
  simp [mixR]
theorem mixC_get {p : Nat} {came : List Bool} {o n : Nat} {i : Nat} (h : i < came.length) : (mixC p came o n).getD i false = (came.getD i false || decide (o ≤ p + i ∧ p + i < o + n)) := by
  rw [getD_lt (by rw [mixC_len]; exact h)]
  simp [mixC]
theorem mixR_start {p : Nat} {row : List Int} {came : List Bool} {o : Nat} {b : List Int} {k : Nat} (h : k = 0 ∨ o + k ≤ p) : mixR p row came o (b.take k) = row := by
  refine ext_getD 0 (mixR_len ..) fun i hi => ?_
  rw [mixR_len] at hi
  rw [mixR_get hi]
  have hl : (b.take k).length ≤ k := by rw [List.length_take]; omega
  split
  · rfl
  · rw [if_neg (by omega)]
theorem mixC_start {p : Nat} {came : List Bool} {o k : Nat} (h : k = 0 ∨ o + k ≤ p) : mixC p came o k = came := by
  refine ext_getD false (mixC_len ..) fun i hi => ?_
  rw [mixC_len] at hi
  rw [mixC_get hi, decide_eq_false (by omega), Bool.or_false]
theorem mixC_behind {p : Nat} {came : List Bool} {o k j i : Nat} (hp : p + j = o + k) (hi : j ≤ i) : (mixC p came o k).getD i false = came.getD i false := by
  by_cases h : i < came.length
  · rw [mixC_get h, decide_eq_false (by omega), Bool.or_false]
  · rw [getD_ge (by rw [mixC_len]; omega), getD_ge (by omega)]
theorem mixR_skip {p : Nat} {row : List Int} {came : List Bool} {o : Nat} {b : List Int} {k j n : Nat} (hp : p + j = o + k) (hk : k + n ≤ b.length) (hc : ∀ i, j ≤ i → i < j + n → came.getD i false = true) :
    mixR p row came o (b.take (k + n)) = mixR p row came o (b.take k) := by
  refine ext_getD 0 (by simp [mixR_len]) fun i hi => ?_
  rw [mixR_len] at hi
  rw [mixR_get hi, mixR_get hi]
  have l1 : (b.take (k + n)).length = k + n := by rw [List.length_take]; omega
  have l2 : (b.take k).length = k := by rw [List.length_take]; omega
  rw [l1, l2]
  by_cases h : came.getD i false = true
  · rw [if_pos h, if_pos h]
  · rw [if_neg h, if_neg h]
    have hn : ¬ (j ≤ i ∧ i < j + n) := fun x => h (hc i x.1 x.2)
    by_cases h1 : o ≤ p + i ∧ p + i < o + k
    · rw [if_pos h1, if_pos ⟨h1.1, by omega⟩, getD_take _ _ _ _ (by omega), getD_take _ _ _ _ (by omega)]
    · rw [if_neg h1, if_neg (by omega)]
theorem mixC_skip {p : Nat} {came : List Bool} {o k j n : Nat} (hp : p + j = o + k) (hc : ∀ i, j ≤ i → i < j + n → came.getD i false = true) : mixC p came o (k + n) = mixC p came o k := by
  refine ext_getD false (by simp [mixC_len]) fun i hi => ?_
  rw [mixC_len] at hi
  rw [mixC_get hi, mixC_get hi]
  by_cases h : j ≤ i ∧ i < j + n
  · rw [hc i h.1 h.2]; simp
  · congr 1
    rw [decide_eq_decide]; omega
theorem mixR_fill {p : Nat} {row : List Int} {came : List Bool} {o : Nat} {b : List Int} {k j n : Nat} (hp : p + j = o + k) (hk : k + n ≤ b.length) (hj : j + n ≤ row.length) (hc : ∀ i, j ≤ i → i < j + n → came.getD i false = false) :
    mixR p row came o (b.take (k + n)) = splice (mixR p row came o (b.take k)) j ((b.drop k).take n) := by
  have l3 : ((b.drop k).take n).length = n := by rw [List.length_take, List.length_drop]; omega
  refine ext_getD 0 (by rw [length_splice _ _ _ (by rw [mixR_len, l3]; exact hj)]; simp [mixR_len]) fun i hi => ?_
  rw [mixR_len] at hi
  rw [mixR_get hi, getD_splice _ _ _ _ _ (by rw [mixR_len, l3]; exact hj), mixR_get hi]
  have l1 : (b.take (k + n)).length = k + n := by rw [List.length_take]; omega
  have l2 : (b.take k).length = k := by rw [List.length_take]; omega
  rw [l1, l2, l3]
  by_cases h : j ≤ i ∧ i < j + n
  · rw [if_pos h, hc i h.1 h.2, if_neg (by decide), if_pos (by omega), getD_take _ _ _ _ (by omega), getD_take _ _ _ _ (by omega), getD_drop]
    congr 1; omega
  · rw [if_neg h]
    split
    · rfl
    · by_cases h1 : o ≤ p + i ∧ p + i < o + k
      · rw [if_pos h1, if_pos ⟨h1.1, by omega⟩, getD_take _ _ _ _ (by omega), getD_take _ _ _ _ (by omega)]
      · rw [if_neg h1, if_neg (by omega)]
theorem mixC_fill {p : Nat} {came : List Bool} {o k j n : Nat} (hp : p + j = o + k) (hj : j + n ≤ came.length) : mixC p came o (k + n) = splice (mixC p came o k) j (List.replicate n true) := by
  refine ext_getD false (by rw [length_splice _ _ _ (by rw [mixC_len, List.length_replicate]; exact hj)]; simp [mixC_len]) fun i hi => ?_
  rw [mixC_len] at hi
  rw [mixC_get hi, getD_splice _ _ _ _ _ (by rw [mixC_len, List.length_replicate]; exact hj), mixC_get hi, List.length_replicate]
  by_cases h : j ≤ i ∧ i < j + n
  · rw [if_pos h, getD_rep _ _ _ _ (by omega), decide_eq_true (by omega), Bool.or_true]
  · rw [if_neg h]
    congr 1
    rw [decide_eq_decide]; omega

/-! ### what the calls come to -/
def takeE (q : St) (o : Nat) (b : List Int) : St := if b = [] then q else { q with row := mixR q.p q.row q.came o b, came := mixC q.p q.came o b.length, top := max q.top (o + b.length) }
def mayEndB (q : St) (x : Int) : Bool := decide ((q.top : Int) ≤ x) && (decide (x = q.e) || decide (q.e = -1))
def dataE (q : St) (off : Int) (b : List Int) (fin : Bool) : St × Int :=
  if withinB off 0 (4611686018427387903 - b.length) = false then (q, 1)
  else if q.br = true then (q, 18)
  else if (q.p + q.row.length : Int) < off + b.length then (q, 7)
  else if (q.e ≠ -1 ∧ q.e < off + b.length) ∨ (fin = true ∧ mayEndB q (off + b.length) = false) then (q, 8)
  else ({ takeE q off.toNat b with e := if fin = true then off + b.length else q.e }, 0)
def readyN (q : St) : Nat := lead true q.came
def allB (q : St) : Bool := decide (q.e ≠ -1) && decide ((q.p + readyN q : Int) = q.e)
def resetE (q : St) (x : Int) : St × Int :=
  if withinB x 0 4611686018427387903 = false then (q, 1)
  else if q.br = true ∨ allB q = true then (q, 18)
  else if (q.p + q.row.length : Int) < x then (q, 7)
  else if mayEndB q x = false then (q, 8)
  else ({ q with e := x, br := true, came := List.replicate q.came.length false }, 0)
def dropE (q : St) (m : Nat) : St := { q with row := splice q.row 0 (q.row.drop m), came := q.came.drop m ++ List.replicate m false, p := q.p + m }
def readE (q : St) (n : Int) : St × List Int := if min n (readyN q : Int) < 1 then (q, []) else (dropE q (min n (readyN q : Int)).toNat, q.row.take (min n (readyN q : Int)).toNat)
def overB (q : St) : Bool := q.br || decide ((q.p : Int) = q.e)
def fresh (n : Nat) : St := ⟨List.replicate n 0, List.replicate n false, 0, 0, -1, false⟩

structure Ok (q : St) : Prop where
  len : q.came.length = q.row.length
  low : 1 ≤ q.row.length
  few : q.row.length ≤ 4096
  pt : q.p ≤ q.top
  big : q.top ≤ 4611686018427387903
  cm : ∀ i, q.came.getD i false = true → q.p + i < q.top
  en : q.e = -1 ∨ ((q.top : Int) ≤ q.e ∧ q.e ≤ 4611686018427387903)
  bk : q.br = true → (∀ i, q.came.getD i false = false) ∧ q.e ≠ -1
theorem Ok.ready_le {q : St} (h : Ok q) : readyN q ≤ q.row.length := by have := lead_le true q.came; rw [h.len] at this; exact this
theorem fresh_ok (n : Nat) (h : 1 ≤ n) (h2 : n ≤ 4096) : Ok (fresh n) :=
  ⟨by simp [fresh], by simpa [fresh] using h, by simpa [fresh] using h2, Nat.le_refl _, by simp [fresh], fun i hi => (by simp only [fresh] at hi; rw [getD_rep'] at hi; cases hi), .inl rfl, fun h => (by cases h)⟩
theorem take_row {q : St} (o : Nat) (b : List Int) : (takeE q o b).row.length = q.row.length := by
  unfold takeE; split
  · rfl
  · exact mixR_len ..
theorem take_came {q : St} (o : Nat) (b : List Int) : (takeE q o b).came.length = q.came.length := by
  unfold takeE; split
  · rfl
  · exact mixC_len ..
theorem take_p {q : St} (o : Nat) (b : List Int) : (takeE q o b).p = q.p := by unfold takeE; split <;> rfl
theorem take_br {q : St} (o : Nat) (b : List Int) : (takeE q o b).br = q.br := by unfold takeE; split <;> rfl
theorem take_top {q : St} (o : Nat) (b : List Int) : q.top ≤ (takeE q o b).top ∧ (takeE q o b).top ≤ max q.top (o + b.length) := by
  unfold takeE; split
  · exact ⟨Nat.le_refl _, Nat.le_max_left ..⟩
  · exact ⟨Nat.le_max_left .., Nat.le_refl _⟩
theorem take_cm {q : St} (o : Nat) (b : List Int) (h : ∀ i, q.came.getD i false = true → q.p + i < q.top) : ∀ i, (takeE q o b).came.getD i false = true → q.p + i < (takeE q o b).top := by
  intro i hi
  unfold takeE at hi ⊢
  split at hi
  · rename_i hb; rw [if_pos hb]; exact h i hi
  · rename_i hb
    rw [if_neg hb]
    by_cases hl : i < q.came.length
    · simp only at hi ⊢
      rw [mixC_get hl] at hi
      simp only [Bool.or_eq_true, decide_eq_true_eq] at hi
      rcases hi with hi | hi
      · have := h i hi; omega
      · omega
    · rw [getD_ge (by simp only; rw [mixC_len]; omega)] at hi; cases hi
/-- the ways of Data -/
theorem data_ways (q : St) (off : Int) (b : List Int) (fin : Bool) :
    ((dataE q off b fin).1 = q ∧ (dataE q off b fin).2 ≠ 0) ∨
    (0 ≤ off ∧ off + b.length ≤ 4611686018427387903 ∧ q.br = false ∧ off + b.length ≤ q.p + q.row.length ∧ (q.e = -1 ∨ off + b.length ≤ q.e) ∧ (fin = true → (q.top : Int) ≤ off + b.length ∧ (off + b.length = q.e ∨ q.e = -1)) ∧
      dataE q off b fin = ({ takeE q off.toNat b with e := if fin = true then off + b.length else q.e }, 0)) := by
  unfold dataE
  by_cases h1 : withinB off 0 (4611686018427387903 - b.length) = false
  · rw [if_pos h1]; exact .inl ⟨rfl, by simp⟩
  rw [if_neg h1]
  by_cases h2 : q.br = true
  · rw [if_pos h2]; exact .inl ⟨rfl, by simp⟩
  rw [if_neg h2]
  by_cases h3 : (q.p + q.row.length : Int) < off + b.length
  · rw [if_pos h3]; exact .inl ⟨rfl, by simp⟩
  rw [if_neg h3]
  by_cases h4 : (q.e ≠ -1 ∧ q.e < off + b.length) ∨ (fin = true ∧ mayEndB q (off + b.length) = false)
  · rw [if_pos h4]; exact .inl ⟨rfl, by simp⟩
  rw [if_neg h4]
  have w := within_iff.1 (tt_of h1)
  refine .inr ⟨w.1, by omega, ff_of h2, by omega, ?_, fun hf => ?_, rfl⟩
  · by_cases he : q.e = -1
    · exact .inl he
    · exact .inr (by
        have : ¬ q.e < off + b.length := fun k => h4 (.inl ⟨he, k⟩)
        omega)
  · have : mayEndB q (off + b.length) = true := tt_of fun k => h4 (.inr ⟨hf, k⟩)
    simpa [mayEndB] using this
theorem data_ok {q : St} (h : Ok q) (off : Int) (b : List Int) (fin : Bool) : Ok (dataE q off b fin).1 := by
  rcases data_ways q off b fin with ⟨e, _⟩ | ⟨h0, h1, h2, h3, h4, h5, e⟩
  · rw [e]; exact h
  · rw [e]
    obtain ⟨t1, t2⟩ := take_top (q := q) off.toNat b
    have ho : (off.toNat : Int) = off := Int.toNat_of_nonneg h0
    refine ⟨?_, ?_, ?_, ?_, ?_, ?_, ?_, ?_⟩
    · show (takeE q off.toNat b).came.length = (takeE q off.toNat b).row.length
      rw [take_row, take_came]; exact h.len
    · show 1 ≤ (takeE q off.toNat b).row.length
      rw [take_row]; exact h.low
    · show (takeE q off.toNat b).row.length ≤ 4096
      rw [take_row]; exact h.few
    · show (takeE q off.toNat b).p ≤ (takeE q off.toNat b).top
      rw [take_p]; exact Nat.le_trans h.pt t1
    · show (takeE q off.toNat b).top ≤ _
      have := h.big; omega
    · intro i hi
      show (takeE q off.toNat b).p + i < (takeE q off.toNat b).top
      rw [take_p]
      exact take_cm off.toNat b h.cm i hi
    · show (if fin = true then off + (b.length : Int) else q.e) = -1 ∨ (((takeE q off.toNat b).top : Int) ≤ (if fin = true then off + (b.length : Int) else q.e) ∧ (if fin = true then off + (b.length : Int) else q.e) ≤ 4611686018427387903)
      by_cases hf : fin = true
      · rw [if_pos hf]
        have := h5 hf
        exact .inr ⟨by omega, by omega⟩
      · rw [if_neg hf]
        rcases h4 with h4 | h4
        · exact .inl h4
        · rcases h.en with h6 | h6
          · exact .inl h6
          · exact .inr ⟨by omega, h6.2⟩
    · intro hb
      have : (takeE q off.toNat b).br = true := hb
      rw [take_br, h2] at this; cases this
theorem reset_ways (q : St) (x : Int) :
    ((resetE q x).1 = q ∧ (resetE q x).2 ≠ 0) ∨
    (0 ≤ x ∧ x ≤ 4611686018427387903 ∧ q.br = false ∧ allB q = false ∧ x ≤ q.p + q.row.length ∧ (q.top : Int) ≤ x ∧ (x = q.e ∨ q.e = -1) ∧ resetE q x = ({ q with e := x, br := true, came := List.replicate q.came.length false }, 0)) := by
  unfold resetE
  by_cases h1 : withinB x 0 4611686018427387903 = false
  · rw [if_pos h1]; exact .inl ⟨rfl, by simp⟩
  rw [if_neg h1]
  by_cases h2 : q.br = true ∨ allB q = true
  · rw [if_pos h2]; exact .inl ⟨rfl, by simp⟩
  rw [if_neg h2]
  by_cases h3 : (q.p + q.row.length : Int) < x
  · rw [if_pos h3]; exact .inl ⟨rfl, by simp⟩
  rw [if_neg h3]
  by_cases h4 : mayEndB q x = false
  · rw [if_pos h4]; exact .inl ⟨rfl, by simp⟩
  rw [if_neg h4]
  have w := within_iff.1 (tt_of h1)
  have m : (q.top : Int) ≤ x ∧ (x = q.e ∨ q.e = -1) := by
    have := tt_of h4
    simpa [mayEndB] using this
  exact .inr ⟨w.1, w.2, ff_of fun k => h2 (.inl k), ff_of fun k => h2 (.inr k), by omega, m.1, m.2, rfl⟩
theorem reset_ok {q : St} (h : Ok q) (x : Int) : Ok (resetE q x).1 := by
  rcases reset_ways q x with ⟨e, _⟩ | ⟨h0, h1, h2, _, h3, h4, h5, e⟩
  · rw [e]; exact h
  · rw [e]
    exact ⟨by simp [h.len], h.low, h.few, h.pt, h.big, fun i hi => (by simp only at hi; rw [getD_rep'] at hi; cases hi), .inr ⟨h4, h1⟩, fun _ => ⟨fun i => getD_rep' _ _ _, (by simp only; omega)⟩⟩
theorem drop_ok {q : St} (h : Ok q) (m : Nat) (hm : 1 ≤ m) (hr : m ≤ readyN q) : Ok (dropE q m) := by
  have hl := h.ready_le
  have hlast := h.cm (m - 1) (lead_lt true false q.came (m - 1) (by unfold readyN at hr; omega))
  refine ⟨?_, ?_, ?_, ?_, h.big, ?_, h.en, ?_⟩
  · show (q.came.drop m ++ List.replicate m false).length = (splice q.row 0 (q.row.drop m)).length
    rw [length_splice _ _ _ (by rw [List.length_drop]; omega), List.length_append, List.length_drop, List.length_replicate, h.len]; omega
  · show 1 ≤ (splice q.row 0 (q.row.drop m)).length
    rw [length_splice _ _ _ (by rw [List.length_drop]; omega)]; exact h.low
  · show (splice q.row 0 (q.row.drop m)).length ≤ 4096
    rw [length_splice _ _ _ (by rw [List.length_drop]; omega)]; exact h.few
  · show q.p + m ≤ q.top
    omega
  · intro i hi
    show q.p + m + i < q.top
    have hi' : (q.came.drop m ++ List.replicate m false).getD i false = true := hi
    rw [getD_app] at hi'
    split at hi'
    · rw [getD_drop] at hi'
      have := h.cm _ hi'; omega
    · rw [getD_rep'] at hi'; cases hi'
  · intro hb
    have hb' : q.br = true := hb
    have := (h.bk hb').1 (m - 1)
    have h2 := lead_lt true false q.came (m - 1) (by unfold readyN at hr; omega)
    rw [this] at h2; cases h2
theorem read_ways (q : St) (n : Int) :
    (readE q n = (q, []) ∧ min n (readyN q : Int) < 1) ∨ ∃ m : Nat, 1 ≤ m ∧ m ≤ readyN q ∧ (m : Int) ≤ n ∧ (m : Int) = min n (readyN q : Int) ∧ readE q n = (dropE q m, q.row.take m) := by
  unfold readE
  by_cases h : min n (readyN q : Int) < 1
  · rw [if_pos h]; exact .inl ⟨rfl, h⟩
  · rw [if_neg h]
    exact .inr ⟨(min n (readyN q : Int)).toNat, by omega, by omega, by omega, by omega, rfl⟩
theorem read_ok {q : St} (h : Ok q) (n : Int) : Ok (readE q n).1 := by
  rcases read_ways q n with ⟨e, _⟩ | ⟨m, h1, h2, _, _, e⟩
  · rw [e]; exact h
  · rw [e]; exact drop_ok h m h1 h2

/-! ### once over -/
theorem over_ready {q : St} (h : Ok q) (ho : overB q = true) : readyN q = 0 := by
  refine lead_is true q.came 0 (Nat.zero_le _) (fun i hi => by omega) (fun _ hc => ?_)
  unfold overB at ho
  cases hb : q.br
  · rw [hb, Bool.false_or, decide_eq_true_eq] at ho
    have h1 := h.cm 0 hc
    rcases h.en with h2 | h2 <;> omega
  · rw [(h.bk hb).1 0] at hc; cases hc
theorem over_known {q : St} (h : Ok q) (ho : overB q = true) : q.e ≠ -1 := by
  unfold overB at ho
  cases hb : q.br
  · rw [hb, Bool.false_or, decide_eq_true_eq] at ho; omega
  · exact (h.bk hb).2
theorem over_read {q : St} (h : Ok q) (ho : overB q = true) (n : Int) : readE q n = (q, []) := by
  unfold readE
  rw [over_ready h ho, if_pos (by omega)]
theorem over_reset {q : St} (h : Ok q) (ho : overB q = true) (x : Int) : (resetE q x).1 = q := by
  rcases reset_ways q x with ⟨e, _⟩ | ⟨_, _, h2, h3, _⟩
  · exact e
  · have hk := over_known h ho
    unfold overB at ho
    rw [h2, Bool.false_or, decide_eq_true_eq] at ho
    have hr := over_ready h (by unfold overB; rw [h2, Bool.false_or, decide_eq_true_eq]; exact ho)
    unfold allB at h3
    rw [hr, decide_eq_true hk, Bool.true_and, decide_eq_false_iff_not] at h3
    omega
theorem over_data {q : St} (h : Ok q) (ho : overB q = true) (off : Int) (b : List Int) (fin : Bool) : (dataE q off b fin).1.p = q.p ∧ (dataE q off b fin).1.br = q.br ∧ (dataE q off b fin).1.e = q.e := by
  have hk := over_known h ho
  rcases data_ways q off b fin with ⟨e, _⟩ | ⟨h0, h1, h2, h3, h4, h5, e⟩
  · rw [e]; exact ⟨rfl, rfl, rfl⟩
  · rw [e]
    refine ⟨take_p _ _, take_br _ _, ?_⟩
    show (if fin = true then off + (b.length : Int) else q.e) = q.e
    by_cases hf : fin = true
    · rw [if_pos hf]
      have := h5 hf
      rcases this.2 with h6 | h6
      · exact h6
      · exact absurd h6 hk
    · rw [if_neg hf]
end Go.Proofs.Ytgckidgkimgpeaa
