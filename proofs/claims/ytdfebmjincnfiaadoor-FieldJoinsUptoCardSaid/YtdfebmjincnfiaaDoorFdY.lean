/- Layer 17: the law that values one behind the other have the elements of all. -/
import Derived.Test.YtdfebmjincnfiaaDoorFdV
import Derived.Test.YtdfebmjincnfiaaDoorFdG
set_option maxRecDepth 100000
set_option linter.unusedSimpArgs false
set_option linter.unusedVariables false
namespace Go.Proofs.YtdfebmjincnfiaaDoor
open Go.RowKit

/-- how many bytes texts have -/
def tot (vs : List (List UInt8)) : Nat := (vs.map List.length).sum
theorem tot_cons (v : List UInt8) (vs : List (List UInt8)) : tot (v :: vs) = v.length + tot vs := by simp [tot]
theorem tot_app (a b : List (List UInt8)) : tot (a ++ b) = tot a + tot b := by simp [tot]
theorem tot_mem {vs : List (List UInt8)} {v : List UInt8} (h : v ∈ vs) : v.length ≤ tot vs := by
  induction vs with
  | nil => cases h
  | cons x vs ih =>
    rw [tot_cons]
    rcases List.mem_cons.1 h with rfl | h
    · omega
    · have := ih h; omega
theorem one_tot : ∀ (n : Nat) (l : List UInt8), l.length = n → (oneE l).length ≤ l.length ∧ tot (oneE l) ≤ l.length := by
  intro n
  induction n using Nat.strongRecOn with
  | _ n ih =>
    intro l hn
    by_cases h0 : l = []
    · subst h0
      exact ⟨Nat.le_refl _, Nat.le_refl _⟩
    · have hp : 0 < l.length := List.length_pos_iff.2 h0
      have he := endE_le l 0
      obtain ⟨h1, h2⟩ := ih (l.drop (endE 0 l + 1)).length (by rw [List.length_drop]; omega) _ rfl
      rw [List.length_drop] at h1 h2
      rw [one_cut, List.length_append, tot_app]
      have h3 : (elem (l.take (endE 0 l))).length ≤ 1 ∧ (elem (l.take (endE 0 l))).length ≤ endE 0 l ∧ tot (elem (l.take (endE 0 l))) ≤ endE 0 l := by
        have h4 := trim_len (l.take (endE 0 l))
        rw [List.length_take] at h4
        unfold elem
        split
        · simp [tot]
        · rename_i hne
          have h5 : 0 < (trim (l.take (endE 0 l))).length := List.length_pos_iff.2 hne
          simp only [List.length_cons, List.length_nil, tot_cons]
          refine ⟨by omega, by omega, ?_⟩
          simp only [tot, List.map_nil, List.sum_nil]
          omega
      omega
theorem all_tot (vs : List (List UInt8)) : (allE vs).length ≤ tot vs ∧ tot (allE vs) ≤ tot vs := by
  induction vs with
  | nil => exact ⟨Nat.le_refl _, Nat.le_refl _⟩
  | cons v vs ih =>
    have h := one_tot _ v rfl
    show (oneE v ++ allE vs).length ≤ _ ∧ tot (oneE v ++ allE vs) ≤ _
    rw [List.length_append, tot_app, tot_cons]
    omega
theorem join_snoc (xs : List (List UInt8)) (x : List UInt8) (h : xs ≠ []) : joinE (xs ++ [x]) = joinE xs ++ sepE ++ x := by
  induction xs with
  | nil => exact absurd rfl h
  | cons y xs ih =>
    cases xs with
    | nil => simp [joinE]
    | cons z xs =>
      have := ih (by simp)
      show y ++ sepE ++ joinE (z :: xs ++ [x]) = y ++ sepE ++ joinE (z :: xs) ++ sepE ++ x
      rw [this]
      simp
theorem join_len (xs : List (List UInt8)) : (joinE xs).length ≤ tot xs + 4 * xs.length := by
  induction xs with
  | nil => simp [joinE]
  | cons y xs ih =>
    cases xs with
    | nil => simp [joinE, tot]
    | cons z xs =>
      show (y ++ sepE ++ joinE (z :: xs)).length ≤ _
      rw [tot_cons, List.length_append, List.length_append, List.length_cons]
      have : sepE.length = 4 := rfl
      omega
theorem tot_take (xs : List (List UInt8)) (k : Nat) : tot (xs.take k) ≤ tot xs := by
  have := tot_app (xs.take k) (xs.drop k)
  rw [List.take_append_drop] at this
  omega
theorem fin_snoc (l : List UInt8) (b : UInt8) (q : Nat) : fin q (l ++ [b]) = nxt (fin q l) b := by rw [fin_app]; rfl
/-- what the law's inner loop knows: behind j bytes, whether a quoted string is open -/
structure Opn (e : List UInt8) (j : Nat) (o : Bool) : Prop where
  le : j ≤ e.length + 1
  is : j ≤ e.length → fin 0 (e.take j) = if o = true then 1 else 0
  past : e.length < j → o = true ∧ fin 0 e = 2
theorem Opn.done {e : List UInt8} {j : Nat} {o : Bool} (h : Opn e j o) (hj : ¬ j < e.length) : o = false → fin 0 e = 0 := by
  intro ho
  subst ho
  rcases Nat.lt_or_ge e.length j with h1 | h1
  · have := (h.past h1).1; cases this
  · have := h.is h1
    rw [List.take_of_length_le (by omega)] at this
    simpa using this
theorem Opn.step {e : List UInt8} {j : Nat} {o : Bool} (h : Opn e j o) (hj : j < e.length) (hn : ¬ (o = true ∧ e[j] = 92)) : Opn e (j + 1) (if e[j] = 34 then !o else o) := by
  refine ⟨by omega, fun _ => ?_, fun h' => by omega⟩
  rw [take_more hj, fin_snoc, h.is (by omega)]
  unfold nxt
  cases o
  · simp
  · have h92 : e[j] ≠ 92 := fun e' => hn ⟨rfl, e'⟩
    by_cases h34 : e[j] = 34
    · simp [h34]
    · simp [h92, h34]
theorem Opn.skip {e : List UInt8} {j : Nat} (h : Opn e j true) (hj : j < e.length) (hb : e[j] = 92) : Opn e (j + 1 + 1) true := by
  have h1 : fin 0 (e.take (j + 1)) = 2 := by
    rw [take_more hj, fin_snoc, h.is (by omega), hb]
    rfl
  refine ⟨by omega, fun h2 => ?_, fun h2 => ⟨rfl, ?_⟩⟩
  · have h3 : j + 1 < e.length := by omega
    rw [take_more h3, fin_snoc, h1]
    rfl
  · have : e.take (j + 1) = e := List.take_of_length_le (by omega)
    rw [this] at h1
    exact h1
end Go.Proofs.YtdfebmjincnfiaaDoor
