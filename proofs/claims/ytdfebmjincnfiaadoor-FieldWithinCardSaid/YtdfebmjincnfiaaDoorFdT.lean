/- The mathematics of layer 17: tags, and matching. -/
import Derived.Test.YtdfebmjincnfiaaDoorFdM
set_option linter.unusedSimpArgs false
set_option linter.unusedVariables false
namespace Go.Proofs.YtdfebmjincnfiaaDoor
open Go.RowKit

/-- a byte within a tag -/
def tagB (b : UInt8) : Bool := decide (33 ≤ b) && (decide (b ≤ 126) && !(b == 34))
/-- a tag's text without what tells that it is weak -/
def strongT (t : List UInt8) : Bool := match t with
  | 34 :: r => match r.reverse with
    | 34 :: m => m.all tagB
    | _ => false
  | _ => false
/-- what stands in a tag, and whether it is weak -/
def tagE (mx : Nat) (s : List UInt8) : Option (List UInt8 × Bool) :=
  if s.length ≤ mx then
    match s with
    | 87 :: 47 :: t => if strongT t then some (t, true) else none
    | t => if strongT t then some (t, false) else none
  else none
def matchE (mx : Nat) (vs : List (List UInt8)) (tag : List UInt8) (weak : Bool) : Bool :=
  match tagE mx tag with
  | none => false
  | some (a, u) => (allE vs).any fun e => e == [42] || (match tagE mx e with
    | none => false
    | some (b, v) => a == b && (weak || (!u && !v)))

theorem strong_is {t : List UInt8} (h : strongT t = true) : ∃ m, t = 34 :: (m ++ [34]) ∧ ∀ b ∈ m, tagB b = true := by
  unfold strongT at h
  split at h
  · rename_i r
    split at h
    · rename_i m hm
      have e : r = m.reverse ++ [34] := by
        have := congrArg List.reverse hm
        rw [List.reverse_reverse, List.reverse_cons] at this
        exact this
      exact ⟨m.reverse, by rw [e], fun b hb => List.all_eq_true.1 h b (by simpa using hb)⟩
    · cases h
  · cases h
/-- within a tag nothing leaves the quoted string -/
theorem inner_clean : ∀ (m : List UInt8) (q : Nat), (q = 1 ∨ q = 2) → (∀ b ∈ m, tagB b = true) → clean q (m ++ [34]) = true := by
  intro m
  induction m with
  | nil =>
    intro q hq _
    rcases hq with rfl | rfl <;> rfl
  | cons b m ih =>
    intro q hq h
    have hb := h b (by simp)
    have hne : b ≠ 34 := by
      intro e
      subst e
      exact absurd hb (by decide)
    rw [List.cons_append, clean, Bool.and_eq_true]
    refine ⟨by rcases hq with rfl | rfl <;> rfl, ih _ ?_ (fun c hc => h c (by simp [hc]))⟩
    rcases hq with rfl | rfl
    · unfold nxt
      rw [if_neg (by decide), if_pos rfl]
      by_cases h92 : b = 92
      · rw [if_pos h92]; exact .inr rfl
      · rw [if_neg h92, if_neg hne]; exact .inl rfl
    · exact .inl rfl
theorem one_whole {p m : List UInt8} (hp : p = [] ∨ p = [87, 47]) (hm : ∀ b ∈ m, tagB b = true) : oneE (p ++ 34 :: (m ++ [34])) = [p ++ 34 :: (m ++ [34])] := by
  have hc : clean 0 (p ++ 34 :: (m ++ [34])) = true := by
    have h1 : clean 1 (m ++ [34]) = true := inner_clean m 1 (.inl rfl) hm
    rcases hp with rfl | rfl
    · exact h1
    · exact h1
  have g := go_clean (p ++ 34 :: (m ++ [34])) [] [] 0 hc
  rw [List.append_nil] at g
  rw [oneE, g, goE, List.nil_append]
  have h1 : solid (p ++ 34 :: (m ++ [34])) := by
    intro b r h
    rcases hp with rfl | rfl
    · simp only [List.nil_append, List.cons.injEq] at h
      rw [← h.1]; decide
    · simp only [List.cons_append, List.cons.injEq] at h
      rw [← h.1]; decide
  have h2 : solid (p ++ 34 :: (m ++ [34])).reverse := by
    intro b r h
    have e : (p ++ 34 :: (m ++ [34])).reverse = 34 :: (p ++ 34 :: m).reverse := by
      rw [← List.cons_append, ← List.append_assoc, List.reverse_append]
      rfl
    rw [e] at h
    simp only [List.cons.injEq] at h
    rw [← h.1]; decide
  have := elem_around (p := []) (s := []) (by simp) (by simp) h1 h2 (by rcases hp with rfl | rfl <;> simp)
  rwa [List.nil_append, List.append_nil] at this
/-- a tag is one element -/
theorem one_tag {mx : Nat} {s t : List UInt8} {w : Bool} (h : tagE mx s = some (t, w)) : oneE s = [s] := by
  unfold tagE at h
  split at h
  · split at h
    · split at h
      · rename_i t' hs
        obtain ⟨m, e, hm⟩ := strong_is hs
        rw [e]
        exact one_whole (p := [87, 47]) (.inr rfl) hm
      · cases h
    · split at h
      · rename_i hs
        obtain ⟨m, e, hm⟩ := strong_is hs
        rw [e]
        exact one_whole (p := []) (.inl rfl) hm
      · cases h
  · cases h
theorem tag_not_star {mx : Nat} : tagE mx [42] = none := by
  unfold tagE
  split
  · rfl
  · rfl
theorem match_one {mx : Nat} {a b x y : List UInt8} {u v weak : Bool} (ha : tagE mx a = some (x, u)) (hb : tagE mx b = some (y, v)) : matchE mx [a] b weak = (y == x && (weak || (!v && !u))) := by
  have h1 : allE [a] = [a] := by
    show oneE a ++ [] = [a]
    rw [one_tag ha]; rfl
  have h2 : (a == [42]) = false := by
    rw [beq_eq_false_iff_ne]
    intro e
    rw [e, tag_not_star] at ha
    cases ha
  simp only [matchE, hb, h1, List.any_cons, List.any_nil, Bool.or_false, h2, Bool.false_or, ha]
/-- P17.7 -/
theorem match_even {mx : Nat} {a b x y : List UInt8} {u v weak : Bool} (ha : tagE mx a = some (x, u)) (hb : tagE mx b = some (y, v)) : matchE mx [a] b weak = matchE mx [b] a weak := by
  rw [match_one ha hb, match_one hb ha]
  have : (y == x) = (x == y) := by
    rw [Bool.eq_iff_iff, beq_iff_eq, beq_iff_eq]
    exact eq_comm
  rw [this]
  cases u <;> cases v <;> cases weak <;> rfl
theorem match_more {mx : Nat} {vs : List (List UInt8)} {tag : List UInt8} (h : matchE mx vs tag false = true) : matchE mx vs tag true = true := by
  unfold matchE at h ⊢
  cases ht : tagE mx tag with
  | none => rw [ht] at h; exact h
  | some p =>
    obtain ⟨a, u⟩ := p
    rw [ht] at h
    simp only [List.any_eq_true] at h ⊢
    obtain ⟨e, he, h⟩ := h
    refine ⟨e, he, ?_⟩
    rw [Bool.or_eq_true] at h ⊢
    rcases h with h | h
    · exact .inl h
    · right
      cases hq : tagE mx e with
      | none => rw [hq] at h; exact h
      | some p =>
        obtain ⟨b, v⟩ := p
        rw [hq] at h
        simp only [Bool.and_eq_true] at h ⊢
        exact ⟨h.1, rfl⟩
end Go.Proofs.YtdfebmjincnfiaaDoor
