/- What the bound of a second statement gives: no slice that came in is longer than it. -/
import Derived.Test.YtdfebmjincnfiaaDoorLift
namespace Go.Proofs.YtdfebmjincnfiaaDoor
theorem bulk_one {H : Type} (d : DataW H) : 1 ≤ Rows.uptoBulk d := by
  cases d with
  | lit l => cases l <;> simp [Rows.uptoBulk]
  | nil => simp [Rows.uptoBulk]
  | ptr d => simp [Rows.uptoBulk]
  | slice elems spare => simp [Rows.uptoBulk]
  | agg parts => simp [Rows.uptoBulk]
  | iface t d => simp [Rows.uptoBulk]
  | map entries => simp [Rows.uptoBulk]
  | held h => simp [Rows.uptoBulk]
theorem bulk_mem {H : Type} {d : DataW H} : ∀ {l : List (DataW H)}, d ∈ l → Rows.uptoBulk d ≤ Rows.uptoBulkAll l
  | x :: r, h => by
    simp only [Rows.uptoBulkAll]
    rcases List.mem_cons.1 h with e | e
    · subst e; omega
    · have := bulk_mem e; omega
theorem bulk_length {H : Type} : ∀ (l : List (DataW H)), l.length ≤ Rows.uptoBulkAll l
  | [] => by simp [Rows.uptoBulkAll]
  | x :: r => by have := bulk_one x; have := bulk_length r; simp only [Rows.uptoBulkAll, List.length_cons]; omega
theorem bulk_bound {H : Type} {l : List (DataW H)} (h : Rows.uptoSmall H l = true) : Rows.uptoBulkAll l ≤ 1048576 := of_decide_eq_true h
/-- numbers that came in: not more than the bound -/
theorem bulk_nums {H : Type} {k : IntKind} {l : List (DataW H)} {d : DataW H} {xs : List Int} (h : Rows.uptoSmall H l = true) (hd : d ∈ l) (hx : (xs = [] ∧ d = .nil) ∨ ∃ rest, d = .slice (ChangeShapes.lits k xs) (ChangeShapes.lits k rest)) : xs.length ≤ 1048576 := by
  rcases hx with ⟨rfl, _⟩ | ⟨rest, rfl⟩
  · simp
  · have h1 := bulk_bound h
    have h2 := bulk_mem hd
    have h3 := bulk_length (ChangeShapes.lits (H := H) k xs)
    simp only [Rows.uptoBulk] at h2
    simp only [ChangeShapes.lits, List.length_map] at h3
    simp only [ChangeShapes.lits] at h2
    omega
/-- a text that came in: not longer than the bound -/
theorem bulk_str {H : Type} {l : List (DataW H)} {bs : List UInt8} (h : Rows.uptoSmall H l = true) (hd : (DataW.lit (.string bs) : DataW H) ∈ l) : bs.length ≤ 1048576 := by
  have h1 := bulk_bound h
  have h2 := bulk_mem hd
  simp only [Rows.uptoBulk] at h2
  omega
end Go.Proofs.YtdfebmjincnfiaaDoor
