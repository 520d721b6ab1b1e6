/- Walks of layer 8: times and waits; what stays in the world; a ledger in the world; New, made, Largest. -/
import Derived.Test.YtobalbaieakcmaaSnP
import Derived.BigQuiet
import Derived.Laws.Cover3
set_option linter.unusedSimpArgs false
set_option linter.unusedVariables false
namespace Go.Proofs.Ytobalbaieakcmaa
open Go.RowKit Go.Maps

theorem within_any (n a b : Int) (w : World) :
    Calls Try.prog 27 #[.int .i64 n, .int .i64 a, .int .i64 b] w fun e w' => e = .returned (.bool (withinB n a b)) ∧ w' = w := by
  by_cases h1 : a ≤ n
  · have e1 : decide (a ≤ n) = true := decide_eq_true h1
    have e3 : withinB n a b = decide (n ≤ b) := by simp [withinB, h1]
    rw [e3]
    clear e3
    go_enter Try.func27, Try.ntmps27
    go_wp2
    go_ret
    exact ⟨rfl, rfl⟩
  · have e1 : decide (a ≤ n) = false := decide_eq_false h1
    have e3 : withinB n a b = false := by simp [withinB, h1]
    rw [e3]
    clear h1 e3
    go_enter Try.func27, Try.ntmps27
    go_wp2
    go_ret
    exact ⟨rfl, rfl⟩
theorem within_b (n a b : Int) (r : Bool) (hr : withinB n a b = r) (w : World) : Calls Try.prog 27 #[.int .i64 n, .int .i64 a, .int .i64 b] w fun e w' => e = .returned (.bool r) ∧ w' = w := hr ▸ within_any n a b w
theorem mayNow_b (n : Int) (r : Bool) (hr : nowB n = r) (w : World) : Calls Try.prog 28 #[.int .i64 n] w fun e w' => e = .returned (.bool r) ∧ w' = w := by
  have H := Lib.hid hr
  clear hr
  go_enter Try.func28, Try.ntmps28
  go_wp2_with (go_at_call 27; refine (within_b _ _ _ _ H.out _).mono ?_; rintro e w2 ⟨rfl, rfl⟩)
  go_ret
  exact ⟨rfl, rfl⟩
theorem mayWait_b (n : Int) (r : Bool) (hr : waitB n = r) (w : World) : Calls Try.prog 31 #[.int .i64 n] w fun e w' => e = .returned (.bool r) ∧ w' = w := by
  have H := Lib.hid hr
  clear hr
  go_enter Try.func31, Try.ntmps31
  go_wp2_with (go_at_call 27; refine (within_b _ _ _ _ H.out _).mono ?_; rintro e w2 ⟨rfl, rfl⟩)
  go_ret
  exact ⟨rfl, rfl⟩
theorem time_b (n : Int) (r : Bool) (hr : nowB n = r) (w : World) : Calls Try.prog 29 #[.int .i64 n] w fun e w' => e = .returned (.bool r) ∧ w' = w := by
  subst hr
  by_cases h1 : 0 ≤ n
  · have e1 : decide (n ≥ 0) = true := decide_eq_true h1
    have e3 : nowB n = decide (n ≤ 1099511627776) := by simp [nowB, withinB, h1]
    rw [e3]
    clear e3
    go_enter Try.func29, Try.ntmps29
    go_wp2
    go_ret
    exact ⟨rfl, rfl⟩
  · have e1 : decide (n ≥ 0) = false := decide_eq_false h1
    have e3 : nowB n = false := by simp [nowB, withinB, h1]
    rw [e3]
    clear h1 e3
    go_enter Try.func29, Try.ntmps29
    go_wp2
    go_ret
    exact ⟨rfl, rfl⟩
theorem waits_b (n m : Int) (r : Bool) (hr : waitsB n m = r) (w : World) : Calls Try.prog 36 #[.int .i64 n, .int .i64 m] w fun e w' => e = .returned (.bool r) ∧ w' = w := by
  subst hr
  cases h1 : nowB n
  · have H := Lib.hid h1
    have e : waitsB n m = false := by simp [waitsB, h1]
    rw [e]
    clear e h1
    go_enter Try.func36, Try.ntmps36
    go_wp2_with (go_at_call 29; refine (time_b _ _ H.out _).mono ?_; rintro e w2 ⟨rfl, rfl⟩)
    go_ret
    exact ⟨rfl, rfl⟩
  · have H := Lib.hid h1
    by_cases h2 : 1 ≤ m
    · have e1 : decide (m ≥ 1) = true := decide_eq_true h2
      have e : waitsB n m = decide (m ≤ 1099511627776) := by simp [waitsB, h1, waitB, withinB, h2]
      rw [e]
      clear e h1 h2
      go_enter Try.func36, Try.ntmps36
      go_wp2_with (go_at_call 29; refine (time_b _ _ H.out _).mono ?_; rintro e w2 ⟨rfl, rfl⟩)
      go_ret
      exact ⟨rfl, rfl⟩
    · have e1 : decide (m ≥ 1) = false := decide_eq_false h2
      have e : waitsB n m = false := by simp [waitsB, waitB, withinB, h2]
      rw [e]
      clear e h1 h2
      go_enter Try.func36, Try.ntmps36
      go_wp2_with (go_at_call 29; refine (time_b _ _ H.out _).mono ?_; rintro e w2 ⟨rfl, rfl⟩)
      go_ret
      exact ⟨rfl, rfl⟩

theorem neqMap (w : World) (m : Option Nat) : (binOp .neq 56 (.map m) (.map none)).run Try.prog w = .ok (.bool (!m.isNone)) w := run_neq_map_nil w _ _ _ m Try.underlying56

/-! ### what stays -/
/-- nothing that was there has turned but the blocks of S -/
structure Keep (S : List Nat) (w w' : World) : Prop where
  os : w'.os = w.os
  tape : w'.tape = w.tape
  output : w'.output = w.output
  size : w.heap.size ≤ w'.heap.size
  block : ∀ i, i < w.heap.size → i ∉ S → w'.heap[i]? = w.heap[i]?
theorem Keep.refl (S : List Nat) (w : World) : Keep S w w := ⟨rfl, rfl, rfl, Nat.le_refl _, fun _ _ _ => rfl⟩
theorem Keep.of_below {S : List Nat} {w w' : World} (h : Below w.heap.size w w') : Keep S w w' := ⟨h.os, h.tape, h.output, h.size, fun i hi _ => h.block i hi⟩
theorem Keep.of_grown {S : List Nat} {w w' : World} {row : Option Nat} (h : w.grownBy w' row) (hr : ∀ j, row = some j → j ∈ S ∨ w.heap.size ≤ j) : Keep S w w' :=
  ⟨h.os, h.tape, h.output, h.size, fun i hi hn => h.block i hi fun e => by
    rcases hr i e.symm with h1 | h1
    · exact hn h1
    · omega⟩
theorem Keep.trans {S S' : List Nat} {a b c : World} (h : Keep S a b) (k : Keep S' b c) (hs : ∀ i ∈ S', i ∈ S ∨ a.heap.size ≤ i) : Keep S a c :=
  ⟨k.os.trans h.os, k.tape.trans h.tape, k.output.trans h.output, Nat.le_trans h.size k.size, fun i hi hn =>
    (k.block i (Nat.lt_of_lt_of_le hi h.size) fun hm => by
      rcases hs i hm with h1 | h1
      · exact hn h1
      · omega).trans (h.block i hi hn)⟩
theorem Keep.to_below {S : List Nat} {w w' : World} {B : Nat} (h : Keep S w w') (hs : ∀ i ∈ S, B ≤ i) (hB : B ≤ w.heap.size) : Below B w w' :=
  ⟨h.os, h.tape, h.output, h.size, fun i hi => h.block i (by omega) fun hm => by have := hs i hm; omega⟩
theorem Keep.then_below {S : List Nat} {a b c : World} (h : Keep S a b) (k : Below b.heap.size b c) : Keep S a c := h.trans (Keep.of_below (S := []) k) (fun i hi => by cases hi)
theorem Keep.cell {S : List Nat} {w w' : World} (h : Keep S w w') {p : Addr} {v : Value} (hc : w.cell? p = some v) (hp : p.block ∉ S) : w'.cell? p = some v := by
  have hl : p.block < w.heap.size := by
    simp only [World.cell?] at hc
    cases hg : w.heap[p.block]? with
    | none => rw [hg] at hc; cases hc
    | some o => exact (Array.getElem?_eq_some_iff.1 hg).1
  have e := h.block p.block hl hp
  simp only [World.cell?] at hc ⊢
  rw [e]; exact hc
theorem OwnP.keep {T : TypeId} {S : List Nat} {w w' : World} {B : Nat} {v : Value} {l : List Pk} (h : OwnP T w B v l) (k : Keep S w w') (hn : ∀ j, v.ownBlock = some j → j ∉ S) : OwnP T w' B v l :=
  h.block fun j hj => k.block j (h.blt j hj) (hn j hj)
theorem Mp.keep {S : List Nat} {w w' : World} {mb : Nat} {l : List Pk} (h : Mp w mb l) (k : Keep S w w') (hn : mb ∉ S) : Mp w' mb l := h.block (k.block mb h.lt hn)
theorem RdC.keep {S : List Nat} {m n : Nat} {w w' : World} {v : Value} {fl : List Value} (h : RdC m w v n fl) (k : Keep S w w') (hn : ∀ j, v.ownBlock = some j → j ∉ S) : RdC m w' v n fl := by
  obtain ⟨h0, h | ⟨h1, b, o, c, rfl, h2, h3, h4, h5⟩⟩ := h
  · exact ⟨h0, .inl h⟩
  · exact ⟨h0, .inr ⟨h1, b, o, c, rfl, h2, h3, Nat.lt_of_lt_of_le h4 k.size, fun j u hu => k.cell (h5 j u hu) (hn b rfl)⟩⟩

/-! ### a ledger in the world -/
/-- block b holds a ledger's fields, its map in block mb -/
def LedC (b mb : Nat) (last time big : Int) (w : World) : Prop := ∃ T, w.heap[b]? = some (.cells #[.map (some mb), .int .i64 last, .int .i64 time, .int .i64 big] T (0, 0))
structure Led (b mb : Nat) (q : Lg) (w : World) : Prop where
  row : LedC b mb q.last q.time q.big w
  map : Mp w mb q.l
theorem LedC.lt {b mb : Nat} {x y z : Int} {w : World} (h : LedC b mb x y z w) : b < w.heap.size := by
  obtain ⟨T, e⟩ := h
  exact (Array.getElem?_eq_some_iff.1 e).1
theorem LedC.block {b mb : Nat} {x y z : Int} {w w' : World} (h : LedC b mb x y z w) (e : w'.heap[b]? = w.heap[b]?) : LedC b mb x y z w' := by
  obtain ⟨T, h⟩ := h
  exact ⟨T, e.trans h⟩
theorem LedC.grown {b mb : Nat} {x y z : Int} {w w' : World} {row : Option Nat} (h : LedC b mb x y z w) (hg : w.grownBy w' row) (hne : some b ≠ row) : LedC b mb x y z w' := h.block (hg.block b h.lt hne)
theorem LedC.below {b mb : Nat} {x y z : Int} {w w' : World} (h : LedC b mb x y z w) (hb : Below w.heap.size w w') : LedC b mb x y z w' := h.block (hb.block b h.lt)
theorem LedC.facts {b mb : Nat} {x y z : Int} {w : World} (h : LedC b mb x y z w) :
    w.cell? ⟨b, 0, none⟩ = some (.map (some mb)) ∧ w.cell? ⟨b, 1, none⟩ = some (.int .i64 x) ∧ w.cell? ⟨b, 2, none⟩ = some (.int .i64 y) ∧ w.cell? ⟨b, 3, none⟩ = some (.int .i64 z) := by
  obtain ⟨T, e⟩ := h
  simp [World.cell?, e]
theorem LedC.free {b mb : Nat} {x y z : Int} {w : World} (h : LedC b mb x y z w) :
    w.frozen? ⟨b, 0, none⟩ = false ∧ w.frozen? ⟨b, 1, none⟩ = false ∧ w.frozen? ⟨b, 2, none⟩ = false ∧ w.frozen? ⟨b, 3, none⟩ = false := by
  obtain ⟨T, e⟩ := h
  simp [World.frozen?, e]
theorem LedC.set {b mb : Nat} {x y z : Int} {w : World} (h : LedC b mb x y z w) (x' y' : Int) : LedC b mb x' y' z ((w.setCell ⟨b, 1, none⟩ (.int .i64 x')).setCell ⟨b, 2, none⟩ (.int .i64 y')) := by
  obtain ⟨T, e⟩ := h
  exact ⟨T, by simp [World.setCell, Array.getElem?_modify, e]⟩
theorem LedC.set3 {b mb : Nat} {x y z : Int} {w : World} (h : LedC b mb x y z w) (z' : Int) : LedC b mb x y z' (w.setCell ⟨b, 3, none⟩ (.int .i64 z')) := by
  obtain ⟨T, e⟩ := h
  exact ⟨T, by simp [World.setCell, Array.getElem?_modify, e]⟩
theorem Led.ne {b mb : Nat} {q : Lg} {w : World} (h : Led b mb q w) : b ≠ mb := by
  obtain ⟨⟨T, e⟩, es, clock, h1, _⟩ := h
  intro k
  rw [k, h1] at e; cases e
theorem Led.keep {S : List Nat} {b mb : Nat} {q : Lg} {w w' : World} (h : Led b mb q w) (k : Keep S w w') (h1 : b ∉ S) (h2 : mb ∉ S) : Led b mb q w' := ⟨h.row.block (k.block b h.row.lt h1), h.map.keep k h2⟩
theorem Led.below {b mb : Nat} {q : Lg} {w w' : World} (h : Led b mb q w) (k : Below w.heap.size w w') : Led b mb q w' := h.keep (Keep.of_below (S := []) k) (by simp) (by simp)

set_option maxRecDepth 100000 in
theorem new_any (w : World) :
    Calls Try.prog 8 #[] w fun e w' => e = .returned (.pointer (some ⟨w.heap.size + 1, 0, none⟩)) ∧ Led (w.heap.size + 1) w.heap.size fresh w' ∧ Below w.heap.size w w' := by
  have hmm := @run_makeMap Try.prog
  go_enter Try.func8, Try.ntmps8
  go_wp2
  go_ret
  refine ⟨rfl, ⟨⟨58, ?_⟩, ?_⟩, ((Below.refl _ w).alloc (Nat.le_refl _) _).alloc (by simp) _⟩
  · show ((w.heap.push _).push _)[w.heap.size + 1]? = _
    rw [Array.getElem?_push, if_pos (by simp)]; rfl
  · exact (Mp.made w).kept (World.grownBy_alloc _ _ none) (by simp)
set_option maxRecDepth 100000 in
theorem made_any {b mb : Nat} {x y z : Int} (w : World) (h : LedC b mb x y z w) : Calls Try.prog 26 #[.pointer (some ⟨b, 0, none⟩)] w fun e w' => e = .returned (.bool true) ∧ w' = w := by
  obtain ⟨c0, _⟩ := h.facts
  clear h
  have hq := neqMap
  go_enter Try.func26, Try.ntmps26
  go_wp2
  go_ret
  exact ⟨rfl, rfl⟩
set_option maxRecDepth 100000 in
theorem made_nil (w : World) : Calls Try.prog 26 #[.pointer none] w fun e w' => e = .returned (.bool false) ∧ w' = w := by
  have hq := neqMap
  go_enter Try.func26, Try.ntmps26
  go_wp2
  go_ret
  exact ⟨rfl, rfl⟩
set_option maxRecDepth 100000 in
theorem made_zero (b : Nat) (w : World) (c0 : w.cell? ⟨b, 0, none⟩ = some (.map none)) : Calls Try.prog 26 #[.pointer (some ⟨b, 0, none⟩)] w fun e w' => e = .returned (.bool false) ∧ w' = w := by
  have hq := neqMap
  go_enter Try.func26, Try.ntmps26
  go_wp2
  go_ret
  exact ⟨rfl, rfl⟩
set_option maxRecDepth 100000 in
theorem largest_any {b mb : Nat} {x y z : Int} (w : World) (h : LedC b mb x y z w) : Calls Try.prog 23 #[.pointer (some ⟨b, 0, none⟩)] w fun e w' => e = .returned (.int .i64 z) ∧ w' = w := by
  obtain ⟨_, _, _, c3⟩ := h.facts
  have H := Lib.hid h
  clear h
  go_enter Try.func23, Try.ntmps23
  go_wp2_with (go_at_call 26; refine (made_any _ H.out).mono ?_; rintro e w2 ⟨rfl, rfl⟩)
  go_ret
  exact ⟨rfl, rfl⟩
end Go.Proofs.Ytobalbaieakcmaa
