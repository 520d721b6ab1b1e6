/- Walks of layer 13: a table in the world; given, Cap, Used, First, Count, Room, comparisons. -/
import Derived.Test.YtfacpncbcplocaaDoorQtM
import Derived.BigQuiet
import Derived.Laws.Cover3
import Derived.Laws.StructEq
set_option maxRecDepth 100000
set_option linter.unusedSimpArgs false
set_option linter.unusedVariables false
namespace Go.Proofs.YtfacpncbcplocaaDoor
open Go.RowKit

theorem wraps_i64' (n : Int) (h₀ : -9223372036854775808 ≤ n) (h₁ : n < 9223372036854775808) : IntKind.i64.wrap n = n := by rw [IntKind.wrap_i64]; omega
theorem below1 (w : World) (o : Obj) : Below w.heap.size w (w.alloc o) := (Below.refl _ w).alloc (Nat.le_refl _) _

/-- block b holds a table: sl is the slice of its fields, which is its own -/
structure Tbl (b : Nat) (sl : Value) (q : TQ) (w : World) : Prop where
  fields : Cs w b [.bool true, .int .i64 (q.most : Int), .int .i64 (q.cap : Int), .int .i64 (rooms q.l : Int), .int .i64 (q.first : Int), sl]
  row : w.ownsRow 0 23 2 sl q.l.length (fdC q.l)
  ne : ∀ j, sl.ownBlock = some j → j ≠ b
def TS (b : Nat) (sl : Value) : List Nat := b :: sl.ownBlock.toList
theorem mem_TS {b : Nat} {sl : Value} {i : Nat} : i ∈ TS b sl ↔ i = b ∨ sl.ownBlock = some i := by
  unfold TS
  cases sl.ownBlock with
  | none => simp
  | some j => simp [eq_comm]
theorem owns_blt {B e m n : Nat} {w : World} {v : Value} {fl : List Value} (h : w.ownsRow B e m v n fl) : ∀ j, v.ownBlock = some j → j < w.heap.size := fun j hj => (World.ownsRow.lt h j hj).2
theorem owns_keep {S : List Nat} {B e m n : Nat} {w w' : World} {v : Value} {fl : List Value} (h : w.ownsRow B e m v n fl) (k : Keep S w w') (hn : ∀ j, v.ownBlock = some j → j ∉ S) : w'.ownsRow B e m v n fl := by
  obtain ⟨h1, h2⟩ := h
  refine ⟨h1, ?_⟩
  rcases h2 with h2 | ⟨g, cap, cur, rfl, a2, a3, a4⟩
  · exact .inl h2
  · exact .inr ⟨g, cap, cur, rfl, a2, by rw [k.block g (Array.getElem?_eq_some_iff.1 a3).1 (hn g rfl)]; exact a3, a4⟩
theorem Tbl.keep {S : List Nat} {b : Nat} {sl : Value} {q : TQ} {w w' : World} (h : Tbl b sl q w) (k : Keep S w w') (hb : b ∉ S) (hn : ∀ j, sl.ownBlock = some j → j ∉ S) : Tbl b sl q w' :=
  ⟨h.fields.keep k hb, owns_keep h.row k hn, h.ne⟩
theorem Tbl.below {b : Nat} {sl : Value} {q : TQ} {w w' : World} (h : Tbl b sl q w) (k : Below w.heap.size w w') : Tbl b sl q w' := h.keep (Keep.of_below (S := []) k) (by simp) (by simp)
theorem Tbl.drewN {b : Nat} {sl : Value} {q : TQ} {w : World} (h : Tbl b sl q w) (n : Nat) : Tbl b sl q (w.drewN n) := h.below (below_drewN (Below.refl _ w) n)
theorem Tbl.lt {b : Nat} {sl : Value} {q : TQ} {w : World} (h : Tbl b sl q w) : b < w.heap.size := h.fields.lt
theorem Tbl.slt {b : Nat} {sl : Value} {q : TQ} {w : World} (h : Tbl b sl q w) : ∀ j, sl.ownBlock = some j → j < w.heap.size := owns_blt h.row
theorem Tbl.shape {b : Nat} {sl : Value} {q : TQ} {w : World} (h : Tbl b sl q w) : ∃ a c, sl = .slice a q.l.length c ∧ q.l.length ≤ c ∧ c ≤ maxLen := (RdC.of_owns h.row).isSlice
theorem Tbl.facts {b : Nat} {sl : Value} {q : TQ} {w : World} (h : Tbl b sl q w) :
    w.cell? ⟨b, 0, none⟩ = some (.bool true) ∧ w.cell? ⟨b, 1, none⟩ = some (.int .i64 (q.most : Int)) ∧ w.cell? ⟨b, 2, none⟩ = some (.int .i64 (q.cap : Int)) ∧ w.cell? ⟨b, 3, none⟩ = some (.int .i64 (rooms q.l : Int)) ∧ w.cell? ⟨b, 4, none⟩ = some (.int .i64 (q.first : Int)) ∧ w.cell? ⟨b, 5, none⟩ = some sl :=
  ⟨h.fields.get 0 _ rfl, h.fields.get 1 _ rfl, h.fields.get 2 _ rfl, h.fields.get 3 _ rfl, h.fields.get 4 _ rfl, h.fields.get 5 _ rfl⟩
theorem Tbl.free {b : Nat} {sl : Value} {q : TQ} {w : World} (h : Tbl b sl q w) (j : Nat) : w.frozen? ⟨b, j, none⟩ = false := h.fields.free j

theorem given_any {b : Nat} {sl : Value} {q : TQ} (w : World) (h : Tbl b sl q w) : Calls Tryd.prog 34 #[.pointer (some ⟨b, 0, none⟩)] w fun e w' => e = .returned (.bool true) ∧ w' = w := by
  obtain ⟨c0, _⟩ := h.facts
  clear h
  go_enter Tryd.func34, Tryd.ntmps34
  go_wp2
  go_ret
  exact ⟨rfl, rfl⟩
theorem cap_any {b : Nat} {sl : Value} {q : TQ} (w : World) (h : Tbl b sl q w) : Calls Tryd.prog 26 #[.pointer (some ⟨b, 0, none⟩)] w fun e w' => e = .returned (.int .i64 (q.cap : Int)) ∧ w' = w := by
  have HM := Lib.hid (given_any w h)
  obtain ⟨_, _, c2, _⟩ := h.facts
  clear h
  go_enter Tryd.func26, Tryd.ntmps26
  go_wp2_with (go_at_call 34; refine HM.out.mono ?_; rintro e w2 ⟨rfl, rfl⟩)
  go_ret
  exact ⟨rfl, rfl⟩
theorem used_any {b : Nat} {sl : Value} {q : TQ} (w : World) (h : Tbl b sl q w) : Calls Tryd.prog 27 #[.pointer (some ⟨b, 0, none⟩)] w fun e w' => e = .returned (.int .i64 (rooms q.l : Int)) ∧ w' = w := by
  have HM := Lib.hid (given_any w h)
  obtain ⟨_, _, _, c2, _⟩ := h.facts
  clear h
  go_enter Tryd.func27, Tryd.ntmps27
  go_wp2_with (go_at_call 34; refine HM.out.mono ?_; rintro e w2 ⟨rfl, rfl⟩)
  go_ret
  exact ⟨rfl, rfl⟩
theorem first_any {b : Nat} {sl : Value} {q : TQ} (w : World) (h : Tbl b sl q w) : Calls Tryd.prog 29 #[.pointer (some ⟨b, 0, none⟩)] w fun e w' => e = .returned (.int .i64 (q.first : Int)) ∧ w' = w := by
  have HM := Lib.hid (given_any w h)
  obtain ⟨_, _, _, _, c2, _⟩ := h.facts
  clear h
  go_enter Tryd.func29, Tryd.ntmps29
  go_wp2_with (go_at_call 34; refine HM.out.mono ?_; rintro e w2 ⟨rfl, rfl⟩)
  go_ret
  exact ⟨rfl, rfl⟩
theorem count_any {b : Nat} {sl : Value} {q : TQ} (w : World) (h : Tbl b sl q w) (hq : countN q ≤ 4611686018427387904) : Calls Tryd.prog 30 #[.pointer (some ⟨b, 0, none⟩)] w fun e w' => e = .returned (.int .i64 (countN q : Int)) ∧ ∃ n, w' = w.drewN n := by
  have HM := Lib.hid (given_any w h)
  obtain ⟨_, _, _, _, c4, c5⟩ := h.facts
  obtain ⟨a, c, rfl, _, _⟩ := h.shape
  unfold countN at hq ⊢
  clear h
  have hw : IntKind.i64.wrap ((q.first : Int) + (q.l.length : Int)) = ((q.first + q.l.length : Nat) : Int) := by
    rw [wraps_i64' _ (by omega) (by omega)]; omega
  go_enter Tryd.func30, Tryd.ntmps30
  go_wp2_with (go_at_call 34; refine HM.out.mono ?_; rintro e w2 ⟨rfl, h⟩; obtain rfl : w = w2 := h.symm)
  go_quiet (fail)
  go_wp2
  go_ret
  exact ⟨rfl, _, rfl⟩

/-- a field whose texts are not greater than any that come in -/
def SzF (f : Fd) : Prop := f.n.size ≤ 281474976710656 ∧ f.v.size ≤ 281474976710656
theorem room_any (f : Fd) (w : World) (h : SzF f) : Calls Tryd.prog 13 #[.agg #[.string f.n, .string f.v]] w fun e w' => e = .returned (.int .i64 (roomF f : Int)) ∧ Below w.heap.size w w' := by
  obtain ⟨h1, h2⟩ := h
  obtain ⟨n, v⟩ := f
  simp only [roomF] at h1 h2 ⊢
  have q1 : IntKind.i64.wrap ((n.size : Int) + (v.size : Int)) = (n.size : Int) + (v.size : Int) := wraps_i64' _ (by omega) (by omega)
  have q2 : IntKind.i64.wrap ((n.size : Int) + (v.size : Int) + 32) = ((n.size + v.size + 32 : Nat) : Int) := by rw [wraps_i64' _ (by omega) (by omega)]; omega
  have q3 : ((n.size + v.size + 32 : Nat) : Int) = (n.size : Int) + (v.size : Int) + 32 := by omega
  clear h1 h2
  go_enter Tryd.func13, Tryd.ntmps13
  go_wp2
  go_ret
  exact ⟨by first | rfl | (rw [q3]), below1 w _⟩
theorem rroom_any (f : Fd) (w : World) (h : SzF f) : Calls Tryd.prog 14 #[.agg #[.string f.n, .string f.v]] w fun e w' => e = .returned (.int .i64 (roomF f : Int)) ∧ Below w.heap.size w w' := by
  obtain ⟨h1, h2⟩ := h
  obtain ⟨n, v⟩ := f
  simp only [roomF] at h1 h2 ⊢
  have q1 : IntKind.i64.wrap ((n.size : Int) + (v.size : Int)) = (n.size : Int) + (v.size : Int) := wraps_i64' _ (by omega) (by omega)
  have q2 : IntKind.i64.wrap ((n.size : Int) + (v.size : Int) + 32) = ((n.size + v.size + 32 : Nat) : Int) := by rw [wraps_i64' _ (by omega) (by omega)]; omega
  have q3 : ((n.size + v.size + 32 : Nat) : Int) = (n.size : Int) + (v.size : Int) + 32 := by omega
  clear h1 h2
  go_enter Tryd.func14, Tryd.ntmps14
  go_wp2
  go_ret
  exact ⟨by first | rfl | (rw [q3]), below1 w _⟩

/-- '==' of fields -/
theorem str_beq (a b : ByteArray) : (a.toList == b.toList) = decide (a = b) := by
  rw [← beq_toListBytes, Bool.eq_iff_iff, Go.MapKept.bytes_beq, decide_eq_true_iff]
theorem eqF_any (f g : Fd) (w : World) : (Op.equalIn 10000 23 (.agg #[.string f.n, .string f.v]) (.agg #[.string g.n, .string g.v])).run Tryd.prog w = .ok (decide (f = g)) w := by
  obtain ⟨a, b⟩ := f
  obtain ⟨c, d⟩ := g
  have u3 := Tryd.underlying9
  have a3 := Tryd.isAgg9
  have z3 := Tryd.sizeOf9
  have hS : Tryd.prog.underlying 23 = some (.struct (Tryd.prog.fieldsOf 23)) := by kernel_rfl
  have hp : Tryd.prog.stoodInHeld 23 = false := by kernel_rfl
  rw [show (10000 : Nat) = 9999 + 1 from rfl, run_equalIn_agg w 9999 23 _ _ hS hp]
  simp only [Program.fieldsOf, Tryd.underlying23]
  go_simp
  have tl : ∀ x y : ByteArray, (x.toList = y.toList) = (x = y) := fun x y => by
    have := str_beq x y
    rw [Bool.eq_iff_iff, beq_iff_eq, decide_eq_true_iff] at this
    exact propext this
  simp only [tl]
  by_cases h1 : a = c <;> by_cases h2 : b = d <;> simp [h1, h2]
theorem guardF : Tryd.prog.eqGuardType Tryd.prog.depth 23 = false := by kernel_rfl
end Go.Proofs.YtfacpncbcplocaaDoor
