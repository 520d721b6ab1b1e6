/- Walks of layer 9: a stream in the world; within, made, known, mayEnd, Limit, At, End, Over, Broken. -/
import Derived.Test.YtgckidgkimgpeaaKeep
import Derived.Test.YtgckidgkimgpeaaRmM
import Derived.BigQuiet
import Derived.Laws.Cover3
set_option linter.unusedSimpArgs false
set_option linter.unusedVariables false
namespace Go.Proofs.Ytgckidgkimgpeaa
open Go.RowKit

theorem wraps_i64' (n : Int) (h₀ : -9223372036854775808 ≤ n) (h₁ : n < 9223372036854775808) : IntKind.i64.wrap n = n := by rw [IntKind.wrap_i64]; omega
theorem bools_oneCell (cs : List Bool) : ∀ v ∈ cs.map Value.bool, v.oneCell' = true := by
  intro v hv
  obtain ⟨c, _, rfl⟩ := List.mem_map.1 hv
  rfl

/-- block b holds a stream's fields: its rows lie in blocks r and m -/
def StrC (b r m n p top : Nat) (e : Int) (br : Bool) (w : World) : Prop :=
  Cs w b [.slice (some ⟨r, 0, none⟩) n n, .slice (some ⟨m, 0, none⟩) n n, .int .i64 p, .int .i64 top, .int .i64 e, .bool br]
structure Str (b r m : Nat) (q : St) (w : World) : Prop where
  fields : StrC b r m q.row.length q.p q.top q.e q.br w
  row : Cs w r (q.row.map (Value.int .u8))
  came : Cs w m (q.came.map Value.bool)
  ne : b ≠ r ∧ b ≠ m ∧ r ≠ m
theorem StrC.facts {b r m n p top : Nat} {e : Int} {br : Bool} {w : World} (h : StrC b r m n p top e br w) :
    w.cell? ⟨b, 0, none⟩ = some (.slice (some ⟨r, 0, none⟩) n n) ∧ w.cell? ⟨b, 1, none⟩ = some (.slice (some ⟨m, 0, none⟩) n n) ∧ w.cell? ⟨b, 2, none⟩ = some (.int .i64 p) ∧ w.cell? ⟨b, 3, none⟩ = some (.int .i64 top) ∧ w.cell? ⟨b, 4, none⟩ = some (.int .i64 e) ∧ w.cell? ⟨b, 5, none⟩ = some (.bool br) :=
  ⟨Cs.get h 0 _ rfl, Cs.get h 1 _ rfl, Cs.get h 2 _ rfl, Cs.get h 3 _ rfl, Cs.get h 4 _ rfl, Cs.get h 5 _ rfl⟩
theorem StrC.free {b r m n p top : Nat} {e : Int} {br : Bool} {w : World} (h : StrC b r m n p top e br w) :
    w.frozen? ⟨b, 2, none⟩ = false ∧ w.frozen? ⟨b, 3, none⟩ = false ∧ w.frozen? ⟨b, 4, none⟩ = false ∧ w.frozen? ⟨b, 5, none⟩ = false :=
  ⟨Cs.free h 2, Cs.free h 3, Cs.free h 4, Cs.free h 5⟩
theorem Str.keep {S : List Nat} {b r m : Nat} {q : St} {w w' : World} (h : Str b r m q w) (k : Keep S w w') (h1 : b ∉ S) (h2 : r ∉ S) (h3 : m ∉ S) : Str b r m q w' := ⟨Cs.keep h.fields k h1, h.row.keep k h2, h.came.keep k h3, h.ne⟩
theorem Str.below {b r m : Nat} {q : St} {w w' : World} (h : Str b r m q w) (k : Below w.heap.size w w') : Str b r m q w' := h.keep (Keep.of_below (S := []) k) (by simp) (by simp) (by simp)
theorem Str.drewN {b r m : Nat} {q : St} {w : World} (h : Str b r m q w) (n : Nat) : Str b r m q (w.drewN n) := h.below (below_drewN (Below.refl _ w) n)
theorem Str.lt {b r m : Nat} {q : St} {w : World} (h : Str b r m q w) : b < w.heap.size ∧ r < w.heap.size ∧ m < w.heap.size := ⟨Cs.lt h.fields, h.row.lt, h.came.lt⟩

/-- v READS AS THE MARKS cs -/
def RdB (w : World) (v : Value) (cs : List Bool) : Prop :=
  (cs = [] ∧ ∃ a c, v = .slice a 0 c) ∨ (cs ≠ [] ∧ ∃ b o c, v = .slice (some ⟨b, o, none⟩) cs.length c ∧ cs.length ≤ c ∧ ∀ i, i < cs.length → w.cell? ⟨b, o + i, none⟩ = some (.bool (cs.getD i false)))
theorem RdB.of_cs {w : World} {m : Nat} {cs : List Bool} (h : Cs w m (cs.map Value.bool)) (j : Nat) (a : Option Addr) (n c : Nat) (hn : n = cs.length - j) (hc : n ≤ c) (ha : j < cs.length → a = some ⟨m, j, none⟩) : RdB w (.slice a n c) (cs.drop j) := by
  subst hn
  by_cases hj : j < cs.length
  · obtain rfl := ha hj
    have hl : (cs.drop j).length = cs.length - j := List.length_drop
    refine .inr ⟨fun e => by rw [e] at hl; simp at hl; omega, m, j, c, by rw [hl], by rw [hl]; exact hc, fun i hi => ?_⟩
    rw [hl] at hi
    refine h.get _ _ ?_
    rw [getD_drop, getD_lt (by omega)]
    simp [show j + i < cs.length by omega]
  · exact .inl ⟨List.drop_eq_nil_of_le (by omega), a, c, by rw [show cs.length - j = 0 by omega]⟩

theorem within_any (n a b : Int) (w : World) :
    Calls Try.prog 21 #[.int .i64 n, .int .i64 a, .int .i64 b] w fun e w' => e = .returned (.bool (withinB n a b)) ∧ w' = w := by
  by_cases h1 : a ≤ n
  · have e1 : decide (a ≤ n) = true := decide_eq_true h1
    have e3 : withinB n a b = decide (n ≤ b) := by simp [withinB, h1]
    rw [e3]
    clear e3
    go_enter Try.func21, Try.ntmps21
    go_wp2
    go_ret
    exact ⟨rfl, rfl⟩
  · have e1 : decide (a ≤ n) = false := decide_eq_false h1
    have e3 : withinB n a b = false := by simp [withinB, h1]
    rw [e3]
    clear h1 e3
    go_enter Try.func21, Try.ntmps21
    go_wp2
    go_ret
    exact ⟨rfl, rfl⟩
theorem within_b (n a b : Int) (r : Bool) (hr : withinB n a b = r) (w : World) : Calls Try.prog 21 #[.int .i64 n, .int .i64 a, .int .i64 b] w fun e w' => e = .returned (.bool r) ∧ w' = w := hr ▸ within_any n a b w

theorem neqSl (w : World) (a : Option Addr) (l c : Nat) : (binOp .neq 22 (.slice a l c) (.slice none 0 0)).run Try.prog w = .ok (.bool (!a.isNone)) w := run_neq_slice_nil _ _ _ a l c Try.underlying22
set_option maxRecDepth 100000 in
theorem made_any {b r m : Nat} {q : St} (w : World) (h : Str b r m q w) : Calls Try.prog 22 #[.pointer (some ⟨b, 0, none⟩)] w fun e w' => e = .returned (.bool true) ∧ w' = w := by
  obtain ⟨c0, _⟩ := h.fields.facts
  clear h
  have hq := neqSl
  go_enter Try.func22, Try.ntmps22
  go_wp2
  go_ret
  exact ⟨rfl, rfl⟩
set_option maxRecDepth 100000 in
theorem made_nil (w : World) : Calls Try.prog 22 #[.pointer none] w fun e w' => e = .returned (.bool false) ∧ w' = w := by
  have hq := neqSl
  go_enter Try.func22, Try.ntmps22
  go_wp2
  go_ret
  exact ⟨rfl, rfl⟩
set_option maxRecDepth 100000 in
theorem made_zero (b : Nat) (w : World) (c0 : w.cell? ⟨b, 0, none⟩ = some (.slice none 0 0)) : Calls Try.prog 22 #[.pointer (some ⟨b, 0, none⟩)] w fun e w' => e = .returned (.bool false) ∧ w' = w := by
  have hq := neqSl
  go_enter Try.func22, Try.ntmps22
  go_wp2
  go_ret
  exact ⟨rfl, rfl⟩
set_option maxRecDepth 100000 in
theorem known_any {b r m : Nat} {q : St} (w : World) (h : Str b r m q w) : Calls Try.prog 23 #[.pointer (some ⟨b, 0, none⟩)] w fun e w' => e = .returned (.bool (!decide (q.e = -1))) ∧ w' = w := by
  obtain ⟨row, came, p, top, e, br⟩ := q
  obtain ⟨_, _, _, _, c4, _⟩ := h.fields.facts
  simp only at c4 ⊢
  clear h
  go_enter Try.func23, Try.ntmps23
  go_wp2
  go_ret
  exact ⟨ret_bool (by rw [Bool.eq_iff_iff]; simp), rfl⟩
theorem known_b {b r m : Nat} {q : St} (w : World) (h : Str b r m q w) (x : Bool) (hx : (!decide (q.e = -1)) = x) : Calls Try.prog 23 #[.pointer (some ⟨b, 0, none⟩)] w fun e w' => e = .returned (.bool x) ∧ w' = w := hx ▸ known_any w h
set_option maxRecDepth 100000 in
theorem mayEnd_any {b r m : Nat} {q : St} (x : Int) (w : World) (h : Str b r m q w) : Calls Try.prog 24 #[.pointer (some ⟨b, 0, none⟩), .int .i64 x] w fun e w' => e = .returned (.bool (mayEndB q x)) ∧ w' = w := by
  have HK := Lib.hid (known_any w h)
  obtain ⟨row, came, p, top, e, br⟩ := q
  obtain ⟨_, _, _, c3, c4, _⟩ := h.fields.facts
  unfold mayEndB
  simp only at c3 c4 ⊢
  clear h
  by_cases h1 : (top : Int) ≤ x
  · have e1 : decide (x ≥ (top : Int)) = true := decide_eq_true h1
    rw [decide_eq_true h1, Bool.true_and]
    by_cases h2 : x = e
    · subst h2
      clear h1
      go_enter Try.func24, Try.ntmps24
      go_wp2_with (go_at_call 23; refine HK.out.mono ?_; rintro e w2 ⟨rfl, rfl⟩)
      go_ret
      exact ⟨ret_bool (by simp), rfl⟩
    · have e2 : decide (x = e) = false := decide_eq_false h2
      have e2' : (x == e) = false := by simpa using h2
      rw [e2, Bool.false_or]
      clear h1
      go_enter Try.func24, Try.ntmps24
      go_wp2_with (go_at_call 23; refine HK.out.mono ?_; rintro e w2 ⟨rfl, rfl⟩)
      go_ret
      exact ⟨ret_bool (by simp), rfl⟩
  · have e1 : decide (x ≥ (top : Int)) = false := decide_eq_false h1
    rw [decide_eq_false h1, Bool.false_and]
    clear h1
    go_enter Try.func24, Try.ntmps24
    go_wp2_with (go_at_call 23; refine HK.out.mono ?_; rintro e w2 ⟨rfl, rfl⟩)
    go_ret
    exact ⟨rfl, rfl⟩
set_option maxRecDepth 100000 in
theorem limit_any {b r m : Nat} {q : St} (w : World) (h : Str b r m q w) (hb : q.p + q.row.length ≤ 9223372036854775807) : Calls Try.prog 14 #[.pointer (some ⟨b, 0, none⟩)] w fun e w' => e = .returned (.int .i64 (q.p + q.row.length : Nat)) ∧ ∃ n, w' = w.drewN n := by
  have HM := Lib.hid (made_any w h)
  obtain ⟨row, came, p, top, e, br⟩ := q
  obtain ⟨c0, _, c2, _⟩ := h.fields.facts
  simp only at c0 c2 hb ⊢
  clear h
  have hw : IntKind.i64.wrap ((p : Int) + (row.length : Int)) = ((p + row.length : Nat) : Int) := by
    rw [wraps_i64' _ (by omega) (by omega)]; omega
  go_enter Try.func14, Try.ntmps14
  go_wp2_with (go_at_call 22; refine HM.out.mono ?_; rintro e w2 ⟨rfl, h⟩; obtain rfl : w = w2 := h.symm)
  go_quiet (fail)
  go_wp2
  go_ret
  exact ⟨rfl, _, rfl⟩
set_option maxRecDepth 100000 in
theorem at_any {b r m : Nat} {q : St} (w : World) (h : Str b r m q w) : Calls Try.prog 18 #[.pointer (some ⟨b, 0, none⟩)] w fun e w' => e = .returned (.int .i64 q.p) ∧ w' = w := by
  have HM := Lib.hid (made_any w h)
  obtain ⟨row, came, p, top, e, br⟩ := q
  obtain ⟨_, _, c2, _⟩ := h.fields.facts
  simp only at c2 ⊢
  clear h
  go_enter Try.func18, Try.ntmps18
  go_wp2_with (go_at_call 22; refine HM.out.mono ?_; rintro e w2 ⟨rfl, rfl⟩)
  go_ret
  exact ⟨rfl, rfl⟩
set_option maxRecDepth 100000 in
theorem broken_any {b r m : Nat} {q : St} (w : World) (h : Str b r m q w) : Calls Try.prog 19 #[.pointer (some ⟨b, 0, none⟩)] w fun e w' => e = .returned (.bool q.br) ∧ w' = w := by
  have HM := Lib.hid (made_any w h)
  obtain ⟨row, came, p, top, e, br⟩ := q
  obtain ⟨_, _, _, _, _, c5⟩ := h.fields.facts
  simp only at c5 ⊢
  clear h
  go_enter Try.func19, Try.ntmps19
  go_wp2_with (go_at_call 22; refine HM.out.mono ?_; rintro e w2 ⟨rfl, rfl⟩)
  go_ret
  exact ⟨rfl, rfl⟩
set_option maxRecDepth 100000 in
theorem end_any {b r m : Nat} {q : St} (w : World) (h : Str b r m q w) : Calls Try.prog 20 #[.pointer (some ⟨b, 0, none⟩)] w fun e w' => e = .returned (.tuple #[.int .i64 (if q.e = -1 then 0 else q.e), .bool (!decide (q.e = -1))]) ∧ w' = w := by
  have HM := Lib.hid (made_any w h)
  have HK := Lib.hid (known_any w h)
  obtain ⟨row, came, p, top, e, br⟩ := q
  obtain ⟨_, _, _, _, c4, _⟩ := h.fields.facts
  simp only at c4 HK ⊢
  clear h
  by_cases h1 : e = -1
  · rw [if_pos h1]
    rw [decide_eq_true h1] at HK ⊢
    clear h1
    go_enter Try.func20, Try.ntmps20
    go_wp2_with (first
      | (go_at_call 22; refine HM.out.mono ?_; rintro e w2 ⟨rfl, rfl⟩)
      | (go_at_call 23; refine HK.out.mono ?_; rintro e w2 ⟨rfl, rfl⟩))
    go_ret2
    exact ⟨rfl, rfl⟩
  · rw [if_neg h1]
    rw [decide_eq_false h1] at HK ⊢
    clear h1
    go_enter Try.func20, Try.ntmps20
    go_wp2_with (first
      | (go_at_call 22; refine HM.out.mono ?_; rintro e w2 ⟨rfl, rfl⟩)
      | (go_at_call 23; refine HK.out.mono ?_; rintro e w2 ⟨rfl, rfl⟩))
    go_ret2
    exact ⟨rfl, rfl⟩
set_option maxRecDepth 100000 in
theorem over_any {b r m : Nat} {q : St} (w : World) (h : Str b r m q w) : Calls Try.prog 13 #[.pointer (some ⟨b, 0, none⟩)] w fun e w' => e = .returned (.bool (overB q)) ∧ ∃ n, w' = w.drewN n := by
  have HM := Lib.hid (fun n => made_any (w.drewN n) (h.drewN n))
  obtain ⟨row, came, p, top, e, br⟩ := q
  obtain ⟨_, _, c2, _, c4, c5⟩ := h.fields.facts
  unfold overB
  simp only at c2 c4 c5 ⊢
  clear h
  cases br
  · rw [Bool.false_or]
    go_enter Try.func13, Try.ntmps13
    go_wp2_with fail
    go_quiet (first | (go_at_call 22; refine Calls.quiet_of_same (HM.out _)))
    go_wp2
    go_ret
    exact ⟨ret_bool (by rw [Bool.eq_iff_iff]; simp), _, rfl⟩
  · rw [Bool.true_or]
    go_enter Try.func13, Try.ntmps13
    go_wp2_with fail
    go_quiet (first | (go_at_call 22; refine Calls.quiet_of_same (HM.out _)))
    go_wp2
    go_ret
    exact ⟨rfl, _, rfl⟩
end Go.Proofs.Ytgckidgkimgpeaa
