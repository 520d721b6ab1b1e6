/- Walks of layer 16: the calendar. -/
import Derived.Test.YtgefnndegjpcpaaDoorDtT
import Derived.Test.YtgefnndegjpcpaaDoorKeep
import Derived.Deep.WholeRow
set_option maxRecDepth 100000
set_option linter.unusedSimpArgs false
set_option linter.unusedVariables false
namespace Go.Proofs.YtgefnndegjpcpaaDoor
open Go.RowKit

theorem wraps_i64' (n : Int) (h₀ : -9223372036854775808 ≤ n) (h₁ : n < 9223372036854775808) : IntKind.i64.wrap n = n := by rw [IntKind.wrap_i64]; omega
theorem wquo (n k : Int) (h0 : 0 ≤ n) (h1 : n < 9223372036854775808) (hk : 0 < k) : IntKind.i64.wrap (n.tdiv k) = n / k := by
  rw [Int.tdiv_eq_ediv_of_nonneg h0]
  exact wraps_i64' _ (by have := Int.ediv_nonneg h0 (Int.le_of_lt hk); omega) (by have := Int.ediv_le_self k h0; omega)
theorem wrem (n k : Int) (h0 : 0 ≤ n) (h1 : n < 9223372036854775808) (hk : 0 < k) : n.tmod k = n % k := Int.tmod_eq_emod_of_nonneg h0

theorem leap_any (y : Int) (w : World) (h0 : 0 ≤ y) (h1 : y ≤ 9999) :
    Calls Tryd.prog 42 #[.int .i64 y] w fun e w' => e = .returned (.bool (leapB y)) ∧ w' = w := by
  have r4 := wrem y 4 h0 (by omega) (by decide)
  have r100 := wrem y 100 h0 (by omega) (by decide)
  have r400 := wrem y 400 h0 (by omega) (by decide)
  unfold leapB
  go_enter Tryd.func42, Tryd.ntmps42
  go_wp2
  all_goals
    go_ret
    refine ⟨?_, rfl⟩
    simp_all
    try rfl

theorem wpList_built {P : Program} (w : World) {ops : Array Oper} {rest : List Oper} {o : Oper} {a : Act} {Q : Exit → Act → World → Prop} (hgd : o.guard = none) (t : TypeId) (parts : Array (Nat × Operand)) (ho : o.op = Op.build t parts)
    (cells : Array Value) (hc : P.built t (parts.map fun (i, x) => (i, a.eval x)).toList = some cells) (h : wpList P ops Q rest (a.put o.dst (.agg cells)) w) : wpList P ops Q (o :: rest) a w :=
  wpList_plain hgd fun K hK => by
    unfold Oper.wp execOp
    simp only [ho, Sem.run_bind, run_build w t _ cells hc, Result.andThen_ok]
    exact hK _ _ h

def monthsC : Array Value := #[.string ⟨#[74, 97, 110]⟩, .int .i64 31, .string ⟨#[70, 101, 98]⟩, .int .i64 28, .string ⟨#[77, 97, 114]⟩, .int .i64 31, .string ⟨#[65, 112, 114]⟩, .int .i64 30, .string ⟨#[77, 97, 121]⟩, .int .i64 31, .string ⟨#[74, 117, 110]⟩, .int .i64 30, .string ⟨#[74, 117, 108]⟩, .int .i64 31, .string ⟨#[65, 117, 103]⟩, .int .i64 31, .string ⟨#[83, 101, 112]⟩, .int .i64 30, .string ⟨#[79, 99, 116]⟩, .int .i64 31, .string ⟨#[78, 111, 118]⟩, .int .i64 30, .string ⟨#[68, 101, 99]⟩, .int .i64 31]
def monthsV : Value := .agg monthsC
set_option maxHeartbeats 1600000 in
theorem months_any (w : World) :
    Calls Tryd.prog 33 #[] w fun e w' => e = .returned monthsV ∧ Below w.heap.size w w' := by
  have hsz : monthsC.size = 24 := rfl
  have hst := run_storeCells_new (P := Tryd.prog) w 56 #[.string ⟨#[]⟩, .int .i64 0, .string ⟨#[]⟩, .int .i64 0, .string ⟨#[]⟩, .int .i64 0, .string ⟨#[]⟩, .int .i64 0, .string ⟨#[]⟩, .int .i64 0, .string ⟨#[]⟩, .int .i64 0, .string ⟨#[]⟩, .int .i64 0, .string ⟨#[]⟩, .int .i64 0, .string ⟨#[]⟩, .int .i64 0, .string ⟨#[]⟩, .int .i64 0, .string ⟨#[]⟩, .int .i64 0, .string ⟨#[]⟩, .int .i64 0] monthsC (by kernel_rfl) rfl (by kernel_rfl)
  have hld := run_loadCellsFrom_new (P := Tryd.prog) w 56 monthsC 24 rfl
  have BB := Lib.hid ((Below.refl w.heap.size w).alloc (Nat.le_refl _) (.cells monthsC 56))
  go_enter Tryd.func33, Tryd.ntmps33
  go_upto_region 1 with fail
  apply wp_region_lit
  refine wpList_built _ rfl _ _ rfl #[.string ⟨#[74, 97, 110]⟩, .int .i64 31] (by kernel_rfl) ?_
  refine wpList_built _ rfl _ _ rfl #[.string ⟨#[70, 101, 98]⟩, .int .i64 28] (by kernel_rfl) ?_
  refine wpList_built _ rfl _ _ rfl #[.string ⟨#[77, 97, 114]⟩, .int .i64 31] (by kernel_rfl) ?_
  refine wpList_built _ rfl _ _ rfl #[.string ⟨#[65, 112, 114]⟩, .int .i64 30] (by kernel_rfl) ?_
  refine wpList_built _ rfl _ _ rfl #[.string ⟨#[77, 97, 121]⟩, .int .i64 31] (by kernel_rfl) ?_
  refine wpList_built _ rfl _ _ rfl #[.string ⟨#[74, 117, 110]⟩, .int .i64 30] (by kernel_rfl) ?_
  refine wpList_built _ rfl _ _ rfl #[.string ⟨#[74, 117, 108]⟩, .int .i64 31] (by kernel_rfl) ?_
  refine wpList_built _ rfl _ _ rfl #[.string ⟨#[65, 117, 103]⟩, .int .i64 31] (by kernel_rfl) ?_
  refine wpList_built _ rfl _ _ rfl #[.string ⟨#[83, 101, 112]⟩, .int .i64 30] (by kernel_rfl) ?_
  refine wpList_built _ rfl _ _ rfl #[.string ⟨#[79, 99, 116]⟩, .int .i64 31] (by kernel_rfl) ?_
  refine wpList_built _ rfl _ _ rfl #[.string ⟨#[78, 111, 118]⟩, .int .i64 30] (by kernel_rfl) ?_
  refine wpList_built _ rfl _ _ rfl #[.string ⟨#[68, 101, 99]⟩, .int .i64 31] (by kernel_rfl) ?_
  refine wpList_built _ rfl _ _ rfl monthsC (by kernel_rfl) ?_
  go_wp2
  have hlv := run_loadVar_new (P := Tryd.prog) w 56 monthsC 12 55 Tryd.underlying56 (by kernel_rfl)
  exact bodyPost_ret (v := monthsV) (by simp [results, Tryd.results33, asAddr, hlv, monthsV]) rfl ⟨rfl, BB.out⟩

def dim0 (m : Int) : Int := if m = 2 then 28 else if m = 4 ∨ m = 6 ∨ m = 9 ∨ m = 11 then 30 else 31
theorem dim0_bound (m : Int) : 28 ≤ dim0 m ∧ dim0 m ≤ 31 := by
  unfold dim0
  split
  · omega
  · split <;> omega
theorem dim0_two : wrap64 (dim0 2 + 1) = dim0 2 + 1 := by simp [wrap64, dim0]
theorem index_month (m : Int) (W : World) (m0 : 1 ≤ m) (m1 : m ≤ 12) :
    (Instr.index 56 monthsV (.int .i64 (m - 1))).run Tryd.prog W = .ok (.agg #[.string ⟨(mName m).toArray⟩, .int .i64 (dim0 m)]) W := by
  obtain h | h | h | h | h | h | h | h | h | h | h | h : m = 1 ∨ m = 2 ∨ m = 3 ∨ m = 4 ∨ m = 5 ∨ m = 6 ∨ m = 7 ∨ m = 8 ∨ m = 9 ∨ m = 10 ∨ m = 11 ∨ m = 12 := by omega
  all_goals subst h; kernel_rfl

theorem field_days (s : ByteArray) (n : Int) (W : World) : (Instr.field 55 (.agg #[.string s, .int .i64 n]) 1).run Tryd.prog W = .ok (.int .i64 n) W := by kernel_rfl
theorem field_name (s : ByteArray) (n : Int) (W : World) : (Instr.field 55 (.agg #[.string s, .int .i64 n]) 0).run Tryd.prog W = .ok (.string s) W := by kernel_rfl

set_option maxHeartbeats 1600000 in
theorem dim_any (y m : Int) (w : World) (h0 : 0 ≤ y) (h1 : y ≤ 9999) (m0 : 1 ≤ m) (m1 : m ≤ 12) :
    Calls Tryd.prog 38 #[.int .i64 y, .int .i64 m] w fun e w' => e = .returned (.int .i64 (dim y m)) ∧ Below w.heap.size w w' := by
  have hw := wraps_i64' (m - 1) (by omega) (by omega)
  have hix := fun W => index_month m W m0 m1
  have hfd := field_days
  have hd := dim_bound y m
  have hL := Lib.hid (leap_any y · h0 h1)
  have hDv : dim y m = if m = 2 then (if leapB y then dim0 m + 1 else dim0 m) else dim0 m := by
    unfold dim dim0
    split <;> rfl
  have h0b := dim0_bound m
  have hw2 : IntKind.i64.wrap (dim0 m + 1) = dim0 m + 1 := wraps_i64' _ (by omega) (by omega)
  go_enter Tryd.func38, Tryd.ntmps38
  go_wp2_with (go_at_call 33; refine (months_any _).mono ?_; rintro x w1 ⟨rfl, hb1⟩; have B1 := Lib.hid hb1; clear hb1)
  go_wp2_with (go_at_call 42; refine (hL.out _).mono ?_; rintro x w2 ⟨rfl, rfl⟩)
  all_goals
    go_ret
    refine ⟨ret_int ?_, B1.out⟩
    rw [hDv]
    simp_all
    try exact dim0_two
end Go.Proofs.YtgefnndegjpcpaaDoor
