/- Walks of layer 4: the reference's bare (written by genBare.py). -/
import Derived.Test.YtfkkimaebhjneaaDoorFuA
import Derived.Test.YtfkkimaebhjneaaDoorFsC
set_option linter.unusedSimpArgs false
set_option linter.unusedVariables false
namespace Go.Proofs.YtfkkimaebhjneaaDoor
open Go.RowKit

/-- the fields of its kind alone -/
def keepF (f : Fr) : Fr := ⟨f.kind, if hStream f.kind then f.stream else 0, if hOffset f.kind then f.offset else 0, if hN f.kind then f.n else 0, if hCode f.kind then f.code else 0, hFin f.kind && f.fin, if hData f.kind then f.data else [], if hSpans f.kind then f.spans else []⟩

set_option maxHeartbeats 3200000 in
theorem bare_0 (f : Fr) (da sa : Option Addr) (dl dc sl sc : Nat) (w : World) :
    Calls Tryd.prog 30 #[.agg #[.int .i64 0, .int .i64 f.stream, .int .i64 f.offset, .int .i64 f.n, .int .i64 f.code, .bool f.fin, .slice da dl dc, .slice sa sl sc]] w fun e w' => e = .returned (.tuple #[.agg #[.int .i64 0, .int .i64 0, .int .i64 0, .int .i64 0, .int .i64 0, .bool false, .slice none 0 0, .slice none 0 0], .bool true]) ∧ Below w.heap.size w w' := by
  go_enter Tryd.func30, Tryd.ntmps30
  go_wp2
  all_goals
    refine bodyPost_ret (v := .tuple #[.agg #[.int .i64 0, .int .i64 0, .int .i64 0, .int .i64 0, .int .i64 0, .bool false, .slice none 0 0, .slice none 0 0], .bool true]) (by simp [results, Tryd.results30, go_sem]) rfl ⟨rfl, ?_⟩
    go_grown

set_option maxHeartbeats 3200000 in
theorem bare_1 (f : Fr) (da sa : Option Addr) (dl dc sl sc : Nat) (w : World) :
    Calls Tryd.prog 30 #[.agg #[.int .i64 1, .int .i64 f.stream, .int .i64 f.offset, .int .i64 f.n, .int .i64 f.code, .bool f.fin, .slice da dl dc, .slice sa sl sc]] w fun e w' => e = .returned (.tuple #[.agg #[.int .i64 1, .int .i64 0, .int .i64 0, .int .i64 0, .int .i64 0, .bool false, .slice none 0 0, .slice none 0 0], .bool true]) ∧ Below w.heap.size w w' := by
  go_enter Tryd.func30, Tryd.ntmps30
  go_wp2
  all_goals
    refine bodyPost_ret (v := .tuple #[.agg #[.int .i64 1, .int .i64 0, .int .i64 0, .int .i64 0, .int .i64 0, .bool false, .slice none 0 0, .slice none 0 0], .bool true]) (by simp [results, Tryd.results30, go_sem]) rfl ⟨rfl, ?_⟩
    go_grown

set_option maxHeartbeats 3200000 in
theorem bare_30 (f : Fr) (da sa : Option Addr) (dl dc sl sc : Nat) (w : World) :
    Calls Tryd.prog 30 #[.agg #[.int .i64 30, .int .i64 f.stream, .int .i64 f.offset, .int .i64 f.n, .int .i64 f.code, .bool f.fin, .slice da dl dc, .slice sa sl sc]] w fun e w' => e = .returned (.tuple #[.agg #[.int .i64 30, .int .i64 0, .int .i64 0, .int .i64 0, .int .i64 0, .bool false, .slice none 0 0, .slice none 0 0], .bool true]) ∧ Below w.heap.size w w' := by
  go_enter Tryd.func30, Tryd.ntmps30
  go_wp2
  all_goals
    refine bodyPost_ret (v := .tuple #[.agg #[.int .i64 30, .int .i64 0, .int .i64 0, .int .i64 0, .int .i64 0, .bool false, .slice none 0 0, .slice none 0 0], .bool true]) (by simp [results, Tryd.results30, go_sem]) rfl ⟨rfl, ?_⟩
    go_grown

set_option maxHeartbeats 3200000 in
theorem bare_2 (f : Fr) (da sa : Option Addr) (dl dc sl sc : Nat) (w : World) :
    Calls Tryd.prog 30 #[.agg #[.int .i64 2, .int .i64 f.stream, .int .i64 f.offset, .int .i64 f.n, .int .i64 f.code, .bool f.fin, .slice da dl dc, .slice sa sl sc]] w fun e w' => e = .returned (.tuple #[.agg #[.int .i64 2, .int .i64 0, .int .i64 0, .int .i64 f.n, .int .i64 0, .bool false, .slice none 0 0, .slice sa sl sc], .bool true]) ∧ Below w.heap.size w w' := by
  go_enter Tryd.func30, Tryd.ntmps30
  go_wp2
  go_region
  all_goals go_wp2
  all_goals
    refine bodyPost_ret (v := .tuple #[.agg #[.int .i64 2, .int .i64 0, .int .i64 0, .int .i64 f.n, .int .i64 0, .bool false, .slice none 0 0, .slice sa sl sc], .bool true]) (by simp [results, Tryd.results30, go_sem]) rfl ⟨rfl, ?_⟩
    go_grown

set_option maxHeartbeats 3200000 in
theorem bare_4 (f : Fr) (da sa : Option Addr) (dl dc sl sc : Nat) (w : World) :
    Calls Tryd.prog 30 #[.agg #[.int .i64 4, .int .i64 f.stream, .int .i64 f.offset, .int .i64 f.n, .int .i64 f.code, .bool f.fin, .slice da dl dc, .slice sa sl sc]] w fun e w' => e = .returned (.tuple #[.agg #[.int .i64 4, .int .i64 f.stream, .int .i64 f.offset, .int .i64 0, .int .i64 f.code, .bool false, .slice none 0 0, .slice none 0 0], .bool true]) ∧ Below w.heap.size w w' := by
  go_enter Tryd.func30, Tryd.ntmps30
  go_wp2
  go_region
  all_goals go_wp2
  all_goals
    refine bodyPost_ret (v := .tuple #[.agg #[.int .i64 4, .int .i64 f.stream, .int .i64 f.offset, .int .i64 0, .int .i64 f.code, .bool false, .slice none 0 0, .slice none 0 0], .bool true]) (by simp [results, Tryd.results30, go_sem]) rfl ⟨rfl, ?_⟩
    go_grown

set_option maxHeartbeats 3200000 in
theorem bare_5 (f : Fr) (da sa : Option Addr) (dl dc sl sc : Nat) (w : World) :
    Calls Tryd.prog 30 #[.agg #[.int .i64 5, .int .i64 f.stream, .int .i64 f.offset, .int .i64 f.n, .int .i64 f.code, .bool f.fin, .slice da dl dc, .slice sa sl sc]] w fun e w' => e = .returned (.tuple #[.agg #[.int .i64 5, .int .i64 f.stream, .int .i64 0, .int .i64 0, .int .i64 f.code, .bool false, .slice none 0 0, .slice none 0 0], .bool true]) ∧ Below w.heap.size w w' := by
  go_enter Tryd.func30, Tryd.ntmps30
  go_wp2
  go_region
  all_goals go_wp2
  all_goals
    refine bodyPost_ret (v := .tuple #[.agg #[.int .i64 5, .int .i64 f.stream, .int .i64 0, .int .i64 0, .int .i64 f.code, .bool false, .slice none 0 0, .slice none 0 0], .bool true]) (by simp [results, Tryd.results30, go_sem]) rfl ⟨rfl, ?_⟩
    go_grown

set_option maxHeartbeats 3200000 in
theorem bare_8 (f : Fr) (da sa : Option Addr) (dl dc sl sc : Nat) (w : World) :
    Calls Tryd.prog 30 #[.agg #[.int .i64 8, .int .i64 f.stream, .int .i64 f.offset, .int .i64 f.n, .int .i64 f.code, .bool f.fin, .slice da dl dc, .slice sa sl sc]] w fun e w' => e = .returned (.tuple #[.agg #[.int .i64 8, .int .i64 f.stream, .int .i64 f.offset, .int .i64 0, .int .i64 0, .bool f.fin, .slice da dl dc, .slice none 0 0], .bool true]) ∧ Below w.heap.size w w' := by
  go_enter Tryd.func30, Tryd.ntmps30
  go_wp2
  go_region
  all_goals go_wp2
  all_goals
    refine bodyPost_ret (v := .tuple #[.agg #[.int .i64 8, .int .i64 f.stream, .int .i64 f.offset, .int .i64 0, .int .i64 0, .bool f.fin, .slice da dl dc, .slice none 0 0], .bool true]) (by simp [results, Tryd.results30, go_sem]) rfl ⟨rfl, ?_⟩
    go_grown

set_option maxHeartbeats 3200000 in
theorem bare_16 (f : Fr) (da sa : Option Addr) (dl dc sl sc : Nat) (w : World) :
    Calls Tryd.prog 30 #[.agg #[.int .i64 16, .int .i64 f.stream, .int .i64 f.offset, .int .i64 f.n, .int .i64 f.code, .bool f.fin, .slice da dl dc, .slice sa sl sc]] w fun e w' => e = .returned (.tuple #[.agg #[.int .i64 16, .int .i64 0, .int .i64 0, .int .i64 f.n, .int .i64 0, .bool false, .slice none 0 0, .slice none 0 0], .bool true]) ∧ Below w.heap.size w w' := by
  go_enter Tryd.func30, Tryd.ntmps30
  go_wp2
  all_goals
    refine bodyPost_ret (v := .tuple #[.agg #[.int .i64 16, .int .i64 0, .int .i64 0, .int .i64 f.n, .int .i64 0, .bool false, .slice none 0 0, .slice none 0 0], .bool true]) (by simp [results, Tryd.results30, go_sem]) rfl ⟨rfl, ?_⟩
    go_grown

set_option maxHeartbeats 3200000 in
theorem bare_18 (f : Fr) (da sa : Option Addr) (dl dc sl sc : Nat) (w : World) :
    Calls Tryd.prog 30 #[.agg #[.int .i64 18, .int .i64 f.stream, .int .i64 f.offset, .int .i64 f.n, .int .i64 f.code, .bool f.fin, .slice da dl dc, .slice sa sl sc]] w fun e w' => e = .returned (.tuple #[.agg #[.int .i64 18, .int .i64 0, .int .i64 0, .int .i64 f.n, .int .i64 0, .bool false, .slice none 0 0, .slice none 0 0], .bool true]) ∧ Below w.heap.size w w' := by
  go_enter Tryd.func30, Tryd.ntmps30
  go_wp2
  all_goals
    refine bodyPost_ret (v := .tuple #[.agg #[.int .i64 18, .int .i64 0, .int .i64 0, .int .i64 f.n, .int .i64 0, .bool false, .slice none 0 0, .slice none 0 0], .bool true]) (by simp [results, Tryd.results30, go_sem]) rfl ⟨rfl, ?_⟩
    go_grown

set_option maxHeartbeats 3200000 in
theorem bare_17 (f : Fr) (da sa : Option Addr) (dl dc sl sc : Nat) (w : World) :
    Calls Tryd.prog 30 #[.agg #[.int .i64 17, .int .i64 f.stream, .int .i64 f.offset, .int .i64 f.n, .int .i64 f.code, .bool f.fin, .slice da dl dc, .slice sa sl sc]] w fun e w' => e = .returned (.tuple #[.agg #[.int .i64 17, .int .i64 f.stream, .int .i64 0, .int .i64 f.n, .int .i64 0, .bool false, .slice none 0 0, .slice none 0 0], .bool true]) ∧ Below w.heap.size w w' := by
  go_enter Tryd.func30, Tryd.ntmps30
  go_wp2
  go_region
  all_goals go_wp2
  all_goals
    refine bodyPost_ret (v := .tuple #[.agg #[.int .i64 17, .int .i64 f.stream, .int .i64 0, .int .i64 f.n, .int .i64 0, .bool false, .slice none 0 0, .slice none 0 0], .bool true]) (by simp [results, Tryd.results30, go_sem]) rfl ⟨rfl, ?_⟩
    go_grown

set_option maxHeartbeats 3200000 in
theorem bare_28 (f : Fr) (da sa : Option Addr) (dl dc sl sc : Nat) (w : World) :
    Calls Tryd.prog 30 #[.agg #[.int .i64 28, .int .i64 f.stream, .int .i64 f.offset, .int .i64 f.n, .int .i64 f.code, .bool f.fin, .slice da dl dc, .slice sa sl sc]] w fun e w' => e = .returned (.tuple #[.agg #[.int .i64 28, .int .i64 0, .int .i64 0, .int .i64 0, .int .i64 f.code, .bool false, .slice da dl dc, .slice none 0 0], .bool true]) ∧ Below w.heap.size w w' := by
  go_enter Tryd.func30, Tryd.ntmps30
  go_wp2
  go_region
  all_goals go_wp2
  all_goals
    refine bodyPost_ret (v := .tuple #[.agg #[.int .i64 28, .int .i64 0, .int .i64 0, .int .i64 0, .int .i64 f.code, .bool false, .slice da dl dc, .slice none 0 0], .bool true]) (by simp [results, Tryd.results30, go_sem]) rfl ⟨rfl, ?_⟩
    go_grown

set_option maxHeartbeats 3200000 in
theorem bare_none (f : Fr) (da sa : Option Addr) (dl dc sl sc : Nat) (w : World) (hk : ¬ knownK f.kind) :
    Calls Tryd.prog 30 #[.agg #[.int .i64 f.kind, .int .i64 f.stream, .int .i64 f.offset, .int .i64 f.n, .int .i64 f.code, .bool f.fin, .slice da dl dc, .slice sa sl sc]] w fun e w' => e = .returned (.tuple #[.agg #[.int .i64 0, .int .i64 0, .int .i64 0, .int .i64 0, .int .i64 0, .bool false, .slice none 0 0, .slice none 0 0], .bool false]) ∧ Below w.heap.size w w' := by
  have n0 : (f.kind == 0) = false := by simp; intro h; exact hk (by rw [h]; decide)
  have n1 : (f.kind == 1) = false := by simp; intro h; exact hk (by rw [h]; decide)
  have n30 : (f.kind == 30) = false := by simp; intro h; exact hk (by rw [h]; decide)
  have n2 : (f.kind == 2) = false := by simp; intro h; exact hk (by rw [h]; decide)
  have n4 : (f.kind == 4) = false := by simp; intro h; exact hk (by rw [h]; decide)
  have n5 : (f.kind == 5) = false := by simp; intro h; exact hk (by rw [h]; decide)
  have n8 : (f.kind == 8) = false := by simp; intro h; exact hk (by rw [h]; decide)
  have n16 : (f.kind == 16) = false := by simp; intro h; exact hk (by rw [h]; decide)
  have n18 : (f.kind == 18) = false := by simp; intro h; exact hk (by rw [h]; decide)
  have n17 : (f.kind == 17) = false := by simp; intro h; exact hk (by rw [h]; decide)
  have n28 : (f.kind == 28) = false := by simp; intro h; exact hk (by rw [h]; decide)
  clear hk
  go_enter Tryd.func30, Tryd.ntmps30
  go_wp2
  refine bodyPost_ret (v := .tuple #[.agg #[.int .i64 0, .int .i64 0, .int .i64 0, .int .i64 0, .int .i64 0, .bool false, .slice none 0 0, .slice none 0 0], .bool false]) (by simp [results, Tryd.results30, go_sem]) rfl ⟨rfl, ?_⟩
  go_grown
end Go.Proofs.YtfkkimaebhjneaaDoor
