/- Walks of layer 4: the reference's bytes, kinds with bytes (written by genBytes.py). -/
import Derived.Test.YtfkkimaebhjneaaDoorFvC
set_option linter.unusedSimpArgs false
set_option linter.unusedVariables false
namespace Go.Proofs.YtfkkimaebhjneaaDoor
open Go.RowKit

set_option maxHeartbeats 3200000 in
theorem rbytes_28 (f : Fr) (da sa : Option Addr) (dc sc : Nat) (w : World) (hk : f.kind = 28) (hm : mayF f = true) (hd : Rd .u8 w (.slice da f.data.length dc) f.data) :
    Calls Tryd.prog 22 #[.agg #[.int .i64 28, .int .i64 f.stream, .int .i64 f.offset, .int .i64 f.n, .int .i64 f.code, .bool f.fin, .slice da f.data.length dc, .slice sa f.spans.length sc]] w (PutsIs w w.heap.size (encF f)) := by
  obtain ⟨_, h1, h2, h3, h4, h5, h6, h7⟩ := mayF_parts hm
  rw [hk] at h1 h2 h3 h4 h5 h6 h7
  have v_code := numB_yes h2 rfl
  have hlen : f.data.length ≤ 1200 := by
    have := h6
    simp only [show hData 28 = true from rfl, dataB, if_true, decide_eq_true_eq] at this
    exact this.1
  have ht : typeI f = 28 := by unfold typeI; rw [hk]; simp
  have HE : Hid (encF f = [] ++ numsE [28, f.code, (f.data.length : Int)] ++ f.data) := by
    show _ = _
    rw [encF_28 hk, ht]
    simp [numsE]
  have hns : ∀ n ∈ ([28, f.code, (f.data.length : Int)] : List Int), 0 ≤ n ∧ n ≤ 4611686018427387903 := by
    intro n hn
    simp only [List.mem_cons, List.not_mem_nil, or_false] at hn
    rcases hn with rfl | rfl | rfl <;> omega
  have HN := Lib.hid hns
  have hln : Hid (([] ++ numsE [28, f.code, (f.data.length : Int)]).length + f.data.length ≤ 1048576) := by show _ ≤ _; have := numsE_len [28, f.code, (f.data.length : Int)]; rw [List.nil_append]; simp only [List.length_cons, List.length_nil] at this; omega
  have bA : Below w.heap.size w (w.alloc (.cells #[.int .i64 28, .int .i64 f.stream, .int .i64 f.offset, .int .i64 f.n, .int .i64 f.code, .bool f.fin, .slice da f.data.length dc, .slice sa f.spans.length sc] 33)) := (Below.refl _ _).alloc (Nat.le_refl _) _
  have bB : Below w.heap.size w (w.alloc (.cells #[.int .i64 28, .int .i64 f.stream, .int .i64 f.offset, .int .i64 f.n, .int .i64 f.code, .bool f.fin, .slice da f.data.length dc, .slice sa f.spans.length sc] 33)).drew := below_drewN bA 1
  have bC : Below w.heap.size w ((w.alloc (.cells #[.int .i64 28, .int .i64 f.stream, .int .i64 f.offset, .int .i64 f.n, .int .i64 f.code, .bool f.fin, .slice da f.data.length dc, .slice sa f.spans.length sc] 33)).drew.alloc (.cells #[.int .i64 28, .int .i64 f.code, .int .i64 f.data.length] 3)) := bB.alloc bB.size _
  have HD := Lib.hid hd
  have Q : ∀ V, Below (w.heap.size + 1) (w.alloc (.cells #[.int .i64 28, .int .i64 f.stream, .int .i64 f.offset, .int .i64 f.n, .int .i64 f.code, .bool f.fin, .slice da f.data.length dc, .slice sa f.spans.length sc] 33)).drew V → (V.cell? ⟨w.heap.size, 4, none⟩ = some (.int .i64 f.code) ∧ V.cell? ⟨w.heap.size, 6, none⟩ = some (.slice da f.data.length dc)) := by
    intro V hV
    have kx := (hV.block w.heap.size (by omega)).trans (show (w.alloc (.cells #[.int .i64 28, .int .i64 f.stream, .int .i64 f.offset, .int .i64 f.n, .int .i64 f.code, .bool f.fin, .slice da f.data.length dc, .slice sa f.spans.length sc] 33)).drew.heap[w.heap.size]? = _ from alloc_at w (.cells #[.int .i64 28, .int .i64 f.stream, .int .i64 f.offset, .int .i64 f.n, .int .i64 f.code, .bool f.fin, .slice da f.data.length dc, .slice sa f.spans.length sc] 33))
    have kc := fun i => Joins.cell_of_block kx i
    exact ⟨kc 4, kc 6⟩
  have hsz : (w.alloc (.cells #[.int .i64 28, .int .i64 f.stream, .int .i64 f.offset, .int .i64 f.n, .int .i64 f.code, .bool f.fin, .slice da f.data.length dc, .slice sa f.spans.length sc] 33)).drew.heap.size = w.heap.size + 1 := by show (w.alloc (.cells #[.int .i64 28, .int .i64 f.stream, .int .i64 f.offset, .int .i64 f.n, .int .i64 f.code, .bool f.fin, .slice da f.data.length dc, .slice sa f.spans.length sc] 33)).heap.size = _; simp
  have b01 : Below (w.heap.size + 1) (w.alloc (.cells #[.int .i64 28, .int .i64 f.stream, .int .i64 f.offset, .int .i64 f.n, .int .i64 f.code, .bool f.fin, .slice da f.data.length dc, .slice sa f.spans.length sc] 33)).drew ((w.alloc (.cells #[.int .i64 28, .int .i64 f.stream, .int .i64 f.offset, .int .i64 f.n, .int .i64 f.code, .bool f.fin, .slice da f.data.length dc, .slice sa f.spans.length sc] 33)).drew.alloc (.cells #[.int .i64 28, .int .i64 f.code, .int .i64 f.data.length] 3)) := (Below.refl _ _).alloc (by rw [hsz]; exact Nat.le_refl _) _
  have QB := Q _ (Below.refl _ _)
  have QC := Q _ b01
  have HQ := Lib.hid Q
  have PA := Lib.hid (puts_any (w.heap.size + 1) (.slice none 0 0) _ [] [28, f.code, (f.data.length : Int)] ((w.alloc (.cells #[.int .i64 28, .int .i64 f.stream, .int .i64 f.offset, .int .i64 f.n, .int .i64 f.code, .bool f.fin, .slice da f.data.length dc, .slice sa f.spans.length sc] 33)).drew.alloc (.cells #[.int .i64 28, .int .i64 f.code, .int .i64 f.data.length] 3)) (by simp [hsz]) (Own.nil _ _ _ _) (Rd.lit' [28, f.code, (f.data.length : Int)] (by simp) 3 (w.alloc (.cells #[.int .i64 28, .int .i64 f.stream, .int .i64 f.offset, .int .i64 f.n, .int .i64 f.code, .bool f.fin, .slice da f.data.length dc, .slice sa f.spans.length sc] 33)).drew.heap.size rfl (by decide) _ rfl rfl) (by simp) HN.out)
  rw [hsz] at PA
  have H01 := Lib.hid b01
  clear hm h1 h2 h3 h4 h5 h6 h7 ht hns hk hd Q b01
  go_enter Tryd.func22, Tryd.ntmps22
  go_wp2_with fail
  go_region_held3 (fun w' => w'.cell? ⟨w.heap.size, 4, none⟩ = some (.int .i64 f.code) ∧ w'.cell? ⟨w.heap.size, 6, none⟩ = some (.slice da f.data.length dc))
    (first
      | (exact QB)
      | (exact QC)
      | (exact HQ.out _ (B3.grown g3 z3 oz.blk))
      | (exact HQ.out _ B3))
    (first
      | (go_at_call 42; refine PA.out.mono ?_; rintro e w2 ⟨z, rfl, oz, bz⟩; have B2 := bC.trans (bz.mono bC.size); have B3 := H01.out.trans (bz.mono (by simp [hsz])); have z3 : w.heap.size + 1 ≤ w2.heap.size := Nat.le_trans (by simp [hsz]) bz.size; have RW := HD.out.below B2; have z2 := B2.size)
      | (refine step_append_rd rfl (.tmp 132) (.tmp 134) 23 rfl elemU8 Tryd.underlying23 (w.heap.size + 1) z _ rfl oz (.slice da f.data.length dc) f.data rfl RW ?_ ?_ ?_ ?_; (have := hln.out; omega); (have := hln.out; unfold maxLen; omega); (exact z3); intro v3 w3 o3 g3))
  all_goals
    go_wp2
    go_ret
    exact ⟨_, rfl, by rw [HE.out]; exact o3.mono (Nat.le_succ _), B2.grown g3 z2 (fun k h => Nat.le_of_succ_le (oz.blk k h))⟩

set_option maxHeartbeats 3200000 in
theorem rbytes_80 (f : Fr) (da sa : Option Addr) (dc sc : Nat) (w : World) (hk : f.kind = 8) (hm : mayF f = true) (hd : Rd .u8 w (.slice da f.data.length dc) f.data) (hf : f.fin = false) :
    Calls Tryd.prog 22 #[.agg #[.int .i64 8, .int .i64 f.stream, .int .i64 f.offset, .int .i64 f.n, .int .i64 f.code, .bool false, .slice da f.data.length dc, .slice sa f.spans.length sc]] w (PutsIs w w.heap.size (encF f)) := by
  obtain ⟨_, h1, h2, h3, h4, h5, h6, h7⟩ := mayF_parts hm
  rw [hk] at h1 h2 h3 h4 h5 h6 h7
  have v_stream := numB_yes h1 rfl
  have v_offset := numB_yes h3 rfl
  have hlen : f.data.length ≤ 1200 := by
    have := h6
    simp only [show hData 8 = true from rfl, dataB, if_true, decide_eq_true_eq] at this
    exact this.1
  have ht : typeI f = 14 := by unfold typeI; rw [hk]; simp; exact hf
  have HE : Hid (encF f = [] ++ numsE [14, f.stream, f.offset, (f.data.length : Int)] ++ f.data) := by
    show _ = _
    rw [encF_8 hk, ht]
    simp [numsE]
  have hns : ∀ n ∈ ([14, f.stream, f.offset, (f.data.length : Int)] : List Int), 0 ≤ n ∧ n ≤ 4611686018427387903 := by
    intro n hn
    simp only [List.mem_cons, List.not_mem_nil, or_false] at hn
    rcases hn with rfl | rfl | rfl | rfl <;> omega
  have HN := Lib.hid hns
  have hln : Hid (([] ++ numsE [14, f.stream, f.offset, (f.data.length : Int)]).length + f.data.length ≤ 1048576) := by show _ ≤ _; have := numsE_len [14, f.stream, f.offset, (f.data.length : Int)]; rw [List.nil_append]; simp only [List.length_cons, List.length_nil] at this; omega
  have bA : Below w.heap.size w (w.alloc (.cells #[.int .i64 8, .int .i64 f.stream, .int .i64 f.offset, .int .i64 f.n, .int .i64 f.code, .bool false, .slice da f.data.length dc, .slice sa f.spans.length sc] 33)) := (Below.refl _ _).alloc (Nat.le_refl _) _
  have bB : Below w.heap.size w (w.alloc (.cells #[.int .i64 8, .int .i64 f.stream, .int .i64 f.offset, .int .i64 f.n, .int .i64 f.code, .bool false, .slice da f.data.length dc, .slice sa f.spans.length sc] 33)).drew := below_drewN bA 1
  have bC : Below w.heap.size w ((w.alloc (.cells #[.int .i64 8, .int .i64 f.stream, .int .i64 f.offset, .int .i64 f.n, .int .i64 f.code, .bool false, .slice da f.data.length dc, .slice sa f.spans.length sc] 33)).drew.alloc (.cells #[.int .i64 14, .int .i64 f.stream, .int .i64 f.offset, .int .i64 f.data.length] 3)) := bB.alloc bB.size _
  have HD := Lib.hid hd
  have Q : ∀ V, Below (w.heap.size + 1) (w.alloc (.cells #[.int .i64 8, .int .i64 f.stream, .int .i64 f.offset, .int .i64 f.n, .int .i64 f.code, .bool false, .slice da f.data.length dc, .slice sa f.spans.length sc] 33)).drew V → (V.cell? ⟨w.heap.size, 1, none⟩ = some (.int .i64 f.stream) ∧ V.cell? ⟨w.heap.size, 2, none⟩ = some (.int .i64 f.offset) ∧ V.cell? ⟨w.heap.size, 6, none⟩ = some (.slice da f.data.length dc)) := by
    intro V hV
    have kx := (hV.block w.heap.size (by omega)).trans (show (w.alloc (.cells #[.int .i64 8, .int .i64 f.stream, .int .i64 f.offset, .int .i64 f.n, .int .i64 f.code, .bool false, .slice da f.data.length dc, .slice sa f.spans.length sc] 33)).drew.heap[w.heap.size]? = _ from alloc_at w (.cells #[.int .i64 8, .int .i64 f.stream, .int .i64 f.offset, .int .i64 f.n, .int .i64 f.code, .bool false, .slice da f.data.length dc, .slice sa f.spans.length sc] 33))
    have kc := fun i => Joins.cell_of_block kx i
    exact ⟨kc 1, kc 2, kc 6⟩
  have hsz : (w.alloc (.cells #[.int .i64 8, .int .i64 f.stream, .int .i64 f.offset, .int .i64 f.n, .int .i64 f.code, .bool false, .slice da f.data.length dc, .slice sa f.spans.length sc] 33)).drew.heap.size = w.heap.size + 1 := by show (w.alloc (.cells #[.int .i64 8, .int .i64 f.stream, .int .i64 f.offset, .int .i64 f.n, .int .i64 f.code, .bool false, .slice da f.data.length dc, .slice sa f.spans.length sc] 33)).heap.size = _; simp
  have b01 : Below (w.heap.size + 1) (w.alloc (.cells #[.int .i64 8, .int .i64 f.stream, .int .i64 f.offset, .int .i64 f.n, .int .i64 f.code, .bool false, .slice da f.data.length dc, .slice sa f.spans.length sc] 33)).drew ((w.alloc (.cells #[.int .i64 8, .int .i64 f.stream, .int .i64 f.offset, .int .i64 f.n, .int .i64 f.code, .bool false, .slice da f.data.length dc, .slice sa f.spans.length sc] 33)).drew.alloc (.cells #[.int .i64 14, .int .i64 f.stream, .int .i64 f.offset, .int .i64 f.data.length] 3)) := (Below.refl _ _).alloc (by rw [hsz]; exact Nat.le_refl _) _
  have QB := Q _ (Below.refl _ _)
  have QC := Q _ b01
  have HQ := Lib.hid Q
  have PA := Lib.hid (puts_any (w.heap.size + 1) (.slice none 0 0) _ [] [14, f.stream, f.offset, (f.data.length : Int)] ((w.alloc (.cells #[.int .i64 8, .int .i64 f.stream, .int .i64 f.offset, .int .i64 f.n, .int .i64 f.code, .bool false, .slice da f.data.length dc, .slice sa f.spans.length sc] 33)).drew.alloc (.cells #[.int .i64 14, .int .i64 f.stream, .int .i64 f.offset, .int .i64 f.data.length] 3)) (by simp [hsz]) (Own.nil _ _ _ _) (Rd.lit' [14, f.stream, f.offset, (f.data.length : Int)] (by simp) 4 (w.alloc (.cells #[.int .i64 8, .int .i64 f.stream, .int .i64 f.offset, .int .i64 f.n, .int .i64 f.code, .bool false, .slice da f.data.length dc, .slice sa f.spans.length sc] 33)).drew.heap.size rfl (by decide) _ rfl rfl) (by simp) HN.out)
  rw [hsz] at PA
  have H01 := Lib.hid b01
  clear hm h1 h2 h3 h4 h5 h6 h7 ht hns hk hd Q b01
  go_enter Tryd.func22, Tryd.ntmps22
  go_wp2_with fail
  go_region_held3 (fun w' => w'.cell? ⟨w.heap.size, 1, none⟩ = some (.int .i64 f.stream) ∧ w'.cell? ⟨w.heap.size, 2, none⟩ = some (.int .i64 f.offset) ∧ w'.cell? ⟨w.heap.size, 6, none⟩ = some (.slice da f.data.length dc))
    (first
      | (exact QB)
      | (exact QC)
      | (exact HQ.out _ (B3.grown g3 z3 oz.blk))
      | (exact HQ.out _ B3))
    (first
      | (go_at_call 42; refine PA.out.mono ?_; rintro e w2 ⟨z, rfl, oz, bz⟩; have B2 := bC.trans (bz.mono bC.size); have B3 := H01.out.trans (bz.mono (by simp [hsz])); have z3 : w.heap.size + 1 ≤ w2.heap.size := Nat.le_trans (by simp [hsz]) bz.size; have RW := HD.out.below B2; have z2 := B2.size)
      | (refine step_append_rd rfl (.tmp 103) (.tmp 105) 23 rfl elemU8 Tryd.underlying23 (w.heap.size + 1) z _ rfl oz (.slice da f.data.length dc) f.data rfl RW ?_ ?_ ?_ ?_; (have := hln.out; omega); (have := hln.out; unfold maxLen; omega); (exact z3); intro v3 w3 o3 g3))
  all_goals
    go_wp2
    go_ret
    exact ⟨_, rfl, by rw [HE.out]; exact o3.mono (Nat.le_succ _), B2.grown g3 z2 (fun k h => Nat.le_of_succ_le (oz.blk k h))⟩

set_option maxHeartbeats 3200000 in
theorem rbytes_81 (f : Fr) (da sa : Option Addr) (dc sc : Nat) (w : World) (hk : f.kind = 8) (hm : mayF f = true) (hd : Rd .u8 w (.slice da f.data.length dc) f.data) (hf : f.fin = true) :
    Calls Tryd.prog 22 #[.agg #[.int .i64 8, .int .i64 f.stream, .int .i64 f.offset, .int .i64 f.n, .int .i64 f.code, .bool true, .slice da f.data.length dc, .slice sa f.spans.length sc]] w (PutsIs w w.heap.size (encF f)) := by
  obtain ⟨_, h1, h2, h3, h4, h5, h6, h7⟩ := mayF_parts hm
  rw [hk] at h1 h2 h3 h4 h5 h6 h7
  have v_stream := numB_yes h1 rfl
  have v_offset := numB_yes h3 rfl
  have hlen : f.data.length ≤ 1200 := by
    have := h6
    simp only [show hData 8 = true from rfl, dataB, if_true, decide_eq_true_eq] at this
    exact this.1
  have ht : typeI f = 15 := by unfold typeI; rw [hk]; simp; exact hf
  have HE : Hid (encF f = [] ++ numsE [15, f.stream, f.offset, (f.data.length : Int)] ++ f.data) := by
    show _ = _
    rw [encF_8 hk, ht]
    simp [numsE]
  have hns : ∀ n ∈ ([15, f.stream, f.offset, (f.data.length : Int)] : List Int), 0 ≤ n ∧ n ≤ 4611686018427387903 := by
    intro n hn
    simp only [List.mem_cons, List.not_mem_nil, or_false] at hn
    rcases hn with rfl | rfl | rfl | rfl <;> omega
  have HN := Lib.hid hns
  have hln : Hid (([] ++ numsE [15, f.stream, f.offset, (f.data.length : Int)]).length + f.data.length ≤ 1048576) := by show _ ≤ _; have := numsE_len [15, f.stream, f.offset, (f.data.length : Int)]; rw [List.nil_append]; simp only [List.length_cons, List.length_nil] at this; omega
  have bA : Below w.heap.size w (w.alloc (.cells #[.int .i64 8, .int .i64 f.stream, .int .i64 f.offset, .int .i64 f.n, .int .i64 f.code, .bool true, .slice da f.data.length dc, .slice sa f.spans.length sc] 33)) := (Below.refl _ _).alloc (Nat.le_refl _) _
  have bB : Below w.heap.size w (w.alloc (.cells #[.int .i64 8, .int .i64 f.stream, .int .i64 f.offset, .int .i64 f.n, .int .i64 f.code, .bool true, .slice da f.data.length dc, .slice sa f.spans.length sc] 33)).drew := below_drewN bA 1
  have bC : Below w.heap.size w ((w.alloc (.cells #[.int .i64 8, .int .i64 f.stream, .int .i64 f.offset, .int .i64 f.n, .int .i64 f.code, .bool true, .slice da f.data.length dc, .slice sa f.spans.length sc] 33)).drew.alloc (.cells #[.int .i64 15, .int .i64 f.stream, .int .i64 f.offset, .int .i64 f.data.length] 3)) := bB.alloc bB.size _
  have HD := Lib.hid hd
  have Q : ∀ V, Below (w.heap.size + 1) (w.alloc (.cells #[.int .i64 8, .int .i64 f.stream, .int .i64 f.offset, .int .i64 f.n, .int .i64 f.code, .bool true, .slice da f.data.length dc, .slice sa f.spans.length sc] 33)).drew V → (V.cell? ⟨w.heap.size, 1, none⟩ = some (.int .i64 f.stream) ∧ V.cell? ⟨w.heap.size, 2, none⟩ = some (.int .i64 f.offset) ∧ V.cell? ⟨w.heap.size, 6, none⟩ = some (.slice da f.data.length dc)) := by
    intro V hV
    have kx := (hV.block w.heap.size (by omega)).trans (show (w.alloc (.cells #[.int .i64 8, .int .i64 f.stream, .int .i64 f.offset, .int .i64 f.n, .int .i64 f.code, .bool true, .slice da f.data.length dc, .slice sa f.spans.length sc] 33)).drew.heap[w.heap.size]? = _ from alloc_at w (.cells #[.int .i64 8, .int .i64 f.stream, .int .i64 f.offset, .int .i64 f.n, .int .i64 f.code, .bool true, .slice da f.data.length dc, .slice sa f.spans.length sc] 33))
    have kc := fun i => Joins.cell_of_block kx i
    exact ⟨kc 1, kc 2, kc 6⟩
  have hsz : (w.alloc (.cells #[.int .i64 8, .int .i64 f.stream, .int .i64 f.offset, .int .i64 f.n, .int .i64 f.code, .bool true, .slice da f.data.length dc, .slice sa f.spans.length sc] 33)).drew.heap.size = w.heap.size + 1 := by show (w.alloc (.cells #[.int .i64 8, .int .i64 f.stream, .int .i64 f.offset, .int .i64 f.n, .int .i64 f.code, .bool true, .slice da f.data.length dc, .slice sa f.spans.length sc] 33)).heap.size = _; simp
  have b01 : Below (w.heap.size + 1) (w.alloc (.cells #[.int .i64 8, .int .i64 f.stream, .int .i64 f.offset, .int .i64 f.n, .int .i64 f.code, .bool true, .slice da f.data.length dc, .slice sa f.spans.length sc] 33)).drew ((w.alloc (.cells #[.int .i64 8, .int .i64 f.stream, .int .i64 f.offset, .int .i64 f.n, .int .i64 f.code, .bool true, .slice da f.data.length dc, .slice sa f.spans.length sc] 33)).drew.alloc (.cells #[.int .i64 15, .int .i64 f.stream, .int .i64 f.offset, .int .i64 f.data.length] 3)) := (Below.refl _ _).alloc (by rw [hsz]; exact Nat.le_refl _) _
  have QB := Q _ (Below.refl _ _)
  have QC := Q _ b01
  have HQ := Lib.hid Q
  have PA := Lib.hid (puts_any (w.heap.size + 1) (.slice none 0 0) _ [] [15, f.stream, f.offset, (f.data.length : Int)] ((w.alloc (.cells #[.int .i64 8, .int .i64 f.stream, .int .i64 f.offset, .int .i64 f.n, .int .i64 f.code, .bool true, .slice da f.data.length dc, .slice sa f.spans.length sc] 33)).drew.alloc (.cells #[.int .i64 15, .int .i64 f.stream, .int .i64 f.offset, .int .i64 f.data.length] 3)) (by simp [hsz]) (Own.nil _ _ _ _) (Rd.lit' [15, f.stream, f.offset, (f.data.length : Int)] (by simp) 4 (w.alloc (.cells #[.int .i64 8, .int .i64 f.stream, .int .i64 f.offset, .int .i64 f.n, .int .i64 f.code, .bool true, .slice da f.data.length dc, .slice sa f.spans.length sc] 33)).drew.heap.size rfl (by decide) _ rfl rfl) (by simp) HN.out)
  rw [hsz] at PA
  have H01 := Lib.hid b01
  clear hm h1 h2 h3 h4 h5 h6 h7 ht hns hk hd Q b01
  go_enter Tryd.func22, Tryd.ntmps22
  go_wp2_with fail
  go_region_held3 (fun w' => w'.cell? ⟨w.heap.size, 1, none⟩ = some (.int .i64 f.stream) ∧ w'.cell? ⟨w.heap.size, 2, none⟩ = some (.int .i64 f.offset) ∧ w'.cell? ⟨w.heap.size, 6, none⟩ = some (.slice da f.data.length dc))
    (first
      | (exact QB)
      | (exact QC)
      | (exact HQ.out _ (B3.grown g3 z3 oz.blk))
      | (exact HQ.out _ B3))
    (first
      | (go_at_call 42; refine PA.out.mono ?_; rintro e w2 ⟨z, rfl, oz, bz⟩; have B2 := bC.trans (bz.mono bC.size); have B3 := H01.out.trans (bz.mono (by simp [hsz])); have z3 : w.heap.size + 1 ≤ w2.heap.size := Nat.le_trans (by simp [hsz]) bz.size; have RW := HD.out.below B2; have z2 := B2.size)
      | (refine step_append_rd rfl (.tmp 103) (.tmp 105) 23 rfl elemU8 Tryd.underlying23 (w.heap.size + 1) z _ rfl oz (.slice da f.data.length dc) f.data rfl RW ?_ ?_ ?_ ?_; (have := hln.out; omega); (have := hln.out; unfold maxLen; omega); (exact z3); intro v3 w3 o3 g3))
  all_goals
    go_wp2
    go_ret
    exact ⟨_, rfl, by rw [HE.out]; exact o3.mono (Nat.le_succ _), B2.grown g3 z2 (fun k h => Nat.le_of_succ_le (oz.blk k h))⟩
end Go.Proofs.YtfkkimaebhjneaaDoor
