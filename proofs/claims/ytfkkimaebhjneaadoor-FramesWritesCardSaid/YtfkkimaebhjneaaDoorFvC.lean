/- Walks of layer 4: the reference's bytes (written by genBytes.py). -/
import Derived.Test.YtfkkimaebhjneaaDoorFvB
set_option linter.unusedSimpArgs false
set_option linter.unusedVariables false
namespace Go.Proofs.YtfkkimaebhjneaaDoor
open Go.RowKit

set_option maxHeartbeats 1600000 in
theorem rbytes_0 (f : Fr) (da sa : Option Addr) (dc sc : Nat) (w : World) (hk : f.kind = 0) (hm : mayF f = true) :
    Calls Tryd.prog 22 #[.agg #[.int .i64 0, .int .i64 f.stream, .int .i64 f.offset, .int .i64 f.n, .int .i64 f.code, .bool f.fin, .slice da f.data.length dc, .slice sa f.spans.length sc]] w (PutsIs w w.heap.size (encF f)) := by
  obtain ⟨_, h1, h2, h3, h4, h5, h6, h7⟩ := mayF_parts hm
  rw [hk] at h1 h2 h3 h4 h5 h6 h7
  have ht : typeI f = 0 := by unfold typeI; rw [hk]; simp
  have HE : Hid (encF f = numsE [0]) := by
    show _ = _
    rw [encF_0 hk, ht]
    simp [numsE]
  have hns : ∀ n ∈ ([0] : List Int), 0 ≤ n ∧ n ≤ 4611686018427387903 := by
    intro n hn
    simp only [List.mem_cons, List.not_mem_nil, or_false] at hn
    rcases hn with rfl <;> omega
  have HN := Lib.hid hns
  have bA : Below w.heap.size w ((w.alloc (.cells #[.int .i64 0, .int .i64 f.stream, .int .i64 f.offset, .int .i64 f.n, .int .i64 f.code, .bool f.fin, .slice da f.data.length dc, .slice sa f.spans.length sc] 33)).alloc (.cells #[.int .i64 0] 3)) := ((Below.refl _ _).alloc (Nat.le_refl _) _).alloc (by simp) _
  clear hm h1 h2 h3 h4 h5 h6 h7 ht hns hk
  go_enter Tryd.func22, Tryd.ntmps22
  go_wp2_with fail
  refine (puts_any w.heap.size (.slice none 0 0) _ [] [0] _ bA.size (Own.nil _ _ _ _) (Rd.lit' [0] (by simp) 1 _ rfl (by decide) _ rfl (by simp)) (by simp) HN.out).mono ?_
  rintro e w2 ⟨z, rfl, oz, bz⟩
  go_wp2
  go_ret
  exact ⟨_, rfl, by rw [HE.out]; exact oz, bA.trans (bz.mono bA.size)⟩

set_option maxHeartbeats 1600000 in
theorem rbytes_1 (f : Fr) (da sa : Option Addr) (dc sc : Nat) (w : World) (hk : f.kind = 1) (hm : mayF f = true) :
    Calls Tryd.prog 22 #[.agg #[.int .i64 1, .int .i64 f.stream, .int .i64 f.offset, .int .i64 f.n, .int .i64 f.code, .bool f.fin, .slice da f.data.length dc, .slice sa f.spans.length sc]] w (PutsIs w w.heap.size (encF f)) := by
  obtain ⟨_, h1, h2, h3, h4, h5, h6, h7⟩ := mayF_parts hm
  rw [hk] at h1 h2 h3 h4 h5 h6 h7
  have ht : typeI f = 1 := by unfold typeI; rw [hk]; simp
  have HE : Hid (encF f = numsE [1]) := by
    show _ = _
    rw [encF_1 hk, ht]
    simp [numsE]
  have hns : ∀ n ∈ ([1] : List Int), 0 ≤ n ∧ n ≤ 4611686018427387903 := by
    intro n hn
    simp only [List.mem_cons, List.not_mem_nil, or_false] at hn
    rcases hn with rfl <;> omega
  have HN := Lib.hid hns
  have bA : Below w.heap.size w ((w.alloc (.cells #[.int .i64 1, .int .i64 f.stream, .int .i64 f.offset, .int .i64 f.n, .int .i64 f.code, .bool f.fin, .slice da f.data.length dc, .slice sa f.spans.length sc] 33)).alloc (.cells #[.int .i64 1] 3)) := ((Below.refl _ _).alloc (Nat.le_refl _) _).alloc (by simp) _
  clear hm h1 h2 h3 h4 h5 h6 h7 ht hns hk
  go_enter Tryd.func22, Tryd.ntmps22
  go_wp2_with fail
  refine (puts_any w.heap.size (.slice none 0 0) _ [] [1] _ bA.size (Own.nil _ _ _ _) (Rd.lit' [1] (by simp) 1 _ rfl (by decide) _ rfl (by simp)) (by simp) HN.out).mono ?_
  rintro e w2 ⟨z, rfl, oz, bz⟩
  go_wp2
  go_ret
  exact ⟨_, rfl, by rw [HE.out]; exact oz, bA.trans (bz.mono bA.size)⟩

set_option maxHeartbeats 1600000 in
theorem rbytes_30 (f : Fr) (da sa : Option Addr) (dc sc : Nat) (w : World) (hk : f.kind = 30) (hm : mayF f = true) :
    Calls Tryd.prog 22 #[.agg #[.int .i64 30, .int .i64 f.stream, .int .i64 f.offset, .int .i64 f.n, .int .i64 f.code, .bool f.fin, .slice da f.data.length dc, .slice sa f.spans.length sc]] w (PutsIs w w.heap.size (encF f)) := by
  obtain ⟨_, h1, h2, h3, h4, h5, h6, h7⟩ := mayF_parts hm
  rw [hk] at h1 h2 h3 h4 h5 h6 h7
  have ht : typeI f = 30 := by unfold typeI; rw [hk]; simp
  have HE : Hid (encF f = numsE [30]) := by
    show _ = _
    rw [encF_30 hk, ht]
    simp [numsE]
  have hns : ∀ n ∈ ([30] : List Int), 0 ≤ n ∧ n ≤ 4611686018427387903 := by
    intro n hn
    simp only [List.mem_cons, List.not_mem_nil, or_false] at hn
    rcases hn with rfl <;> omega
  have HN := Lib.hid hns
  have bA : Below w.heap.size w ((w.alloc (.cells #[.int .i64 30, .int .i64 f.stream, .int .i64 f.offset, .int .i64 f.n, .int .i64 f.code, .bool f.fin, .slice da f.data.length dc, .slice sa f.spans.length sc] 33)).alloc (.cells #[.int .i64 30] 3)) := ((Below.refl _ _).alloc (Nat.le_refl _) _).alloc (by simp) _
  clear hm h1 h2 h3 h4 h5 h6 h7 ht hns hk
  go_enter Tryd.func22, Tryd.ntmps22
  go_wp2_with fail
  refine (puts_any w.heap.size (.slice none 0 0) _ [] [30] _ bA.size (Own.nil _ _ _ _) (Rd.lit' [30] (by simp) 1 _ rfl (by decide) _ rfl (by simp)) (by simp) HN.out).mono ?_
  rintro e w2 ⟨z, rfl, oz, bz⟩
  go_wp2
  go_ret
  exact ⟨_, rfl, by rw [HE.out]; exact oz, bA.trans (bz.mono bA.size)⟩

set_option maxHeartbeats 1600000 in
theorem rbytes_4 (f : Fr) (da sa : Option Addr) (dc sc : Nat) (w : World) (hk : f.kind = 4) (hm : mayF f = true) :
    Calls Tryd.prog 22 #[.agg #[.int .i64 4, .int .i64 f.stream, .int .i64 f.offset, .int .i64 f.n, .int .i64 f.code, .bool f.fin, .slice da f.data.length dc, .slice sa f.spans.length sc]] w (PutsIs w w.heap.size (encF f)) := by
  obtain ⟨_, h1, h2, h3, h4, h5, h6, h7⟩ := mayF_parts hm
  rw [hk] at h1 h2 h3 h4 h5 h6 h7
  have v_stream := numB_yes h1 rfl
  have v_code := numB_yes h2 rfl
  have v_offset := numB_yes h3 rfl
  have ht : typeI f = 4 := by unfold typeI; rw [hk]; simp
  have HE : Hid (encF f = numsE [4, f.stream, f.code, f.offset]) := by
    show _ = _
    rw [encF_4 hk, ht]
    simp [numsE]
  have hns : ∀ n ∈ ([4, f.stream, f.code, f.offset] : List Int), 0 ≤ n ∧ n ≤ 4611686018427387903 := by
    intro n hn
    simp only [List.mem_cons, List.not_mem_nil, or_false] at hn
    rcases hn with rfl | rfl | rfl | rfl <;> omega
  have HN := Lib.hid hns
  have bA : Below w.heap.size w ((w.alloc (.cells #[.int .i64 4, .int .i64 f.stream, .int .i64 f.offset, .int .i64 f.n, .int .i64 f.code, .bool f.fin, .slice da f.data.length dc, .slice sa f.spans.length sc] 33)).alloc (.cells #[.int .i64 4, .int .i64 f.stream, .int .i64 f.code, .int .i64 f.offset] 3)) := ((Below.refl _ _).alloc (Nat.le_refl _) _).alloc (by simp) _
  clear hm h1 h2 h3 h4 h5 h6 h7 ht hns hk
  go_enter Tryd.func22, Tryd.ntmps22
  go_wp2_with fail
  refine (puts_any w.heap.size (.slice none 0 0) _ [] [4, f.stream, f.code, f.offset] _ bA.size (Own.nil _ _ _ _) (Rd.lit' [4, f.stream, f.code, f.offset] (by simp) 4 _ rfl (by decide) _ rfl (by simp)) (by simp) HN.out).mono ?_
  rintro e w2 ⟨z, rfl, oz, bz⟩
  go_wp2
  go_ret
  exact ⟨_, rfl, by rw [HE.out]; exact oz, bA.trans (bz.mono bA.size)⟩

set_option maxHeartbeats 1600000 in
theorem rbytes_5 (f : Fr) (da sa : Option Addr) (dc sc : Nat) (w : World) (hk : f.kind = 5) (hm : mayF f = true) :
    Calls Tryd.prog 22 #[.agg #[.int .i64 5, .int .i64 f.stream, .int .i64 f.offset, .int .i64 f.n, .int .i64 f.code, .bool f.fin, .slice da f.data.length dc, .slice sa f.spans.length sc]] w (PutsIs w w.heap.size (encF f)) := by
  obtain ⟨_, h1, h2, h3, h4, h5, h6, h7⟩ := mayF_parts hm
  rw [hk] at h1 h2 h3 h4 h5 h6 h7
  have v_stream := numB_yes h1 rfl
  have v_code := numB_yes h2 rfl
  have ht : typeI f = 5 := by unfold typeI; rw [hk]; simp
  have HE : Hid (encF f = numsE [5, f.stream, f.code]) := by
    show _ = _
    rw [encF_5 hk, ht]
    simp [numsE]
  have hns : ∀ n ∈ ([5, f.stream, f.code] : List Int), 0 ≤ n ∧ n ≤ 4611686018427387903 := by
    intro n hn
    simp only [List.mem_cons, List.not_mem_nil, or_false] at hn
    rcases hn with rfl | rfl | rfl <;> omega
  have HN := Lib.hid hns
  have bA : Below w.heap.size w ((w.alloc (.cells #[.int .i64 5, .int .i64 f.stream, .int .i64 f.offset, .int .i64 f.n, .int .i64 f.code, .bool f.fin, .slice da f.data.length dc, .slice sa f.spans.length sc] 33)).alloc (.cells #[.int .i64 5, .int .i64 f.stream, .int .i64 f.code] 3)) := ((Below.refl _ _).alloc (Nat.le_refl _) _).alloc (by simp) _
  clear hm h1 h2 h3 h4 h5 h6 h7 ht hns hk
  go_enter Tryd.func22, Tryd.ntmps22
  go_wp2_with fail
  refine (puts_any w.heap.size (.slice none 0 0) _ [] [5, f.stream, f.code] _ bA.size (Own.nil _ _ _ _) (Rd.lit' [5, f.stream, f.code] (by simp) 3 _ rfl (by decide) _ rfl (by simp)) (by simp) HN.out).mono ?_
  rintro e w2 ⟨z, rfl, oz, bz⟩
  go_wp2
  go_ret
  exact ⟨_, rfl, by rw [HE.out]; exact oz, bA.trans (bz.mono bA.size)⟩

set_option maxHeartbeats 1600000 in
theorem rbytes_16 (f : Fr) (da sa : Option Addr) (dc sc : Nat) (w : World) (hk : f.kind = 16) (hm : mayF f = true) :
    Calls Tryd.prog 22 #[.agg #[.int .i64 16, .int .i64 f.stream, .int .i64 f.offset, .int .i64 f.n, .int .i64 f.code, .bool f.fin, .slice da f.data.length dc, .slice sa f.spans.length sc]] w (PutsIs w w.heap.size (encF f)) := by
  obtain ⟨_, h1, h2, h3, h4, h5, h6, h7⟩ := mayF_parts hm
  rw [hk] at h1 h2 h3 h4 h5 h6 h7
  have v_n := numB_yes h4 rfl
  have ht : typeI f = 16 := by unfold typeI; rw [hk]; simp
  have HE : Hid (encF f = numsE [16, f.n]) := by
    show _ = _
    rw [encF_16 hk, ht]
    simp [numsE]
  have hns : ∀ n ∈ ([16, f.n] : List Int), 0 ≤ n ∧ n ≤ 4611686018427387903 := by
    intro n hn
    simp only [List.mem_cons, List.not_mem_nil, or_false] at hn
    rcases hn with rfl | rfl <;> omega
  have HN := Lib.hid hns
  have bA : Below w.heap.size w ((w.alloc (.cells #[.int .i64 16, .int .i64 f.stream, .int .i64 f.offset, .int .i64 f.n, .int .i64 f.code, .bool f.fin, .slice da f.data.length dc, .slice sa f.spans.length sc] 33)).alloc (.cells #[.int .i64 16, .int .i64 f.n] 3)) := ((Below.refl _ _).alloc (Nat.le_refl _) _).alloc (by simp) _
  clear hm h1 h2 h3 h4 h5 h6 h7 ht hns hk
  go_enter Tryd.func22, Tryd.ntmps22
  go_wp2_with fail
  refine (puts_any w.heap.size (.slice none 0 0) _ [] [16, f.n] _ bA.size (Own.nil _ _ _ _) (Rd.lit' [16, f.n] (by simp) 2 _ rfl (by decide) _ rfl (by simp)) (by simp) HN.out).mono ?_
  rintro e w2 ⟨z, rfl, oz, bz⟩
  go_wp2
  go_ret
  exact ⟨_, rfl, by rw [HE.out]; exact oz, bA.trans (bz.mono bA.size)⟩

set_option maxHeartbeats 1600000 in
theorem rbytes_18 (f : Fr) (da sa : Option Addr) (dc sc : Nat) (w : World) (hk : f.kind = 18) (hm : mayF f = true) :
    Calls Tryd.prog 22 #[.agg #[.int .i64 18, .int .i64 f.stream, .int .i64 f.offset, .int .i64 f.n, .int .i64 f.code, .bool f.fin, .slice da f.data.length dc, .slice sa f.spans.length sc]] w (PutsIs w w.heap.size (encF f)) := by
  obtain ⟨_, h1, h2, h3, h4, h5, h6, h7⟩ := mayF_parts hm
  rw [hk] at h1 h2 h3 h4 h5 h6 h7
  have v_n := numB_yes h4 rfl
  have ht : typeI f = 18 := by unfold typeI; rw [hk]; simp
  have HE : Hid (encF f = numsE [18, f.n]) := by
    show _ = _
    rw [encF_18 hk, ht]
    simp [numsE]
  have hns : ∀ n ∈ ([18, f.n] : List Int), 0 ≤ n ∧ n ≤ 4611686018427387903 := by
    intro n hn
    simp only [List.mem_cons, List.not_mem_nil, or_false] at hn
    rcases hn with rfl | rfl <;> omega
  have HN := Lib.hid hns
  have bA : Below w.heap.size w ((w.alloc (.cells #[.int .i64 18, .int .i64 f.stream, .int .i64 f.offset, .int .i64 f.n, .int .i64 f.code, .bool f.fin, .slice da f.data.length dc, .slice sa f.spans.length sc] 33)).alloc (.cells #[.int .i64 18, .int .i64 f.n] 3)) := ((Below.refl _ _).alloc (Nat.le_refl _) _).alloc (by simp) _
  clear hm h1 h2 h3 h4 h5 h6 h7 ht hns hk
  go_enter Tryd.func22, Tryd.ntmps22
  go_wp2_with fail
  refine (puts_any w.heap.size (.slice none 0 0) _ [] [18, f.n] _ bA.size (Own.nil _ _ _ _) (Rd.lit' [18, f.n] (by simp) 2 _ rfl (by decide) _ rfl (by simp)) (by simp) HN.out).mono ?_
  rintro e w2 ⟨z, rfl, oz, bz⟩
  go_wp2
  go_ret
  exact ⟨_, rfl, by rw [HE.out]; exact oz, bA.trans (bz.mono bA.size)⟩

set_option maxHeartbeats 1600000 in
theorem rbytes_17 (f : Fr) (da sa : Option Addr) (dc sc : Nat) (w : World) (hk : f.kind = 17) (hm : mayF f = true) :
    Calls Tryd.prog 22 #[.agg #[.int .i64 17, .int .i64 f.stream, .int .i64 f.offset, .int .i64 f.n, .int .i64 f.code, .bool f.fin, .slice da f.data.length dc, .slice sa f.spans.length sc]] w (PutsIs w w.heap.size (encF f)) := by
  obtain ⟨_, h1, h2, h3, h4, h5, h6, h7⟩ := mayF_parts hm
  rw [hk] at h1 h2 h3 h4 h5 h6 h7
  have v_stream := numB_yes h1 rfl
  have v_n := numB_yes h4 rfl
  have ht : typeI f = 17 := by unfold typeI; rw [hk]; simp
  have HE : Hid (encF f = numsE [17, f.stream, f.n]) := by
    show _ = _
    rw [encF_17 hk, ht]
    simp [numsE]
  have hns : ∀ n ∈ ([17, f.stream, f.n] : List Int), 0 ≤ n ∧ n ≤ 4611686018427387903 := by
    intro n hn
    simp only [List.mem_cons, List.not_mem_nil, or_false] at hn
    rcases hn with rfl | rfl | rfl <;> omega
  have HN := Lib.hid hns
  have bA : Below w.heap.size w ((w.alloc (.cells #[.int .i64 17, .int .i64 f.stream, .int .i64 f.offset, .int .i64 f.n, .int .i64 f.code, .bool f.fin, .slice da f.data.length dc, .slice sa f.spans.length sc] 33)).alloc (.cells #[.int .i64 17, .int .i64 f.stream, .int .i64 f.n] 3)) := ((Below.refl _ _).alloc (Nat.le_refl _) _).alloc (by simp) _
  clear hm h1 h2 h3 h4 h5 h6 h7 ht hns hk
  go_enter Tryd.func22, Tryd.ntmps22
  go_wp2_with fail
  refine (puts_any w.heap.size (.slice none 0 0) _ [] [17, f.stream, f.n] _ bA.size (Own.nil _ _ _ _) (Rd.lit' [17, f.stream, f.n] (by simp) 3 _ rfl (by decide) _ rfl (by simp)) (by simp) HN.out).mono ?_
  rintro e w2 ⟨z, rfl, oz, bz⟩
  go_wp2
  go_ret
  exact ⟨_, rfl, by rw [HE.out]; exact oz, bA.trans (bz.mono bA.size)⟩
end Go.Proofs.YtfkkimaebhjneaaDoor
