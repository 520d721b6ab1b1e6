/- Walks of layer 7: which windows may be, in the code. -/
import Derived.Test.YtiglhdiclfknhaaCgA
set_option linter.unusedSimpArgs false
set_option linter.unusedVariables false
namespace Go.Proofs.Ytiglhdiclfknhaa
open Go.RowKit
set_option maxHeartbeats 400000 in
theorem right_1 (z t f s p : Int) (w : World) (hz : inB z 2400 1073741824 = false) :
    Calls Try.prog 9 #[.agg #[.int .i64 z, .int .i64 t, .int .i64 f, .int .i64 s, .int .i64 p]] w fun e w' => e = .returned (.bool false) ∧ Below w.heap.size w w' := by
  have HB := Lib.hid (below_one w (.cells #[.int .i64 z, .int .i64 t, .int .i64 f, .int .i64 s, .int .i64 p] 25))
  have Tz := Lib.hid (fun W => within_b z 2400 1073741824 false hz W)
  clear hz
  go_enter Try.func9, Try.ntmps9
  go_wp2_with fail
  refine (Tz.out _).mono ?_
  rintro e w2 ⟨rfl, rfl⟩
  go_wp2
  go_ret
  exact ⟨rfl, HB.out⟩

set_option maxHeartbeats 400000 in
theorem right_2 (z t f s p : Int) (w : World) (hz : inB z 2400 1073741824 = true) (h0 : (t == 0) = false) (ht : inB t 2400 1073741824 = false) :
    Calls Try.prog 9 #[.agg #[.int .i64 z, .int .i64 t, .int .i64 f, .int .i64 s, .int .i64 p]] w fun e w' => e = .returned (.bool false) ∧ Below w.heap.size w w' := by
  have HB := Lib.hid (below_one w (.cells #[.int .i64 z, .int .i64 t, .int .i64 f, .int .i64 s, .int .i64 p] 25))
  have Tz := Lib.hid (fun W => within_b z 2400 1073741824 true hz W)
  have Tt := Lib.hid (fun W => within_b t 2400 1073741824 false ht W)
  clear hz
  clear ht
  go_enter Try.func9, Try.ntmps9
  go_wp2_with fail
  refine (Tz.out _).mono ?_
  rintro e w2 ⟨rfl, rfl⟩
  go_wp2_with fail
  refine (Tt.out _).mono ?_
  rintro e w2 ⟨rfl, rfl⟩
  go_wp2
  go_ret
  exact ⟨rfl, HB.out⟩

set_option maxHeartbeats 400000 in
theorem right_3a (z f s p : Int) (w : World) (hz : inB z 2400 1073741824 = true) (hf : inB f 0 1099511627776 = false) :
    Calls Try.prog 9 #[.agg #[.int .i64 z, .int .i64 0, .int .i64 f, .int .i64 s, .int .i64 p]] w fun e w' => e = .returned (.bool false) ∧ Below w.heap.size w w' := by
  have HB := Lib.hid (below_one w (.cells #[.int .i64 z, .int .i64 0, .int .i64 f, .int .i64 s, .int .i64 p] 25))
  have Tz := Lib.hid (fun W => within_b z 2400 1073741824 true hz W)
  have Tf := Lib.hid (fun W => within_b f 0 1099511627776 false hf W)
  clear hz
  clear hf
  go_enter Try.func9, Try.ntmps9
  go_wp2_with fail
  refine (Tz.out _).mono ?_
  rintro e w2 ⟨rfl, rfl⟩
  go_wp2_with fail
  refine (Tf.out _).mono ?_
  rintro e w2 ⟨rfl, rfl⟩
  go_wp2
  go_ret
  exact ⟨rfl, HB.out⟩

set_option maxHeartbeats 400000 in
theorem right_4a (z f s p : Int) (w : World) (hz : inB z 2400 1073741824 = true) (hf : inB f 0 1099511627776 = true) (hs : inB s (-1) 1099511627776 = false) :
    Calls Try.prog 9 #[.agg #[.int .i64 z, .int .i64 0, .int .i64 f, .int .i64 s, .int .i64 p]] w fun e w' => e = .returned (.bool false) ∧ Below w.heap.size w w' := by
  have HB := Lib.hid (below_one w (.cells #[.int .i64 z, .int .i64 0, .int .i64 f, .int .i64 s, .int .i64 p] 25))
  have Tz := Lib.hid (fun W => within_b z 2400 1073741824 true hz W)
  have Tf := Lib.hid (fun W => within_b f 0 1099511627776 true hf W)
  have Ts := Lib.hid (fun W => within_b s (-1) 1099511627776 false hs W)
  clear hz
  clear hf
  clear hs
  go_enter Try.func9, Try.ntmps9
  go_wp2_with fail
  refine (Tz.out _).mono ?_
  rintro e w2 ⟨rfl, rfl⟩
  go_wp2_with fail
  refine (Tf.out _).mono ?_
  rintro e w2 ⟨rfl, rfl⟩
  go_wp2_with fail
  refine (Ts.out _).mono ?_
  rintro e w2 ⟨rfl, rfl⟩
  go_wp2
  go_ret
  exact ⟨rfl, HB.out⟩

set_option maxHeartbeats 400000 in
theorem right_5a (z f s p : Int) (w : World) (hz : inB z 2400 1073741824 = true) (hf : inB f 0 1099511627776 = true) (hs : inB s (-1) 1099511627776 = true) :
    Calls Try.prog 9 #[.agg #[.int .i64 z, .int .i64 0, .int .i64 f, .int .i64 s, .int .i64 p]] w fun e w' => e = .returned (.bool (inB p 0 (z - 1))) ∧ Below w.heap.size w w' := by
  have HB := Lib.hid (below_one w (.cells #[.int .i64 z, .int .i64 0, .int .i64 f, .int .i64 s, .int .i64 p] 25))
  have Tz := Lib.hid (fun W => within_b z 2400 1073741824 true hz W)
  have Tf := Lib.hid (fun W => within_b f 0 1099511627776 true hf W)
  have Ts := Lib.hid (fun W => within_b s (-1) 1099511627776 true hs W)
  have Tp := Lib.hid (fun W => within_any p 0 (z - 1) W)
  have W1 : IntKind.i64.wrap (z - 1) = z - 1 := by obtain ⟨h1, h2⟩ := in_iff.1 hz; exact wraps_i64' _ (by omega) (by omega)
  clear hz
  clear hf
  clear hs
  go_enter Try.func9, Try.ntmps9
  go_wp2_with fail
  refine (Tz.out _).mono ?_
  rintro e w2 ⟨rfl, rfl⟩
  go_wp2_with fail
  refine (Tf.out _).mono ?_
  rintro e w2 ⟨rfl, rfl⟩
  go_wp2_with fail
  refine (Ts.out _).mono ?_
  rintro e w2 ⟨rfl, rfl⟩
  go_wp2_with fail
  refine (Tp.out _).mono ?_
  rintro e w2 ⟨rfl, rfl⟩
  go_wp2
  go_ret
  exact ⟨rfl, HB.out⟩

set_option maxHeartbeats 400000 in
theorem right_3b (z t f s p : Int) (w : World) (hz : inB z 2400 1073741824 = true) (h0 : (t == 0) = false) (ht : inB t 2400 1073741824 = true) (hf : inB f 0 1099511627776 = false) :
    Calls Try.prog 9 #[.agg #[.int .i64 z, .int .i64 t, .int .i64 f, .int .i64 s, .int .i64 p]] w fun e w' => e = .returned (.bool false) ∧ Below w.heap.size w w' := by
  have HB := Lib.hid (below_one w (.cells #[.int .i64 z, .int .i64 t, .int .i64 f, .int .i64 s, .int .i64 p] 25))
  have Tz := Lib.hid (fun W => within_b z 2400 1073741824 true hz W)
  have Tt := Lib.hid (fun W => within_b t 2400 1073741824 true ht W)
  have Tf := Lib.hid (fun W => within_b f 0 1099511627776 false hf W)
  clear hz
  clear ht
  clear hf
  go_enter Try.func9, Try.ntmps9
  go_wp2_with fail
  refine (Tz.out _).mono ?_
  rintro e w2 ⟨rfl, rfl⟩
  go_wp2_with fail
  refine (Tt.out _).mono ?_
  rintro e w2 ⟨rfl, rfl⟩
  go_wp2_with fail
  refine (Tf.out _).mono ?_
  rintro e w2 ⟨rfl, rfl⟩
  go_wp2
  go_ret
  exact ⟨rfl, HB.out⟩

set_option maxHeartbeats 400000 in
theorem right_4b (z t f s p : Int) (w : World) (hz : inB z 2400 1073741824 = true) (h0 : (t == 0) = false) (ht : inB t 2400 1073741824 = true) (hf : inB f 0 1099511627776 = true) (hs : inB s (-1) 1099511627776 = false) :
    Calls Try.prog 9 #[.agg #[.int .i64 z, .int .i64 t, .int .i64 f, .int .i64 s, .int .i64 p]] w fun e w' => e = .returned (.bool false) ∧ Below w.heap.size w w' := by
  have HB := Lib.hid (below_one w (.cells #[.int .i64 z, .int .i64 t, .int .i64 f, .int .i64 s, .int .i64 p] 25))
  have Tz := Lib.hid (fun W => within_b z 2400 1073741824 true hz W)
  have Tt := Lib.hid (fun W => within_b t 2400 1073741824 true ht W)
  have Tf := Lib.hid (fun W => within_b f 0 1099511627776 true hf W)
  have Ts := Lib.hid (fun W => within_b s (-1) 1099511627776 false hs W)
  clear hz
  clear ht
  clear hf
  clear hs
  go_enter Try.func9, Try.ntmps9
  go_wp2_with fail
  refine (Tz.out _).mono ?_
  rintro e w2 ⟨rfl, rfl⟩
  go_wp2_with fail
  refine (Tt.out _).mono ?_
  rintro e w2 ⟨rfl, rfl⟩
  go_wp2_with fail
  refine (Tf.out _).mono ?_
  rintro e w2 ⟨rfl, rfl⟩
  go_wp2_with fail
  refine (Ts.out _).mono ?_
  rintro e w2 ⟨rfl, rfl⟩
  go_wp2
  go_ret
  exact ⟨rfl, HB.out⟩

set_option maxHeartbeats 400000 in
theorem right_5b (z t f s p : Int) (w : World) (hz : inB z 2400 1073741824 = true) (h0 : (t == 0) = false) (ht : inB t 2400 1073741824 = true) (hf : inB f 0 1099511627776 = true) (hs : inB s (-1) 1099511627776 = true) :
    Calls Try.prog 9 #[.agg #[.int .i64 z, .int .i64 t, .int .i64 f, .int .i64 s, .int .i64 p]] w fun e w' => e = .returned (.bool (inB p 0 (z - 1))) ∧ Below w.heap.size w w' := by
  have HB := Lib.hid (below_one w (.cells #[.int .i64 z, .int .i64 t, .int .i64 f, .int .i64 s, .int .i64 p] 25))
  have Tz := Lib.hid (fun W => within_b z 2400 1073741824 true hz W)
  have Tt := Lib.hid (fun W => within_b t 2400 1073741824 true ht W)
  have Tf := Lib.hid (fun W => within_b f 0 1099511627776 true hf W)
  have Ts := Lib.hid (fun W => within_b s (-1) 1099511627776 true hs W)
  have Tp := Lib.hid (fun W => within_any p 0 (z - 1) W)
  have W1 : IntKind.i64.wrap (z - 1) = z - 1 := by obtain ⟨h1, h2⟩ := in_iff.1 hz; exact wraps_i64' _ (by omega) (by omega)
  clear hz
  clear ht
  clear hf
  clear hs
  go_enter Try.func9, Try.ntmps9
  go_wp2_with fail
  refine (Tz.out _).mono ?_
  rintro e w2 ⟨rfl, rfl⟩
  go_wp2_with fail
  refine (Tt.out _).mono ?_
  rintro e w2 ⟨rfl, rfl⟩
  go_wp2_with fail
  refine (Tf.out _).mono ?_
  rintro e w2 ⟨rfl, rfl⟩
  go_wp2_with fail
  refine (Ts.out _).mono ?_
  rintro e w2 ⟨rfl, rfl⟩
  go_wp2_with fail
  refine (Tp.out _).mono ?_
  rintro e w2 ⟨rfl, rfl⟩
  go_wp2
  go_ret
  exact ⟨rfl, HB.out⟩

theorem right_any (z t f s p : Int) (w : World) :
    Calls Try.prog 9 #[.agg #[.int .i64 z, .int .i64 t, .int .i64 f, .int .i64 s, .int .i64 p]] w fun e w' => e = .returned (.bool (rightB ⟨z, t, f, s, p⟩)) ∧ Below w.heap.size w w' := by
  unfold rightB
  dsimp only
  cases h1 : inB z 2400 1073741824
  · exact right_1 z t f s p w h1
  have e0 : decide (t = 0) = (t == 0) := rfl
  rw [e0]
  cases h0 : t == 0
  · cases h2 : inB t 2400 1073741824
    · exact right_2 z t f s p w h1 h0 h2
    cases h3 : inB f 0 1099511627776
    · exact right_3b z t f s p w h1 h0 h2 h3
    cases h4 : inB s (-1) 1099511627776
    · exact right_4b z t f s p w h1 h0 h2 h3 h4
    exact right_5b z t f s p w h1 h0 h2 h3 h4
  · obtain rfl : t = 0 := by simpa using h0
    cases h3 : inB f 0 1099511627776
    · exact right_3a z f s p w h1 h3
    cases h4 : inB s (-1) 1099511627776
    · exact right_4a z f s p w h1 h3 h4
    exact right_5a z f s p w h1 h3 h4
theorem right_b (z t f s p : Int) (r : Bool) (hr : rightB ⟨z, t, f, s, p⟩ = r) (w : World) :
    Calls Try.prog 9 #[.agg #[.int .i64 z, .int .i64 t, .int .i64 f, .int .i64 s, .int .i64 p]] w fun e w' => e = .returned (.bool r) ∧ Below w.heap.size w w' := hr ▸ right_any z t f s p w
end Go.Proofs.Ytiglhdiclfknhaa
