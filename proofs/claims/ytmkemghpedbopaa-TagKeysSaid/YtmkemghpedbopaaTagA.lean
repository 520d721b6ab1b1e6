/- Walks of layer 2: Of, the reference's Of, spread, alive. -/
import Derived.Test.YtmkemghpedbopaaTagM
namespace Go.Proofs.Ytmkemghpedbopaa
open Go.RowKit

set_option maxHeartbeats 800000 in
theorem of_any (key : Int) (v : Value) (xs : List Int) (w : World) (hr : Rd .u8 w v xs) (hx : Bts xs) :
    Calls Try.prog 10 #[.int .u64 key, v] w fun e w' => e = .returned (.int .u64 (tagI key xs)) ∧ w = w' := by
  have hl : xs.length ≤ 9223372036854775807 := hr.len
  have hf := Lib.hid (tag_first key)
  rcases hr with ⟨rfl, a, c, rfl, _⟩ | ⟨h0, b, o, c, rfl, h2, h3, h4, h5⟩
  · have hf := hf.out
    go_enter Try.func10, Try.ntmps10
    go_wp2
    refine wp_loop_rounds 1 ?_
    rw [rounds_succ]
    go_wp2
    go_ret
    exact ⟨rfl, rfl⟩
  · have hf := hf.out
    have H5 := Lib.hid h5
    clear h5
    go_enter Try.func10, Try.ntmps10
    go_wp2
    clear hf
    go_loop [5, 12] (fun t i => ∃ k : Nat, k ≤ xs.length ∧ i = .int .i64 k ∧ t = .int .u64 (tagI key (xs.take k))) (fun _ i => xs.length - (intOf i).toNat)
    case atStart => exact ⟨0, Nat.zero_le _, rfl, rfl⟩
    case round =>
      obtain ⟨k, hk, rfl, rfl⟩ := hrel
      by_cases hlt : k < xs.length
      · have hc := H5.out k hlt
        have hb := getD_bts hx k
        have hs := tag_take key xs k hlt
        obtain ⟨x, hxe⟩ : ∃ x, x = xs.getD k 0 := ⟨_, rfl⟩
        rw [← hxe] at hc hb hs
        clear hxe
        obtain ⟨hb0, hb1⟩ := hb
        have hwr : IntKind.u64.wrap x = x := by rw [IntKind.wrap_u64]; omega
        have HS := Lib.hid hs
        clear hs
        go_wp2
        go_round
        case rel => exact ⟨k + 1, by omega, by go_num, by rw [← HS.out]⟩
        case measure => simp [intOf]; omega
      · obtain rfl : k = xs.length := by omega
        go_wp2
        go_ret
        exact ⟨rfl, rfl⟩

set_option maxHeartbeats 800000 in
theorem rof_any (key : Int) (v : Value) (xs : List Int) (w : World) (hr : Rd .u8 w v xs) (hx : Bts xs) :
    Calls Try.prog 11 #[.int .u64 key, v] w fun e w' => e = .returned (.int .u64 (tagI key xs)) ∧ w = w' := by
  have hl : xs.length ≤ 9223372036854775807 := hr.len
  have hf := Lib.hid (tag_first' key)
  rcases hr with ⟨rfl, a, c, rfl, _⟩ | ⟨h0, b, o, c, rfl, h2, h3, h4, h5⟩
  · have hf := hf.out
    go_enter Try.func11, Try.ntmps11
    go_wp2
    refine wp_loop_rounds 1 ?_
    rw [rounds_succ]
    go_wp2
    go_ret
    exact ⟨rfl, rfl⟩
  · have hf := hf.out
    have H5 := Lib.hid h5
    clear h5
    go_enter Try.func11, Try.ntmps11
    go_wp2
    clear hf
    go_loop [5, 6] (fun t i => ∃ k : Nat, k ≤ xs.length ∧ i = .int .i64 k ∧ t = .int .u64 (tagI key (xs.take k))) (fun _ i => xs.length - (intOf i).toNat)
    case atStart => exact ⟨0, Nat.zero_le _, rfl, rfl⟩
    case round =>
      obtain ⟨k, hk, rfl, rfl⟩ := hrel
      by_cases hlt : k < xs.length
      · have hc := H5.out k hlt
        have hb := getD_bts hx k
        have hs := tag_take key xs k hlt
        obtain ⟨x, hxe⟩ : ∃ x, x = xs.getD k 0 := ⟨_, rfl⟩
        rw [← hxe] at hc hb hs
        clear hxe
        obtain ⟨hb0, hb1⟩ := hb
        have hwr : IntKind.u64.wrap x = x := by rw [IntKind.wrap_u64]; omega
        have HS := Lib.hid hs
        clear hs
        go_wp2
        go_round
        case rel => exact ⟨k + 1, by omega, by go_num, by rw [← HS.out]⟩
        case measure => simp [intOf]; omega
      · obtain rfl : k = xs.length := by omega
        go_wp2
        go_ret
        exact ⟨rfl, rfl⟩

/-- the byte i of a tag, the highest first -/
def tb (t : Int) (i : Nat) : Int := t / (256 ^ (7 - i) : Nat) % 256
def arrOf (t : Int) : Value := .agg #[.int .u8 (tb t 0), .int .u8 (tb t 1), .int .u8 (tb t 2), .int .u8 (tb t 3), .int .u8 (tb t 4), .int .u8 (tb t 5), .int .u8 (tb t 6), .int .u8 (tb t 7)]

set_option maxHeartbeats 1600000 in
theorem spread_any (t : Int) (w : World) (h0 : 0 ≤ t) (h1 : t ≤ 18446744073709551615) :
    Calls Try.prog 18 #[.int .u64 t] w fun e w' => e = .returned (.agg #[.int .u8 (tb t 0), .int .u8 (tb t 1), .int .u8 (tb t 2), .int .u8 (tb t 3), .int .u8 (tb t 4), .int .u8 (tb t 5), .int .u8 (tb t 6), .int .u8 (tb t 7)]) ∧ Below w.heap.size w w' := by
  go_enter Try.func18, Try.ntmps18
  go_wp2
  refine wp_loop_rounds 9 ?_
  repeat any_goals (rw [rounds_succ]; go_wp2)
  refine bodyPost_ret (v := .agg #[.int .u8 (t / 72057594037927936), .int .u8 (t / 281474976710656 % 256), .int .u8 (t / 1099511627776 % 256), .int .u8 (t / 4294967296 % 256), .int .u8 (t / 16777216 % 256), .int .u8 (t / 65536 % 256), .int .u8 (t / 256 % 256), .int .u8 (t % 256)]) (by simp [results, Try.results18, go_sem]) rfl ⟨?_, ?_⟩
  · have e0 : t / 72057594037927936 = tb t 0 := by unfold tb; simp only [Nat.reduceSub, Nat.reducePow]; omega
    have e7 : t % 256 = tb t 7 := by unfold tb; simp only [Nat.reduceSub, Nat.reducePow]; omega
    rw [e0, e7]; rfl
  · exact ((Below.refl _ _).alloc (Nat.le_refl _) _).alloc (by simp) _
end Go.Proofs.Ytmkemghpedbopaa
