/- Walks of layer 1: behind. -/
import Derived.Test.YtfkkimaebhjneaaDoorVintB
namespace Go.Proofs.YtfkkimaebhjneaaDoor
open Go.RowKit

theorem elemU8 : Elem Tryd.prog 5 .u8 1 := ⟨Tryd.underlying5, info_parts (by kernel_rfl)⟩
theorem elemInt : Elem Tryd.prog 3 .i64 8 := ⟨Tryd.underlying3, info_parts (by kernel_rfl)⟩

/-- the lowest k bytes of m, the highest first -/
def be (m : Nat) : Nat → List Int
  | 0 => []
  | k + 1 => be (m / 256) k ++ [((m % 256 : Nat) : Int)]
theorem be_len (m k : Nat) : (be m k).length = k := by
  induction k generalizing m with
  | zero => rfl
  | succ k ih => simp [be, ih]
theorem be_cons (m k : Nat) : be m (k + 1) = ((m / 256 ^ k % 256 : Nat) : Int) :: be m k := by
  induction k generalizing m with
  | zero => simp [be]
  | succ k ih => rw [be, ih, be, Nat.div_div_eq_div_mul, List.cons_append, ← Nat.pow_succ']
theorem be_bts (m k : Nat) : Bts (be m k) := by
  induction k generalizing m with
  | zero => intro x hx; simp [be] at hx
  | succ k ih =>
    intro x hx
    rw [be, List.mem_append] at hx
    rcases hx with hx | hx
    · exact ih _ x hx
    · obtain rfl := List.mem_singleton.1 hx; omega

/-- what the last W places hold behind k rounds -/
def filled (xs : List Int) (m W k : Nat) : List Int := xs ++ (List.replicate (W - k) 0 ++ be m k)
theorem filled_len (xs : List Int) (m W k : Nat) (h : k ≤ W) : (filled xs m W k).length = xs.length + W := by simp [filled, be_len]; omega
theorem filled_set (xs : List Int) (m W k : Nat) (h : k < W) : (filled xs m W k).set (xs.length + W - 1 - k) ((m / 256 ^ k % 256 : Nat) : Int) = filled xs m W (k + 1) := by
  unfold filled
  rw [List.set_append_right _ _ (by omega), be_cons]
  congr 1
  obtain ⟨d, rfl⟩ : ∃ d, W = k + 1 + d := ⟨W - (k + 1), by omega⟩
  rw [show k + 1 + d - k = d + 1 by omega, show k + 1 + d - (k + 1) = d by omega, show xs.length + (k + 1 + d) - 1 - k - xs.length = d by omega, List.set_append_left _ _ (by simp), List.replicate_succ']
  rw [List.set_append_right _ _ (by simp)]
  simp

theorem wraps_u64' (n : Int) (h₀ : 0 ≤ n) (h₁ : n < 2 ^ 64) : IntKind.u64.wrap n = n := by rw [IntKind.wrap_u64]; omega
theorem byte_eq (x : Int) (hx : 0 ≤ x) (k : Nat) : x / 2 ^ (8 * k) % 256 = ((x.toNat / 256 ^ k % 256 : Nat) : Int) := by
  obtain ⟨m, rfl⟩ := Int.eq_ofNat_of_zero_le hx
  rw [Int.toNat_natCast, Int.pow_mul]
  simp

theorem or_1 (n : Int) (h0 : 0 ≤ n) (h1 : n < 64) : bits .or .u64 0 n = 0 + n :=
  bits_join .u64 64 (by decide) wraps_u64' 6 _ _ (by omega) (by decide) (by omega) h0 (by simpa using h1) (by omega)
def bm1 (n : Int) : Int := 0 + n
theorem bm1_lo (n : Int) (h0 : 0 ≤ n) : 0 ≤ bm1 n := by unfold bm1; omega
set_option maxHeartbeats 800000 in
theorem behind_1 (v : Value) (xs : List Int) (n : Int) (w : World) (ht : Tab w) (hr : Rd .u8 w v xs) (hl : xs.length ≤ 140737488351232) (h0 : 0 ≤ n) (h1 : n < 64) :
    Calls Tryd.prog 66 #[v, .int .i64 n, .int .i64 0] w fun e w' => ∃ u, e = .returned u ∧ Own .u8 5 w' w.heap.size u (xs ++ be (bm1 n).toNat 1) ∧ Below w.heap.size w w' := by
  have hpos := ht.pos
  have hrl := hr.len
  have hml : maxLen = 9223372036854775807 := rfl
  rw [hml] at hrl
  have ht' := ht
  obtain ⟨c0, c1, c2, c3⟩ := ht
  have hL : ∃ a c, v = .slice a xs.length c := by
    rcases hr with ⟨rfl, a, c, rfl, _⟩ | ⟨_, b, o, c, rfl, _⟩
    · exact ⟨_, _, rfl⟩
    · exact ⟨_, _, rfl⟩
  obtain ⟨va, vc, rfl⟩ := hL
  have hor : bits .or .u64 0 n = bm1 n := or_1 n h0 h1
  have hbl := bm1_lo n h0
  clear hml
  go_enter Tryd.func66, Tryd.ntmps66
  go_wp2_with (first
    | (at_make; refine wpList_make_nums _ rfl _ _ _ rfl elemU8 Tryd.underlying23 .i64 .i64 _ _ (xs.length + 1) rfl rfl (by simp) (by simp) (by omega) (by unfold maxLen; omega) w.heap.size (Nat.le_refl _) ?_; intro w1 hown hgr; have hb1 : Below w.heap.size w w1 := (Below.refl _ _).grown hgr (Nat.le_refl _) (by simp); have hr1 := hr.below hb1)
    | ((with_reducible refine wpList_copy_rd _ ?_ (.tmp 28) (.tmp 29) 23 23 ?_ elemU8 Tryd.underlying23 w.heap.size (.slice (some ⟨w.heap.size, 0, none⟩) (xs.length + 1) (xs.length + 1)) (List.replicate (xs.length + 1) 0) ?_ hown (.slice va xs.length vc) xs ?_ hr1 ?_ ?_); rfl; rfl; rfl; rfl; (simp); intro w2 hown2 hgr2))
  clear hor
  have hb2 : Below w.heap.size w w2 := hb1.grown hgr2 hb1.size hown.blk
  have hown3 : Own .u8 5 w2 w.heap.size (.slice (some ⟨w.heap.size, 0, none⟩) (xs.length + 1) (xs.length + 1)) (filled xs (bm1 n).toNat 1 0) := by
    simpa [filled, be] using hown2
  clear hown hown2 hgr hgr2 hr hr1 hb1 c0 c1 c2 c3
  go_loopw [32] (fun i wr => ∃ k : Nat, k ≤ 1 ∧ i = .int .i64 k ∧ Own .u8 5 wr w.heap.size (.slice (some ⟨w.heap.size, 0, none⟩) (xs.length + 1) (xs.length + 1)) (filled xs (bm1 n).toNat 1 k) ∧ Below w.heap.size w wr) (fun i _ => 1 - (intOf i).toNat)
  case atStart => exact ⟨0, Nat.zero_le _, rfl, hown3, hb2⟩
  case round =>
    obtain ⟨k, hk, rfl, hown, hb⟩ := hrel
    clear hown3 hb2
    by_cases hlt : k < 1
    · obtain ⟨hcell, hfr⟩ := hown.at (xs.length - k) (by rw [filled_len _ _ _ _ hk]; omega)
      go_wp2
      go_roundw
      case rel =>
        refine ⟨k + 1, by omega, by go_num, ?_, hb.setCell (by simp) _⟩
        rw [byte_eq _ hbl, ← filled_set xs _ 1 k hlt]
        have := hown.set (xs.length + 1 - 1 - k) ((((bm1 n).toNat / 256 ^ k % 256 : Nat) : Int))
        exact this
      case measure => simp [intOf]; omega
    · obtain rfl : k = 1 := by omega
      go_wp2
      go_ret
      exact ⟨_, rfl, by simpa [filled] using hown, hb⟩

theorem or_2 (n : Int) (h0 : 0 ≤ n) (h1 : n < 16384) : bits .or .u64 16384 n = 16384 + n :=
  bits_join .u64 64 (by decide) wraps_u64' 14 _ _ (by omega) (by decide) (by omega) h0 (by simpa using h1) (by omega)
def bm2 (n : Int) : Int := 16384 + n
theorem bm2_lo (n : Int) (h0 : 0 ≤ n) : 0 ≤ bm2 n := by unfold bm2; omega
set_option maxHeartbeats 800000 in
theorem behind_2 (v : Value) (xs : List Int) (n : Int) (w : World) (ht : Tab w) (hr : Rd .u8 w v xs) (hl : xs.length ≤ 140737488351232) (h0 : 0 ≤ n) (h1 : n < 16384) :
    Calls Tryd.prog 66 #[v, .int .i64 n, .int .i64 1] w fun e w' => ∃ u, e = .returned u ∧ Own .u8 5 w' w.heap.size u (xs ++ be (bm2 n).toNat 2) ∧ Below w.heap.size w w' := by
  have hpos := ht.pos
  have hrl := hr.len
  have hml : maxLen = 9223372036854775807 := rfl
  rw [hml] at hrl
  have ht' := ht
  obtain ⟨c0, c1, c2, c3⟩ := ht
  have hL : ∃ a c, v = .slice a xs.length c := by
    rcases hr with ⟨rfl, a, c, rfl, _⟩ | ⟨_, b, o, c, rfl, _⟩
    · exact ⟨_, _, rfl⟩
    · exact ⟨_, _, rfl⟩
  obtain ⟨va, vc, rfl⟩ := hL
  have hor : bits .or .u64 16384 n = bm2 n := or_2 n h0 h1
  have hbl := bm2_lo n h0
  clear hml
  go_enter Tryd.func66, Tryd.ntmps66
  go_wp2_with (first
    | (at_make; refine wpList_make_nums _ rfl _ _ _ rfl elemU8 Tryd.underlying23 .i64 .i64 _ _ (xs.length + 2) rfl rfl (by simp) (by simp) (by omega) (by unfold maxLen; omega) w.heap.size (Nat.le_refl _) ?_; intro w1 hown hgr; have hb1 : Below w.heap.size w w1 := (Below.refl _ _).grown hgr (Nat.le_refl _) (by simp); have hr1 := hr.below hb1)
    | ((with_reducible refine wpList_copy_rd _ ?_ (.tmp 28) (.tmp 29) 23 23 ?_ elemU8 Tryd.underlying23 w.heap.size (.slice (some ⟨w.heap.size, 0, none⟩) (xs.length + 2) (xs.length + 2)) (List.replicate (xs.length + 2) 0) ?_ hown (.slice va xs.length vc) xs ?_ hr1 ?_ ?_); rfl; rfl; rfl; rfl; (simp); intro w2 hown2 hgr2))
  clear hor
  have hb2 : Below w.heap.size w w2 := hb1.grown hgr2 hb1.size hown.blk
  have hown3 : Own .u8 5 w2 w.heap.size (.slice (some ⟨w.heap.size, 0, none⟩) (xs.length + 2) (xs.length + 2)) (filled xs (bm2 n).toNat 2 0) := by
    simpa [filled, be] using hown2
  clear hown hown2 hgr hgr2 hr hr1 hb1 c0 c1 c2 c3
  go_loopw [32] (fun i wr => ∃ k : Nat, k ≤ 2 ∧ i = .int .i64 k ∧ Own .u8 5 wr w.heap.size (.slice (some ⟨w.heap.size, 0, none⟩) (xs.length + 2) (xs.length + 2)) (filled xs (bm2 n).toNat 2 k) ∧ Below w.heap.size w wr) (fun i _ => 2 - (intOf i).toNat)
  case atStart => exact ⟨0, Nat.zero_le _, rfl, hown3, hb2⟩
  case round =>
    obtain ⟨k, hk, rfl, hown, hb⟩ := hrel
    clear hown3 hb2
    by_cases hlt : k < 2
    · obtain ⟨hcell, hfr⟩ := hown.at (xs.length + 1 - k) (by rw [filled_len _ _ _ _ hk]; omega)
      go_wp2
      go_roundw
      case rel =>
        refine ⟨k + 1, by omega, by go_num, ?_, hb.setCell (by simp) _⟩
        rw [byte_eq _ hbl, ← filled_set xs _ 2 k hlt]
        have := hown.set (xs.length + 2 - 1 - k) ((((bm2 n).toNat / 256 ^ k % 256 : Nat) : Int))
        exact this
      case measure => simp [intOf]; omega
    · obtain rfl : k = 2 := by omega
      go_wp2
      go_ret
      exact ⟨_, rfl, by simpa [filled] using hown, hb⟩

theorem or_4 (n : Int) (h0 : 0 ≤ n) (h1 : n < 1073741824) : bits .or .u64 2147483648 n = 2147483648 + n :=
  bits_join .u64 64 (by decide) wraps_u64' 30 _ _ (by omega) (by decide) (by omega) h0 (by simpa using h1) (by omega)
def bm4 (n : Int) : Int := 2147483648 + n
theorem bm4_lo (n : Int) (h0 : 0 ≤ n) : 0 ≤ bm4 n := by unfold bm4; omega
set_option maxHeartbeats 800000 in
theorem behind_4 (v : Value) (xs : List Int) (n : Int) (w : World) (ht : Tab w) (hr : Rd .u8 w v xs) (hl : xs.length ≤ 140737488351232) (h0 : 0 ≤ n) (h1 : n < 1073741824) :
    Calls Tryd.prog 66 #[v, .int .i64 n, .int .i64 2] w fun e w' => ∃ u, e = .returned u ∧ Own .u8 5 w' w.heap.size u (xs ++ be (bm4 n).toNat 4) ∧ Below w.heap.size w w' := by
  have hpos := ht.pos
  have hrl := hr.len
  have hml : maxLen = 9223372036854775807 := rfl
  rw [hml] at hrl
  have ht' := ht
  obtain ⟨c0, c1, c2, c3⟩ := ht
  have hL : ∃ a c, v = .slice a xs.length c := by
    rcases hr with ⟨rfl, a, c, rfl, _⟩ | ⟨_, b, o, c, rfl, _⟩
    · exact ⟨_, _, rfl⟩
    · exact ⟨_, _, rfl⟩
  obtain ⟨va, vc, rfl⟩ := hL
  have hor : bits .or .u64 2147483648 n = bm4 n := or_4 n h0 h1
  have hbl := bm4_lo n h0
  clear hml
  go_enter Tryd.func66, Tryd.ntmps66
  go_wp2_with (first
    | (at_make; refine wpList_make_nums _ rfl _ _ _ rfl elemU8 Tryd.underlying23 .i64 .i64 _ _ (xs.length + 4) rfl rfl (by simp) (by simp) (by omega) (by unfold maxLen; omega) w.heap.size (Nat.le_refl _) ?_; intro w1 hown hgr; have hb1 : Below w.heap.size w w1 := (Below.refl _ _).grown hgr (Nat.le_refl _) (by simp); have hr1 := hr.below hb1)
    | ((with_reducible refine wpList_copy_rd _ ?_ (.tmp 28) (.tmp 29) 23 23 ?_ elemU8 Tryd.underlying23 w.heap.size (.slice (some ⟨w.heap.size, 0, none⟩) (xs.length + 4) (xs.length + 4)) (List.replicate (xs.length + 4) 0) ?_ hown (.slice va xs.length vc) xs ?_ hr1 ?_ ?_); rfl; rfl; rfl; rfl; (simp); intro w2 hown2 hgr2))
  clear hor
  have hb2 : Below w.heap.size w w2 := hb1.grown hgr2 hb1.size hown.blk
  have hown3 : Own .u8 5 w2 w.heap.size (.slice (some ⟨w.heap.size, 0, none⟩) (xs.length + 4) (xs.length + 4)) (filled xs (bm4 n).toNat 4 0) := by
    simpa [filled, be] using hown2
  clear hown hown2 hgr hgr2 hr hr1 hb1 c0 c1 c2 c3
  go_loopw [32] (fun i wr => ∃ k : Nat, k ≤ 4 ∧ i = .int .i64 k ∧ Own .u8 5 wr w.heap.size (.slice (some ⟨w.heap.size, 0, none⟩) (xs.length + 4) (xs.length + 4)) (filled xs (bm4 n).toNat 4 k) ∧ Below w.heap.size w wr) (fun i _ => 4 - (intOf i).toNat)
  case atStart => exact ⟨0, Nat.zero_le _, rfl, hown3, hb2⟩
  case round =>
    obtain ⟨k, hk, rfl, hown, hb⟩ := hrel
    clear hown3 hb2
    by_cases hlt : k < 4
    · obtain ⟨hcell, hfr⟩ := hown.at (xs.length + 3 - k) (by rw [filled_len _ _ _ _ hk]; omega)
      go_wp2
      go_roundw
      case rel =>
        refine ⟨k + 1, by omega, by go_num, ?_, hb.setCell (by simp) _⟩
        rw [byte_eq _ hbl, ← filled_set xs _ 4 k hlt]
        have := hown.set (xs.length + 4 - 1 - k) ((((bm4 n).toNat / 256 ^ k % 256 : Nat) : Int))
        exact this
      case measure => simp [intOf]; omega
    · obtain rfl : k = 4 := by omega
      go_wp2
      go_ret
      exact ⟨_, rfl, by simpa [filled] using hown, hb⟩

theorem or_8 (n : Int) (h0 : 0 ≤ n) (h1 : n < 4611686018427387904) : bits .or .u64 13835058055282163712 n = 13835058055282163712 + n :=
  bits_join .u64 64 (by decide) wraps_u64' 62 _ _ (by omega) (by decide) (by omega) h0 (by simpa using h1) (by omega)
def bm8 (n : Int) : Int := 13835058055282163712 + n
theorem bm8_lo (n : Int) (h0 : 0 ≤ n) : 0 ≤ bm8 n := by unfold bm8; omega
set_option maxHeartbeats 800000 in
theorem behind_8 (v : Value) (xs : List Int) (n : Int) (w : World) (ht : Tab w) (hr : Rd .u8 w v xs) (hl : xs.length ≤ 140737488351232) (h0 : 0 ≤ n) (h1 : n < 4611686018427387904) :
    Calls Tryd.prog 66 #[v, .int .i64 n, .int .i64 3] w fun e w' => ∃ u, e = .returned u ∧ Own .u8 5 w' w.heap.size u (xs ++ be (bm8 n).toNat 8) ∧ Below w.heap.size w w' := by
  have hpos := ht.pos
  have hrl := hr.len
  have hml : maxLen = 9223372036854775807 := rfl
  rw [hml] at hrl
  have ht' := ht
  obtain ⟨c0, c1, c2, c3⟩ := ht
  have hL : ∃ a c, v = .slice a xs.length c := by
    rcases hr with ⟨rfl, a, c, rfl, _⟩ | ⟨_, b, o, c, rfl, _⟩
    · exact ⟨_, _, rfl⟩
    · exact ⟨_, _, rfl⟩
  obtain ⟨va, vc, rfl⟩ := hL
  have hor : bits .or .u64 13835058055282163712 n = bm8 n := or_8 n h0 h1
  have hbl := bm8_lo n h0
  clear hml
  go_enter Tryd.func66, Tryd.ntmps66
  go_wp2_with (first
    | (at_make; refine wpList_make_nums _ rfl _ _ _ rfl elemU8 Tryd.underlying23 .i64 .i64 _ _ (xs.length + 8) rfl rfl (by simp) (by simp) (by omega) (by unfold maxLen; omega) w.heap.size (Nat.le_refl _) ?_; intro w1 hown hgr; have hb1 : Below w.heap.size w w1 := (Below.refl _ _).grown hgr (Nat.le_refl _) (by simp); have hr1 := hr.below hb1)
    | ((with_reducible refine wpList_copy_rd _ ?_ (.tmp 28) (.tmp 29) 23 23 ?_ elemU8 Tryd.underlying23 w.heap.size (.slice (some ⟨w.heap.size, 0, none⟩) (xs.length + 8) (xs.length + 8)) (List.replicate (xs.length + 8) 0) ?_ hown (.slice va xs.length vc) xs ?_ hr1 ?_ ?_); rfl; rfl; rfl; rfl; (simp); intro w2 hown2 hgr2))
  clear hor
  have hb2 : Below w.heap.size w w2 := hb1.grown hgr2 hb1.size hown.blk
  have hown3 : Own .u8 5 w2 w.heap.size (.slice (some ⟨w.heap.size, 0, none⟩) (xs.length + 8) (xs.length + 8)) (filled xs (bm8 n).toNat 8 0) := by
    simpa [filled, be] using hown2
  clear hown hown2 hgr hgr2 hr hr1 hb1 c0 c1 c2 c3
  go_loopw [32] (fun i wr => ∃ k : Nat, k ≤ 8 ∧ i = .int .i64 k ∧ Own .u8 5 wr w.heap.size (.slice (some ⟨w.heap.size, 0, none⟩) (xs.length + 8) (xs.length + 8)) (filled xs (bm8 n).toNat 8 k) ∧ Below w.heap.size w wr) (fun i _ => 8 - (intOf i).toNat)
  case atStart => exact ⟨0, Nat.zero_le _, rfl, hown3, hb2⟩
  case round =>
    obtain ⟨k, hk, rfl, hown, hb⟩ := hrel
    clear hown3 hb2
    by_cases hlt : k < 8
    · obtain ⟨hcell, hfr⟩ := hown.at (xs.length + 7 - k) (by rw [filled_len _ _ _ _ hk]; omega)
      go_wp2
      go_roundw
      case rel =>
        refine ⟨k + 1, by omega, by go_num, ?_, hb.setCell (by simp) _⟩
        rw [byte_eq _ hbl, ← filled_set xs _ 8 k hlt]
        have := hown.set (xs.length + 8 - 1 - k) ((((bm8 n).toNat / 256 ^ k % 256 : Nat) : Int))
        exact this
      case measure => simp [intOf]; omega
    · obtain rfl : k = 8 := by omega
      go_wp2
      go_ret
      exact ⟨_, rfl, by simpa [filled] using hown, hb⟩
end Go.Proofs.YtfkkimaebhjneaaDoor
