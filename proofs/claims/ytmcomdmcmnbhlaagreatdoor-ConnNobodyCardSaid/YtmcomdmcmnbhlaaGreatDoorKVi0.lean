import Derived.Test.YtmcomdmcmnbhlaaGreatDoorKLGen0
import Derived.Deep.QuietTactic
import Derived.BigQuiet
import Derived.Deep.DeepCutAuto
set_option maxRecDepth 100000
set_option maxHeartbeats 25600000
set_option linter.unusedSimpArgs false
set_option linter.unusedVariables false
set_option linter.unnecessarySimpa false
namespace Go.Proofs.YtmcomdmcmnbhlaaGreatDoor
open Go.RowKit
def fitsB (n width : Int) : Bool:=decide (0 ≤ n ∧ n < 2 ^ (8 * width - 2).toNat)
theorem fitsB_no {n width : Int} (h : n < 0) : fitsB n width = false:=by
 simp only [fitsB,decide_eq_false_iff_not];omega
theorem fits_any (n width : Int) (w : World) (hw : width = 1 ∨ width = 2 ∨ width = 4 ∨ width = 8) :
  Calls Tryz.prog 202 #[.int .i64 n,.int .i64 width] w fun e w' => e = .returned (.bool (fitsB n width)) ∧ w = w':=by
 by_cases h : 0 ≤ n
 ·have h2 : decide (0 ≤ n) = true:=by simp;omega
  rcases hw with rfl | rfl | rfl | rfl
  all_goals
   go_enter Tryz.func202,Tryz.ntmps202
   go_wp2
   go_ret
   refine ⟨?_,rfl⟩
   simp [fitsB,h]
 ·have h2 : decide (0 ≤ n) = false:=by simp;omega
  go_enter Tryz.func202,Tryz.ntmps202
  go_wp2
  go_ret
  exact ⟨ret_bool (fitsB_no h).symm,rfl⟩
structure Tab (w : World) : Prop where
 c0 : w.cell? ⟨0,0,none⟩ = some (.int .i64 1)
 c1 : w.cell? ⟨0,1,none⟩ = some (.int .i64 2)
 c2 : w.cell? ⟨0,2,none⟩ = some (.int .i64 4)
 c3 : w.cell? ⟨0,3,none⟩ = some (.int .i64 8)
theorem Tab.pos {w : World} (h : Tab w) : 0 < w.heap.size:=World.block_lt_of_cell? w _ h.c0
theorem Tab.below {w w' : World} {B : Nat} (h : Tab w) (hb : Below B w w') (hB : 0 < B) : Tab w' :=
 ⟨(hb.cell (p:=⟨_,0,none⟩) hB).trans h.c0,(hb.cell (p:=⟨_,1,none⟩) hB).trans h.c1,(hb.cell (p:=⟨_,2,none⟩) hB).trans h.c2,(hb.cell (p:=⟨_,3,none⟩) hB).trans h.c3⟩
def sizeI (n : Int) : Int:=if fitsB n 1 then 1 else if fitsB n 2 then 2 else if fitsB n 4 then 4 else if fitsB n 8 then 8 else 0
theorem size_any (n : Int) (w : World) (ht : Tab w) : Calls Tryz.prog 157 #[.int .i64 n] w fun e w' => e = .returned (.int .i64 (sizeI n)) ∧ w = w':=by
 obtain ⟨c0,c1,c2,c3⟩:=ht
 have hs : Hid (sizeI n = if fitsB n 1 then 1 else if fitsB n 2 then 2 else if fitsB n 4 then 4 else if fitsB n 8 then 8 else 0):=rfl
 cases h1 : fitsB n 1
 cases h2 : fitsB n 2
 cases h3 : fitsB n 4
 cases h4 : fitsB n 8
 all_goals
  go_enter Tryz.func157,Tryz.ntmps157
  go_wp2
  refine wp_loop_rounds 5 ?_
  repeat any_goals (rw [rounds_succ];go_wp2_with (go_at_call 202;refine (fits_any n _ _ (by decide)).mono ?_;rintro e w' ⟨rfl,rfl⟩))
  go_ret
  exact ⟨ret_int (by rw [hs.out];simp [*]),rfl⟩
theorem elemU81 : Elem Tryz.prog 5 .u8 1:=⟨Tryz.underlying5,info_parts (by kernel_rfl)⟩
theorem elemInt : Elem Tryz.prog 3 .i64 8:=⟨Tryz.underlying3,info_parts (by kernel_rfl)⟩
def be1 (m : Nat) : Nat → List Int
 | 0 => []
 | k + 1 => be1 (m / 256) k ++ [((m % 256 : Nat) : Int)]
theorem be_len1 (m k : Nat) : (be1 m k).length = k:=by
 induction k generalizing m with
 | zero => rfl
 | succ k ih => simp [be1,ih]
theorem be_cons1 (m k : Nat) : be1 m (k + 1) = ((m / 256 ^ k % 256 : Nat) : Int) :: be1 m k:=by
 induction k generalizing m with
 | zero => simp [be1]
 | succ k ih => rw [be1,ih,be1,Nat.div_div_eq_div_mul,List.cons_append,← Nat.pow_succ']
theorem be_bts1 (m k : Nat) : Bts (be1 m k):=by
 induction k generalizing m with
 | zero => intro x hx;simp [be1] at hx
 | succ k ih =>
   intro x hx
   rw [be1,List.mem_append] at hx
   rcases hx with hx | hx
   ·exact ih _ x hx
   ·obtain rfl:=List.mem_singleton.1 hx;omega
def filled (xs : List Int) (m W k : Nat) : List Int:=xs ++ (List.replicate (W - k) 0 ++ be1 m k)
theorem filled_len (xs : List Int) (m W k : Nat) (h : k ≤ W) : (filled xs m W k).length = xs.length + W:=by simp [filled,be_len1];omega
theorem filled_set (xs : List Int) (m W k : Nat) (h : k < W) : (filled xs m W k).set (xs.length + W - 1 - k) ((m / 256 ^ k % 256 : Nat) : Int) = filled xs m W (k + 1):=by
 unfold filled
 rw [List.set_append_right _ _ (by omega),be_cons1]
 congr 1
 obtain ⟨d,rfl⟩ : ∃ d,W = k + 1 + d:=⟨W - (k + 1),by omega⟩
 rw [show k + 1 + d - k = d + 1 by omega,show k + 1 + d - (k + 1) = d by omega,show xs.length + (k + 1 + d) - 1 - k - xs.length = d by omega,List.set_append_left _ _ (by simp),List.replicate_succ']
 rw [List.set_append_right _ _ (by simp)]
 simp
theorem wraps_u64' (n : Int) (h₀ : 0 ≤ n) (h₁ : n < 2 ^ 64) : IntKind.u64.wrap n = n:=by rw [IntKind.wrap_u64];omega
theorem byte_eq (x : Int) (hx : 0 ≤ x) (k : Nat) : x / 2 ^ (8 * k) % 256 = ((x.toNat / 256 ^ k % 256 : Nat) : Int):=by
 obtain ⟨m,rfl⟩:=Int.eq_ofNat_of_zero_le hx
 rw [Int.toNat_natCast,Int.pow_mul]
 simp
theorem or_1 (n : Int) (h0 : 0 ≤ n) (h1 : n < 64) : bits .or .u64 0 n = 0 + n :=
 bits_join .u64 64 (by decide) wraps_u64' 6 _ _ (by omega) (by decide) (by omega) h0 (by simpa using h1) (by omega)
def bm1 (n : Int) : Int:=0 + n
theorem bm1_lo (n : Int) (h0 : 0 ≤ n) : 0 ≤ bm1 n:=by unfold bm1;omega
theorem behind_1 (v : Value) (xs : List Int) (n : Int) (w : World) (ht : Tab w) (hr : Rd .u8 w v xs) (hl : xs.length ≤ 140737488351232) (h0 : 0 ≤ n) (h1 : n < 64) :
  Calls Tryz.prog 237 #[v,.int .i64 n,.int .i64 0] w fun e w' => ∃ u,e = .returned u ∧ Own .u8 5 w' w.heap.size u (xs ++ be1 (bm1 n).toNat 1) ∧ Below w.heap.size w w':=by
 have hpos:=ht.pos
 have hrl:=hr.len
 have hml : maxLen = 9223372036854775807:=rfl
 rw [hml] at hrl
 have ht':=ht
 obtain ⟨c0,c1,c2,c3⟩:=ht
 have hL : ∃ a c,v = .slice a xs.length c:=by
  rcases hr with ⟨rfl,a,c,rfl,_⟩ | ⟨_,b,o,c,rfl,_⟩
  ·exact ⟨_,_,rfl⟩
  ·exact ⟨_,_,rfl⟩
 obtain ⟨va,vc,rfl⟩:=hL
 have hor : bits .or .u64 0 n = bm1 n:=or_1 n h0 h1
 have hbl:=bm1_lo n h0
 clear hml
 go_enter Tryz.func237,Tryz.ntmps237
 go_wp2_with (first
  | (at_make;refine wpList_make_nums _ rfl _ _ _ rfl elemU81 Tryz.underlying29 .i64 .i64 _ _ (xs.length + 1) rfl rfl (by simp) (by simp) (by omega) (by unfold maxLen;omega) w.heap.size (qlr _) ?_;intro w1 hown hgr;have hb1 : Below w.heap.size w w1:=(qbr _ _).grown hgr (qlr _) (by simp);have hr1:=hr.below hb1)
  | ((with_reducible refine wpList_copy_rd _ ?_ (.tmp 28) (.tmp 29) 29 29 ?_ elemU81 Tryz.underlying29 w.heap.size (.slice (some ⟨w.heap.size,0,none⟩) (xs.length + 1) (xs.length + 1)) (List.replicate (xs.length + 1) 0) ?_ hown (.slice va xs.length vc) xs ?_ hr1 ?_ ?_);rfl;rfl;rfl;rfl;(simp);intro w2 hown2 hgr2))
 clear hor
 have hb2 : Below w.heap.size w w2:=hb1.grown hgr2 hb1.size hown.blk
 have hown3 : Own .u8 5 w2 w.heap.size (.slice (some ⟨w.heap.size,0,none⟩) (xs.length + 1) (xs.length + 1)) (filled xs (bm1 n).toNat 1 0):=by
  simpa [filled,be1] using hown2
 clear hown hown2 hgr hgr2 hr hr1 hb1 c0 c1 c2 c3
 go_loopw [32] (fun i wr => ∃ k : Nat,k ≤ 1 ∧ i = .int .i64 k ∧ Own .u8 5 wr w.heap.size (.slice (some ⟨w.heap.size,0,none⟩) (xs.length + 1) (xs.length + 1)) (filled xs (bm1 n).toNat 1 k) ∧ Below w.heap.size w wr) (fun i _ => 1 - (intOf i).toNat)
 case atStart => exact ⟨0,Nat.zero_le _,rfl,hown3,hb2⟩
 case round =>
  obtain ⟨k,hk,rfl,hown,hb⟩:=hrel
  clear hown3 hb2
  by_cases hlt : k < 1
  ·obtain ⟨hcell,hfr⟩:=hown.at (xs.length - k) (by rw [filled_len _ _ _ _ hk];omega)
   go_wp2
   go_roundw
   case rel =>
    refine ⟨k + 1,by omega,by go_num,?_,hb.setCell (by simp) _⟩
    rw [byte_eq _ hbl,← filled_set xs _ 1 k hlt]
    have:=hown.set (xs.length + 1 - 1 - k) ((((bm1 n).toNat / 256 ^ k % 256 : Nat) : Int))
    exact this
   case measure => simp [intOf];omega
  ·obtain rfl : k = 1:=by omega
   go_wp2
   go_ret
   exact ⟨_,rfl,by simpa [filled] using hown,hb⟩
theorem or_2 (n : Int) (h0 : 0 ≤ n) (h1 : n < 16384) : bits .or .u64 16384 n = 16384 + n :=
 bits_join .u64 64 (by decide) wraps_u64' 14 _ _ (by omega) (by decide) (by omega) h0 (by simpa using h1) (by omega)
def bm2 (n : Int) : Int:=16384 + n
theorem bm2_lo (n : Int) (h0 : 0 ≤ n) : 0 ≤ bm2 n:=by unfold bm2;omega
theorem behind_2 (v : Value) (xs : List Int) (n : Int) (w : World) (ht : Tab w) (hr : Rd .u8 w v xs) (hl : xs.length ≤ 140737488351232) (h0 : 0 ≤ n) (h1 : n < 16384) :
  Calls Tryz.prog 237 #[v,.int .i64 n,.int .i64 1] w fun e w' => ∃ u,e = .returned u ∧ Own .u8 5 w' w.heap.size u (xs ++ be1 (bm2 n).toNat 2) ∧ Below w.heap.size w w':=by
 have hpos:=ht.pos
 have hrl:=hr.len
 have hml : maxLen = 9223372036854775807:=rfl
 rw [hml] at hrl
 have ht':=ht
 obtain ⟨c0,c1,c2,c3⟩:=ht
 have hL : ∃ a c,v = .slice a xs.length c:=by
  rcases hr with ⟨rfl,a,c,rfl,_⟩ | ⟨_,b,o,c,rfl,_⟩
  ·exact ⟨_,_,rfl⟩
  ·exact ⟨_,_,rfl⟩
 obtain ⟨va,vc,rfl⟩:=hL
 have hor : bits .or .u64 16384 n = bm2 n:=or_2 n h0 h1
 have hbl:=bm2_lo n h0
 clear hml
 go_enter Tryz.func237,Tryz.ntmps237
 go_wp2_with (first
  | (at_make;refine wpList_make_nums _ rfl _ _ _ rfl elemU81 Tryz.underlying29 .i64 .i64 _ _ (xs.length + 2) rfl rfl (by simp) (by simp) (by omega) (by unfold maxLen;omega) w.heap.size (qlr _) ?_;intro w1 hown hgr;have hb1 : Below w.heap.size w w1:=(qbr _ _).grown hgr (qlr _) (by simp);have hr1:=hr.below hb1)
  | ((with_reducible refine wpList_copy_rd _ ?_ (.tmp 28) (.tmp 29) 29 29 ?_ elemU81 Tryz.underlying29 w.heap.size (.slice (some ⟨w.heap.size,0,none⟩) (xs.length + 2) (xs.length + 2)) (List.replicate (xs.length + 2) 0) ?_ hown (.slice va xs.length vc) xs ?_ hr1 ?_ ?_);rfl;rfl;rfl;rfl;(simp);intro w2 hown2 hgr2))
 clear hor
 have hb2 : Below w.heap.size w w2:=hb1.grown hgr2 hb1.size hown.blk
 have hown3 : Own .u8 5 w2 w.heap.size (.slice (some ⟨w.heap.size,0,none⟩) (xs.length + 2) (xs.length + 2)) (filled xs (bm2 n).toNat 2 0):=by
  simpa [filled,be1] using hown2
 clear hown hown2 hgr hgr2 hr hr1 hb1 c0 c1 c2 c3
 go_loopw [32] (fun i wr => ∃ k : Nat,k ≤ 2 ∧ i = .int .i64 k ∧ Own .u8 5 wr w.heap.size (.slice (some ⟨w.heap.size,0,none⟩) (xs.length + 2) (xs.length + 2)) (filled xs (bm2 n).toNat 2 k) ∧ Below w.heap.size w wr) (fun i _ => 2 - (intOf i).toNat)
 case atStart => exact ⟨0,Nat.zero_le _,rfl,hown3,hb2⟩
 case round =>
  obtain ⟨k,hk,rfl,hown,hb⟩:=hrel
  clear hown3 hb2
  by_cases hlt : k < 2
  ·obtain ⟨hcell,hfr⟩:=hown.at (xs.length + 1 - k) (by rw [filled_len _ _ _ _ hk];omega)
   go_wp2
   go_roundw
   case rel =>
    refine ⟨k + 1,by omega,by go_num,?_,hb.setCell (by simp) _⟩
    rw [byte_eq _ hbl,← filled_set xs _ 2 k hlt]
    have:=hown.set (xs.length + 2 - 1 - k) ((((bm2 n).toNat / 256 ^ k % 256 : Nat) : Int))
    exact this
   case measure => simp [intOf];omega
  ·obtain rfl : k = 2:=by omega
   go_wp2
   go_ret
   exact ⟨_,rfl,by simpa [filled] using hown,hb⟩
theorem or_4 (n : Int) (h0 : 0 ≤ n) (h1 : n < 1073741824) : bits .or .u64 2147483648 n = 2147483648 + n :=
 bits_join .u64 64 (by decide) wraps_u64' 30 _ _ (by omega) (by decide) (by omega) h0 (by simpa using h1) (by omega)
def bm4 (n : Int) : Int:=2147483648 + n
theorem bm4_lo (n : Int) (h0 : 0 ≤ n) : 0 ≤ bm4 n:=by unfold bm4;omega
theorem behind_4 (v : Value) (xs : List Int) (n : Int) (w : World) (ht : Tab w) (hr : Rd .u8 w v xs) (hl : xs.length ≤ 140737488351232) (h0 : 0 ≤ n) (h1 : n < 1073741824) :
  Calls Tryz.prog 237 #[v,.int .i64 n,.int .i64 2] w fun e w' => ∃ u,e = .returned u ∧ Own .u8 5 w' w.heap.size u (xs ++ be1 (bm4 n).toNat 4) ∧ Below w.heap.size w w':=by
 have hpos:=ht.pos
 have hrl:=hr.len
 have hml : maxLen = 9223372036854775807:=rfl
 rw [hml] at hrl
 have ht':=ht
 obtain ⟨c0,c1,c2,c3⟩:=ht
 have hL : ∃ a c,v = .slice a xs.length c:=by
  rcases hr with ⟨rfl,a,c,rfl,_⟩ | ⟨_,b,o,c,rfl,_⟩
  ·exact ⟨_,_,rfl⟩
  ·exact ⟨_,_,rfl⟩
 obtain ⟨va,vc,rfl⟩:=hL
 have hor : bits .or .u64 2147483648 n = bm4 n:=or_4 n h0 h1
 have hbl:=bm4_lo n h0
 clear hml
 go_enter Tryz.func237,Tryz.ntmps237
 go_wp2_with (first
  | (at_make;refine wpList_make_nums _ rfl _ _ _ rfl elemU81 Tryz.underlying29 .i64 .i64 _ _ (xs.length + 4) rfl rfl (by simp) (by simp) (by omega) (by unfold maxLen;omega) w.heap.size (qlr _) ?_;intro w1 hown hgr;have hb1 : Below w.heap.size w w1:=(qbr _ _).grown hgr (qlr _) (by simp);have hr1:=hr.below hb1)
  | ((with_reducible refine wpList_copy_rd _ ?_ (.tmp 28) (.tmp 29) 29 29 ?_ elemU81 Tryz.underlying29 w.heap.size (.slice (some ⟨w.heap.size,0,none⟩) (xs.length + 4) (xs.length + 4)) (List.replicate (xs.length + 4) 0) ?_ hown (.slice va xs.length vc) xs ?_ hr1 ?_ ?_);rfl;rfl;rfl;rfl;(simp);intro w2 hown2 hgr2))
 clear hor
 have hb2 : Below w.heap.size w w2:=hb1.grown hgr2 hb1.size hown.blk
 have hown3 : Own .u8 5 w2 w.heap.size (.slice (some ⟨w.heap.size,0,none⟩) (xs.length + 4) (xs.length + 4)) (filled xs (bm4 n).toNat 4 0):=by
  simpa [filled,be1] using hown2
 clear hown hown2 hgr hgr2 hr hr1 hb1 c0 c1 c2 c3
 go_loopw [32] (fun i wr => ∃ k : Nat,k ≤ 4 ∧ i = .int .i64 k ∧ Own .u8 5 wr w.heap.size (.slice (some ⟨w.heap.size,0,none⟩) (xs.length + 4) (xs.length + 4)) (filled xs (bm4 n).toNat 4 k) ∧ Below w.heap.size w wr) (fun i _ => 4 - (intOf i).toNat)
 case atStart => exact ⟨0,Nat.zero_le _,rfl,hown3,hb2⟩
 case round =>
  obtain ⟨k,hk,rfl,hown,hb⟩:=hrel
  clear hown3 hb2
  by_cases hlt : k < 4
  ·obtain ⟨hcell,hfr⟩:=hown.at (xs.length + 3 - k) (by rw [filled_len _ _ _ _ hk];omega)
   go_wp2
   go_roundw
   case rel =>
    refine ⟨k + 1,by omega,by go_num,?_,hb.setCell (by simp) _⟩
    rw [byte_eq _ hbl,← filled_set xs _ 4 k hlt]
    have:=hown.set (xs.length + 4 - 1 - k) ((((bm4 n).toNat / 256 ^ k % 256 : Nat) : Int))
    exact this
   case measure => simp [intOf];omega
  ·obtain rfl : k = 4:=by omega
   go_wp2
   go_ret
   exact ⟨_,rfl,by simpa [filled] using hown,hb⟩
theorem or_8 (n : Int) (h0 : 0 ≤ n) (h1 : n < 4611686018427387904) : bits .or .u64 13835058055282163712 n = 13835058055282163712 + n :=
 bits_join .u64 64 (by decide) wraps_u64' 62 _ _ (by omega) (by decide) (by omega) h0 (by simpa using h1) (by omega)
def bm8 (n : Int) : Int:=13835058055282163712 + n
theorem bm8_lo (n : Int) (h0 : 0 ≤ n) : 0 ≤ bm8 n:=by unfold bm8;omega
theorem behind_8 (v : Value) (xs : List Int) (n : Int) (w : World) (ht : Tab w) (hr : Rd .u8 w v xs) (hl : xs.length ≤ 140737488351232) (h0 : 0 ≤ n) (h1 : n < 4611686018427387904) :
  Calls Tryz.prog 237 #[v,.int .i64 n,.int .i64 3] w fun e w' => ∃ u,e = .returned u ∧ Own .u8 5 w' w.heap.size u (xs ++ be1 (bm8 n).toNat 8) ∧ Below w.heap.size w w':=by
 have hpos:=ht.pos
 have hrl:=hr.len
 have hml : maxLen = 9223372036854775807:=rfl
 rw [hml] at hrl
 have ht':=ht
 obtain ⟨c0,c1,c2,c3⟩:=ht
 have hL : ∃ a c,v = .slice a xs.length c:=by
  rcases hr with ⟨rfl,a,c,rfl,_⟩ | ⟨_,b,o,c,rfl,_⟩
  ·exact ⟨_,_,rfl⟩
  ·exact ⟨_,_,rfl⟩
 obtain ⟨va,vc,rfl⟩:=hL
 have hor : bits .or .u64 13835058055282163712 n = bm8 n:=or_8 n h0 h1
 have hbl:=bm8_lo n h0
 clear hml
 go_enter Tryz.func237,Tryz.ntmps237
 go_wp2_with (first
  | (at_make;refine wpList_make_nums _ rfl _ _ _ rfl elemU81 Tryz.underlying29 .i64 .i64 _ _ (xs.length + 8) rfl rfl (by simp) (by simp) (by omega) (by unfold maxLen;omega) w.heap.size (qlr _) ?_;intro w1 hown hgr;have hb1 : Below w.heap.size w w1:=(qbr _ _).grown hgr (qlr _) (by simp);have hr1:=hr.below hb1)
  | ((with_reducible refine wpList_copy_rd _ ?_ (.tmp 28) (.tmp 29) 29 29 ?_ elemU81 Tryz.underlying29 w.heap.size (.slice (some ⟨w.heap.size,0,none⟩) (xs.length + 8) (xs.length + 8)) (List.replicate (xs.length + 8) 0) ?_ hown (.slice va xs.length vc) xs ?_ hr1 ?_ ?_);rfl;rfl;rfl;rfl;(simp);intro w2 hown2 hgr2))
 clear hor
 have hb2 : Below w.heap.size w w2:=hb1.grown hgr2 hb1.size hown.blk
 have hown3 : Own .u8 5 w2 w.heap.size (.slice (some ⟨w.heap.size,0,none⟩) (xs.length + 8) (xs.length + 8)) (filled xs (bm8 n).toNat 8 0):=by
  simpa [filled,be1] using hown2
 clear hown hown2 hgr hgr2 hr hr1 hb1 c0 c1 c2 c3
 go_loopw [32] (fun i wr => ∃ k : Nat,k ≤ 8 ∧ i = .int .i64 k ∧ Own .u8 5 wr w.heap.size (.slice (some ⟨w.heap.size,0,none⟩) (xs.length + 8) (xs.length + 8)) (filled xs (bm8 n).toNat 8 k) ∧ Below w.heap.size w wr) (fun i _ => 8 - (intOf i).toNat)
 case atStart => exact ⟨0,Nat.zero_le _,rfl,hown3,hb2⟩
 case round =>
  obtain ⟨k,hk,rfl,hown,hb⟩:=hrel
  clear hown3 hb2
  by_cases hlt : k < 8
  ·obtain ⟨hcell,hfr⟩:=hown.at (xs.length + 7 - k) (by rw [filled_len _ _ _ _ hk];omega)
   go_wp2
   go_roundw
   case rel =>
    refine ⟨k + 1,by omega,by go_num,?_,hb.setCell (by simp) _⟩
    rw [byte_eq _ hbl,← filled_set xs _ 8 k hlt]
    have:=hown.set (xs.length + 8 - 1 - k) ((((bm8 n).toNat / 256 ^ k % 256 : Nat) : Int))
    exact this
   case measure => simp [intOf];omega
  ·obtain rfl : k = 8:=by omega
   go_wp2
   go_ret
   exact ⟨_,rfl,by simpa [filled] using hown,hb⟩
def fault (why at_ : Int) : Value:=.agg #[.int .i64 why,.int .i64 at_]
def GetIs (w : World) (n next why at_ : Int) (e : Ending) (w' : World) : Prop:=e = .returned (.tuple #[.int .i64 n,.int .i64 next,.agg #[.int .i64 why,.int .i64 at_]]) ∧ Below w.heap.size w w'
theorem get_end (v : Value) (xs : List Int) (w : World) (hr : Rd .u8 w v xs) :
  Calls Tryz.prog 203 #[v,.int .i64 xs.length] w (GetIs w 0 0 3 xs.length):=by
 obtain ⟨p,c,rfl⟩:=hr.isSlice
 clear hr
 go_enter Tryz.func203,Tryz.ntmps203
 go_wp2
 go_region
 all_goals
  go_wp2
  refine bodyPost_ret (v:=.tuple #[.int .i64 0,.int .i64 0,fault 3 xs.length]) (by simp [results,Tryz.results203,go_sem,fault]) rfl ⟨rfl,?_⟩
  go_grown
def widN (c : Int) : Nat:=if c / 64 = 0 then 1 else if c / 64 = 1 then 2 else if c / 64 = 2 then 4 else 8
theorem get_short (v : Value) (xs : List Int) (a : Nat) (w : World) (ht : Tab w) (hr : Rd .u8 w v xs) (hx : Bts xs) (h : a < xs.length) (hw : xs.length < a + widN (xs.getD a 0)) :
  Calls Tryz.prog 203 #[v,.int .i64 a] w (GetIs w 0 0 3 xs.length):=by
 have hl : xs.length ≤ 9223372036854775807:=hr.len
 rcases hr with ⟨rfl,_⟩ | ⟨_,b,o,cp,rfl,h2,h3,h4,h5⟩
 ·simp at h
 have hc:=h5 a h
 have hcr : 0 ≤ xs.getD a 0 ∧ xs.getD a 0 < 256:=hx _ (by simp [List.getD,List.getElem?_eq_getElem h])
 clear h5 hx
 obtain ⟨c,hcc⟩ : ∃ c,c = xs.getD a 0:=⟨_,rfl⟩
 rw [← hcc] at hc hcr hw
 clear hcc
 obtain ⟨hc0,hc1⟩:=hcr
 have hpos:=ht.pos
 obtain ⟨c0,c1,c2,c3⟩:=ht
 have hne : ((a : Int) == (xs.length : Int)) = false:=by simp;omega
 have hq : c / 64 = 0 ∨ c / 64 = 1 ∨ c / 64 = 2 ∨ c / 64 = 3:=by omega
 unfold widN at hw
 have t1 : decide ((a : Int) < 0) = false:=by simp
 have t2 : decide (xs.length < a) = false:=by simp;omega
 rcases hq with hq | hq | hq | hq
 all_goals
  simp [hq] at hw
  first
  | (exfalso;omega)
  | (
    go_enter Tryz.func203,Tryz.ntmps203
    go_wp2
    go_region
    all_goals
     go_wp2
     refine bodyPost_ret (v:=.tuple #[.int .i64 0,.int .i64 0,fault 3 xs.length]) (by simp [results,Tryz.results203,go_sem,fault]) rfl ⟨rfl,?_⟩
     go_grown)
theorem wraps_i64'1 (n : Int) (h₀ : 0 ≤ n) (h₁ : n < 2 ^ 63) : IntKind.i64.wrap n = n:=by rw [IntKind.wrap_i64];omega
theorem or_low (n c : Int) (h0 : 0 ≤ n) (h1 : n < 18014398509481984) (h2 : 0 ≤ c) (h3 : c < 256) : bits .or .i64 (n * 256) c = n * 256 + c :=
 bits_join .i64 63 (by decide) wraps_i64'1 8 _ _ (by omega) (by omega) (by omega) h2 (by simpa using h3) (by omega)
def acc (xs : List Int) (a : Nat) : Nat → Int
 | 0 => xs.getD a 0 % 64
 | k + 1 => acc xs a k * 256 + xs.getD (a + 1 + k) 0
theorem acc_lo {xs : List Int} (hx : Bts xs) (a k : Nat) : 0 ≤ acc xs a k:=by
 induction k with
 | zero => have:=getD_bts hx a;unfold acc;omega
 | succ k ih => have:=getD_bts hx (a + 1 + k);unfold acc;omega
theorem acc_hi {xs : List Int} (hx : Bts xs) (a k : Nat) : acc xs a k < 64 * 256 ^ k:=by
 induction k with
 | zero => have:=getD_bts hx a;unfold acc;omega
 | succ k ih => have:=getD_bts hx (a + 1 + k);rw [acc,Int.pow_succ];omega
theorem acc_hi6 {xs : List Int} (hx : Bts xs) (a k : Nat) (hk : k < 7) : acc xs a k < 18014398509481984:=by
 have h:=acc_hi hx a k
 have h6 : (256 : Int) ^ 6 = 281474976710656:=by decide
 have : (256 : Int) ^ k ≤ 256 ^ 6:=by
  have h : ((256 ^ k : Nat) : Int) ≤ ((256 ^ 6 : Nat) : Int):=Int.ofNat_le.2 (Nat.pow_le_pow_right (by decide) (by omega))
  rw [Int.natCast_pow,Int.natCast_pow] at h
  exact h
 omega
theorem get_ok1 (v : Value) (xs : List Int) (a : Nat) (w : World) (ht : Tab w) (hr : Rd .u8 w v xs) (hx : Bts xs) (hw : a + 1 ≤ xs.length) (hq : xs.getD a 0 / 64 = 0) :
  Calls Tryz.prog 203 #[v,.int .i64 a] w (GetIs w (acc xs a 0) (a + 1) 0 0):=by
 have hl : xs.length ≤ 9223372036854775807:=hr.len
 rcases hr with ⟨rfl,_⟩ | ⟨_,b,o,cp,rfl,h2,h3,h4,h5⟩
 ·simp at hw
 have hc:=h5 a (by omega)
 have hcr:=getD_bts hx a
 have h0 : Hid (acc xs a 0 = xs.getD a 0 % 64):=rfl
 obtain ⟨c,hcc⟩ : ∃ c,c = xs.getD a 0:=⟨_,rfl⟩
 rw [← hcc] at hc hcr hq h0
 clear hcc
 obtain ⟨hc0,hc1⟩:=hcr
 have hpos:=ht.pos
 obtain ⟨c0,c1,c2,c3⟩:=ht
 have hne : ((a : Int) == (xs.length : Int)) = false:=by simp;omega
 have t1 : decide ((a : Int) < 0) = false:=by simp
 have t2 : decide (xs.length < a) = false:=by simp;omega
 have hx':=qhi hx;clear hx
 have h5':=qhi h5;clear h5
 have h3':=qhi h3;clear h3
 have hand : bits .and .u8 c 63 = c % 64:=u8_and63 c hc0 hc1
 go_enter Tryz.func203,Tryz.ntmps203
 go_wp2
 all_goals
  refine wp_loop_rounds 1 ?_
  rw [rounds_succ]
  go_wp2
  refine bodyPost_ret (v:=.tuple #[.int .i64 (acc xs a 0),.int .i64 (a + 1),fault 0 0]) (by simp [results,Tryz.results203,go_sem,fault,h0.out]) rfl ⟨rfl,?_⟩
  go_grown
theorem get_ok2 (v : Value) (xs : List Int) (a : Nat) (w : World) (ht : Tab w) (hr : Rd .u8 w v xs) (hx : Bts xs) (hw : a + 2 ≤ xs.length) (hq : xs.getD a 0 / 64 = 1) :
  Calls Tryz.prog 203 #[v,.int .i64 a] w (GetIs w (acc xs a 1) (a + 2) 0 0):=by
 have hl : xs.length ≤ 9223372036854775807:=hr.len
 rcases hr with ⟨rfl,_⟩ | ⟨_,b,o,cp,rfl,h2,h3,h4,h5⟩
 ·simp at hw
 have hc:=h5 a (by omega)
 have hcr:=getD_bts hx a
 have h0 : Hid (acc xs a 0 = xs.getD a 0 % 64):=rfl
 obtain ⟨c,hcc⟩ : ∃ c,c = xs.getD a 0:=⟨_,rfl⟩
 rw [← hcc] at hc hcr hq h0
 clear hcc
 obtain ⟨hc0,hc1⟩:=hcr
 have hpos:=ht.pos
 obtain ⟨c0,c1,c2,c3⟩:=ht
 have hne : ((a : Int) == (xs.length : Int)) = false:=by simp;omega
 have t1 : decide ((a : Int) < 0) = false:=by simp
 have t2 : decide (xs.length < a) = false:=by simp;omega
 have hx':=qhi hx;clear hx
 have h5':=qhi h5;clear h5
 have h3':=qhi h3;clear h3
 have hand : bits .and .u8 c 63 = c % 64:=u8_and63 c hc0 hc1
 go_enter Tryz.func203,Tryz.ntmps203
 go_wp2
 go_loop [9,58] (fun n i => ∃ k : Nat,k ≤ 1 ∧ i = .int .i64 k ∧ n = .int .i64 (acc xs a k)) (fun _ i => 1 - (intOf i).toNat)
 case atStart => exact ⟨0,Nat.zero_le _,rfl,by rw [h0.out]⟩
 case round =>
  obtain ⟨k,hk,rfl,rfl⟩:=hrel
  by_cases hlt : k < 1
  ·have hcell:=Rd.cellOf h5'.out (a + 1 + k) (o + (a + 1) + k) (by omega) (by omega)
   have hd:=getD_bts hx'.out (a + 1 + k)
   have hS : Hid (acc xs a (k + 1) = acc xs a k * 256 + xs.getD (a + 1 + k) 0):=rfl
   have hl0:=acc_lo hx'.out a k
   have hl6:=acc_hi6 hx'.out a k (by omega)
   obtain ⟨d,hdd⟩ : ∃ d,d = xs.getD (a + 1 + k) 0:=⟨_,rfl⟩
   rw [← hdd] at hcell hd hS
   clear hdd
   obtain ⟨hd0,hd1⟩:=hd
   have hor:=or_low _ _ hl0 hl6 hd0 hd1
   go_wp2
   go_round
   case rel => exact ⟨k + 1,by omega,by go_num,by rw [hS.out]⟩
   case measure => simp [intOf];omega
  ·obtain rfl : k = 1:=by omega
   go_wp2
   refine bodyPost_ret (v:=.tuple #[.int .i64 (acc xs a 1),.int .i64 (a + 2),fault 0 0]) (by simp [results,Tryz.results203,go_sem,fault]) rfl ⟨rfl,?_⟩
   go_grown
theorem get_ok4 (v : Value) (xs : List Int) (a : Nat) (w : World) (ht : Tab w) (hr : Rd .u8 w v xs) (hx : Bts xs) (hw : a + 4 ≤ xs.length) (hq : xs.getD a 0 / 64 = 2) :
  Calls Tryz.prog 203 #[v,.int .i64 a] w (GetIs w (acc xs a 3) (a + 4) 0 0):=by
 have hl : xs.length ≤ 9223372036854775807:=hr.len
 rcases hr with ⟨rfl,_⟩ | ⟨_,b,o,cp,rfl,h2,h3,h4,h5⟩
 ·simp at hw
 have hc:=h5 a (by omega)
 have hcr:=getD_bts hx a
 have h0 : Hid (acc xs a 0 = xs.getD a 0 % 64):=rfl
 obtain ⟨c,hcc⟩ : ∃ c,c = xs.getD a 0:=⟨_,rfl⟩
 rw [← hcc] at hc hcr hq h0
 clear hcc
 obtain ⟨hc0,hc1⟩:=hcr
 have hpos:=ht.pos
 obtain ⟨c0,c1,c2,c3⟩:=ht
 have hne : ((a : Int) == (xs.length : Int)) = false:=by simp;omega
 have t1 : decide ((a : Int) < 0) = false:=by simp
 have t2 : decide (xs.length < a) = false:=by simp;omega
 have hx':=qhi hx;clear hx
 have h5':=qhi h5;clear h5
 have h3':=qhi h3;clear h3
 have hand : bits .and .u8 c 63 = c % 64:=u8_and63 c hc0 hc1
 go_enter Tryz.func203,Tryz.ntmps203
 go_wp2
 go_loop [9,58] (fun n i => ∃ k : Nat,k ≤ 3 ∧ i = .int .i64 k ∧ n = .int .i64 (acc xs a k)) (fun _ i => 3 - (intOf i).toNat)
 case atStart => exact ⟨0,Nat.zero_le _,rfl,by rw [h0.out]⟩
 case round =>
  obtain ⟨k,hk,rfl,rfl⟩:=hrel
  by_cases hlt : k < 3
  ·have hcell:=Rd.cellOf h5'.out (a + 1 + k) (o + (a + 1) + k) (by omega) (by omega)
   have hd:=getD_bts hx'.out (a + 1 + k)
   have hS : Hid (acc xs a (k + 1) = acc xs a k * 256 + xs.getD (a + 1 + k) 0):=rfl
   have hl0:=acc_lo hx'.out a k
   have hl6:=acc_hi6 hx'.out a k (by omega)
   obtain ⟨d,hdd⟩ : ∃ d,d = xs.getD (a + 1 + k) 0:=⟨_,rfl⟩
   rw [← hdd] at hcell hd hS
   clear hdd
   obtain ⟨hd0,hd1⟩:=hd
   have hor:=or_low _ _ hl0 hl6 hd0 hd1
   go_wp2
   go_round
   case rel => exact ⟨k + 1,by omega,by go_num,by rw [hS.out]⟩
   case measure => simp [intOf];omega
  ·obtain rfl : k = 3:=by omega
   go_wp2
   refine bodyPost_ret (v:=.tuple #[.int .i64 (acc xs a 3),.int .i64 (a + 4),fault 0 0]) (by simp [results,Tryz.results203,go_sem,fault]) rfl ⟨rfl,?_⟩
   go_grown
theorem get_ok8 (v : Value) (xs : List Int) (a : Nat) (w : World) (ht : Tab w) (hr : Rd .u8 w v xs) (hx : Bts xs) (hw : a + 8 ≤ xs.length) (hq : xs.getD a 0 / 64 = 3) :
  Calls Tryz.prog 203 #[v,.int .i64 a] w (GetIs w (acc xs a 7) (a + 8) 0 0):=by
 have hl : xs.length ≤ 9223372036854775807:=hr.len
 rcases hr with ⟨rfl,_⟩ | ⟨_,b,o,cp,rfl,h2,h3,h4,h5⟩
 ·simp at hw
 have hc:=h5 a (by omega)
 have hcr:=getD_bts hx a
 have h0 : Hid (acc xs a 0 = xs.getD a 0 % 64):=rfl
 obtain ⟨c,hcc⟩ : ∃ c,c = xs.getD a 0:=⟨_,rfl⟩
 rw [← hcc] at hc hcr hq h0
 clear hcc
 obtain ⟨hc0,hc1⟩:=hcr
 have hpos:=ht.pos
 obtain ⟨c0,c1,c2,c3⟩:=ht
 have hne : ((a : Int) == (xs.length : Int)) = false:=by simp;omega
 have t1 : decide ((a : Int) < 0) = false:=by simp
 have t2 : decide (xs.length < a) = false:=by simp;omega
 have hx':=qhi hx;clear hx
 have h5':=qhi h5;clear h5
 have h3':=qhi h3;clear h3
 have hand : bits .and .u8 c 63 = c % 64:=u8_and63 c hc0 hc1
 go_enter Tryz.func203,Tryz.ntmps203
 go_wp2
 go_loop [9,58] (fun n i => ∃ k : Nat,k ≤ 7 ∧ i = .int .i64 k ∧ n = .int .i64 (acc xs a k)) (fun _ i => 7 - (intOf i).toNat)
 case atStart => exact ⟨0,Nat.zero_le _,rfl,by rw [h0.out]⟩
 case round =>
  obtain ⟨k,hk,rfl,rfl⟩:=hrel
  by_cases hlt : k < 7
  ·have hcell:=Rd.cellOf h5'.out (a + 1 + k) (o + (a + 1) + k) (by omega) (by omega)
   have hd:=getD_bts hx'.out (a + 1 + k)
   have hS : Hid (acc xs a (k + 1) = acc xs a k * 256 + xs.getD (a + 1 + k) 0):=rfl
   have hl0:=acc_lo hx'.out a k
   have hl6:=acc_hi6 hx'.out a k (by omega)
   obtain ⟨d,hdd⟩ : ∃ d,d = xs.getD (a + 1 + k) 0:=⟨_,rfl⟩
   rw [← hdd] at hcell hd hS
   clear hdd
   obtain ⟨hd0,hd1⟩:=hd
   have hor:=or_low _ _ hl0 hl6 hd0 hd1
   go_wp2
   go_round
   case rel => exact ⟨k + 1,by omega,by go_num,by rw [hS.out]⟩
   case measure => simp [intOf];omega
  ·obtain rfl : k = 7:=by omega
   go_wp2
   refine bodyPost_ret (v:=.tuple #[.int .i64 (acc xs a 7),.int .i64 (a + 8),fault 0 0]) (by simp [results,Tryz.results203,go_sem,fault]) rfl ⟨rfl,?_⟩
   go_grown
def okW (width : Int) : Prop:=width = 1 ∨ width = 2 ∨ width = 4 ∨ width = 8
def enc (n width : Int) : List Int:=if width = 1 then be1 (bm1 n).toNat 1 else if width = 2 then be1 (bm2 n).toNat 2 else if width = 4 then be1 (bm4 n).toNat 4 else be1 (bm8 n).toNat 8
theorem enc_bts (n width : Int) : Bts (enc n width):=by unfold enc;split <;> (try split) <;> (try split) <;> exact be_bts1 _ _
theorem enc_len (n width : Int) (h : okW width) : (enc n width).length = width.toNat:=by
 rcases h with rfl | rfl | rfl | rfl <;> simp [enc,be_len1]
theorem fits_lt {n width : Int} (h : fitsB n width = true) : 0 ≤ n ∧ n < 2 ^ (8 * width - 2).toNat:=of_decide_eq_true h
def BytesOf (w : World) (xs : List Int) (e : Ending) (w' : World) : Prop :=
 ∃ u,e = .returned (.tuple #[u,.int .i64 0]) ∧ Own .u8 5 w' w.heap.size u xs ∧ Below w.heap.size w w'
theorem putWide_yes (v : Value) (xs : List Int) (n width : Int) (w : World) (ht : Tab w) (hr : Rd .u8 w v xs) (hl : xs.length ≤ 140737488351232) (hw : okW width) (hf : fitsB n width = true) :
  Calls Tryz.prog 231 #[v,.int .i64 n,.int .i64 width] w (BytesOf w (xs ++ enc n width)):=by
 have hfl:=fits_lt hf
 have ht':=ht
 obtain ⟨c0,c1,c2,c3⟩:=ht
 rcases hw with rfl | rfl | rfl | rfl
 all_goals
  simp only [Int.reduceMul,Int.reduceSub,Int.reduceToNat,Int.reducePow] at hfl
  obtain ⟨n0,n1⟩:=hfl
  have hr':=qhi hr;clear hr
  have ht'':=qhi ht';clear ht'
  go_enter Tryz.func231,Tryz.ntmps231
  go_wp2
  refine wp_loop_rounds 5 ?_
  repeat any_goals (rw [rounds_succ];go_wp2_with (first
   | (go_at_call 202;refine (fits_any n _ _ (by decide)).mono ?_;rintro e w' ⟨rfl,rfl⟩)
   | (go_at_call 237;first
     | ((with_reducible refine (behind_1 _ xs n _ ht''.out hr'.out hl n0 n1).mono ?_);rintro e w' ⟨u,rfl,hu,hb⟩)
     | ((with_reducible refine (behind_2 _ xs n _ ht''.out hr'.out hl n0 n1).mono ?_);rintro e w' ⟨u,rfl,hu,hb⟩)
     | ((with_reducible refine (behind_4 _ xs n _ ht''.out hr'.out hl n0 n1).mono ?_);rintro e w' ⟨u,rfl,hu,hb⟩)
     | ((with_reducible refine (behind_8 _ xs n _ ht''.out hr'.out hl n0 n1).mono ?_);rintro e w' ⟨u,rfl,hu,hb⟩))))
  go_ret2
  exact ⟨_,rfl,by simpa [enc] using hu,hb⟩
theorem sizeI_in {n : Int} (h : fitsB n 8 = true) : okW (sizeI n) ∧ fitsB n (sizeI n) = true:=by
 unfold sizeI
 split
 ·exact ⟨.inl rfl,by assumption⟩
 ·split
  ·exact ⟨.inr (.inl rfl),by assumption⟩
  ·split
   ·exact ⟨.inr (.inr (.inl rfl)),by assumption⟩
   ·exact ⟨.inr (.inr (.inr rfl)),h⟩
theorem put_yes (v : Value) (xs : List Int) (n : Int) (w : World) (ht : Tab w) (hr : Rd .u8 w v xs) (hl : xs.length ≤ 140737488351232) (hf : fitsB n 8 = true) :
  Calls Tryz.prog 219 #[v,.int .i64 n] w (BytesOf w (xs ++ enc n (sizeI n))):=by
 have H:=qhi (putWide_yes v xs n (sizeI n) w ht hr hl (sizeI_in hf).1 (sizeI_in hf).2)
 have ht':=qhi ht
 clear ht hr hf
 go_enter Tryz.func219,Tryz.ntmps219
 go_wp2_with (first
  | (go_at_call 157;refine (size_any n _ ht'.out).mono ?_;rintro e w' ⟨rfl,rfl⟩)
  | (go_at_call 231;(with_reducible refine H.out.mono ?_);rintro e w' ⟨u,rfl,hu,hb⟩))
 go_ret2
 exact ⟨_,rfl,hu,hb⟩
theorem be_all1 (m W : Nat) : (be1 m W).take W = be1 m W:=List.take_of_length_le (by rw [be_len1];exact qlr _)
end Go.Proofs.YtmcomdmcmnbhlaaGreatDoor
