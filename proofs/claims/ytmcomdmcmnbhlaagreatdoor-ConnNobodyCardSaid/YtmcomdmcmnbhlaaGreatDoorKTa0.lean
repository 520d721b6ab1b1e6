import Derived.Test.YtmcomdmcmnbhlaaGreatDoorKLBe0
import Derived.Lib.SlBytesConst
import Derived.Test.YtmcomdmcmnbhlaaGreatDoorKLArr0
import Derived.Deep.RegionHeld3
import Derived.Lib.SmallJoins
set_option maxRecDepth 100000
set_option maxHeartbeats 25600000
set_option linter.unusedSimpArgs false
set_option linter.unusedVariables false
set_option linter.unnecessarySimpa false
namespace Go.Proofs.YtmcomdmcmnbhlaaGreatDoor
open Go.RowKit
theorem bits_xor_bv (a b : Int) : bits .xor .u64 a b = (((BitVec.ofInt 64 a) ^^^ (BitVec.ofInt 64 b)).toNat : Int):=by
 show IntKind.u64.wrap (((BitVec.ofInt 64 a) ^^^ (BitVec.ofInt 64 b)).toNat : Int) = _
 rw [IntKind.wrap_u64]
 have:=((BitVec.ofInt 64 a) ^^^ (BitVec.ofInt 64 b)).isLt
 omega
def mixB (t : BitVec 64) (x : Int) : BitVec 64:=(t ^^^ BitVec.ofInt 64 x) * 1099511628211#64
def tagB (key : Int) (xs : List Int) : BitVec 64:=xs.foldl mixB (14695981039346656037#64 ^^^ BitVec.ofInt 64 key)
def tagI (key : Int) (xs : List Int) : Int:=((tagB key xs).toNat : Int)
theorem tagI_lo (key : Int) (xs : List Int) : 0 ≤ tagI key xs:=by unfold tagI;omega
theorem tagI_hi (key : Int) (xs : List Int) : tagI key xs ≤ 18446744073709551615:=by unfold tagI;have:=(tagB key xs).isLt;omega
theorem tag_first (key : Int) : bits .xor .u64 14695981039346656037 key = tagI key []:=by
 rw [bits_xor_bv];rfl
theorem ofInt_tagI (key : Int) (xs : List Int) : BitVec.ofInt 64 (tagI key xs) = tagB key xs:=by
 unfold tagI
 apply BitVec.eq_of_toNat_eq
 rw [BitVec.toNat_ofInt]
 have:=(tagB key xs).isLt
 omega
theorem tag_step (key : Int) (xs : List Int) (x : Int) : IntKind.u64.wrap (bits .xor .u64 (tagI key xs) x * 1099511628211) = tagI key (xs ++ [x]):=by
 rw [bits_xor_bv,ofInt_tagI,IntKind.wrap_u64]
 show _ = ((List.foldl mixB _ (xs ++ [x])).toNat : Int)
 rw [List.foldl_append]
 show _ = ((((tagB key xs) ^^^ BitVec.ofInt 64 x) * 1099511628211#64).toNat : Int)
 rw [BitVec.toNat_mul]
 simp
theorem tag_take (key : Int) (xs : List Int) (k : Nat) (h : k < xs.length) : IntKind.u64.wrap (bits .xor .u64 (tagI key (xs.take k)) (xs.getD k 0) * 1099511628211) = tagI key (xs.take (k + 1)):=by
 rw [tag_step]
 congr 1
 rw [List.take_succ_eq_append_getElem h]
 simp [List.getD,List.getElem?_eq_getElem h]
def sealL (key : Int) (xs : List Int) : List Int:=xs ++ be (tagB key xs).toNat 8
def openL (key : Int) (cs : List Int) : Option (List Int) :=
 if cs.length < 8 then none else if cs.drop (cs.length - 8) = be (tagB key (cs.take (cs.length - 8))).toNat 8 then some (cs.take (cs.length - 8)) else none
theorem sealL_len (key : Int) (xs : List Int) : (sealL key xs).length = xs.length + 8:=by simp [sealL,be_len]
theorem sealL_bts (key : Int) {xs : List Int} (hx : Bts xs) : Bts (sealL key xs):=hx.append (be_bts _ _)
theorem openL_of (key : Int) (ys ts : List Int) (ht : ts.length = 8) : openL key (ys ++ ts) = if ts = be (tagB key ys).toNat 8 then some ys else none:=by
 unfold openL
 rw [if_neg (by simp;omega),List.length_append,ht,Nat.add_sub_cancel,List.drop_left,List.take_left]
theorem open_seal (key : Int) (xs : List Int) : openL key (sealL key xs) = some xs:=by
 rw [sealL,openL_of _ _ _ (be_len _ _),if_pos rfl]
theorem of_any (key : Int) (v : Value) (xs : List Int) (w : World) (hr : Rd .u8 w v xs) (hx : Bts xs) :
  Calls Tryz.prog 114 #[.int .u64 key,v] w fun e w' => e = .returned (.int .u64 (tagI key xs)) ∧ w = w':=by
 have hl : xs.length ≤ 9223372036854775807:=hr.len
 have hf:=qhi (tag_first key)
 rcases hr with ⟨rfl,a,c,rfl,_⟩ | ⟨h0,b,o,c,rfl,h2,h3,h4,h5⟩
 ·have hf:=hf.out
  go_enter Tryz.func114,Tryz.ntmps114
  go_wp2
  refine wp_loop_rounds 1 ?_
  rw [rounds_succ]
  go_wp2
  go_ret
  exact ⟨rfl,rfl⟩
 ·have hf:=hf.out
  have H5:=qhi h5
  clear h5
  go_enter Tryz.func114,Tryz.ntmps114
  go_wp2
  clear hf
  go_loop [5,12] (fun t i => ∃ k : Nat,k ≤ xs.length ∧ i = .int .i64 k ∧ t = .int .u64 (tagI key (xs.take k))) (fun _ i => xs.length - (intOf i).toNat)
  case atStart => exact ⟨0,Nat.zero_le _,rfl,rfl⟩
  case round =>
   obtain ⟨k,hk,rfl,rfl⟩:=hrel
   by_cases hlt : k < xs.length
   ·have hc:=H5.out k hlt
    have hb:=getD_bts hx k
    have hs:=tag_take key xs k hlt
    obtain ⟨x,hxe⟩ : ∃ x,x = xs.getD k 0:=⟨_,rfl⟩
    rw [← hxe] at hc hb hs
    clear hxe
    obtain ⟨hb0,hb1⟩:=hb
    have hwr : IntKind.u64.wrap x = x:=by rw [IntKind.wrap_u64];omega
    have HS:=qhi hs
    clear hs
    go_wp2
    go_round
    case rel => exact ⟨k + 1,by omega,by go_num,by rw [← HS.out]⟩
    case measure => simp [intOf];omega
   ·obtain rfl : k = xs.length:=by omega
    go_wp2
    go_ret
    exact ⟨rfl,rfl⟩
def tb (t : Int) (i : Nat) : Int:=t / (256 ^ (7 - i) : Nat) % 256
theorem spread_any (t : Int) (w : World) (h0 : 0 ≤ t) (h1 : t ≤ 18446744073709551615) :
  Calls Tryz.prog 113 #[.int .u64 t] w fun e w' => e = .returned (.agg #[.int .u8 (tb t 0),.int .u8 (tb t 1),.int .u8 (tb t 2),.int .u8 (tb t 3),.int .u8 (tb t 4),.int .u8 (tb t 5),.int .u8 (tb t 6),.int .u8 (tb t 7)]) ∧ Below w.heap.size w w':=by
 go_enter Tryz.func113,Tryz.ntmps113
 go_wp2
 refine wp_loop_rounds 9 ?_
 repeat any_goals (rw [rounds_succ];go_wp2)
 refine bodyPost_ret (v:=.agg #[.int .u8 (t / 72057594037927936),.int .u8 (t / 281474976710656 % 256),.int .u8 (t / 1099511627776 % 256),.int .u8 (t / 4294967296 % 256),.int .u8 (t / 16777216 % 256),.int .u8 (t / 65536 % 256),.int .u8 (t / 256 % 256),.int .u8 (t % 256)]) (by simp [results,Tryz.results113,go_sem]) rfl ⟨?_,?_⟩
 ·have e0 : t / 72057594037927936 = tb t 0:=by unfold tb;simp only [Nat.reduceSub,Nat.reducePow];omega
  have e7 : t % 256 = tb t 7:=by unfold tb;simp only [Nat.reduceSub,Nat.reducePow];omega
  rw [e0,e7];rfl
 ·exact ((qbr _ _).alloc (qlr _) _).alloc (by simp) _
theorem be_eight (m : Nat) : be m 8 = [tb m 0,tb m 1,tb m 2,tb m 3,tb m 4,tb m 5,tb m 6,tb m 7]:=by
 have h : ∀ i,((m / 256 ^ (7 - i) % 256 : Nat) : Int) = tb m i:=fun i => by
  unfold tb;rw [Int.natCast_emod,Int.natCast_ediv];rfl
 rw [be_cons,be_cons,be_cons,be_cons,be_cons,be_cons,be_cons,be_cons,← h 0,← h 1,← h 2,← h 3,← h 4,← h 5,← h 6,← h 7]
 rfl
theorem be_tag (key : Int) (xs : List Int) : be (tagB key xs).toNat 8 = [tb (tagI key xs) 0,tb (tagI key xs) 1,tb (tagI key xs) 2,tb (tagI key xs) 3,tb (tagI key xs) 4,tb (tagI key xs) 5,tb (tagI key xs) 6,tb (tagI key xs) 7]:=be_eight _
theorem Own.of_heap {k : IntKind} {e B : Nat} {w : World} {g n : Nat} (zs : List Int) (hB : B ≤ g) (hg : w.heap[g]? = some (.cells (zs.map (Value.int k)).toArray e (0,0))) (hn : n = zs.length) (hm : n ≤ maxLen) : Own k e w B (.slice (some ⟨g,0,none⟩) n n) zs:=by
 subst hn
 exact ⟨by simp,.inr ⟨g,zs.length,_,rfl,hB,hg,qlr _,hm,by simp,by simp [List.take_of_length_le]⟩⟩
theorem Own.heap {k : IntKind} {e B : Nat} {w : World} {g n : Nat} {zs : List Int} (h : Own k e w B (.slice (some ⟨g,0,none⟩) n n) zs) : w.heap[g]? = some (.cells (zs.map (Value.int k)).toArray e (0,0)):=by
 rcases h.2 with ⟨q,_⟩ | ⟨g',cap',cur,q,hb,hg,hn,hmx,hcs,htk⟩
 ·cases q
 ·simp only [Value.slice.injEq,Option.some.injEq,Addr.mk.injEq,and_true] at q
  obtain ⟨rfl,q1,q2⟩:=q
  subst q1
  rw [hg,← htk,List.take_of_length_le (by rw [Array.length_toList,hcs];omega)]
def BytesIs (w : World) (xs : List Int) (e : Ending) (w' : World) : Prop:=∃ u,e = .returned u ∧ Own .u8 5 w' w.heap.size u xs ∧ Below w.heap.size w w'
theorem seal_any (key : Int) (v : Value) (xs : List Int) (w : World) (hr : Rd .u8 w v xs) (hx : Bts xs) (hl : xs.length ≤ 140737488355328) :
  Calls Tryz.prog 71 #[.int .u64 key,v] w (BytesIs w (sealL key xs)):=by
 have hR:=qhi hr
 obtain ⟨va,vc,rfl⟩:=hr.isSlice
 clear hr
 have t0:=tagI_lo key xs
 have t1:=tagI_hi key xs
 go_enter Tryz.func71,Tryz.ntmps71
 go_wp2_with fail
 refine (of_any key _ xs _ hR.out hx).mono ?_
 rintro e w1 ⟨rfl,rfl⟩
 go_wp2_with fail
 refine (spread_any (tagI key xs) _ t0 t1).mono ?_
 rintro e w1 ⟨rfl,b1⟩
 have z1:=b1.size
 have b2:=b1.alloc (o:=.cells #[.int .u8 (tb (tagI key xs) 0),.int .u8 (tb (tagI key xs) 1),.int .u8 (tb (tagI key xs) 2),.int .u8 (tb (tagI key xs) 3),.int .u8 (tb (tagI key xs) 4),.int .u8 (tb (tagI key xs) 5),.int .u8 (tb (tagI key xs) 6),.int .u8 (tb (tagI key xs) 7)] 189) z1
 have z2:=b2.size
 have rt:=qhi (Rd.lit' (w:=w1) (k:=.u8) (e:=189) (be (tagB key xs).toNat 8) (by rw [be_tag];simp) 8 w1.heap.size (by rw [be_len]) (by unfold maxLen;omega) #[.int .u8 (tb (tagI key xs) 0),.int .u8 (tb (tagI key xs) 1),.int .u8 (tb (tagI key xs) 2),.int .u8 (tb (tagI key xs) 3),.int .u8 (tb (tagI key xs) 4),.int .u8 (tb (tagI key xs) 5),.int .u8 (tb (tagI key xs) 6),.int .u8 (tb (tagI key xs) 7)] (by rw [be_tag];simp) rfl)
 go_wp2_with (first
  | (at_make;refine wpList_make_nums _ rfl _ _ _ rfl elemU8 Tryz.underlying29 .i64 .i64 _ _ (xs.length + 8) rfl rfl (by simp) (by simp) (by omega) (by unfold maxLen;omega) w.heap.size b2.size ?_;intro w3 o3 g3;have b3 : Below w.heap.size w w3:=b2.grown g3 b2.size (by simp);have r3:=hR.out.below b3;have t3:=rt.out.below ((qbr _ _).grown g3 (qlr _) (by simp));simp only [World.size_alloc] at o3)
  | ((with_reducible refine wpList_copy_rd _ ?_ (.tmp 15) (.tmp 16) 29 29 ?_ elemU8 Tryz.underlying29 w.heap.size _ (List.replicate (xs.length + 8) 0) ?_ o3 (.slice va xs.length vc) xs ?_ r3 ?_ ?_);rfl;rfl;rfl;rfl;(simp);intro w4 o4 g4;have b4 : Below w.heap.size w w4:=b3.grown g4 b3.size o3.blk))
 have z3 : w1.heap.size + 1 < w3.heap.size:=o3.blt _ rfl
 have b34 : Below (w1.heap.size + 1) w3 w4:=(qbr _ _).grown g4 (by omega) (by simp [Value.ownBlock])
 have t4 : Rd .u8 w4 (.slice (some ⟨w1.heap.size,0,none⟩) 8 8) (be (tagB key xs).toNat 8):=by
  rcases t3 with ⟨h0,_⟩ | ⟨h0,b,o,c,q,h2,h3,h4,h5⟩
  ·exact absurd (congrArg List.length h0) (by rw [be_len];simp)
  ·simp only [Value.slice.injEq,Option.some.injEq,Addr.mk.injEq,and_true] at q
   obtain ⟨⟨rfl,rfl⟩,q1,rfl⟩:=q
   exact .inr ⟨h0,w1.heap.size,0,8,by rw [be_len],h2,h3,Nat.lt_of_lt_of_le h4 b34.size,fun i hi => (b34.cell (p:=⟨_,0 + i,none⟩) (Nat.lt_succ_self _)).trans (h5 i hi)⟩
 have o5 : Own .u8 5 w4 w.heap.size (.slice (some ⟨w1.heap.size + 1,0,none⟩) (xs.length + 8) (xs.length + 8)) (xs ++ List.replicate 8 0):=by simpa using o4
 have hp : Hid (w4.drew.heap[w1.heap.size + 1]? = some (.cells ((xs ++ List.replicate 8 0).map (Value.int .u8)).toArray 5 (0,0))):=o5.heap
 obtain ⟨cs,hcs⟩ : ∃ cs,cs = (be (tagB key xs).toNat 8).map (Value.int .u8):=⟨_,rfl⟩
 have cl : cs.length = 8:=by rw [hcs,List.length_map,be_len]
 have csrc : Hid (∀ j v,cs[j]? = some v → w4.drew.cell? ((⟨w1.heap.size,0,none⟩ : Addr).add j) = some v):=by
  intro j u hu
  rcases t4 with ⟨h0,_⟩ | ⟨h0,b,o,c,q,h2,h3,h4,h5⟩
  ·exact absurd (congrArg List.length h0) (by rw [be_len];simp)
  ·simp only [Value.slice.injEq,Option.some.injEq,Addr.mk.injEq,and_true] at q
   obtain ⟨⟨rfl,rfl⟩,q1,rfl⟩:=q
   exact Rd.src h5 j u (by rw [← hcs];exact hu)
 have c1 : Hid (∀ u ∈ cs,u.oneCell' = true):=by rw [hcs];exact ints_oneCell _ _
 have CL:=qhi cl
 have CS:=qhi hcs
 have b5 : Below w.heap.size w w4.drew:=qbd b4 1
 clear cl hcs o4 o5 t3 t4 o3 g3 g4 b34 rt
 have hle : (xs.length : Int) ≤ (xs.length : Int) + 8:=by omega
 go_region_law (refine step_copy_splice rfl (.tmp 21) (.tmp 22) 29 29 rfl 5 Tryz.underlying29 (by kernel_rfl) (some ⟨w1.heap.size + 1,xs.length,none⟩) (some ⟨w1.heap.size,0,none⟩) 8 8 8 8 (by simp [Act.eval,Act.put]) (by simp [Act.eval,Act.put]) (w1.heap.size + 1) xs.length ((xs ++ List.replicate 8 0).map (Value.int .u8)) 5 hp.out cs CL.out (fun _ => ⟨rfl,_,rfl,csrc.out⟩) (by rw [CL.out];simp) c1.out w.heap.size w b5 (by omega) ?_;intro w5 hg5 hb5)
 go_wp2
 go_ret
 have e : splice ((xs ++ List.replicate 8 0).map (Value.int .u8)) xs.length cs = (sealL key xs).map (Value.int .u8):=by
  rw [CS.out]
  simp [splice,sealL,be_len]
 have hg6:=hg5.out
 rw [e] at hg6
 exact ⟨_,rfl,Own.of_heap (sealL key xs) (by omega) hg6 (by rw [sealL_len]) (by unfold maxLen;omega),hb5⟩
def OpenIs (w : World) (o : Option (List Int)) (e : Ending) (w' : World) : Prop :=
 ∃ (u : Value) (ys : List Int) (c : Int),e = .returned (.tuple #[u,.int .i64 c]) ∧ Own .u8 5 w' w.heap.size u ys ∧ Below w.heap.size w w' ∧ ((o = some ys ∧ c = 0) ∨ (o = none ∧ ys = [] ∧ c = 4))
theorem open_short (key : Int) (v : Value) (xs : List Int) (w : World) (hr : Rd .u8 w v xs) (h : xs.length < 8) :
  Calls Tryz.prog 74 #[.int .u64 key,v] w (OpenIs w (openL key xs)):=by
 obtain ⟨va,vc,rfl⟩:=hr.isSlice
 have ho : openL key xs = none:=by unfold openL;rw [if_pos h]
 rw [ho]
 clear hr ho
 have h1 : decide ((xs.length : Int) - 8 < 0) = true:=by simp;omega
 go_enter Tryz.func74,Tryz.ntmps74
 go_wp2
 go_ret2
 exact ⟨_,[],4,rfl,Own.nil _ _ _ _,qbr _ _,.inr ⟨rfl,rfl,rfl⟩⟩
theorem src_of {w w' : World} {b o n c : Nat} {ys : List Int} {ds : List Value} (hds : ds = ys.map (Value.int .u8)) (hb : Below w.heap.size w w') (hlt : b < w.heap.size) (hr : Rd .u8 w (.slice (some ⟨b,o,none⟩) n c) ys) :
  ∀ j v,ds[j]? = some v → w'.cell? ((⟨b,o,none⟩ : Addr).add j) = some v:=by
 intro j u hu
 subst hds
 rcases hr with ⟨rfl,_⟩ | ⟨h0,b,o',c,q,h2,h3,h4,h5⟩
 ·simp at hu
 ·simp only [Value.slice.injEq,Option.some.injEq,Addr.mk.injEq,and_true] at q
  obtain ⟨⟨rfl,rfl⟩,q1,rfl⟩:=q
  exact (hb.cell (by rw [Addr.add_lit];exact hlt)).trans (Rd.src h5 j u hu)
theorem open_long (key : Int) (b o c n : Nat) (ys ts : List Int) (a0 a1 a2 a3 a4 a5 a6 a7 : Int) (w : World) (hys : ys.length = n) (hte : ts = [a0,a1,a2,a3,a4,a5,a6,a7]) (hx : Bts (ys ++ ts)) (hbig : n ≤ 140737488351232) (hr : Rd .u8 w (.slice (some ⟨b,o,none⟩) (n + 8) c) (ys ++ ts)) :
  Calls Tryz.prog 74 #[.int .u64 key,.slice (some ⟨b,o,none⟩) (n + 8) c] w (OpenIs w (openL key (ys ++ ts))):=by
 have hts : ts.length = 8:=by rw [hte];rfl
 have hb : b < w.heap.size:=by
  rcases hr with ⟨h0,_⟩ | ⟨h0,b,o,c,q,h2,h3,h4,h5⟩
  ·have:=congrArg List.length h0;simp [hts] at this
  ·simp only [Value.slice.injEq,Option.some.injEq,Addr.mk.injEq,and_true] at q
   obtain ⟨⟨rfl,rfl⟩,q1,rfl⟩:=q
   exact h4
 have rY : Hid (Rd .u8 w (.slice (some ⟨b,o,none⟩) n c) ys):=by
  rcases hr with ⟨h0,_⟩ | ⟨h0,b,o,c,q,h2,h3,h4,h5⟩
  ·have:=congrArg List.length h0;simp [hts] at this
  ·simp only [Value.slice.injEq,Option.some.injEq,Addr.mk.injEq,and_true] at q
   obtain ⟨⟨rfl,rfl⟩,q1,rfl⟩:=q
   by_cases hy0 : ys = []
   ·subst hy0;subst hys;exact .inl ⟨rfl,_,_,rfl,h3,fun h => by cases h⟩
   ·refine .inr ⟨hy0,b,o,c,by rw [hys],by omega,h3,h4,fun i hi => ?_⟩
    rw [h5 i (by rw [List.length_append];omega),List.getD,List.getElem?_append_left hi];rfl
 have hcmp : ∀ W : World,(Op.equalIn 10000 189 (.agg #[.int .u8 a0,.int .u8 a1,.int .u8 a2,.int .u8 a3,.int .u8 a4,.int .u8 a5,.int .u8 a6,.int .u8 a7]) (.agg #[.int .u8 (tb (tagI key ys) 0),.int .u8 (tb (tagI key ys) 1),.int .u8 (tb (tagI key ys) 2),.int .u8 (tb (tagI key ys) 3),.int .u8 (tb (tagI key ys) 4),.int .u8 (tb (tagI key ys) 5),.int .u8 (tb (tagI key ys) 6),.int .u8 (tb (tagI key ys) 7)])).run Tryz.prog W = .ok (decide (ts = be (tagB key ys).toNat 8)) W:=by
  intro W
  obtain ⟨i,hi,_⟩:=elemU8.info
  rw [be_tag,hte]
  exact run_eq_nums (P:=Tryz.prog) W Tryz.underlying189 Tryz.underlying5 hi (by kernel_rfl) [a0,a1,a2,a3,a4,a5,a6,a7] [tb (tagI key ys) 0,tb (tagI key ys) 1,tb (tagI key ys) 2,tb (tagI key ys) 3,tb (tagI key ys) 4,tb (tagI key ys) 5,tb (tagI key ys) 6,tb (tagI key ys) 7] rfl rfl
 have rY0:=rY
 have HTE:=qhi hte
 have HO:=qhi (openL_of key ys ts hts)
 clear hte
 obtain ⟨q,hq⟩ : ∃ q : Bool,decide (ts = be (tagB key ys).toNat 8) = q:=⟨_,rfl⟩
 rw [hq] at hcmp
 have HQ:=qhi hq
 clear hq
 have hbY : Bts ys:=fun x h => hx x (List.mem_append_left _ h)
 have hR:=qhi hr
 have t0:=tagI_lo key ys
 have t1:=tagI_hi key ys
 have hlen : n + 8 ≤ 9223372036854775807:=by have:=hr.len;rw [List.length_append,hys,hts] at this;exact this
 have hcap : n + 8 ≤ c:=by
  rcases hr with ⟨h0,_⟩ | ⟨h0,b,o,c,q,h2,h3,h4,h5⟩
  ·have:=congrArg List.length h0;simp [hts] at this
  ·simp only [Value.slice.injEq,Option.some.injEq,Addr.mk.injEq,and_true] at q
   obtain ⟨⟨rfl,rfl⟩,q1,rfl⟩:=q
   omega
 obtain ⟨W1,hW1⟩ : ∃ W1 : World,W1 = w.alloc (.cells #[.int .u8 0,.int .u8 0,.int .u8 0,.int .u8 0,.int .u8 0,.int .u8 0,.int .u8 0,.int .u8 0] 189):=⟨_,rfl⟩
 have bW : Below w.heap.size w W1:=by rw [hW1];exact (qbr _ _).alloc (qlr _) _
 have hp : Hid (W1.drew.heap[w.heap.size]? = some (.cells ((List.replicate 8 (0 : Int)).map (Value.int .u8)).toArray 189 (0,0))):=by
  rw [hW1]
  show (w.heap.push _)[w.heap.size]? = _
  simp
 obtain ⟨cs,hcs⟩ : ∃ cs,cs = ts.map (Value.int .u8):=⟨_,rfl⟩
 have CL : Hid (cs.length = 8):=by rw [hcs,List.length_map];exact hts
 have rt : Rd .u8 W1.drew (.slice (some ⟨b,o + n,none⟩) 8 (c - n)) ts:=by
  rcases (hr.below bW) with ⟨h0,_⟩ | ⟨h0,b,o,c,q,h2,h3,h4,h5⟩
  ·have:=congrArg List.length h0;simp [hts] at this
  ·simp only [Value.slice.injEq,Option.some.injEq,Addr.mk.injEq,and_true] at q
   obtain ⟨⟨rfl,rfl⟩,q1,rfl⟩:=q
   refine .inr ⟨fun h => by rw [h] at hts;simp at hts,b,o + n,c - n,by rw [hts],by omega,by omega,h4,fun i hi => ?_⟩
   show W1.cell? _ = _
   rw [show o + n + i = o + (n + i) by omega,h5 (n + i) (by rw [List.length_append];omega)]
   rw [List.getD,List.getElem?_append_right (by omega),show n + i - ys.length = i by omega];rfl
 have csrc : Hid (∀ j v,cs[j]? = some v → W1.drew.cell? ((⟨b,o + n,none⟩ : Addr).add j) = some v):=by
  intro j u hu
  rcases rt with ⟨h0,_⟩ | ⟨h0,b,o',c,q,h2,h3,h4,h5⟩
  ·rw [h0] at hts;simp at hts
  ·simp only [Value.slice.injEq,Option.some.injEq,Addr.mk.injEq,and_true] at q
   obtain ⟨⟨rfl,rfl⟩,q1,rfl⟩:=q
   exact Rd.src h5 j u (by rw [← hcs];exact hu)
 have c1 : Hid (∀ u ∈ cs,u.oneCell' = true):=by rw [hcs];exact ints_oneCell _ _
 have CS:=qhi hcs
 have B5 : Below w.heap.size w W1.drew:=qbd bW 1
 clear hr hcs rt
 have HW:=qhi hW1
 clear hW1
 have HY:=qhi hys
 have HTs:=qhi hts
 clear hys hts
 have HC:=qhi hcmp
 clear hcmp
 go_enter Tryz.func74,Tryz.ntmps74
 go_wp2
 rw [← HW.out]
 have hn0 : (0 : Int) ≤ (n : Int):=by omega
 have hn8 : (n : Int) ≤ (n : Int) + 8:=by omega
 have hcn : ¬ c = n:=by omega
 go_region_law (refine step_copy_splice rfl (.tmp 14) (.tmp 17) 29 29 rfl 5 Tryz.underlying29 (by kernel_rfl) (some ⟨w.heap.size,0,none⟩) (some ⟨b,o + n,none⟩) 8 8 8 (c - n) (by simp [Act.eval,Act.put]) (by simp [Act.eval,Act.put]) w.heap.size 0 ((List.replicate 8 (0 : Int)).map (Value.int .u8)) 189 hp.out cs CL.out (fun _ => ⟨rfl,_,rfl,csrc.out⟩) (by rw [CL.out];simp) c1.out w.heap.size w B5 (by omega) ?_;intro w5 hg5 hb5)
 have hg6 : w5.heap[w.heap.size]? = some (.cells #[.int .u8 a0,.int .u8 a1,.int .u8 a2,.int .u8 a3,.int .u8 a4,.int .u8 a5,.int .u8 a6,.int .u8 a7] 189 (0,0)):=by
  rw [hg5.out,CS.out,HTE.out];rfl
 have s5 : w.heap.size < w5.heap.size:=(qgs hg6).1
 have k0:=qcb hg6 0
 have k1:=qcb hg6 1
 have k2:=qcb hg6 2
 have k3:=qcb hg6 3
 have k4:=qcb hg6 4
 have k5:=qcb hg6 5
 have k6:=qcb hg6 6
 have k7:=qcb hg6 7
 simp only [List.getElem?_toArray,List.getElem?_cons_zero,List.getElem?_cons_succ] at k0 k1 k2 k3 k4 k5 k6 k7
 have rY5 : Hid (Rd .u8 w5.drew (.slice (some ⟨b,o,none⟩) n c) ys):=rY.out.below (qbd hb5 1)
 have z5:=hb5.size
 clear hg5 hg6 csrc c1 hp HW rY
 go_wp2_with fail
 have hcmp:=HC.out
 have hnc : n ≤ c:=by omega
 have hnc' : (n : Int) ≤ (c : Int):=by omega
 go_region_held3 (fun w' => w'.cell? ⟨w.heap.size,0,none⟩ = some (.int .u8 a0) ∧ w'.cell? ⟨w.heap.size,1,none⟩ = some (.int .u8 a1) ∧ w'.cell? ⟨w.heap.size,2,none⟩ = some (.int .u8 a2) ∧ w'.cell? ⟨w.heap.size,3,none⟩ = some (.int .u8 a3) ∧ w'.cell? ⟨w.heap.size,4,none⟩ = some (.int .u8 a4) ∧ w'.cell? ⟨w.heap.size,5,none⟩ = some (.int .u8 a5) ∧ w'.cell? ⟨w.heap.size,6,none⟩ = some (.int .u8 a6) ∧ w'.cell? ⟨w.heap.size,7,none⟩ = some (.int .u8 a7))
  (first
   | go_keep
   | (exact ⟨(hb7.cell (p:=⟨_,0,none⟩) s5).trans k0,(hb7.cell (p:=⟨_,1,none⟩) s5).trans k1,(hb7.cell (p:=⟨_,2,none⟩) s5).trans k2,(hb7.cell (p:=⟨_,3,none⟩) s5).trans k3,(hb7.cell (p:=⟨_,4,none⟩) s5).trans k4,(hb7.cell (p:=⟨_,5,none⟩) s5).trans k5,(hb7.cell (p:=⟨_,6,none⟩) s5).trans k6,(hb7.cell (p:=⟨_,7,none⟩) s5).trans k7⟩))
  (first
   | (go_at_call 114;refine (of_any key _ ys _ rY5.out hbY).mono ?_;rintro e w' ⟨rfl,rfl⟩)
   | (go_at_call 113;refine (spread_any (tagI key ys) _ t0 t1).mono ?_;rintro e w7 ⟨rfl,hb7⟩))
 clear hcmp
 have b7 : Below w.heap.size w w7:=(qbd hb5 1).trans (hb7.mono z5)
 have z7:=b7.size
 cases q
 ·have HE : Hid (openL key (ys ++ ts) = none):=by show _ = _;rw [HO.out,if_neg (of_decide_eq_false HQ.out)]
  clear HC
  go_wp2
  go_ret2
  exact ⟨_,[],4,rfl,Own.nil _ _ _ _,b7,.inr ⟨HE.out,rfl,rfl⟩⟩
 ·have HE : Hid (openL key (ys ++ ts) = some ys):=by show _ = _;rw [HO.out,if_pos (of_decide_eq_true HQ.out)]
  obtain ⟨ds,hds⟩ : ∃ ds,ds = ys.map (Value.int .u8):=⟨_,rfl⟩
  have DL : Hid (ds.length = n):=by rw [hds,List.length_map];exact HY.out
  have d1 : Hid (∀ u ∈ ds,u.oneCell' = true):=by rw [hds];exact ints_oneCell _ _
  have DS:=qhi hds
  clear hds HC
  have nb : n ≤ 140737488351232:=hbig
  go_wp2_with (first
   | (at_make;refine wpList_make_nums _ rfl _ _ _ rfl elemU8 Tryz.underlying29 .i64 .i64 _ _ n rfl rfl (by simp) (by simp) (by omega) (by unfold maxLen;omega) w.heap.size z7 ?_;intro w8 o8 g8;have b8 : Below w.heap.size w w8:=b7.grown g8 z7 (by simp);have hp8:=qhi o8.heap;have src8 : Hid (∀ j v,ds[j]? = some v → w8.cell? ((⟨b,o,none⟩ : Addr).add j) = some v):=src_of DS.out b8 hb rY0.out)
   | (with_reducible refine wpList_copy_splice rfl (.tmp 29) (.tmp 30) 29 29 rfl 5 Tryz.underlying29 (by kernel_rfl) _ _ _ _ _ _ rfl rfl w7.heap.size 0 ((List.replicate n (0 : Int)).map (Value.int .u8)) 5 hp8.out ds (by rw [DL.out];simp) (fun _ => ⟨rfl,_,rfl,src8.out⟩) (by rw [DL.out];simp) d1.out w.heap.size w b8 z7 ?_;intro w9 hg9 hb9))
  have hgx:=hg9.out
  have hsp : splice ((List.replicate n (0 : Int)).map (Value.int .u8)) 0 ds = ys.map (Value.int .u8):=by
   rw [DS.out];simp [splice,HY.out]
  rw [hsp] at hgx
  go_ret2
  exact ⟨_,ys,0,rfl,Own.of_heap ys z7 hgx HY.out.symm (by unfold maxLen;omega),hb9,.inl ⟨HE.out,rfl⟩⟩
theorem open_any (key : Int) (v : Value) (xs : List Int) (w : World) (hr : Rd .u8 w v xs) (hx : Bts xs) (hl : xs.length ≤ 140737488351240) :
  Calls Tryz.prog 74 #[.int .u64 key,v] w (OpenIs w (openL key xs)):=by
 by_cases h : xs.length < 8
 ·exact open_short key v xs w hr h
 ·have hr':=hr
  rcases hr with ⟨rfl,_⟩ | ⟨h0,b,o,c,rfl,h2,h3,h4,h5⟩
  ·simp at h
  ·have e : xs = xs.take (xs.length - 8) ++ xs.drop (xs.length - 8):=(List.take_append_drop _ _).symm
   have el : (xs.take (xs.length - 8)).length = xs.length - 8:=by rw [List.length_take];omega
   have et : (xs.drop (xs.length - 8)).length = 8:=by rw [List.length_drop];omega
   generalize hn : xs.length - 8 = n at e el et
   have hn8 : xs.length = n + 8:=by omega
   rw [hn8] at hr' ⊢
   generalize xs.take n = ys at e el
   generalize xs.drop n = ts at e et
   subst e
   match ts,et with
   | [a0,a1,a2,a3,a4,a5,a6,a7],_ => exact open_long key b o c n ys _ a0 a1 a2 a3 a4 a5 a6 a7 w el rfl hx (by omega) hr'
end Go.Proofs.YtmcomdmcmnbhlaaGreatDoor
