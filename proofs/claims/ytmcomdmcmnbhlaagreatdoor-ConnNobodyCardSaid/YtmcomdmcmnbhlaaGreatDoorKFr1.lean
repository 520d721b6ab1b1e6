import Derived.Test.YtmcomdmcmnbhlaaGreatDoorKFr0
set_option maxRecDepth 100000
set_option maxHeartbeats 25600000
set_option linter.unusedSimpArgs false
set_option linter.unusedVariables false
set_option linter.unnecessarySimpa false
namespace Go.Proofs.YtmcomdmcmnbhlaaGreatDoor
open Go.RowKit
theorem frame_0 (p b o cp : Nat) (xs : List Int) (a : Nat) (w : World) (ht : Tab w) (hA : At w p (.slice (some ⟨b,o,none⟩) xs.length cp) a) (hr : Rd .u8 w (.slice (some ⟨b,o,none⟩) xs.length cp) xs) (hx : Bts xs) (ha : a < xs.length) (hbig : xs.length ≤ 1048576) (hp0 : 0 < p) (hbp : b ≠ p) (hb : b < w.heap.size)
  (hk : kindR xs a = .ok ((0,7),a + 1)) :
  Calls Tryz.prog 121 #[.pointer (some ⟨p,0,none⟩)] w (StepIs (frV w.heap.size) w p (.slice (some ⟨b,o,none⟩) xs.length cp) (restR xs a 0 7 (a + 1))):=by
 have hlt:=hA.lt
 have c1:=hA.c1
 have HK:=qhi hk
 have HX:=qhi hx
 have bW : Below w.heap.size w (w.alloc (.cells #[.int .i64 0,.int .i64 0,.int .i64 0,.int .i64 0,.int .i64 0,.bool false,.slice none 0 0,.slice none 0 0] 102)):=(qbr _ _).alloc (qlr _) _
 have HT:=qhi (ht.below bW ht.pos)
 have HR:=qhi (hr.below bW)
 have HA:=qhi (hA.alloc (.cells #[.int .i64 0,.int .i64 0,.int .i64 0,.int .i64 0,.int .i64 0,.bool false,.slice none 0 0,.slice none 0 0] 102))
 have hfree : Hid (∀ j,(Value.slice (some ⟨b,o,none⟩) xs.length cp).ownBlock = some j → some p ≠ some j):=fun j hj e => hbp (by simp only [Value.ownBlock,Option.some.injEq] at hj;cases e;exact hj)
 have hold : Hid (∀ j,(Value.slice (some ⟨b,o,none⟩) xs.length cp).ownBlock = some j → j < w.heap.size):=fun j hj => by simp only [Value.ownBlock,Option.some.injEq] at hj;omega
 have KA:=qhi (kind_any p b o xs.length cp xs a _ HA.out HR.out rfl hx ha hbig)
 have PA : Hid (∀ V : World,Calls Tryz.prog 159 #[.int .i64 0] V fun e w' => e = .returned (.tuple #[.agg #[.bool false,.bool false,.bool false,.bool false,.bool false,.bool false,.bool false],.bool true]) ∧ Below V.heap.size V w'):=fun V => partsOf_any 0 V
 have FN : Hid (∀ e W',StepIs (frV w.heap.size) w p (.slice (some ⟨b,o,none⟩) xs.length cp) (restR xs a 0 7 (a + 1)) e W' → StepIs (frV w.heap.size) w p (.slice (some ⟨b,o,none⟩) xs.length cp) (restR xs a 0 7 (a + 1)) e W'):=fun _ _ h => h
 clear hk hx ht hr hA bW FN
 go_enter Tryz.func121,Tryz.ntmps121
 go_wp2_with fail
 refine KA.out.mono ?_
 rintro e w1 h1
 obtain ⟨g1,⟨u,rfl,rfl⟩,A1⟩:=h1.ok HK.out
 go_wp2_with fail
 refine (PA.out _).mono ?_
 rintro e w2 ⟨rfl,b2⟩
 have q1:=block_kept (alloc_at4 w (.cells #[.int .i64 0,.int .i64 0,.int .i64 0,.int .i64 0,.int .i64 0,.bool false,.slice none 0 0,.slice none 0 0] 102)) g1 (by simp;omega)
 have S0:=qhi (FS.start (cs:=#[.int .i64 0,.int .i64 0,.int .i64 0,.int .i64 0,.int .i64 0,.bool false,.slice none 0 0,.slice none 0 0]) (ps:=#[.bool false,.bool false,.bool false,.bool false,.bool false,.bool false,.bool false]) (A1.kept b2) (grownBy_trans (grownBy_trans (World.grownBy_alloc w _ _) g1) (grownBy_of_below b2)) ((HT.out.kept g1 hp0).below b2 (HT.out.kept g1 hp0).pos) ((HR.out.kept g1 hfree.out).below b2) ((b2.block _ (qgs q1).1).trans q1) hlt (qlr _) hp0 hfree.out hold.out)
 have z1 : w.heap.size < w1.heap.size:=(qgs q1).1
 have z2:=b2.size
 clear g1 q1 A1 KA HT HR HA
 have pc0:=fun i => qcb S0.out.par i
 have pc00:=pc0 0
 have pc01:=pc0 1
 have pc02:=pc0 2
 have pc03:=pc0 3
 have pc04:=pc0 4
 have pc05:=pc0 5
 have pc06:=pc0 6
 have fc0:=fun i => qcb S0.out.frm i
 have fc00:=fc0 0
 have fc01:=fc0 1
 have fc02:=fc0 2
 have fc03:=fc0 3
 have fc04:=fc0 4
 have fc05:=fc0 5
 have fc06:=fc0 6
 have fc07:=fc0 7
 have ff0:=qub S0.out.frm
 have rc:=fun i => qcb S0.out.res i
 have rc0:=rc 0
 have rc1:=rc 1
 have rc2:=rc 2
 have rc3:=rc 3
 have rc4:=rc 4
 have rc5:=rc 5
 have rc6:=rc 6
 have rc7:=rc 7
 have rf:=qub S0.out.res
 have HE : Hid (restR xs a 0 7 (a + 1) = .ok ((⟨0,0,0,0,0,false,[],[]⟩ : Fr),(a + 1))):=by show _ = _;unfold restR;simp only [Int.reduceEq,if_false,if_true,or_false,or_true,false_or,true_or,reduceIte];rfl
 go_wp2_with fail
 have nRF : ¬ (w.heap.size = w2.heap.size + 1):=by omega
 refine bodyPost_ret (v:=.agg #[.int .i64 0,.int .i64 0,.int .i64 0,.int .i64 0,.int .i64 0,.bool false,.slice none 0 0,.slice none 0 0]) (by simp [results,Tryz.results121,go_sem,rc0,rc1,rc2,rc3,rc4,rc5,rc6,rc7,nRF]) rfl ?_
 rw [HE.out]
 obtain ⟨G,A⟩:=S0.out.done (set8 _ w.heap.size (.int .i64 0) (.int .i64 0) (.int .i64 0) (.int .i64 0) (.int .i64 0) (.bool false) (.slice none 0 0) (.slice none 0 0))
 exact ⟨G,⟨_,rfl,_,_,rfl,Own.nil _ _ _ _,OwnS.nil _ _⟩,A⟩
theorem frame_1 (p b o cp : Nat) (xs : List Int) (a : Nat) (w : World) (ht : Tab w) (hA : At w p (.slice (some ⟨b,o,none⟩) xs.length cp) a) (hr : Rd .u8 w (.slice (some ⟨b,o,none⟩) xs.length cp) xs) (hx : Bts xs) (ha : a < xs.length) (hbig : xs.length ≤ 1048576) (hp0 : 0 < p) (hbp : b ≠ p) (hb : b < w.heap.size)
  (hk : kindR xs a = .ok ((1,7),a + 1)) :
  Calls Tryz.prog 121 #[.pointer (some ⟨p,0,none⟩)] w (StepIs (frV w.heap.size) w p (.slice (some ⟨b,o,none⟩) xs.length cp) (restR xs a 1 7 (a + 1))):=by
 have hlt:=hA.lt
 have c1:=hA.c1
 have HK:=qhi hk
 have HX:=qhi hx
 have bW : Below w.heap.size w (w.alloc (.cells #[.int .i64 0,.int .i64 0,.int .i64 0,.int .i64 0,.int .i64 0,.bool false,.slice none 0 0,.slice none 0 0] 102)):=(qbr _ _).alloc (qlr _) _
 have HT:=qhi (ht.below bW ht.pos)
 have HR:=qhi (hr.below bW)
 have HA:=qhi (hA.alloc (.cells #[.int .i64 0,.int .i64 0,.int .i64 0,.int .i64 0,.int .i64 0,.bool false,.slice none 0 0,.slice none 0 0] 102))
 have hfree : Hid (∀ j,(Value.slice (some ⟨b,o,none⟩) xs.length cp).ownBlock = some j → some p ≠ some j):=fun j hj e => hbp (by simp only [Value.ownBlock,Option.some.injEq] at hj;cases e;exact hj)
 have hold : Hid (∀ j,(Value.slice (some ⟨b,o,none⟩) xs.length cp).ownBlock = some j → j < w.heap.size):=fun j hj => by simp only [Value.ownBlock,Option.some.injEq] at hj;omega
 have KA:=qhi (kind_any p b o xs.length cp xs a _ HA.out HR.out rfl hx ha hbig)
 have PA : Hid (∀ V : World,Calls Tryz.prog 159 #[.int .i64 1] V fun e w' => e = .returned (.tuple #[.agg #[.bool false,.bool false,.bool false,.bool false,.bool false,.bool false,.bool false],.bool true]) ∧ Below V.heap.size V w'):=fun V => partsOf_any 1 V
 have FN : Hid (∀ e W',StepIs (frV w.heap.size) w p (.slice (some ⟨b,o,none⟩) xs.length cp) (restR xs a 1 7 (a + 1)) e W' → StepIs (frV w.heap.size) w p (.slice (some ⟨b,o,none⟩) xs.length cp) (restR xs a 1 7 (a + 1)) e W'):=fun _ _ h => h
 clear hk hx ht hr hA bW FN
 go_enter Tryz.func121,Tryz.ntmps121
 go_wp2_with fail
 refine KA.out.mono ?_
 rintro e w1 h1
 obtain ⟨g1,⟨u,rfl,rfl⟩,A1⟩:=h1.ok HK.out
 go_wp2_with fail
 refine (PA.out _).mono ?_
 rintro e w2 ⟨rfl,b2⟩
 have q1:=block_kept (alloc_at4 w (.cells #[.int .i64 0,.int .i64 0,.int .i64 0,.int .i64 0,.int .i64 0,.bool false,.slice none 0 0,.slice none 0 0] 102)) g1 (by simp;omega)
 have S0:=qhi (FS.start (cs:=#[.int .i64 1,.int .i64 0,.int .i64 0,.int .i64 0,.int .i64 0,.bool false,.slice none 0 0,.slice none 0 0]) (ps:=#[.bool false,.bool false,.bool false,.bool false,.bool false,.bool false,.bool false]) (A1.kept b2) (grownBy_trans (grownBy_trans (World.grownBy_alloc w _ _) g1) (grownBy_of_below b2)) ((HT.out.kept g1 hp0).below b2 (HT.out.kept g1 hp0).pos) ((HR.out.kept g1 hfree.out).below b2) ((b2.block _ (qgs q1).1).trans q1) hlt (qlr _) hp0 hfree.out hold.out)
 have z1 : w.heap.size < w1.heap.size:=(qgs q1).1
 have z2:=b2.size
 clear g1 q1 A1 KA HT HR HA
 have pc0:=fun i => qcb S0.out.par i
 have pc00:=pc0 0
 have pc01:=pc0 1
 have pc02:=pc0 2
 have pc03:=pc0 3
 have pc04:=pc0 4
 have pc05:=pc0 5
 have pc06:=pc0 6
 have fc0:=fun i => qcb S0.out.frm i
 have fc00:=fc0 0
 have fc01:=fc0 1
 have fc02:=fc0 2
 have fc03:=fc0 3
 have fc04:=fc0 4
 have fc05:=fc0 5
 have fc06:=fc0 6
 have fc07:=fc0 7
 have ff0:=qub S0.out.frm
 have rc:=fun i => qcb S0.out.res i
 have rc0:=rc 0
 have rc1:=rc 1
 have rc2:=rc 2
 have rc3:=rc 3
 have rc4:=rc 4
 have rc5:=rc 5
 have rc6:=rc 6
 have rc7:=rc 7
 have rf:=qub S0.out.res
 have HE : Hid (restR xs a 1 7 (a + 1) = .ok ((⟨1,0,0,0,0,false,[],[]⟩ : Fr),(a + 1))):=by show _ = _;unfold restR;simp only [Int.reduceEq,if_false,if_true,or_false,or_true,false_or,true_or,reduceIte];rfl
 go_wp2_with fail
 have nRF : ¬ (w.heap.size = w2.heap.size + 1):=by omega
 refine bodyPost_ret (v:=.agg #[.int .i64 1,.int .i64 0,.int .i64 0,.int .i64 0,.int .i64 0,.bool false,.slice none 0 0,.slice none 0 0]) (by simp [results,Tryz.results121,go_sem,rc0,rc1,rc2,rc3,rc4,rc5,rc6,rc7,nRF]) rfl ?_
 rw [HE.out]
 obtain ⟨G,A⟩:=S0.out.done (set8 _ w.heap.size (.int .i64 1) (.int .i64 0) (.int .i64 0) (.int .i64 0) (.int .i64 0) (.bool false) (.slice none 0 0) (.slice none 0 0))
 exact ⟨G,⟨_,rfl,_,_,rfl,Own.nil _ _ _ _,OwnS.nil _ _⟩,A⟩
theorem frame_30 (p b o cp : Nat) (xs : List Int) (a : Nat) (w : World) (ht : Tab w) (hA : At w p (.slice (some ⟨b,o,none⟩) xs.length cp) a) (hr : Rd .u8 w (.slice (some ⟨b,o,none⟩) xs.length cp) xs) (hx : Bts xs) (ha : a < xs.length) (hbig : xs.length ≤ 1048576) (hp0 : 0 < p) (hbp : b ≠ p) (hb : b < w.heap.size)
  (hk : kindR xs a = .ok ((30,7),a + 1)) :
  Calls Tryz.prog 121 #[.pointer (some ⟨p,0,none⟩)] w (StepIs (frV w.heap.size) w p (.slice (some ⟨b,o,none⟩) xs.length cp) (restR xs a 30 7 (a + 1))):=by
 have hlt:=hA.lt
 have c1:=hA.c1
 have HK:=qhi hk
 have HX:=qhi hx
 have bW : Below w.heap.size w (w.alloc (.cells #[.int .i64 0,.int .i64 0,.int .i64 0,.int .i64 0,.int .i64 0,.bool false,.slice none 0 0,.slice none 0 0] 102)):=(qbr _ _).alloc (qlr _) _
 have HT:=qhi (ht.below bW ht.pos)
 have HR:=qhi (hr.below bW)
 have HA:=qhi (hA.alloc (.cells #[.int .i64 0,.int .i64 0,.int .i64 0,.int .i64 0,.int .i64 0,.bool false,.slice none 0 0,.slice none 0 0] 102))
 have hfree : Hid (∀ j,(Value.slice (some ⟨b,o,none⟩) xs.length cp).ownBlock = some j → some p ≠ some j):=fun j hj e => hbp (by simp only [Value.ownBlock,Option.some.injEq] at hj;cases e;exact hj)
 have hold : Hid (∀ j,(Value.slice (some ⟨b,o,none⟩) xs.length cp).ownBlock = some j → j < w.heap.size):=fun j hj => by simp only [Value.ownBlock,Option.some.injEq] at hj;omega
 have KA:=qhi (kind_any p b o xs.length cp xs a _ HA.out HR.out rfl hx ha hbig)
 have PA : Hid (∀ V : World,Calls Tryz.prog 159 #[.int .i64 30] V fun e w' => e = .returned (.tuple #[.agg #[.bool false,.bool false,.bool false,.bool false,.bool false,.bool false,.bool false],.bool true]) ∧ Below V.heap.size V w'):=fun V => partsOf_any 30 V
 have FN : Hid (∀ e W',StepIs (frV w.heap.size) w p (.slice (some ⟨b,o,none⟩) xs.length cp) (restR xs a 30 7 (a + 1)) e W' → StepIs (frV w.heap.size) w p (.slice (some ⟨b,o,none⟩) xs.length cp) (restR xs a 30 7 (a + 1)) e W'):=fun _ _ h => h
 clear hk hx ht hr hA bW FN
 go_enter Tryz.func121,Tryz.ntmps121
 go_wp2_with fail
 refine KA.out.mono ?_
 rintro e w1 h1
 obtain ⟨g1,⟨u,rfl,rfl⟩,A1⟩:=h1.ok HK.out
 go_wp2_with fail
 refine (PA.out _).mono ?_
 rintro e w2 ⟨rfl,b2⟩
 have q1:=block_kept (alloc_at4 w (.cells #[.int .i64 0,.int .i64 0,.int .i64 0,.int .i64 0,.int .i64 0,.bool false,.slice none 0 0,.slice none 0 0] 102)) g1 (by simp;omega)
 have S0:=qhi (FS.start (cs:=#[.int .i64 30,.int .i64 0,.int .i64 0,.int .i64 0,.int .i64 0,.bool false,.slice none 0 0,.slice none 0 0]) (ps:=#[.bool false,.bool false,.bool false,.bool false,.bool false,.bool false,.bool false]) (A1.kept b2) (grownBy_trans (grownBy_trans (World.grownBy_alloc w _ _) g1) (grownBy_of_below b2)) ((HT.out.kept g1 hp0).below b2 (HT.out.kept g1 hp0).pos) ((HR.out.kept g1 hfree.out).below b2) ((b2.block _ (qgs q1).1).trans q1) hlt (qlr _) hp0 hfree.out hold.out)
 have z1 : w.heap.size < w1.heap.size:=(qgs q1).1
 have z2:=b2.size
 clear g1 q1 A1 KA HT HR HA
 have pc0:=fun i => qcb S0.out.par i
 have pc00:=pc0 0
 have pc01:=pc0 1
 have pc02:=pc0 2
 have pc03:=pc0 3
 have pc04:=pc0 4
 have pc05:=pc0 5
 have pc06:=pc0 6
 have fc0:=fun i => qcb S0.out.frm i
 have fc00:=fc0 0
 have fc01:=fc0 1
 have fc02:=fc0 2
 have fc03:=fc0 3
 have fc04:=fc0 4
 have fc05:=fc0 5
 have fc06:=fc0 6
 have fc07:=fc0 7
 have ff0:=qub S0.out.frm
 have rc:=fun i => qcb S0.out.res i
 have rc0:=rc 0
 have rc1:=rc 1
 have rc2:=rc 2
 have rc3:=rc 3
 have rc4:=rc 4
 have rc5:=rc 5
 have rc6:=rc 6
 have rc7:=rc 7
 have rf:=qub S0.out.res
 have HE : Hid (restR xs a 30 7 (a + 1) = .ok ((⟨30,0,0,0,0,false,[],[]⟩ : Fr),(a + 1))):=by show _ = _;unfold restR;simp only [Int.reduceEq,if_false,if_true,or_false,or_true,false_or,true_or,reduceIte];rfl
 go_wp2_with fail
 have nRF : ¬ (w.heap.size = w2.heap.size + 1):=by omega
 refine bodyPost_ret (v:=.agg #[.int .i64 30,.int .i64 0,.int .i64 0,.int .i64 0,.int .i64 0,.bool false,.slice none 0 0,.slice none 0 0]) (by simp [results,Tryz.results121,go_sem,rc0,rc1,rc2,rc3,rc4,rc5,rc6,rc7,nRF]) rfl ?_
 rw [HE.out]
 obtain ⟨G,A⟩:=S0.out.done (set8 _ w.heap.size (.int .i64 30) (.int .i64 0) (.int .i64 0) (.int .i64 0) (.int .i64 0) (.bool false) (.slice none 0 0) (.slice none 0 0))
 exact ⟨G,⟨_,rfl,_,_,rfl,Own.nil _ _ _ _,OwnS.nil _ _⟩,A⟩
theorem frame_4 (p b o cp : Nat) (xs : List Int) (a : Nat) (w : World) (ht : Tab w) (hA : At w p (.slice (some ⟨b,o,none⟩) xs.length cp) a) (hr : Rd .u8 w (.slice (some ⟨b,o,none⟩) xs.length cp) xs) (hx : Bts xs) (ha : a < xs.length) (hbig : xs.length ≤ 1048576) (hp0 : 0 < p) (hbp : b ≠ p) (hb : b < w.heap.size)
  (hk : kindR xs a = .ok ((4,7),a + 1)) :
  Calls Tryz.prog 121 #[.pointer (some ⟨p,0,none⟩)] w (StepIs (frV w.heap.size) w p (.slice (some ⟨b,o,none⟩) xs.length cp) (restR xs a 4 7 (a + 1))):=by
 have hlt:=hA.lt
 have c1:=hA.c1
 have HK:=qhi hk
 have HX:=qhi hx
 have bW : Below w.heap.size w (w.alloc (.cells #[.int .i64 0,.int .i64 0,.int .i64 0,.int .i64 0,.int .i64 0,.bool false,.slice none 0 0,.slice none 0 0] 102)):=(qbr _ _).alloc (qlr _) _
 have HT:=qhi (ht.below bW ht.pos)
 have HR:=qhi (hr.below bW)
 have HA:=qhi (hA.alloc (.cells #[.int .i64 0,.int .i64 0,.int .i64 0,.int .i64 0,.int .i64 0,.bool false,.slice none 0 0,.slice none 0 0] 102))
 have hfree : Hid (∀ j,(Value.slice (some ⟨b,o,none⟩) xs.length cp).ownBlock = some j → some p ≠ some j):=fun j hj e => hbp (by simp only [Value.ownBlock,Option.some.injEq] at hj;cases e;exact hj)
 have hold : Hid (∀ j,(Value.slice (some ⟨b,o,none⟩) xs.length cp).ownBlock = some j → j < w.heap.size):=fun j hj => by simp only [Value.ownBlock,Option.some.injEq] at hj;omega
 have KA:=qhi (kind_any p b o xs.length cp xs a _ HA.out HR.out rfl hx ha hbig)
 have PA : Hid (∀ V : World,Calls Tryz.prog 159 #[.int .i64 4] V fun e w' => e = .returned (.tuple #[.agg #[.bool true,.bool true,.bool true,.bool false,.bool false,.bool false,.bool false],.bool true]) ∧ Below V.heap.size V w'):=fun V => partsOf_any 4 V
 have FN : Hid (∀ e W',StepIs (frV w.heap.size) w p (.slice (some ⟨b,o,none⟩) xs.length cp) (restR xs a 4 7 (a + 1)) e W' → StepIs (frV w.heap.size) w p (.slice (some ⟨b,o,none⟩) xs.length cp) (restR xs a 4 7 (a + 1)) e W'):=fun _ _ h => h
 clear hk hx ht hr hA bW FN
 go_enter Tryz.func121,Tryz.ntmps121
 go_wp2_with fail
 refine KA.out.mono ?_
 rintro e w1 h1
 obtain ⟨g1,⟨u,rfl,rfl⟩,A1⟩:=h1.ok HK.out
 go_wp2_with fail
 refine (PA.out _).mono ?_
 rintro e w2 ⟨rfl,b2⟩
 have q1:=block_kept (alloc_at4 w (.cells #[.int .i64 0,.int .i64 0,.int .i64 0,.int .i64 0,.int .i64 0,.bool false,.slice none 0 0,.slice none 0 0] 102)) g1 (by simp;omega)
 have S0:=qhi (FS.start (cs:=#[.int .i64 4,.int .i64 0,.int .i64 0,.int .i64 0,.int .i64 0,.bool false,.slice none 0 0,.slice none 0 0]) (ps:=#[.bool true,.bool true,.bool true,.bool false,.bool false,.bool false,.bool false]) (A1.kept b2) (grownBy_trans (grownBy_trans (World.grownBy_alloc w _ _) g1) (grownBy_of_below b2)) ((HT.out.kept g1 hp0).below b2 (HT.out.kept g1 hp0).pos) ((HR.out.kept g1 hfree.out).below b2) ((b2.block _ (qgs q1).1).trans q1) hlt (qlr _) hp0 hfree.out hold.out)
 have z1 : w.heap.size < w1.heap.size:=(qgs q1).1
 have z2:=b2.size
 clear g1 q1 A1 KA HT HR HA
 go_wp2_with fail
 refine (Calls.mono (number_any p _ xs (a + 1) _ S0.out.tab S0.out.at_ S0.out.rd HX.out (by omega)) ?_)
 rintro e w3 h
 cases r1 : num xs (a + 1) with
 | error y =>
   obtain ⟨y,z⟩:=y
   have HE : Hid (restR xs a 4 7 (a + 1) = .error (y,z)):=by show _ = _;unfold restR;simp only [Int.reduceEq,if_false,if_true,or_false,or_true,false_or,true_or,reduceIte];exact thn_err r1
   obtain ⟨g,rfl⟩:=h.err r1
   refine ⟨rfl,?_⟩
   rw [HE.out]
   exact ⟨grownBy_trans S0.out.gr g,rfl⟩
 | ok y =>
   obtain ⟨x1,j1⟩:=y
   obtain ⟨g,⟨u,rfl,rfl⟩,A⟩:=h.ok r1
   obtain ⟨lo1,hi1,mv1,le1⟩:=num_ok HX.out r1
   have E1:=qhi r1
   have Q1:=qhi (S0.out.step g A)
   have pc1:=fun i => qcb Q1.out.par i
   have pc10:=pc1 0
   have pc11:=pc1 1
   have pc12:=pc1 2
   have pc13:=pc1 3
   have pc14:=pc1 4
   have pc15:=pc1 5
   have pc16:=pc1 6
   have fc1:=fun i => qcb Q1.out.frm i
   have fc10:=fc1 0
   have fc11:=fc1 1
   have fc12:=fc1 2
   have fc13:=fc1 3
   have fc14:=fc1 4
   have fc15:=fc1 5
   have fc16:=fc1 6
   have fc17:=fc1 7
   have ff1:=qub Q1.out.frm
   have S1:=qhi (Q1.out.put 1 (.int .i64 x1))
   clear h g A r1
   go_wp2_with fail
   refine (Calls.mono (number_any p _ xs j1 _ S1.out.tab S1.out.at_ S1.out.rd HX.out (by omega)) ?_)
   rintro e w4 h
   cases r2 : num xs j1 with
   | error y =>
     obtain ⟨y,z⟩:=y
     have HE : Hid (restR xs a 4 7 (a + 1) = .error (y,z)):=by show _ = _;unfold restR;simp only [Int.reduceEq,if_false,if_true,or_false,or_true,false_or,true_or,reduceIte];rw [thn_ok E1.out];exact thn_err r2
     obtain ⟨g,rfl⟩:=h.err r2
     refine ⟨rfl,?_⟩
     rw [HE.out]
     exact ⟨grownBy_trans S1.out.gr g,rfl⟩
   | ok y =>
     obtain ⟨x2,j2⟩:=y
     obtain ⟨g,⟨u,rfl,rfl⟩,A⟩:=h.ok r2
     obtain ⟨lo2,hi2,mv2,le2⟩:=num_ok HX.out r2
     have E2:=qhi r2
     have Q2:=qhi (S1.out.step g A)
     have pc2:=fun i => qcb Q2.out.par i
     have pc20:=pc2 0
     have pc21:=pc2 1
     have pc22:=pc2 2
     have pc23:=pc2 3
     have pc24:=pc2 4
     have pc25:=pc2 5
     have pc26:=pc2 6
     have fc2:=fun i => qcb Q2.out.frm i
     have fc20:=fc2 0
     have fc21:=fc2 1
     have fc22:=fc2 2
     have fc23:=fc2 3
     have fc24:=fc2 4
     have fc25:=fc2 5
     have fc26:=fc2 6
     have fc27:=fc2 7
     have ff2:=qub Q2.out.frm
     have S2:=qhi (Q2.out.put 4 (.int .i64 x2))
     clear h g A r2
     go_wp2_with fail
     refine (Calls.mono (number_any p _ xs j2 _ S2.out.tab S2.out.at_ S2.out.rd HX.out (by omega)) ?_)
     rintro e w5 h
     cases r3 : num xs j2 with
     | error y =>
       obtain ⟨y,z⟩:=y
       have HE : Hid (restR xs a 4 7 (a + 1) = .error (y,z)):=by show _ = _;unfold restR;simp only [Int.reduceEq,if_false,if_true,or_false,or_true,false_or,true_or,reduceIte];rw [thn_ok E1.out];rw [thn_ok E2.out];exact thn_err r3
       obtain ⟨g,rfl⟩:=h.err r3
       refine ⟨rfl,?_⟩
       rw [HE.out]
       exact ⟨grownBy_trans S2.out.gr g,rfl⟩
     | ok y =>
       obtain ⟨x3,j3⟩:=y
       obtain ⟨g,⟨u,rfl,rfl⟩,A⟩:=h.ok r3
       obtain ⟨lo3,hi3,mv3,le3⟩:=num_ok HX.out r3
       have E3:=qhi r3
       have Q3:=qhi (S2.out.step g A)
       have pc3:=fun i => qcb Q3.out.par i
       have pc30:=pc3 0
       have pc31:=pc3 1
       have pc32:=pc3 2
       have pc33:=pc3 3
       have pc34:=pc3 4
       have pc35:=pc3 5
       have pc36:=pc3 6
       have fc3:=fun i => qcb Q3.out.frm i
       have fc30:=fc3 0
       have fc31:=fc3 1
       have fc32:=fc3 2
       have fc33:=fc3 3
       have fc34:=fc3 4
       have fc35:=fc3 5
       have fc36:=fc3 6
       have fc37:=fc3 7
       have ff3:=qub Q3.out.frm
       have S3:=qhi (Q3.out.put 2 (.int .i64 x3))
       clear h g A r3
       have rc:=fun i => qcb Q3.out.res i
       have rc0:=rc 0
       have rc1:=rc 1
       have rc2:=rc 2
       have rc3:=rc 3
       have rc4:=rc 4
       have rc5:=rc 5
       have rc6:=rc 6
       have rc7:=rc 7
       have rf:=qub Q3.out.res
       have HE : Hid (restR xs a 4 7 (a + 1) = .ok ((⟨4,x1,x3,0,x2,false,[],[]⟩ : Fr),j3)):=by show _ = _;unfold restR;simp only [Int.reduceEq,if_false,if_true,or_false,or_true,false_or,true_or,reduceIte];rw [thn_ok E1.out];rw [thn_ok E2.out];rw [thn_ok E3.out]
       go_wp2_with fail
       have nRF : ¬ (w.heap.size = w2.heap.size + 1):=by omega
       refine bodyPost_ret (v:=.agg #[.int .i64 4,.int .i64 x1,.int .i64 x3,.int .i64 0,.int .i64 x2,.bool false,.slice none 0 0,.slice none 0 0]) (by simp [results,Tryz.results121,go_sem,rc0,rc1,rc2,rc3,rc4,rc5,rc6,rc7,nRF]) rfl ?_
       rw [HE.out]
       obtain ⟨G,A⟩:=S3.out.done (set8 _ w.heap.size (.int .i64 4) (.int .i64 x1) (.int .i64 x3) (.int .i64 0) (.int .i64 x2) (.bool false) (.slice none 0 0) (.slice none 0 0))
       exact ⟨G,⟨_,rfl,_,_,rfl,Own.nil _ _ _ _,OwnS.nil _ _⟩,A⟩
theorem frame_5 (p b o cp : Nat) (xs : List Int) (a : Nat) (w : World) (ht : Tab w) (hA : At w p (.slice (some ⟨b,o,none⟩) xs.length cp) a) (hr : Rd .u8 w (.slice (some ⟨b,o,none⟩) xs.length cp) xs) (hx : Bts xs) (ha : a < xs.length) (hbig : xs.length ≤ 1048576) (hp0 : 0 < p) (hbp : b ≠ p) (hb : b < w.heap.size)
  (hk : kindR xs a = .ok ((5,7),a + 1)) :
  Calls Tryz.prog 121 #[.pointer (some ⟨p,0,none⟩)] w (StepIs (frV w.heap.size) w p (.slice (some ⟨b,o,none⟩) xs.length cp) (restR xs a 5 7 (a + 1))):=by
 have hlt:=hA.lt
 have c1:=hA.c1
 have HK:=qhi hk
 have HX:=qhi hx
 have bW : Below w.heap.size w (w.alloc (.cells #[.int .i64 0,.int .i64 0,.int .i64 0,.int .i64 0,.int .i64 0,.bool false,.slice none 0 0,.slice none 0 0] 102)):=(qbr _ _).alloc (qlr _) _
 have HT:=qhi (ht.below bW ht.pos)
 have HR:=qhi (hr.below bW)
 have HA:=qhi (hA.alloc (.cells #[.int .i64 0,.int .i64 0,.int .i64 0,.int .i64 0,.int .i64 0,.bool false,.slice none 0 0,.slice none 0 0] 102))
 have hfree : Hid (∀ j,(Value.slice (some ⟨b,o,none⟩) xs.length cp).ownBlock = some j → some p ≠ some j):=fun j hj e => hbp (by simp only [Value.ownBlock,Option.some.injEq] at hj;cases e;exact hj)
 have hold : Hid (∀ j,(Value.slice (some ⟨b,o,none⟩) xs.length cp).ownBlock = some j → j < w.heap.size):=fun j hj => by simp only [Value.ownBlock,Option.some.injEq] at hj;omega
 have KA:=qhi (kind_any p b o xs.length cp xs a _ HA.out HR.out rfl hx ha hbig)
 have PA : Hid (∀ V : World,Calls Tryz.prog 159 #[.int .i64 5] V fun e w' => e = .returned (.tuple #[.agg #[.bool true,.bool true,.bool false,.bool false,.bool false,.bool false,.bool false],.bool true]) ∧ Below V.heap.size V w'):=fun V => partsOf_any 5 V
 have FN : Hid (∀ e W',StepIs (frV w.heap.size) w p (.slice (some ⟨b,o,none⟩) xs.length cp) (restR xs a 5 7 (a + 1)) e W' → StepIs (frV w.heap.size) w p (.slice (some ⟨b,o,none⟩) xs.length cp) (restR xs a 5 7 (a + 1)) e W'):=fun _ _ h => h
 clear hk hx ht hr hA bW FN
 go_enter Tryz.func121,Tryz.ntmps121
 go_wp2_with fail
 refine KA.out.mono ?_
 rintro e w1 h1
 obtain ⟨g1,⟨u,rfl,rfl⟩,A1⟩:=h1.ok HK.out
 go_wp2_with fail
 refine (PA.out _).mono ?_
 rintro e w2 ⟨rfl,b2⟩
 have q1:=block_kept (alloc_at4 w (.cells #[.int .i64 0,.int .i64 0,.int .i64 0,.int .i64 0,.int .i64 0,.bool false,.slice none 0 0,.slice none 0 0] 102)) g1 (by simp;omega)
 have S0:=qhi (FS.start (cs:=#[.int .i64 5,.int .i64 0,.int .i64 0,.int .i64 0,.int .i64 0,.bool false,.slice none 0 0,.slice none 0 0]) (ps:=#[.bool true,.bool true,.bool false,.bool false,.bool false,.bool false,.bool false]) (A1.kept b2) (grownBy_trans (grownBy_trans (World.grownBy_alloc w _ _) g1) (grownBy_of_below b2)) ((HT.out.kept g1 hp0).below b2 (HT.out.kept g1 hp0).pos) ((HR.out.kept g1 hfree.out).below b2) ((b2.block _ (qgs q1).1).trans q1) hlt (qlr _) hp0 hfree.out hold.out)
 have z1 : w.heap.size < w1.heap.size:=(qgs q1).1
 have z2:=b2.size
 clear g1 q1 A1 KA HT HR HA
 go_wp2_with fail
 refine (Calls.mono (number_any p _ xs (a + 1) _ S0.out.tab S0.out.at_ S0.out.rd HX.out (by omega)) ?_)
 rintro e w3 h
 cases r1 : num xs (a + 1) with
 | error y =>
   obtain ⟨y,z⟩:=y
   have HE : Hid (restR xs a 5 7 (a + 1) = .error (y,z)):=by show _ = _;unfold restR;simp only [Int.reduceEq,if_false,if_true,or_false,or_true,false_or,true_or,reduceIte];exact thn_err r1
   obtain ⟨g,rfl⟩:=h.err r1
   refine ⟨rfl,?_⟩
   rw [HE.out]
   exact ⟨grownBy_trans S0.out.gr g,rfl⟩
 | ok y =>
   obtain ⟨x1,j1⟩:=y
   obtain ⟨g,⟨u,rfl,rfl⟩,A⟩:=h.ok r1
   obtain ⟨lo1,hi1,mv1,le1⟩:=num_ok HX.out r1
   have E1:=qhi r1
   have Q1:=qhi (S0.out.step g A)
   have pc1:=fun i => qcb Q1.out.par i
   have pc10:=pc1 0
   have pc11:=pc1 1
   have pc12:=pc1 2
   have pc13:=pc1 3
   have pc14:=pc1 4
   have pc15:=pc1 5
   have pc16:=pc1 6
   have fc1:=fun i => qcb Q1.out.frm i
   have fc10:=fc1 0
   have fc11:=fc1 1
   have fc12:=fc1 2
   have fc13:=fc1 3
   have fc14:=fc1 4
   have fc15:=fc1 5
   have fc16:=fc1 6
   have fc17:=fc1 7
   have ff1:=qub Q1.out.frm
   have S1:=qhi (Q1.out.put 1 (.int .i64 x1))
   clear h g A r1
   go_wp2_with fail
   refine (Calls.mono (number_any p _ xs j1 _ S1.out.tab S1.out.at_ S1.out.rd HX.out (by omega)) ?_)
   rintro e w4 h
   cases r2 : num xs j1 with
   | error y =>
     obtain ⟨y,z⟩:=y
     have HE : Hid (restR xs a 5 7 (a + 1) = .error (y,z)):=by show _ = _;unfold restR;simp only [Int.reduceEq,if_false,if_true,or_false,or_true,false_or,true_or,reduceIte];rw [thn_ok E1.out];exact thn_err r2
     obtain ⟨g,rfl⟩:=h.err r2
     refine ⟨rfl,?_⟩
     rw [HE.out]
     exact ⟨grownBy_trans S1.out.gr g,rfl⟩
   | ok y =>
     obtain ⟨x2,j2⟩:=y
     obtain ⟨g,⟨u,rfl,rfl⟩,A⟩:=h.ok r2
     obtain ⟨lo2,hi2,mv2,le2⟩:=num_ok HX.out r2
     have E2:=qhi r2
     have Q2:=qhi (S1.out.step g A)
     have pc2:=fun i => qcb Q2.out.par i
     have pc20:=pc2 0
     have pc21:=pc2 1
     have pc22:=pc2 2
     have pc23:=pc2 3
     have pc24:=pc2 4
     have pc25:=pc2 5
     have pc26:=pc2 6
     have fc2:=fun i => qcb Q2.out.frm i
     have fc20:=fc2 0
     have fc21:=fc2 1
     have fc22:=fc2 2
     have fc23:=fc2 3
     have fc24:=fc2 4
     have fc25:=fc2 5
     have fc26:=fc2 6
     have fc27:=fc2 7
     have ff2:=qub Q2.out.frm
     have S2:=qhi (Q2.out.put 4 (.int .i64 x2))
     clear h g A r2
     have rc:=fun i => qcb Q2.out.res i
     have rc0:=rc 0
     have rc1:=rc 1
     have rc2:=rc 2
     have rc3:=rc 3
     have rc4:=rc 4
     have rc5:=rc 5
     have rc6:=rc 6
     have rc7:=rc 7
     have rf:=qub Q2.out.res
     have HE : Hid (restR xs a 5 7 (a + 1) = .ok ((⟨5,x1,0,0,x2,false,[],[]⟩ : Fr),j2)):=by show _ = _;unfold restR;simp only [Int.reduceEq,if_false,if_true,or_false,or_true,false_or,true_or,reduceIte];rw [thn_ok E1.out];rw [thn_ok E2.out]
     go_wp2_with fail
     have nRF : ¬ (w.heap.size = w2.heap.size + 1):=by omega
     refine bodyPost_ret (v:=.agg #[.int .i64 5,.int .i64 x1,.int .i64 0,.int .i64 0,.int .i64 x2,.bool false,.slice none 0 0,.slice none 0 0]) (by simp [results,Tryz.results121,go_sem,rc0,rc1,rc2,rc3,rc4,rc5,rc6,rc7,nRF]) rfl ?_
     rw [HE.out]
     obtain ⟨G,A⟩:=S2.out.done (set8 _ w.heap.size (.int .i64 5) (.int .i64 x1) (.int .i64 0) (.int .i64 0) (.int .i64 x2) (.bool false) (.slice none 0 0) (.slice none 0 0))
     exact ⟨G,⟨_,rfl,_,_,rfl,Own.nil _ _ _ _,OwnS.nil _ _⟩,A⟩
theorem frame_16 (p b o cp : Nat) (xs : List Int) (a : Nat) (w : World) (ht : Tab w) (hA : At w p (.slice (some ⟨b,o,none⟩) xs.length cp) a) (hr : Rd .u8 w (.slice (some ⟨b,o,none⟩) xs.length cp) xs) (hx : Bts xs) (ha : a < xs.length) (hbig : xs.length ≤ 1048576) (hp0 : 0 < p) (hbp : b ≠ p) (hb : b < w.heap.size)
  (hk : kindR xs a = .ok ((16,7),a + 1)) :
  Calls Tryz.prog 121 #[.pointer (some ⟨p,0,none⟩)] w (StepIs (frV w.heap.size) w p (.slice (some ⟨b,o,none⟩) xs.length cp) (restR xs a 16 7 (a + 1))):=by
 have hlt:=hA.lt
 have c1:=hA.c1
 have HK:=qhi hk
 have HX:=qhi hx
 have bW : Below w.heap.size w (w.alloc (.cells #[.int .i64 0,.int .i64 0,.int .i64 0,.int .i64 0,.int .i64 0,.bool false,.slice none 0 0,.slice none 0 0] 102)):=(qbr _ _).alloc (qlr _) _
 have HT:=qhi (ht.below bW ht.pos)
 have HR:=qhi (hr.below bW)
 have HA:=qhi (hA.alloc (.cells #[.int .i64 0,.int .i64 0,.int .i64 0,.int .i64 0,.int .i64 0,.bool false,.slice none 0 0,.slice none 0 0] 102))
 have hfree : Hid (∀ j,(Value.slice (some ⟨b,o,none⟩) xs.length cp).ownBlock = some j → some p ≠ some j):=fun j hj e => hbp (by simp only [Value.ownBlock,Option.some.injEq] at hj;cases e;exact hj)
 have hold : Hid (∀ j,(Value.slice (some ⟨b,o,none⟩) xs.length cp).ownBlock = some j → j < w.heap.size):=fun j hj => by simp only [Value.ownBlock,Option.some.injEq] at hj;omega
 have KA:=qhi (kind_any p b o xs.length cp xs a _ HA.out HR.out rfl hx ha hbig)
 have PA : Hid (∀ V : World,Calls Tryz.prog 159 #[.int .i64 16] V fun e w' => e = .returned (.tuple #[.agg #[.bool false,.bool false,.bool false,.bool true,.bool false,.bool false,.bool false],.bool true]) ∧ Below V.heap.size V w'):=fun V => partsOf_any 16 V
 have FN : Hid (∀ e W',StepIs (frV w.heap.size) w p (.slice (some ⟨b,o,none⟩) xs.length cp) (restR xs a 16 7 (a + 1)) e W' → StepIs (frV w.heap.size) w p (.slice (some ⟨b,o,none⟩) xs.length cp) (restR xs a 16 7 (a + 1)) e W'):=fun _ _ h => h
 clear hk hx ht hr hA bW FN
 go_enter Tryz.func121,Tryz.ntmps121
 go_wp2_with fail
 refine KA.out.mono ?_
 rintro e w1 h1
 obtain ⟨g1,⟨u,rfl,rfl⟩,A1⟩:=h1.ok HK.out
 go_wp2_with fail
 refine (PA.out _).mono ?_
 rintro e w2 ⟨rfl,b2⟩
 have q1:=block_kept (alloc_at4 w (.cells #[.int .i64 0,.int .i64 0,.int .i64 0,.int .i64 0,.int .i64 0,.bool false,.slice none 0 0,.slice none 0 0] 102)) g1 (by simp;omega)
 have S0:=qhi (FS.start (cs:=#[.int .i64 16,.int .i64 0,.int .i64 0,.int .i64 0,.int .i64 0,.bool false,.slice none 0 0,.slice none 0 0]) (ps:=#[.bool false,.bool false,.bool false,.bool true,.bool false,.bool false,.bool false]) (A1.kept b2) (grownBy_trans (grownBy_trans (World.grownBy_alloc w _ _) g1) (grownBy_of_below b2)) ((HT.out.kept g1 hp0).below b2 (HT.out.kept g1 hp0).pos) ((HR.out.kept g1 hfree.out).below b2) ((b2.block _ (qgs q1).1).trans q1) hlt (qlr _) hp0 hfree.out hold.out)
 have z1 : w.heap.size < w1.heap.size:=(qgs q1).1
 have z2:=b2.size
 clear g1 q1 A1 KA HT HR HA
 go_wp2_with fail
 refine (Calls.mono (number_any p _ xs (a + 1) _ S0.out.tab S0.out.at_ S0.out.rd HX.out (by omega)) ?_)
 rintro e w3 h
 cases r1 : num xs (a + 1) with
 | error y =>
   obtain ⟨y,z⟩:=y
   have HE : Hid (restR xs a 16 7 (a + 1) = .error (y,z)):=by show _ = _;unfold restR;simp only [Int.reduceEq,if_false,if_true,or_false,or_true,false_or,true_or,reduceIte];exact thn_err r1
   obtain ⟨g,rfl⟩:=h.err r1
   refine ⟨rfl,?_⟩
   rw [HE.out]
   exact ⟨grownBy_trans S0.out.gr g,rfl⟩
 | ok y =>
   obtain ⟨x1,j1⟩:=y
   obtain ⟨g,⟨u,rfl,rfl⟩,A⟩:=h.ok r1
   obtain ⟨lo1,hi1,mv1,le1⟩:=num_ok HX.out r1
   have E1:=qhi r1
   have Q1:=qhi (S0.out.step g A)
   have pc1:=fun i => qcb Q1.out.par i
   have pc10:=pc1 0
   have pc11:=pc1 1
   have pc12:=pc1 2
   have pc13:=pc1 3
   have pc14:=pc1 4
   have pc15:=pc1 5
   have pc16:=pc1 6
   have fc1:=fun i => qcb Q1.out.frm i
   have fc10:=fc1 0
   have fc11:=fc1 1
   have fc12:=fc1 2
   have fc13:=fc1 3
   have fc14:=fc1 4
   have fc15:=fc1 5
   have fc16:=fc1 6
   have fc17:=fc1 7
   have ff1:=qub Q1.out.frm
   have S1:=qhi (Q1.out.put 3 (.int .i64 x1))
   clear h g A r1
   have rc:=fun i => qcb Q1.out.res i
   have rc0:=rc 0
   have rc1:=rc 1
   have rc2:=rc 2
   have rc3:=rc 3
   have rc4:=rc 4
   have rc5:=rc 5
   have rc6:=rc 6
   have rc7:=rc 7
   have rf:=qub Q1.out.res
   have HE : Hid (restR xs a 16 7 (a + 1) = .ok ((⟨16,0,0,x1,0,false,[],[]⟩ : Fr),j1)):=by show _ = _;unfold restR;simp only [Int.reduceEq,if_false,if_true,or_false,or_true,false_or,true_or,reduceIte];rw [thn_ok E1.out]
   go_wp2_with fail
   have nRF : ¬ (w.heap.size = w2.heap.size + 1):=by omega
   refine bodyPost_ret (v:=.agg #[.int .i64 16,.int .i64 0,.int .i64 0,.int .i64 x1,.int .i64 0,.bool false,.slice none 0 0,.slice none 0 0]) (by simp [results,Tryz.results121,go_sem,rc0,rc1,rc2,rc3,rc4,rc5,rc6,rc7,nRF]) rfl ?_
   rw [HE.out]
   obtain ⟨G,A⟩:=S1.out.done (set8 _ w.heap.size (.int .i64 16) (.int .i64 0) (.int .i64 0) (.int .i64 x1) (.int .i64 0) (.bool false) (.slice none 0 0) (.slice none 0 0))
   exact ⟨G,⟨_,rfl,_,_,rfl,Own.nil _ _ _ _,OwnS.nil _ _⟩,A⟩
theorem frame_18 (p b o cp : Nat) (xs : List Int) (a : Nat) (w : World) (ht : Tab w) (hA : At w p (.slice (some ⟨b,o,none⟩) xs.length cp) a) (hr : Rd .u8 w (.slice (some ⟨b,o,none⟩) xs.length cp) xs) (hx : Bts xs) (ha : a < xs.length) (hbig : xs.length ≤ 1048576) (hp0 : 0 < p) (hbp : b ≠ p) (hb : b < w.heap.size)
  (hk : kindR xs a = .ok ((18,7),a + 1)) :
  Calls Tryz.prog 121 #[.pointer (some ⟨p,0,none⟩)] w (StepIs (frV w.heap.size) w p (.slice (some ⟨b,o,none⟩) xs.length cp) (restR xs a 18 7 (a + 1))):=by
 have hlt:=hA.lt
 have c1:=hA.c1
 have HK:=qhi hk
 have HX:=qhi hx
 have bW : Below w.heap.size w (w.alloc (.cells #[.int .i64 0,.int .i64 0,.int .i64 0,.int .i64 0,.int .i64 0,.bool false,.slice none 0 0,.slice none 0 0] 102)):=(qbr _ _).alloc (qlr _) _
 have HT:=qhi (ht.below bW ht.pos)
 have HR:=qhi (hr.below bW)
 have HA:=qhi (hA.alloc (.cells #[.int .i64 0,.int .i64 0,.int .i64 0,.int .i64 0,.int .i64 0,.bool false,.slice none 0 0,.slice none 0 0] 102))
 have hfree : Hid (∀ j,(Value.slice (some ⟨b,o,none⟩) xs.length cp).ownBlock = some j → some p ≠ some j):=fun j hj e => hbp (by simp only [Value.ownBlock,Option.some.injEq] at hj;cases e;exact hj)
 have hold : Hid (∀ j,(Value.slice (some ⟨b,o,none⟩) xs.length cp).ownBlock = some j → j < w.heap.size):=fun j hj => by simp only [Value.ownBlock,Option.some.injEq] at hj;omega
 have KA:=qhi (kind_any p b o xs.length cp xs a _ HA.out HR.out rfl hx ha hbig)
 have PA : Hid (∀ V : World,Calls Tryz.prog 159 #[.int .i64 18] V fun e w' => e = .returned (.tuple #[.agg #[.bool false,.bool false,.bool false,.bool true,.bool false,.bool false,.bool false],.bool true]) ∧ Below V.heap.size V w'):=fun V => partsOf_any 18 V
 have FN : Hid (∀ e W',StepIs (frV w.heap.size) w p (.slice (some ⟨b,o,none⟩) xs.length cp) (restR xs a 18 7 (a + 1)) e W' → StepIs (frV w.heap.size) w p (.slice (some ⟨b,o,none⟩) xs.length cp) (restR xs a 18 7 (a + 1)) e W'):=fun _ _ h => h
 clear hk hx ht hr hA bW FN
 go_enter Tryz.func121,Tryz.ntmps121
 go_wp2_with fail
 refine KA.out.mono ?_
 rintro e w1 h1
 obtain ⟨g1,⟨u,rfl,rfl⟩,A1⟩:=h1.ok HK.out
 go_wp2_with fail
 refine (PA.out _).mono ?_
 rintro e w2 ⟨rfl,b2⟩
 have q1:=block_kept (alloc_at4 w (.cells #[.int .i64 0,.int .i64 0,.int .i64 0,.int .i64 0,.int .i64 0,.bool false,.slice none 0 0,.slice none 0 0] 102)) g1 (by simp;omega)
 have S0:=qhi (FS.start (cs:=#[.int .i64 18,.int .i64 0,.int .i64 0,.int .i64 0,.int .i64 0,.bool false,.slice none 0 0,.slice none 0 0]) (ps:=#[.bool false,.bool false,.bool false,.bool true,.bool false,.bool false,.bool false]) (A1.kept b2) (grownBy_trans (grownBy_trans (World.grownBy_alloc w _ _) g1) (grownBy_of_below b2)) ((HT.out.kept g1 hp0).below b2 (HT.out.kept g1 hp0).pos) ((HR.out.kept g1 hfree.out).below b2) ((b2.block _ (qgs q1).1).trans q1) hlt (qlr _) hp0 hfree.out hold.out)
 have z1 : w.heap.size < w1.heap.size:=(qgs q1).1
 have z2:=b2.size
 clear g1 q1 A1 KA HT HR HA
 go_wp2_with fail
 refine (Calls.mono (number_any p _ xs (a + 1) _ S0.out.tab S0.out.at_ S0.out.rd HX.out (by omega)) ?_)
 rintro e w3 h
 cases r1 : num xs (a + 1) with
 | error y =>
   obtain ⟨y,z⟩:=y
   have HE : Hid (restR xs a 18 7 (a + 1) = .error (y,z)):=by show _ = _;unfold restR;simp only [Int.reduceEq,if_false,if_true,or_false,or_true,false_or,true_or,reduceIte];exact thn_err r1
   obtain ⟨g,rfl⟩:=h.err r1
   refine ⟨rfl,?_⟩
   rw [HE.out]
   exact ⟨grownBy_trans S0.out.gr g,rfl⟩
 | ok y =>
   obtain ⟨x1,j1⟩:=y
   obtain ⟨g,⟨u,rfl,rfl⟩,A⟩:=h.ok r1
   obtain ⟨lo1,hi1,mv1,le1⟩:=num_ok HX.out r1
   have E1:=qhi r1
   have Q1:=qhi (S0.out.step g A)
   have pc1:=fun i => qcb Q1.out.par i
   have pc10:=pc1 0
   have pc11:=pc1 1
   have pc12:=pc1 2
   have pc13:=pc1 3
   have pc14:=pc1 4
   have pc15:=pc1 5
   have pc16:=pc1 6
   have fc1:=fun i => qcb Q1.out.frm i
   have fc10:=fc1 0
   have fc11:=fc1 1
   have fc12:=fc1 2
   have fc13:=fc1 3
   have fc14:=fc1 4
   have fc15:=fc1 5
   have fc16:=fc1 6
   have fc17:=fc1 7
   have ff1:=qub Q1.out.frm
   have S1:=qhi (Q1.out.put 3 (.int .i64 x1))
   clear h g A r1
   have rc:=fun i => qcb Q1.out.res i
   have rc0:=rc 0
   have rc1:=rc 1
   have rc2:=rc 2
   have rc3:=rc 3
   have rc4:=rc 4
   have rc5:=rc 5
   have rc6:=rc 6
   have rc7:=rc 7
   have rf:=qub Q1.out.res
   have HE : Hid (restR xs a 18 7 (a + 1) = .ok ((⟨18,0,0,x1,0,false,[],[]⟩ : Fr),j1)):=by show _ = _;unfold restR;simp only [Int.reduceEq,if_false,if_true,or_false,or_true,false_or,true_or,reduceIte];rw [thn_ok E1.out]
   go_wp2_with fail
   have nRF : ¬ (w.heap.size = w2.heap.size + 1):=by omega
   refine bodyPost_ret (v:=.agg #[.int .i64 18,.int .i64 0,.int .i64 0,.int .i64 x1,.int .i64 0,.bool false,.slice none 0 0,.slice none 0 0]) (by simp [results,Tryz.results121,go_sem,rc0,rc1,rc2,rc3,rc4,rc5,rc6,rc7,nRF]) rfl ?_
   rw [HE.out]
   obtain ⟨G,A⟩:=S1.out.done (set8 _ w.heap.size (.int .i64 18) (.int .i64 0) (.int .i64 0) (.int .i64 x1) (.int .i64 0) (.bool false) (.slice none 0 0) (.slice none 0 0))
   exact ⟨G,⟨_,rfl,_,_,rfl,Own.nil _ _ _ _,OwnS.nil _ _⟩,A⟩
theorem frame_17 (p b o cp : Nat) (xs : List Int) (a : Nat) (w : World) (ht : Tab w) (hA : At w p (.slice (some ⟨b,o,none⟩) xs.length cp) a) (hr : Rd .u8 w (.slice (some ⟨b,o,none⟩) xs.length cp) xs) (hx : Bts xs) (ha : a < xs.length) (hbig : xs.length ≤ 1048576) (hp0 : 0 < p) (hbp : b ≠ p) (hb : b < w.heap.size)
  (hk : kindR xs a = .ok ((17,7),a + 1)) :
  Calls Tryz.prog 121 #[.pointer (some ⟨p,0,none⟩)] w (StepIs (frV w.heap.size) w p (.slice (some ⟨b,o,none⟩) xs.length cp) (restR xs a 17 7 (a + 1))):=by
 have hlt:=hA.lt
 have c1:=hA.c1
 have HK:=qhi hk
 have HX:=qhi hx
 have bW : Below w.heap.size w (w.alloc (.cells #[.int .i64 0,.int .i64 0,.int .i64 0,.int .i64 0,.int .i64 0,.bool false,.slice none 0 0,.slice none 0 0] 102)):=(qbr _ _).alloc (qlr _) _
 have HT:=qhi (ht.below bW ht.pos)
 have HR:=qhi (hr.below bW)
 have HA:=qhi (hA.alloc (.cells #[.int .i64 0,.int .i64 0,.int .i64 0,.int .i64 0,.int .i64 0,.bool false,.slice none 0 0,.slice none 0 0] 102))
 have hfree : Hid (∀ j,(Value.slice (some ⟨b,o,none⟩) xs.length cp).ownBlock = some j → some p ≠ some j):=fun j hj e => hbp (by simp only [Value.ownBlock,Option.some.injEq] at hj;cases e;exact hj)
 have hold : Hid (∀ j,(Value.slice (some ⟨b,o,none⟩) xs.length cp).ownBlock = some j → j < w.heap.size):=fun j hj => by simp only [Value.ownBlock,Option.some.injEq] at hj;omega
 have KA:=qhi (kind_any p b o xs.length cp xs a _ HA.out HR.out rfl hx ha hbig)
 have PA : Hid (∀ V : World,Calls Tryz.prog 159 #[.int .i64 17] V fun e w' => e = .returned (.tuple #[.agg #[.bool true,.bool false,.bool false,.bool true,.bool false,.bool false,.bool false],.bool true]) ∧ Below V.heap.size V w'):=fun V => partsOf_any 17 V
 have FN : Hid (∀ e W',StepIs (frV w.heap.size) w p (.slice (some ⟨b,o,none⟩) xs.length cp) (restR xs a 17 7 (a + 1)) e W' → StepIs (frV w.heap.size) w p (.slice (some ⟨b,o,none⟩) xs.length cp) (restR xs a 17 7 (a + 1)) e W'):=fun _ _ h => h
 clear hk hx ht hr hA bW FN
 go_enter Tryz.func121,Tryz.ntmps121
 go_wp2_with fail
 refine KA.out.mono ?_
 rintro e w1 h1
 obtain ⟨g1,⟨u,rfl,rfl⟩,A1⟩:=h1.ok HK.out
 go_wp2_with fail
 refine (PA.out _).mono ?_
 rintro e w2 ⟨rfl,b2⟩
 have q1:=block_kept (alloc_at4 w (.cells #[.int .i64 0,.int .i64 0,.int .i64 0,.int .i64 0,.int .i64 0,.bool false,.slice none 0 0,.slice none 0 0] 102)) g1 (by simp;omega)
 have S0:=qhi (FS.start (cs:=#[.int .i64 17,.int .i64 0,.int .i64 0,.int .i64 0,.int .i64 0,.bool false,.slice none 0 0,.slice none 0 0]) (ps:=#[.bool true,.bool false,.bool false,.bool true,.bool false,.bool false,.bool false]) (A1.kept b2) (grownBy_trans (grownBy_trans (World.grownBy_alloc w _ _) g1) (grownBy_of_below b2)) ((HT.out.kept g1 hp0).below b2 (HT.out.kept g1 hp0).pos) ((HR.out.kept g1 hfree.out).below b2) ((b2.block _ (qgs q1).1).trans q1) hlt (qlr _) hp0 hfree.out hold.out)
 have z1 : w.heap.size < w1.heap.size:=(qgs q1).1
 have z2:=b2.size
 clear g1 q1 A1 KA HT HR HA
 go_wp2_with fail
 refine (Calls.mono (number_any p _ xs (a + 1) _ S0.out.tab S0.out.at_ S0.out.rd HX.out (by omega)) ?_)
 rintro e w3 h
 cases r1 : num xs (a + 1) with
 | error y =>
   obtain ⟨y,z⟩:=y
   have HE : Hid (restR xs a 17 7 (a + 1) = .error (y,z)):=by show _ = _;unfold restR;simp only [Int.reduceEq,if_false,if_true,or_false,or_true,false_or,true_or,reduceIte];exact thn_err r1
   obtain ⟨g,rfl⟩:=h.err r1
   refine ⟨rfl,?_⟩
   rw [HE.out]
   exact ⟨grownBy_trans S0.out.gr g,rfl⟩
 | ok y =>
   obtain ⟨x1,j1⟩:=y
   obtain ⟨g,⟨u,rfl,rfl⟩,A⟩:=h.ok r1
   obtain ⟨lo1,hi1,mv1,le1⟩:=num_ok HX.out r1
   have E1:=qhi r1
   have Q1:=qhi (S0.out.step g A)
   have pc1:=fun i => qcb Q1.out.par i
   have pc10:=pc1 0
   have pc11:=pc1 1
   have pc12:=pc1 2
   have pc13:=pc1 3
   have pc14:=pc1 4
   have pc15:=pc1 5
   have pc16:=pc1 6
   have fc1:=fun i => qcb Q1.out.frm i
   have fc10:=fc1 0
   have fc11:=fc1 1
   have fc12:=fc1 2
   have fc13:=fc1 3
   have fc14:=fc1 4
   have fc15:=fc1 5
   have fc16:=fc1 6
   have fc17:=fc1 7
   have ff1:=qub Q1.out.frm
   have S1:=qhi (Q1.out.put 1 (.int .i64 x1))
   clear h g A r1
   go_wp2_with fail
   refine (Calls.mono (number_any p _ xs j1 _ S1.out.tab S1.out.at_ S1.out.rd HX.out (by omega)) ?_)
   rintro e w4 h
   cases r2 : num xs j1 with
   | error y =>
     obtain ⟨y,z⟩:=y
     have HE : Hid (restR xs a 17 7 (a + 1) = .error (y,z)):=by show _ = _;unfold restR;simp only [Int.reduceEq,if_false,if_true,or_false,or_true,false_or,true_or,reduceIte];rw [thn_ok E1.out];exact thn_err r2
     obtain ⟨g,rfl⟩:=h.err r2
     refine ⟨rfl,?_⟩
     rw [HE.out]
     exact ⟨grownBy_trans S1.out.gr g,rfl⟩
   | ok y =>
     obtain ⟨x2,j2⟩:=y
     obtain ⟨g,⟨u,rfl,rfl⟩,A⟩:=h.ok r2
     obtain ⟨lo2,hi2,mv2,le2⟩:=num_ok HX.out r2
     have E2:=qhi r2
     have Q2:=qhi (S1.out.step g A)
     have pc2:=fun i => qcb Q2.out.par i
     have pc20:=pc2 0
     have pc21:=pc2 1
     have pc22:=pc2 2
     have pc23:=pc2 3
     have pc24:=pc2 4
     have pc25:=pc2 5
     have pc26:=pc2 6
     have fc2:=fun i => qcb Q2.out.frm i
     have fc20:=fc2 0
     have fc21:=fc2 1
     have fc22:=fc2 2
     have fc23:=fc2 3
     have fc24:=fc2 4
     have fc25:=fc2 5
     have fc26:=fc2 6
     have fc27:=fc2 7
     have ff2:=qub Q2.out.frm
     have S2:=qhi (Q2.out.put 3 (.int .i64 x2))
     clear h g A r2
     have rc:=fun i => qcb Q2.out.res i
     have rc0:=rc 0
     have rc1:=rc 1
     have rc2:=rc 2
     have rc3:=rc 3
     have rc4:=rc 4
     have rc5:=rc 5
     have rc6:=rc 6
     have rc7:=rc 7
     have rf:=qub Q2.out.res
     have HE : Hid (restR xs a 17 7 (a + 1) = .ok ((⟨17,x1,0,x2,0,false,[],[]⟩ : Fr),j2)):=by show _ = _;unfold restR;simp only [Int.reduceEq,if_false,if_true,or_false,or_true,false_or,true_or,reduceIte];rw [thn_ok E1.out];rw [thn_ok E2.out]
     go_wp2_with fail
     have nRF : ¬ (w.heap.size = w2.heap.size + 1):=by omega
     refine bodyPost_ret (v:=.agg #[.int .i64 17,.int .i64 x1,.int .i64 0,.int .i64 x2,.int .i64 0,.bool false,.slice none 0 0,.slice none 0 0]) (by simp [results,Tryz.results121,go_sem,rc0,rc1,rc2,rc3,rc4,rc5,rc6,rc7,nRF]) rfl ?_
     rw [HE.out]
     obtain ⟨G,A⟩:=S2.out.done (set8 _ w.heap.size (.int .i64 17) (.int .i64 x1) (.int .i64 0) (.int .i64 x2) (.int .i64 0) (.bool false) (.slice none 0 0) (.slice none 0 0))
     exact ⟨G,⟨_,rfl,_,_,rfl,Own.nil _ _ _ _,OwnS.nil _ _⟩,A⟩
theorem frame_2 (p b o cp : Nat) (xs : List Int) (a : Nat) (w : World) (ht : Tab w) (hA : At w p (.slice (some ⟨b,o,none⟩) xs.length cp) a) (hr : Rd .u8 w (.slice (some ⟨b,o,none⟩) xs.length cp) xs) (hx : Bts xs) (ha : a < xs.length) (hbig : xs.length ≤ 1048576) (hp0 : 0 < p) (hbp : b ≠ p) (hb : b < w.heap.size)
  (hk : kindR xs a = .ok ((2,7),a + 1)) :
  Calls Tryz.prog 121 #[.pointer (some ⟨p,0,none⟩)] w (StepIs (frV w.heap.size) w p (.slice (some ⟨b,o,none⟩) xs.length cp) (restR xs a 2 7 (a + 1))):=by
 have hlt:=hA.lt
 have c1:=hA.c1
 have HK:=qhi hk
 have HX:=qhi hx
 have bW : Below w.heap.size w (w.alloc (.cells #[.int .i64 0,.int .i64 0,.int .i64 0,.int .i64 0,.int .i64 0,.bool false,.slice none 0 0,.slice none 0 0] 102)):=(qbr _ _).alloc (qlr _) _
 have HT:=qhi (ht.below bW ht.pos)
 have HR:=qhi (hr.below bW)
 have HA:=qhi (hA.alloc (.cells #[.int .i64 0,.int .i64 0,.int .i64 0,.int .i64 0,.int .i64 0,.bool false,.slice none 0 0,.slice none 0 0] 102))
 have hfree : Hid (∀ j,(Value.slice (some ⟨b,o,none⟩) xs.length cp).ownBlock = some j → some p ≠ some j):=fun j hj e => hbp (by simp only [Value.ownBlock,Option.some.injEq] at hj;cases e;exact hj)
 have hold : Hid (∀ j,(Value.slice (some ⟨b,o,none⟩) xs.length cp).ownBlock = some j → j < w.heap.size):=fun j hj => by simp only [Value.ownBlock,Option.some.injEq] at hj;omega
 have KA:=qhi (kind_any p b o xs.length cp xs a _ HA.out HR.out rfl hx ha hbig)
 have PA : Hid (∀ V : World,Calls Tryz.prog 159 #[.int .i64 2] V fun e w' => e = .returned (.tuple #[.agg #[.bool false,.bool false,.bool false,.bool true,.bool true,.bool false,.bool false],.bool true]) ∧ Below V.heap.size V w'):=fun V => partsOf_any 2 V
 have FN : Hid (∀ e W',StepIs (frV w.heap.size) w p (.slice (some ⟨b,o,none⟩) xs.length cp) (restR xs a 2 7 (a + 1)) e W' → StepIs (frV w.heap.size) w p (.slice (some ⟨b,o,none⟩) xs.length cp) (restR xs a 2 7 (a + 1)) e W'):=fun _ _ h => h
 clear hk hx ht hr hA bW FN
 go_enter Tryz.func121,Tryz.ntmps121
 go_wp2_with fail
 refine KA.out.mono ?_
 rintro e w1 h1
 obtain ⟨g1,⟨u,rfl,rfl⟩,A1⟩:=h1.ok HK.out
 go_wp2_with fail
 refine (PA.out _).mono ?_
 rintro e w2 ⟨rfl,b2⟩
 have q1:=block_kept (alloc_at4 w (.cells #[.int .i64 0,.int .i64 0,.int .i64 0,.int .i64 0,.int .i64 0,.bool false,.slice none 0 0,.slice none 0 0] 102)) g1 (by simp;omega)
 have S0:=qhi (FS.start (cs:=#[.int .i64 2,.int .i64 0,.int .i64 0,.int .i64 0,.int .i64 0,.bool false,.slice none 0 0,.slice none 0 0]) (ps:=#[.bool false,.bool false,.bool false,.bool true,.bool true,.bool false,.bool false]) (A1.kept b2) (grownBy_trans (grownBy_trans (World.grownBy_alloc w _ _) g1) (grownBy_of_below b2)) ((HT.out.kept g1 hp0).below b2 (HT.out.kept g1 hp0).pos) ((HR.out.kept g1 hfree.out).below b2) ((b2.block _ (qgs q1).1).trans q1) hlt (qlr _) hp0 hfree.out hold.out)
 have z1 : w.heap.size < w1.heap.size:=(qgs q1).1
 have z2:=b2.size
 clear g1 q1 A1 KA HT HR HA
 go_wp2_with fail
 refine (Calls.mono (number_any p _ xs (a + 1) _ S0.out.tab S0.out.at_ S0.out.rd HX.out (by omega)) ?_)
 rintro e w3 h
 cases r1 : num xs (a + 1) with
 | error y =>
   obtain ⟨y,z⟩:=y
   have HE : Hid (restR xs a 2 7 (a + 1) = .error (y,z)):=by show _ = _;unfold restR;simp only [Int.reduceEq,if_false,if_true,or_false,or_true,false_or,true_or,reduceIte];exact thn_err r1
   obtain ⟨g,rfl⟩:=h.err r1
   refine ⟨rfl,?_⟩
   rw [HE.out]
   exact ⟨grownBy_trans S0.out.gr g,rfl⟩
 | ok y =>
   obtain ⟨x1,j1⟩:=y
   obtain ⟨g,⟨u,rfl,rfl⟩,A⟩:=h.ok r1
   obtain ⟨lo1,hi1,mv1,le1⟩:=num_ok HX.out r1
   have E1:=qhi r1
   have Q1:=qhi (S0.out.step g A)
   have pc1:=fun i => qcb Q1.out.par i
   have pc10:=pc1 0
   have pc11:=pc1 1
   have pc12:=pc1 2
   have pc13:=pc1 3
   have pc14:=pc1 4
   have pc15:=pc1 5
   have pc16:=pc1 6
   have fc1:=fun i => qcb Q1.out.frm i
   have fc10:=fc1 0
   have fc11:=fc1 1
   have fc12:=fc1 2
   have fc13:=fc1 3
   have fc14:=fc1 4
   have fc15:=fc1 5
   have fc16:=fc1 6
   have fc17:=fc1 7
   have ff1:=qub Q1.out.frm
   have S1:=Q1
   clear h g A r1
   go_wp2_with fail
   refine (Calls.mono (number_any p _ xs j1 _ S1.out.tab S1.out.at_ S1.out.rd HX.out (by omega)) ?_)
   rintro e w4 h
   cases r2 : num xs j1 with
   | error y =>
     obtain ⟨y,z⟩:=y
     have HE : Hid (restR xs a 2 7 (a + 1) = .error (y,z)):=by show _ = _;unfold restR;simp only [Int.reduceEq,if_false,if_true,or_false,or_true,false_or,true_or,reduceIte];rw [thn_ok E1.out];exact thn_err r2
     obtain ⟨g,rfl⟩:=h.err r2
     refine ⟨rfl,?_⟩
     rw [HE.out]
     exact ⟨grownBy_trans S1.out.gr g,rfl⟩
   | ok y =>
     obtain ⟨x2,j2⟩:=y
     obtain ⟨g,⟨u,rfl,rfl⟩,A⟩:=h.ok r2
     obtain ⟨lo2,hi2,mv2,le2⟩:=num_ok HX.out r2
     have E2:=qhi r2
     have Q2:=qhi (S1.out.step g A)
     have pc2:=fun i => qcb Q2.out.par i
     have pc20:=pc2 0
     have pc21:=pc2 1
     have pc22:=pc2 2
     have pc23:=pc2 3
     have pc24:=pc2 4
     have pc25:=pc2 5
     have pc26:=pc2 6
     have fc2:=fun i => qcb Q2.out.frm i
     have fc20:=fc2 0
     have fc21:=fc2 1
     have fc22:=fc2 2
     have fc23:=fc2 3
     have fc24:=fc2 4
     have fc25:=fc2 5
     have fc26:=fc2 6
     have fc27:=fc2 7
     have ff2:=qub Q2.out.frm
     have S2:=qhi (Q2.out.put 3 (.int .i64 x2))
     clear h g A r2
     go_wp2_with fail
     refine (Calls.mono (spans_any p _ xs j2 x1 _ S2.out.tab S2.out.at_ S2.out.rd HX.out (by omega) (by omega) (by omega) hfree.out hp0) ?_)
     rintro e w5 h
     cases r3 : spansR xs j2 x1 with
     | error y =>
       obtain ⟨y,z⟩:=y
       have HE : Hid (restR xs a 2 7 (a + 1) = .error (y,z)):=by show _ = _;unfold restR;simp only [Int.reduceEq,if_false,if_true,or_false,or_true,false_or,true_or,reduceIte];rw [thn_ok E1.out];rw [thn_ok E2.out];exact thn_err r3
       obtain ⟨g,rfl⟩:=h.err r3
       refine ⟨rfl,?_⟩
       rw [HE.out]
       exact ⟨grownBy_trans S2.out.gr g,rfl⟩
     | ok y =>
       obtain ⟨x3,j3⟩:=y
       obtain ⟨g,⟨u3,rfl,O3⟩,A⟩:=h.ok r3
       have E3:=qhi r3
       obtain ⟨ua,uc,rfl,_,_⟩:=(OwnS.rd O3).isSlice
       have Q3:=qhi (S2.out.step g A)
       have pc3:=fun i => qcb Q3.out.par i
       have pc30:=pc3 0
       have pc31:=pc3 1
       have pc32:=pc3 2
       have pc33:=pc3 3
       have pc34:=pc3 4
       have pc35:=pc3 5
       have pc36:=pc3 6
       have fc3:=fun i => qcb Q3.out.frm i
       have fc30:=fc3 0
       have fc31:=fc3 1
       have fc32:=fc3 2
       have fc33:=fc3 3
       have fc34:=fc3 4
       have fc35:=fc3 5
       have fc36:=fc3 6
       have fc37:=fc3 7
       have ff3:=qub Q3.out.frm
       have S3:=qhi (Q3.out.put 7 (.slice ua x3.length uc))
       clear h g A r3
       have rc:=fun i => qcb Q3.out.res i
       have rc0:=rc 0
       have rc1:=rc 1
       have rc2:=rc 2
       have rc3:=rc 3
       have rc4:=rc 4
       have rc5:=rc 5
       have rc6:=rc 6
       have rc7:=rc 7
       have rf:=qub Q3.out.res
       have HE : Hid (restR xs a 2 7 (a + 1) = .ok ((⟨2,0,0,x2,0,false,[],x3⟩ : Fr),j3)):=by show _ = _;unfold restR;simp only [Int.reduceEq,if_false,if_true,or_false,or_true,false_or,true_or,reduceIte];rw [thn_ok E1.out];rw [thn_ok E2.out];rw [thn_ok E3.out]
       go_wp2_with fail
       have nRF : ¬ (w.heap.size = w2.heap.size + 1):=by omega
       refine bodyPost_ret (v:=.agg #[.int .i64 2,.int .i64 0,.int .i64 0,.int .i64 x2,.int .i64 0,.bool false,.slice none 0 0,.slice ua x3.length uc]) (by simp [results,Tryz.results121,go_sem,rc0,rc1,rc2,rc3,rc4,rc5,rc6,rc7,nRF]) rfl ?_
       rw [HE.out]
       obtain ⟨G,A⟩:=S3.out.done (set8 _ w.heap.size (.int .i64 2) (.int .i64 0) (.int .i64 0) (.int .i64 x2) (.int .i64 0) (.bool false) (.slice none 0 0) (.slice ua x3.length uc))
       have lF:=(qgs S2.out.frm).1
       have bl:=OwnS.blk O3
       have OF:=OwnS.mono (OwnS.kept (OwnS.kept O3 (row:=some (w2.heap.size + 1)) (grownBy_set (World.grownBy.refl _ _) ⟨w2.heap.size + 1,7,none⟩ (.slice ua x3.length uc) (.inl rfl)) (fun jj hj e => by have:=bl jj hj;simp only [Option.some.injEq] at e;omega)) (set8 _ w.heap.size (.int .i64 2) (.int .i64 0) (.int .i64 0) (.int .i64 x2) (.int .i64 0) (.bool false) (.slice none 0 0) (.slice ua x3.length uc)) (fun jj hj e => by have:=bl jj hj;simp only [Option.some.injEq] at e;omega)) S2.out.gr.size
       exact ⟨G,⟨_,rfl,_,_,rfl,Own.nil _ _ _ _,OF⟩,A⟩
end Go.Proofs.YtmcomdmcmnbhlaaGreatDoor
