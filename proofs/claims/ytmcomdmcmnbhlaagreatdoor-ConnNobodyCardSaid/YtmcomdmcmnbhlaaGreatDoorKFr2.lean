import Derived.Test.YtmcomdmcmnbhlaaGreatDoorKFr0
set_option maxRecDepth 100000
set_option maxHeartbeats 25600000
set_option linter.unusedSimpArgs false
set_option linter.unusedVariables false
set_option linter.unnecessarySimpa false
namespace Go.Proofs.YtmcomdmcmnbhlaaGreatDoor
open Go.RowKit
theorem frame_28 (p b o cp : Nat) (xs : List Int) (a : Nat) (w : World) (ht : Tab w) (hA : At w p (.slice (some ⟨b,o,none⟩) xs.length cp) a) (hr : Rd .u8 w (.slice (some ⟨b,o,none⟩) xs.length cp) xs) (hx : Bts xs) (ha : a < xs.length) (hbig : xs.length ≤ 1048576) (hp0 : 0 < p) (hbp : b ≠ p) (hb : b < w.heap.size)
  (hk : kindR xs a = .ok ((28,7),a + 1)) :
  Calls Tryz.prog 121 #[.pointer (some ⟨p,0,none⟩)] w (StepIs (frV w.heap.size) w p (.slice (some ⟨b,o,none⟩) xs.length cp) (restR xs a 28 7 (a + 1))):=by
 have hlt:=hA.lt
 have c1:=hA.c1
 have HK:=qhi hk
 have HX:=qhi hx
 have bW : Below w.heap.size w (w.alloc (.cells #[.int .i64 0,.int .i64 0,.int .i64 0,.int .i64 0,.int .i64 0,.bool false,.slice none 0 0,.slice none 0 0] 102)):=(qbr _ _).alloc (qlr _) _
 have HT:=qhi (ht.below bW ht.pos)
 have HR:=qhi (hr.below bW)
 have HA:=qhi (hA.alloc (.cells #[.int .i64 0,.int .i64 0,.int .i64 0,.int .i64 0,.int .i64 0,.bool false,.slice none 0 0,.slice none 0 0] 102))
 have hfree : Hid (∀ j,(Value.slice (some ⟨b,o,none⟩) xs.length cp).ownBlock = some j → some p ≠ some j):=fun j hj e => hbp (by simp only [Value.ownBlock,Option.some.injEq] at hj;cases e;exact hj)
 have hold : Hid (∀ j,(Value.slice (some ⟨b,o,none⟩) xs.length cp).ownBlock = some j → j < w.heap.size):=fun j hj => by simp only [Value.ownBlock,Option.some.injEq] at hj;omega
 have KA:=qhi (kind_any p b o xs.length cp xs a _ HA.out HR.out rfl hx ha hbig)
 have PA : Hid (∀ V : World,Calls Tryz.prog 159 #[.int .i64 28] V fun e w' => e = .returned (.tuple #[.agg #[.bool false,.bool true,.bool false,.bool false,.bool false,.bool true,.bool false],.bool true]) ∧ Below V.heap.size V w'):=fun V => partsOf_any 28 V
 have FN : Hid (∀ e W',StepIs (frV w.heap.size) w p (.slice (some ⟨b,o,none⟩) xs.length cp) (restR xs a 28 7 (a + 1)) e W' → StepIs (frV w.heap.size) w p (.slice (some ⟨b,o,none⟩) xs.length cp) (restR xs a 28 7 (a + 1)) e W'):=fun _ _ h => h
 clear hk hx ht hr hA bW FN
 go_enter Tryz.func121,Tryz.ntmps121
 go_wp2_with fail
 refine KA.out.mono ?_
 rintro e w1 h1
 obtain ⟨g1,⟨u,rfl,rfl⟩,A1⟩:=h1.ok HK.out
 go_wp2_with fail
 refine (PA.out _).mono ?_
 rintro e w2 ⟨rfl,b2⟩
 have q1:=block_kept (alloc_at4 w (.cells #[.int .i64 0,.int .i64 0,.int .i64 0,.int .i64 0,.int .i64 0,.bool false,.slice none 0 0,.slice none 0 0] 102)) g1 (by simp;omega)
 have S0:=qhi (FS.start (cs:=#[.int .i64 28,.int .i64 0,.int .i64 0,.int .i64 0,.int .i64 0,.bool false,.slice none 0 0,.slice none 0 0]) (ps:=#[.bool false,.bool true,.bool false,.bool false,.bool false,.bool true,.bool false]) (A1.kept b2) (grownBy_trans (grownBy_trans (World.grownBy_alloc w _ _) g1) (grownBy_of_below b2)) ((HT.out.kept g1 hp0).below b2 (HT.out.kept g1 hp0).pos) ((HR.out.kept g1 hfree.out).below b2) ((b2.block _ (qgs q1).1).trans q1) hlt (qlr _) hp0 hfree.out hold.out)
 have z1 : w.heap.size < w1.heap.size:=(qgs q1).1
 have z2:=b2.size
 clear g1 q1 A1 KA HT HR HA
 go_wp2_with fail
 refine (Calls.mono (number_any p _ xs (a + 1) _ S0.out.tab S0.out.at_ S0.out.rd HX.out (by omega)) ?_)
 rintro e w3 h
 cases r1 : num xs (a + 1) with
 | error y =>
   obtain ⟨y,z⟩:=y
   have HE : Hid (restR xs a 28 7 (a + 1) = .error (y,z)):=by show _ = _;unfold restR;simp only [Int.reduceEq,if_false,if_true,or_false,or_true,false_or,true_or,reduceIte];exact thn_err r1
   obtain ⟨g,rfl⟩:=h.err r1
   refine ⟨rfl,?_⟩
   rw [HE.out]
   exact ⟨grownBy_trans S0.out.gr g,rfl⟩
 | ok y =>
   obtain ⟨x1,j1⟩:=y
   obtain ⟨g,⟨u,rfl,rfl⟩,A⟩:=h.ok r1
   obtain ⟨lo1,hi1,mv1,le1⟩:=num_ok HX.out r1
   have E1:=qhi r1
   have Q1:=qhi (S0.out.step g A)
   have pc1:=fun i => qcb Q1.out.par i
   have pc10:=pc1 0
   have pc11:=pc1 1
   have pc12:=pc1 2
   have pc13:=pc1 3
   have pc14:=pc1 4
   have pc15:=pc1 5
   have pc16:=pc1 6
   have fc1:=fun i => qcb Q1.out.frm i
   have fc10:=fc1 0
   have fc11:=fc1 1
   have fc12:=fc1 2
   have fc13:=fc1 3
   have fc14:=fc1 4
   have fc15:=fc1 5
   have fc16:=fc1 6
   have fc17:=fc1 7
   have ff1:=qub Q1.out.frm
   have S1:=qhi (Q1.out.put 4 (.int .i64 x1))
   clear h g A r1
   go_wp2_with fail
   refine (Calls.mono (count_num p _ xs j1 7 _ (by decide) S1.out.tab S1.out.at_ S1.out.rd HX.out (by omega)) ?_)
   rintro e w4 h
   cases r2 : num xs j1 with
   | error y =>
     obtain ⟨y,z⟩:=y
     have HE : Hid (restR xs a 28 7 (a + 1) = .error (y,z)):=by show _ = _;unfold restR;simp only [Int.reduceEq,if_false,if_true,or_false,or_true,false_or,true_or,reduceIte];rw [thn_ok E1.out];exact thn_err r2
     obtain ⟨g,rfl⟩:=h.err r2
     refine ⟨rfl,?_⟩
     rw [HE.out]
     exact ⟨grownBy_trans S1.out.gr g,rfl⟩
   | ok y =>
     obtain ⟨x2,j2⟩:=y
     obtain ⟨g,⟨u,rfl,rfl⟩,A⟩:=h.ok r2
     obtain ⟨lo2,hi2,mv2,le2⟩:=num_ok HX.out r2
     have E2:=qhi r2
     have Q2:=qhi (S1.out.step g A)
     have pc2:=fun i => qcb Q2.out.par i
     have pc20:=pc2 0
     have pc21:=pc2 1
     have pc22:=pc2 2
     have pc23:=pc2 3
     have pc24:=pc2 4
     have pc25:=pc2 5
     have pc26:=pc2 6
     have fc2:=fun i => qcb Q2.out.frm i
     have fc20:=fc2 0
     have fc21:=fc2 1
     have fc22:=fc2 2
     have fc23:=fc2 3
     have fc24:=fc2 4
     have fc25:=fc2 5
     have fc26:=fc2 6
     have fc27:=fc2 7
     have ff2:=qub Q2.out.frm
     have S2:=Q2
     clear h g A r2
     skip
     have tfl : decide (4611686018427387903 < x2) = false:=qdf (by omega)
     go_wp2_with fail
     refine (Calls.mono (data_any4 p b o cp xs j2 x2 _ S2.out.at_ S2.out.rd (by omega) (by omega) hbig hbp) ?_)
     rintro e w5 h
     cases r3 : dataR xs j2 x2 with
     | error y =>
       obtain ⟨y,z⟩:=y
       have HE : Hid (restR xs a 28 7 (a + 1) = .error (y,z)):=by show _ = _;unfold restR;simp only [Int.reduceEq,if_false,if_true,or_false,or_true,false_or,true_or,reduceIte];rw [thn_ok E1.out];rw [thn_ok E2.out];exact thn_err r3
       obtain ⟨g,rfl⟩:=h.err r3
       refine ⟨rfl,?_⟩
       rw [HE.out]
       exact ⟨grownBy_trans S2.out.gr g,rfl⟩
     | ok y =>
       obtain ⟨x3,j3⟩:=y
       obtain ⟨g,⟨u3,rfl,O3⟩,A⟩:=h.ok r3
       have E3:=qhi r3
       obtain ⟨ua,uc,rfl⟩:=Own.len O3
       have Q3:=qhi (S2.out.step g A)
       have pc3:=fun i => qcb Q3.out.par i
       have pc30:=pc3 0
       have pc31:=pc3 1
       have pc32:=pc3 2
       have pc33:=pc3 3
       have pc34:=pc3 4
       have pc35:=pc3 5
       have pc36:=pc3 6
       have fc3:=fun i => qcb Q3.out.frm i
       have fc30:=fc3 0
       have fc31:=fc3 1
       have fc32:=fc3 2
       have fc33:=fc3 3
       have fc34:=fc3 4
       have fc35:=fc3 5
       have fc36:=fc3 6
       have fc37:=fc3 7
       have ff3:=qub Q3.out.frm
       have S3:=qhi (Q3.out.put 6 (.slice ua x3.length uc))
       clear h g A r3
       have rc:=fun i => qcb Q3.out.res i
       have rc0:=rc 0
       have rc1:=rc 1
       have rc2:=rc 2
       have rc3:=rc 3
       have rc4:=rc 4
       have rc5:=rc 5
       have rc6:=rc 6
       have rc7:=rc 7
       have rf:=qub Q3.out.res
       have HE : Hid (restR xs a 28 7 (a + 1) = .ok ((⟨28,0,0,0,x1,false,x3,[]⟩ : Fr),j3)):=by show _ = _;unfold restR;simp only [Int.reduceEq,if_false,if_true,or_false,or_true,false_or,true_or,reduceIte];rw [thn_ok E1.out];rw [thn_ok E2.out];rw [thn_ok E3.out]
       go_wp2_with fail
       have nRF : ¬ (w.heap.size = w2.heap.size + 1):=by omega
       refine bodyPost_ret (v:=.agg #[.int .i64 28,.int .i64 0,.int .i64 0,.int .i64 0,.int .i64 x1,.bool false,.slice ua x3.length uc,.slice none 0 0]) (by simp [results,Tryz.results121,go_sem,rc0,rc1,rc2,rc3,rc4,rc5,rc6,rc7,nRF]) rfl ?_
       rw [HE.out]
       obtain ⟨G,A⟩:=S3.out.done (set8 _ w.heap.size (.int .i64 28) (.int .i64 0) (.int .i64 0) (.int .i64 0) (.int .i64 x1) (.bool false) (.slice ua x3.length uc) (.slice none 0 0))
       have lF:=(qgs S2.out.frm).1
       have bl:=Own.blk O3
       have OF:=Own.mono (Own.kept (Own.kept O3 (row:=some (w2.heap.size + 1)) (grownBy_set (World.grownBy.refl _ _) ⟨w2.heap.size + 1,6,none⟩ (.slice ua x3.length uc) (.inl rfl)) (fun jj hj e => by have:=bl jj hj;simp only [Option.some.injEq] at e;omega)) (set8 _ w.heap.size (.int .i64 28) (.int .i64 0) (.int .i64 0) (.int .i64 0) (.int .i64 x1) (.bool false) (.slice ua x3.length uc) (.slice none 0 0)) (fun jj hj e => by have:=bl jj hj;simp only [Option.some.injEq] at e;omega)) S2.out.gr.size
       exact ⟨G,⟨_,rfl,_,_,rfl,OF,OwnS.nil _ _⟩,A⟩
theorem frame_800 (p b o cp : Nat) (xs : List Int) (a : Nat)
  (bt : Int) (hb1 : bits .and .i64 bt 1 = bt % 2) (hb4 : bits .and .i64 bt 4 = 0) (e4 : bt / 4 % 2 = 0) (hb2 : bits .and .i64 bt 2 = 0) (e2 : bt / 2 % 2 = 0) (w : World) (ht : Tab w) (hA : At w p (.slice (some ⟨b,o,none⟩) xs.length cp) a) (hr : Rd .u8 w (.slice (some ⟨b,o,none⟩) xs.length cp) xs) (hx : Bts xs) (ha : a < xs.length) (hbig : xs.length ≤ 1048576) (hp0 : 0 < p) (hbp : b ≠ p) (hb : b < w.heap.size)
  (hk : kindR xs a = .ok ((8,bt),a + 1)) :
  Calls Tryz.prog 121 #[.pointer (some ⟨p,0,none⟩)] w (StepIs (frV w.heap.size) w p (.slice (some ⟨b,o,none⟩) xs.length cp) (restR xs a 8 bt (a + 1))):=by
 have hlt:=hA.lt
 have c1:=hA.c1
 have HK:=qhi hk
 have HX:=qhi hx
 have bW : Below w.heap.size w (w.alloc (.cells #[.int .i64 0,.int .i64 0,.int .i64 0,.int .i64 0,.int .i64 0,.bool false,.slice none 0 0,.slice none 0 0] 102)):=(qbr _ _).alloc (qlr _) _
 have HT:=qhi (ht.below bW ht.pos)
 have HR:=qhi (hr.below bW)
 have HA:=qhi (hA.alloc (.cells #[.int .i64 0,.int .i64 0,.int .i64 0,.int .i64 0,.int .i64 0,.bool false,.slice none 0 0,.slice none 0 0] 102))
 have hfree : Hid (∀ j,(Value.slice (some ⟨b,o,none⟩) xs.length cp).ownBlock = some j → some p ≠ some j):=fun j hj e => hbp (by simp only [Value.ownBlock,Option.some.injEq] at hj;cases e;exact hj)
 have hold : Hid (∀ j,(Value.slice (some ⟨b,o,none⟩) xs.length cp).ownBlock = some j → j < w.heap.size):=fun j hj => by simp only [Value.ownBlock,Option.some.injEq] at hj;omega
 have KA:=qhi (kind_any p b o xs.length cp xs a _ HA.out HR.out rfl hx ha hbig)
 have PA : Hid (∀ V : World,Calls Tryz.prog 159 #[.int .i64 8] V fun e w' => e = .returned (.tuple #[.agg #[.bool true,.bool false,.bool true,.bool false,.bool false,.bool true,.bool true],.bool true]) ∧ Below V.heap.size V w'):=fun V => partsOf_any 8 V
 have FN : Hid (∀ e W',StepIs (frV w.heap.size) w p (.slice (some ⟨b,o,none⟩) xs.length cp) (restR xs a 8 bt (a + 1)) e W' → StepIs (frV w.heap.size) w p (.slice (some ⟨b,o,none⟩) xs.length cp) (restR xs a 8 bt (a + 1)) e W'):=fun _ _ h => h
 clear hk hx ht hr hA bW FN
 go_enter Tryz.func121,Tryz.ntmps121
 go_wp2_with fail
 refine KA.out.mono ?_
 rintro e w1 h1
 obtain ⟨g1,⟨u,rfl,rfl⟩,A1⟩:=h1.ok HK.out
 go_wp2_with fail
 refine (PA.out _).mono ?_
 rintro e w2 ⟨rfl,b2⟩
 have q1:=block_kept (alloc_at4 w (.cells #[.int .i64 0,.int .i64 0,.int .i64 0,.int .i64 0,.int .i64 0,.bool false,.slice none 0 0,.slice none 0 0] 102)) g1 (by simp;omega)
 have S0:=qhi (FS.start (cs:=#[.int .i64 8,.int .i64 0,.int .i64 0,.int .i64 0,.int .i64 0,.bool (bt % 2 != 0),.slice none 0 0,.slice none 0 0]) (ps:=#[.bool true,.bool false,.bool true,.bool false,.bool false,.bool true,.bool true]) (A1.kept b2) (grownBy_trans (grownBy_trans (World.grownBy_alloc w _ _) g1) (grownBy_of_below b2)) ((HT.out.kept g1 hp0).below b2 (HT.out.kept g1 hp0).pos) ((HR.out.kept g1 hfree.out).below b2) ((b2.block _ (qgs q1).1).trans q1) hlt (qlr _) hp0 hfree.out hold.out)
 have z1 : w.heap.size < w1.heap.size:=(qgs q1).1
 have z2:=b2.size
 clear g1 q1 A1 KA HT HR HA
 go_wp2_with fail
 refine (Calls.mono (number_any p _ xs (a + 1) _ S0.out.tab S0.out.at_ S0.out.rd HX.out (by omega)) ?_)
 rintro e w3 h
 cases r1 : num xs (a + 1) with
 | error y =>
   obtain ⟨y,z⟩:=y
   have HE : Hid (restR xs a 8 bt (a + 1) = .error (y,z)):=by show _ = _;unfold restR;simp only [Int.reduceEq,if_false,if_true,or_false,or_true,false_or,true_or,reduceIte];exact thn_err r1
   obtain ⟨g,rfl⟩:=h.err r1
   refine ⟨rfl,?_⟩
   rw [HE.out]
   exact ⟨grownBy_trans S0.out.gr g,rfl⟩
 | ok y =>
   obtain ⟨x1,j1⟩:=y
   obtain ⟨g,⟨u,rfl,rfl⟩,A⟩:=h.ok r1
   obtain ⟨lo1,hi1,mv1,le1⟩:=num_ok HX.out r1
   have E1:=qhi r1
   have Q1:=qhi (S0.out.step g A)
   have pc1:=fun i => qcb Q1.out.par i
   have pc10:=pc1 0
   have pc11:=pc1 1
   have pc12:=pc1 2
   have pc13:=pc1 3
   have pc14:=pc1 4
   have pc15:=pc1 5
   have pc16:=pc1 6
   have fc1:=fun i => qcb Q1.out.frm i
   have fc10:=fc1 0
   have fc11:=fc1 1
   have fc12:=fc1 2
   have fc13:=fc1 3
   have fc14:=fc1 4
   have fc15:=fc1 5
   have fc16:=fc1 6
   have fc17:=fc1 7
   have ff1:=qub Q1.out.frm
   have S1:=qhi (Q1.out.put 1 (.int .i64 x1))
   clear h g A r1
   have EO : Hid (offR xs bt j1 = .ok (0,j1)):=by show _ = _;unfold offR;exact if_pos e4
   go_wp2_with fail
   refine (Calls.mono (count_left p _ xs j1 bt _ hb2 S1.out.at_ S1.out.rd (by omega)) ?_)
   rintro e w4 h
   obtain ⟨g,⟨u,rfl,rfl⟩,A⟩:=h.ok rfl
   have EC : Hid (countR xs bt j1 = .ok ((xs.length : Int) - j1,j1)):=by show _ = _;unfold countR;exact if_pos e2
   have Q2:=qhi (S1.out.step g A)
   have pc2:=fun i => qcb Q2.out.par i
   have pc20:=pc2 0
   have pc21:=pc2 1
   have pc22:=pc2 2
   have pc23:=pc2 3
   have pc24:=pc2 4
   have pc25:=pc2 5
   have pc26:=pc2 6
   have fc2:=fun i => qcb Q2.out.frm i
   have fc20:=fc2 0
   have fc21:=fc2 1
   have fc22:=fc2 2
   have fc23:=fc2 3
   have fc24:=fc2 4
   have fc25:=fc2 5
   have fc26:=fc2 6
   have fc27:=fc2 7
   have ff2:=qub Q2.out.frm
   have S2:=Q2
   clear h g A
   skip
   have hfl : ¬ ((4611686018427387903 : Int) - 0 < ((xs.length : Int) - j1)):=by omega
   have ET0 : ∀ jj,Hid (tailR xs a 0 ((xs.length : Int) - j1) jj = dataR xs jj ((xs.length : Int) - j1)):=fun jj => if_neg hfl
   have tfl : decide (4611686018427387903 < ((xs.length : Int) - j1)) = false:=qdf (by omega)
   go_wp2_with fail
   refine (Calls.mono (data_any4 p b o cp xs j1 ((xs.length : Int) - j1) _ S2.out.at_ S2.out.rd (by omega) (by omega) hbig hbp) ?_)
   rintro e w5 h
   cases r3 : dataR xs j1 ((xs.length : Int) - j1) with
   | error y =>
     obtain ⟨y,z⟩:=y
     have HE : Hid (restR xs a 8 bt (a + 1) = .error (y,z)):=by show _ = _;unfold restR;simp only [Int.reduceEq,if_false,if_true,or_false,or_true,false_or,true_or,reduceIte];rw [thn_ok E1.out];rw [thn_ok EO.out];rw [thn_ok EC.out];exact thn_err ((ET0 _).out.trans r3)
     obtain ⟨g,rfl⟩:=h.err r3
     refine ⟨rfl,?_⟩
     rw [HE.out]
     exact ⟨grownBy_trans S2.out.gr g,rfl⟩
   | ok y =>
     obtain ⟨x3,j3⟩:=y
     obtain ⟨g,⟨u3,rfl,O3⟩,A⟩:=h.ok r3
     have E3:=qhi r3
     obtain ⟨ua,uc,rfl⟩:=Own.len O3
     have Q3:=qhi (S2.out.step g A)
     have pc3:=fun i => qcb Q3.out.par i
     have pc30:=pc3 0
     have pc31:=pc3 1
     have pc32:=pc3 2
     have pc33:=pc3 3
     have pc34:=pc3 4
     have pc35:=pc3 5
     have pc36:=pc3 6
     have fc3:=fun i => qcb Q3.out.frm i
     have fc30:=fc3 0
     have fc31:=fc3 1
     have fc32:=fc3 2
     have fc33:=fc3 3
     have fc34:=fc3 4
     have fc35:=fc3 5
     have fc36:=fc3 6
     have fc37:=fc3 7
     have ff3:=qub Q3.out.frm
     have S3:=qhi (Q3.out.put 6 (.slice ua x3.length uc))
     clear h g A r3
     have rc:=fun i => qcb Q3.out.res i
     have rc0:=rc 0
     have rc1:=rc 1
     have rc2:=rc 2
     have rc3:=rc 3
     have rc4:=rc 4
     have rc5:=rc 5
     have rc6:=rc 6
     have rc7:=rc 7
     have rf:=qub Q3.out.res
     have HE : Hid (restR xs a 8 bt (a + 1) = .ok ((⟨8,x1,0,0,0,(bt % 2 != 0),x3,[]⟩ : Fr),j3)):=by show _ = _;unfold restR;simp only [Int.reduceEq,if_false,if_true,or_false,or_true,false_or,true_or,reduceIte];rw [thn_ok E1.out];rw [thn_ok EO.out];rw [thn_ok EC.out];rw [thn_ok ((ET0 _).out.trans E3.out)]
     go_wp2_with fail
     have nRF : ¬ (w.heap.size = w2.heap.size + 1):=by omega
     refine bodyPost_ret (v:=.agg #[.int .i64 8,.int .i64 x1,.int .i64 0,.int .i64 0,.int .i64 0,.bool (bt % 2 != 0),.slice ua x3.length uc,.slice none 0 0]) (by simp [results,Tryz.results121,go_sem,rc0,rc1,rc2,rc3,rc4,rc5,rc6,rc7,nRF]) rfl ?_
     rw [HE.out]
     obtain ⟨G,A⟩:=S3.out.done (set8 _ w.heap.size (.int .i64 8) (.int .i64 x1) (.int .i64 0) (.int .i64 0) (.int .i64 0) (.bool (bt % 2 != 0)) (.slice ua x3.length uc) (.slice none 0 0))
     have lF:=(qgs S2.out.frm).1
     have bl:=Own.blk O3
     have OF:=Own.mono (Own.kept (Own.kept O3 (row:=some (w2.heap.size + 1)) (grownBy_set (World.grownBy.refl _ _) ⟨w2.heap.size + 1,6,none⟩ (.slice ua x3.length uc) (.inl rfl)) (fun jj hj e => by have:=bl jj hj;simp only [Option.some.injEq] at e;omega)) (set8 _ w.heap.size (.int .i64 8) (.int .i64 x1) (.int .i64 0) (.int .i64 0) (.int .i64 0) (.bool (bt % 2 != 0)) (.slice ua x3.length uc) (.slice none 0 0)) (fun jj hj e => by have:=bl jj hj;simp only [Option.some.injEq] at e;omega)) S2.out.gr.size
     exact ⟨G,⟨_,rfl,_,_,rfl,OF,OwnS.nil _ _⟩,A⟩
theorem frame_801 (p b o cp : Nat) (xs : List Int) (a : Nat)
  (bt : Int) (hb1 : bits .and .i64 bt 1 = bt % 2) (hb4 : bits .and .i64 bt 4 = 0) (e4 : bt / 4 % 2 = 0) (hb2 : bits .and .i64 bt 2 = 2) (e2 : bt / 2 % 2 = 1) (w : World) (ht : Tab w) (hA : At w p (.slice (some ⟨b,o,none⟩) xs.length cp) a) (hr : Rd .u8 w (.slice (some ⟨b,o,none⟩) xs.length cp) xs) (hx : Bts xs) (ha : a < xs.length) (hbig : xs.length ≤ 1048576) (hp0 : 0 < p) (hbp : b ≠ p) (hb : b < w.heap.size)
  (hk : kindR xs a = .ok ((8,bt),a + 1)) :
  Calls Tryz.prog 121 #[.pointer (some ⟨p,0,none⟩)] w (StepIs (frV w.heap.size) w p (.slice (some ⟨b,o,none⟩) xs.length cp) (restR xs a 8 bt (a + 1))):=by
 have hlt:=hA.lt
 have c1:=hA.c1
 have HK:=qhi hk
 have HX:=qhi hx
 have bW : Below w.heap.size w (w.alloc (.cells #[.int .i64 0,.int .i64 0,.int .i64 0,.int .i64 0,.int .i64 0,.bool false,.slice none 0 0,.slice none 0 0] 102)):=(qbr _ _).alloc (qlr _) _
 have HT:=qhi (ht.below bW ht.pos)
 have HR:=qhi (hr.below bW)
 have HA:=qhi (hA.alloc (.cells #[.int .i64 0,.int .i64 0,.int .i64 0,.int .i64 0,.int .i64 0,.bool false,.slice none 0 0,.slice none 0 0] 102))
 have hfree : Hid (∀ j,(Value.slice (some ⟨b,o,none⟩) xs.length cp).ownBlock = some j → some p ≠ some j):=fun j hj e => hbp (by simp only [Value.ownBlock,Option.some.injEq] at hj;cases e;exact hj)
 have hold : Hid (∀ j,(Value.slice (some ⟨b,o,none⟩) xs.length cp).ownBlock = some j → j < w.heap.size):=fun j hj => by simp only [Value.ownBlock,Option.some.injEq] at hj;omega
 have KA:=qhi (kind_any p b o xs.length cp xs a _ HA.out HR.out rfl hx ha hbig)
 have PA : Hid (∀ V : World,Calls Tryz.prog 159 #[.int .i64 8] V fun e w' => e = .returned (.tuple #[.agg #[.bool true,.bool false,.bool true,.bool false,.bool false,.bool true,.bool true],.bool true]) ∧ Below V.heap.size V w'):=fun V => partsOf_any 8 V
 have FN : Hid (∀ e W',StepIs (frV w.heap.size) w p (.slice (some ⟨b,o,none⟩) xs.length cp) (restR xs a 8 bt (a + 1)) e W' → StepIs (frV w.heap.size) w p (.slice (some ⟨b,o,none⟩) xs.length cp) (restR xs a 8 bt (a + 1)) e W'):=fun _ _ h => h
 clear hk hx ht hr hA bW FN
 go_enter Tryz.func121,Tryz.ntmps121
 go_wp2_with fail
 refine KA.out.mono ?_
 rintro e w1 h1
 obtain ⟨g1,⟨u,rfl,rfl⟩,A1⟩:=h1.ok HK.out
 go_wp2_with fail
 refine (PA.out _).mono ?_
 rintro e w2 ⟨rfl,b2⟩
 have q1:=block_kept (alloc_at4 w (.cells #[.int .i64 0,.int .i64 0,.int .i64 0,.int .i64 0,.int .i64 0,.bool false,.slice none 0 0,.slice none 0 0] 102)) g1 (by simp;omega)
 have S0:=qhi (FS.start (cs:=#[.int .i64 8,.int .i64 0,.int .i64 0,.int .i64 0,.int .i64 0,.bool (bt % 2 != 0),.slice none 0 0,.slice none 0 0]) (ps:=#[.bool true,.bool false,.bool true,.bool false,.bool false,.bool true,.bool true]) (A1.kept b2) (grownBy_trans (grownBy_trans (World.grownBy_alloc w _ _) g1) (grownBy_of_below b2)) ((HT.out.kept g1 hp0).below b2 (HT.out.kept g1 hp0).pos) ((HR.out.kept g1 hfree.out).below b2) ((b2.block _ (qgs q1).1).trans q1) hlt (qlr _) hp0 hfree.out hold.out)
 have z1 : w.heap.size < w1.heap.size:=(qgs q1).1
 have z2:=b2.size
 clear g1 q1 A1 KA HT HR HA
 go_wp2_with fail
 refine (Calls.mono (number_any p _ xs (a + 1) _ S0.out.tab S0.out.at_ S0.out.rd HX.out (by omega)) ?_)
 rintro e w3 h
 cases r1 : num xs (a + 1) with
 | error y =>
   obtain ⟨y,z⟩:=y
   have HE : Hid (restR xs a 8 bt (a + 1) = .error (y,z)):=by show _ = _;unfold restR;simp only [Int.reduceEq,if_false,if_true,or_false,or_true,false_or,true_or,reduceIte];exact thn_err r1
   obtain ⟨g,rfl⟩:=h.err r1
   refine ⟨rfl,?_⟩
   rw [HE.out]
   exact ⟨grownBy_trans S0.out.gr g,rfl⟩
 | ok y =>
   obtain ⟨x1,j1⟩:=y
   obtain ⟨g,⟨u,rfl,rfl⟩,A⟩:=h.ok r1
   obtain ⟨lo1,hi1,mv1,le1⟩:=num_ok HX.out r1
   have E1:=qhi r1
   have Q1:=qhi (S0.out.step g A)
   have pc1:=fun i => qcb Q1.out.par i
   have pc10:=pc1 0
   have pc11:=pc1 1
   have pc12:=pc1 2
   have pc13:=pc1 3
   have pc14:=pc1 4
   have pc15:=pc1 5
   have pc16:=pc1 6
   have fc1:=fun i => qcb Q1.out.frm i
   have fc10:=fc1 0
   have fc11:=fc1 1
   have fc12:=fc1 2
   have fc13:=fc1 3
   have fc14:=fc1 4
   have fc15:=fc1 5
   have fc16:=fc1 6
   have fc17:=fc1 7
   have ff1:=qub Q1.out.frm
   have S1:=qhi (Q1.out.put 1 (.int .i64 x1))
   clear h g A r1
   have EO : Hid (offR xs bt j1 = .ok (0,j1)):=by show _ = _;unfold offR;exact if_pos e4
   go_wp2_with fail
   refine (Calls.mono (count_num p _ xs j1 bt _ hb2 S1.out.tab S1.out.at_ S1.out.rd HX.out (by omega)) ?_)
   rintro e w4 h
   cases r2 : num xs j1 with
   | error y =>
     obtain ⟨y,z⟩:=y
     have HE : Hid (restR xs a 8 bt (a + 1) = .error (y,z)):=by show _ = _;unfold restR;simp only [Int.reduceEq,if_false,if_true,or_false,or_true,false_or,true_or,reduceIte];rw [thn_ok E1.out];rw [thn_ok EO.out];exact thn_err (by unfold countR;rw [if_neg (by omega)];exact r2)
     obtain ⟨g,rfl⟩:=h.err r2
     refine ⟨rfl,?_⟩
     rw [HE.out]
     exact ⟨grownBy_trans S1.out.gr g,rfl⟩
   | ok y =>
     obtain ⟨x2,j2⟩:=y
     obtain ⟨g,⟨u,rfl,rfl⟩,A⟩:=h.ok r2
     obtain ⟨lo2,hi2,mv2,le2⟩:=num_ok HX.out r2
     have E2:=qhi r2
     have Q2:=qhi (S1.out.step g A)
     have pc2:=fun i => qcb Q2.out.par i
     have pc20:=pc2 0
     have pc21:=pc2 1
     have pc22:=pc2 2
     have pc23:=pc2 3
     have pc24:=pc2 4
     have pc25:=pc2 5
     have pc26:=pc2 6
     have fc2:=fun i => qcb Q2.out.frm i
     have fc20:=fc2 0
     have fc21:=fc2 1
     have fc22:=fc2 2
     have fc23:=fc2 3
     have fc24:=fc2 4
     have fc25:=fc2 5
     have fc26:=fc2 6
     have fc27:=fc2 7
     have ff2:=qub Q2.out.frm
     have S2:=Q2
     clear h g A r2
     skip
     have hfl : ¬ ((4611686018427387903 : Int) - 0 < x2):=by omega
     have ET0 : ∀ jj,Hid (tailR xs a 0 x2 jj = dataR xs jj x2):=fun jj => if_neg hfl
     have tfl : decide (4611686018427387903 < x2) = false:=qdf (by omega)
     go_wp2_with fail
     refine (Calls.mono (data_any4 p b o cp xs j2 x2 _ S2.out.at_ S2.out.rd (by omega) (by omega) hbig hbp) ?_)
     rintro e w5 h
     cases r3 : dataR xs j2 x2 with
     | error y =>
       obtain ⟨y,z⟩:=y
       have HE : Hid (restR xs a 8 bt (a + 1) = .error (y,z)):=by show _ = _;unfold restR;simp only [Int.reduceEq,if_false,if_true,or_false,or_true,false_or,true_or,reduceIte];rw [thn_ok E1.out];rw [thn_ok EO.out];rw [thn_ok (by unfold countR;rw [if_neg (by omega)];exact E2.out)];exact thn_err ((ET0 _).out.trans r3)
       obtain ⟨g,rfl⟩:=h.err r3
       refine ⟨rfl,?_⟩
       rw [HE.out]
       exact ⟨grownBy_trans S2.out.gr g,rfl⟩
     | ok y =>
       obtain ⟨x3,j3⟩:=y
       obtain ⟨g,⟨u3,rfl,O3⟩,A⟩:=h.ok r3
       have E3:=qhi r3
       obtain ⟨ua,uc,rfl⟩:=Own.len O3
       have Q3:=qhi (S2.out.step g A)
       have pc3:=fun i => qcb Q3.out.par i
       have pc30:=pc3 0
       have pc31:=pc3 1
       have pc32:=pc3 2
       have pc33:=pc3 3
       have pc34:=pc3 4
       have pc35:=pc3 5
       have pc36:=pc3 6
       have fc3:=fun i => qcb Q3.out.frm i
       have fc30:=fc3 0
       have fc31:=fc3 1
       have fc32:=fc3 2
       have fc33:=fc3 3
       have fc34:=fc3 4
       have fc35:=fc3 5
       have fc36:=fc3 6
       have fc37:=fc3 7
       have ff3:=qub Q3.out.frm
       have S3:=qhi (Q3.out.put 6 (.slice ua x3.length uc))
       clear h g A r3
       have rc:=fun i => qcb Q3.out.res i
       have rc0:=rc 0
       have rc1:=rc 1
       have rc2:=rc 2
       have rc3:=rc 3
       have rc4:=rc 4
       have rc5:=rc 5
       have rc6:=rc 6
       have rc7:=rc 7
       have rf:=qub Q3.out.res
       have HE : Hid (restR xs a 8 bt (a + 1) = .ok ((⟨8,x1,0,0,0,(bt % 2 != 0),x3,[]⟩ : Fr),j3)):=by show _ = _;unfold restR;simp only [Int.reduceEq,if_false,if_true,or_false,or_true,false_or,true_or,reduceIte];rw [thn_ok E1.out];rw [thn_ok EO.out];rw [thn_ok (by unfold countR;rw [if_neg (by omega)];exact E2.out)];rw [thn_ok ((ET0 _).out.trans E3.out)]
       go_wp2_with fail
       have nRF : ¬ (w.heap.size = w2.heap.size + 1):=by omega
       refine bodyPost_ret (v:=.agg #[.int .i64 8,.int .i64 x1,.int .i64 0,.int .i64 0,.int .i64 0,.bool (bt % 2 != 0),.slice ua x3.length uc,.slice none 0 0]) (by simp [results,Tryz.results121,go_sem,rc0,rc1,rc2,rc3,rc4,rc5,rc6,rc7,nRF]) rfl ?_
       rw [HE.out]
       obtain ⟨G,A⟩:=S3.out.done (set8 _ w.heap.size (.int .i64 8) (.int .i64 x1) (.int .i64 0) (.int .i64 0) (.int .i64 0) (.bool (bt % 2 != 0)) (.slice ua x3.length uc) (.slice none 0 0))
       have lF:=(qgs S2.out.frm).1
       have bl:=Own.blk O3
       have OF:=Own.mono (Own.kept (Own.kept O3 (row:=some (w2.heap.size + 1)) (grownBy_set (World.grownBy.refl _ _) ⟨w2.heap.size + 1,6,none⟩ (.slice ua x3.length uc) (.inl rfl)) (fun jj hj e => by have:=bl jj hj;simp only [Option.some.injEq] at e;omega)) (set8 _ w.heap.size (.int .i64 8) (.int .i64 x1) (.int .i64 0) (.int .i64 0) (.int .i64 0) (.bool (bt % 2 != 0)) (.slice ua x3.length uc) (.slice none 0 0)) (fun jj hj e => by have:=bl jj hj;simp only [Option.some.injEq] at e;omega)) S2.out.gr.size
       exact ⟨G,⟨_,rfl,_,_,rfl,OF,OwnS.nil _ _⟩,A⟩
theorem frame_810 (p b o cp : Nat) (xs : List Int) (a : Nat)
  (bt : Int) (hb1 : bits .and .i64 bt 1 = bt % 2) (hb4 : bits .and .i64 bt 4 = 4) (e4 : bt / 4 % 2 = 1) (hb2 : bits .and .i64 bt 2 = 0) (e2 : bt / 2 % 2 = 0) (w : World) (ht : Tab w) (hA : At w p (.slice (some ⟨b,o,none⟩) xs.length cp) a) (hr : Rd .u8 w (.slice (some ⟨b,o,none⟩) xs.length cp) xs) (hx : Bts xs) (ha : a < xs.length) (hbig : xs.length ≤ 1048576) (hp0 : 0 < p) (hbp : b ≠ p) (hb : b < w.heap.size)
  (hk : kindR xs a = .ok ((8,bt),a + 1)) :
  Calls Tryz.prog 121 #[.pointer (some ⟨p,0,none⟩)] w (StepIs (frV w.heap.size) w p (.slice (some ⟨b,o,none⟩) xs.length cp) (restR xs a 8 bt (a + 1))):=by
 have hlt:=hA.lt
 have c1:=hA.c1
 have HK:=qhi hk
 have HX:=qhi hx
 have bW : Below w.heap.size w (w.alloc (.cells #[.int .i64 0,.int .i64 0,.int .i64 0,.int .i64 0,.int .i64 0,.bool false,.slice none 0 0,.slice none 0 0] 102)):=(qbr _ _).alloc (qlr _) _
 have HT:=qhi (ht.below bW ht.pos)
 have HR:=qhi (hr.below bW)
 have HA:=qhi (hA.alloc (.cells #[.int .i64 0,.int .i64 0,.int .i64 0,.int .i64 0,.int .i64 0,.bool false,.slice none 0 0,.slice none 0 0] 102))
 have hfree : Hid (∀ j,(Value.slice (some ⟨b,o,none⟩) xs.length cp).ownBlock = some j → some p ≠ some j):=fun j hj e => hbp (by simp only [Value.ownBlock,Option.some.injEq] at hj;cases e;exact hj)
 have hold : Hid (∀ j,(Value.slice (some ⟨b,o,none⟩) xs.length cp).ownBlock = some j → j < w.heap.size):=fun j hj => by simp only [Value.ownBlock,Option.some.injEq] at hj;omega
 have KA:=qhi (kind_any p b o xs.length cp xs a _ HA.out HR.out rfl hx ha hbig)
 have PA : Hid (∀ V : World,Calls Tryz.prog 159 #[.int .i64 8] V fun e w' => e = .returned (.tuple #[.agg #[.bool true,.bool false,.bool true,.bool false,.bool false,.bool true,.bool true],.bool true]) ∧ Below V.heap.size V w'):=fun V => partsOf_any 8 V
 have FN : Hid (∀ e W',StepIs (frV w.heap.size) w p (.slice (some ⟨b,o,none⟩) xs.length cp) (restR xs a 8 bt (a + 1)) e W' → StepIs (frV w.heap.size) w p (.slice (some ⟨b,o,none⟩) xs.length cp) (restR xs a 8 bt (a + 1)) e W'):=fun _ _ h => h
 clear hk hx ht hr hA bW FN
 go_enter Tryz.func121,Tryz.ntmps121
 go_wp2_with fail
 refine KA.out.mono ?_
 rintro e w1 h1
 obtain ⟨g1,⟨u,rfl,rfl⟩,A1⟩:=h1.ok HK.out
 go_wp2_with fail
 refine (PA.out _).mono ?_
 rintro e w2 ⟨rfl,b2⟩
 have q1:=block_kept (alloc_at4 w (.cells #[.int .i64 0,.int .i64 0,.int .i64 0,.int .i64 0,.int .i64 0,.bool false,.slice none 0 0,.slice none 0 0] 102)) g1 (by simp;omega)
 have S0:=qhi (FS.start (cs:=#[.int .i64 8,.int .i64 0,.int .i64 0,.int .i64 0,.int .i64 0,.bool (bt % 2 != 0),.slice none 0 0,.slice none 0 0]) (ps:=#[.bool true,.bool false,.bool true,.bool false,.bool false,.bool true,.bool true]) (A1.kept b2) (grownBy_trans (grownBy_trans (World.grownBy_alloc w _ _) g1) (grownBy_of_below b2)) ((HT.out.kept g1 hp0).below b2 (HT.out.kept g1 hp0).pos) ((HR.out.kept g1 hfree.out).below b2) ((b2.block _ (qgs q1).1).trans q1) hlt (qlr _) hp0 hfree.out hold.out)
 have z1 : w.heap.size < w1.heap.size:=(qgs q1).1
 have z2:=b2.size
 clear g1 q1 A1 KA HT HR HA
 go_wp2_with fail
 refine (Calls.mono (number_any p _ xs (a + 1) _ S0.out.tab S0.out.at_ S0.out.rd HX.out (by omega)) ?_)
 rintro e w3 h
 cases r1 : num xs (a + 1) with
 | error y =>
   obtain ⟨y,z⟩:=y
   have HE : Hid (restR xs a 8 bt (a + 1) = .error (y,z)):=by show _ = _;unfold restR;simp only [Int.reduceEq,if_false,if_true,or_false,or_true,false_or,true_or,reduceIte];exact thn_err r1
   obtain ⟨g,rfl⟩:=h.err r1
   refine ⟨rfl,?_⟩
   rw [HE.out]
   exact ⟨grownBy_trans S0.out.gr g,rfl⟩
 | ok y =>
   obtain ⟨x1,j1⟩:=y
   obtain ⟨g,⟨u,rfl,rfl⟩,A⟩:=h.ok r1
   obtain ⟨lo1,hi1,mv1,le1⟩:=num_ok HX.out r1
   have E1:=qhi r1
   have Q1:=qhi (S0.out.step g A)
   have pc1:=fun i => qcb Q1.out.par i
   have pc10:=pc1 0
   have pc11:=pc1 1
   have pc12:=pc1 2
   have pc13:=pc1 3
   have pc14:=pc1 4
   have pc15:=pc1 5
   have pc16:=pc1 6
   have fc1:=fun i => qcb Q1.out.frm i
   have fc10:=fc1 0
   have fc11:=fc1 1
   have fc12:=fc1 2
   have fc13:=fc1 3
   have fc14:=fc1 4
   have fc15:=fc1 5
   have fc16:=fc1 6
   have fc17:=fc1 7
   have ff1:=qub Q1.out.frm
   have S1:=qhi (Q1.out.put 1 (.int .i64 x1))
   clear h g A r1
   go_wp2_with fail
   refine (Calls.mono (number_any p _ xs j1 _ S1.out.tab S1.out.at_ S1.out.rd HX.out (by omega)) ?_)
   rintro e w4 h
   cases r2 : num xs j1 with
   | error y =>
     obtain ⟨y,z⟩:=y
     have HE : Hid (restR xs a 8 bt (a + 1) = .error (y,z)):=by show _ = _;unfold restR;simp only [Int.reduceEq,if_false,if_true,or_false,or_true,false_or,true_or,reduceIte];rw [thn_ok E1.out];exact thn_err (by unfold offR;rw [if_neg (by omega)];exact r2)
     obtain ⟨g,rfl⟩:=h.err r2
     refine ⟨rfl,?_⟩
     rw [HE.out]
     exact ⟨grownBy_trans S1.out.gr g,rfl⟩
   | ok y =>
     obtain ⟨x2,j2⟩:=y
     obtain ⟨g,⟨u,rfl,rfl⟩,A⟩:=h.ok r2
     obtain ⟨lo2,hi2,mv2,le2⟩:=num_ok HX.out r2
     have E2:=qhi r2
     have Q2:=qhi (S1.out.step g A)
     have pc2:=fun i => qcb Q2.out.par i
     have pc20:=pc2 0
     have pc21:=pc2 1
     have pc22:=pc2 2
     have pc23:=pc2 3
     have pc24:=pc2 4
     have pc25:=pc2 5
     have pc26:=pc2 6
     have fc2:=fun i => qcb Q2.out.frm i
     have fc20:=fc2 0
     have fc21:=fc2 1
     have fc22:=fc2 2
     have fc23:=fc2 3
     have fc24:=fc2 4
     have fc25:=fc2 5
     have fc26:=fc2 6
     have fc27:=fc2 7
     have ff2:=qub Q2.out.frm
     have S2:=qhi (Q2.out.put 2 (.int .i64 x2))
     clear h g A r2
     go_wp2_with fail
     refine (Calls.mono (count_left p _ xs j2 bt _ hb2 S2.out.at_ S2.out.rd (by omega)) ?_)
     rintro e w5 h
     obtain ⟨g,⟨u,rfl,rfl⟩,A⟩:=h.ok rfl
     have EC : Hid (countR xs bt j2 = .ok ((xs.length : Int) - j2,j2)):=by show _ = _;unfold countR;exact if_pos e2
     have Q3:=qhi (S2.out.step g A)
     have pc3:=fun i => qcb Q3.out.par i
     have pc30:=pc3 0
     have pc31:=pc3 1
     have pc32:=pc3 2
     have pc33:=pc3 3
     have pc34:=pc3 4
     have pc35:=pc3 5
     have pc36:=pc3 6
     have fc3:=fun i => qcb Q3.out.frm i
     have fc30:=fc3 0
     have fc31:=fc3 1
     have fc32:=fc3 2
     have fc33:=fc3 3
     have fc34:=fc3 4
     have fc35:=fc3 5
     have fc36:=fc3 6
     have fc37:=fc3 7
     have ff3:=qub Q3.out.frm
     have S3:=Q3
     clear h g A
     have flw : IntKind.i64.wrap (4611686018427387903 - x2) = 4611686018427387903 - x2:=wraps_i64'1 _ (by omega) (by omega)
     by_cases hfl : (4611686018427387903 : Int) - x2 < ((xs.length : Int) - j2)
     ·have tfl : decide (4611686018427387903 - x2 < ((xs.length : Int) - j2)) = true:=qdt (by omega)
      have HE : Hid (restR xs a 8 bt (a + 1) = .error (7,a)):=by show _ = _;unfold restR;simp only [Int.reduceEq,if_false,if_true,or_false,or_true,false_or,true_or,reduceIte];rw [thn_ok E1.out];rw [thn_ok (by unfold offR;rw [if_neg (by omega)];exact E2.out)];rw [thn_ok EC.out];exact thn_err (if_pos hfl)
      go_wp2_with (go_at_call 120;refine (breakOff_any _ _ _ _).mono ?_;rintro e w' ⟨rfl,rfl⟩)
      refine ⟨rfl,?_⟩
      rw [HE.out]
      exact ⟨S3.out.gr,rfl⟩
     have ET0 : ∀ jj,Hid (tailR xs a x2 ((xs.length : Int) - j2) jj = dataR xs jj ((xs.length : Int) - j2)):=fun jj => if_neg hfl
     have tfl : decide (4611686018427387903 - x2 < ((xs.length : Int) - j2)) = false:=qdf (by omega)
     go_wp2_with fail
     refine (Calls.mono (data_any4 p b o cp xs j2 ((xs.length : Int) - j2) _ S3.out.at_ S3.out.rd (by omega) (by omega) hbig hbp) ?_)
     rintro e w6 h
     cases r4 : dataR xs j2 ((xs.length : Int) - j2) with
     | error y =>
       obtain ⟨y,z⟩:=y
       have HE : Hid (restR xs a 8 bt (a + 1) = .error (y,z)):=by show _ = _;unfold restR;simp only [Int.reduceEq,if_false,if_true,or_false,or_true,false_or,true_or,reduceIte];rw [thn_ok E1.out];rw [thn_ok (by unfold offR;rw [if_neg (by omega)];exact E2.out)];rw [thn_ok EC.out];exact thn_err ((ET0 _).out.trans r4)
       obtain ⟨g,rfl⟩:=h.err r4
       refine ⟨rfl,?_⟩
       rw [HE.out]
       exact ⟨grownBy_trans S3.out.gr g,rfl⟩
     | ok y =>
       obtain ⟨x4,j4⟩:=y
       obtain ⟨g,⟨u4,rfl,O4⟩,A⟩:=h.ok r4
       have E4:=qhi r4
       obtain ⟨ua,uc,rfl⟩:=Own.len O4
       have Q4:=qhi (S3.out.step g A)
       have pc4:=fun i => qcb Q4.out.par i
       have pc40:=pc4 0
       have pc41:=pc4 1
       have pc42:=pc4 2
       have pc43:=pc4 3
       have pc44:=pc4 4
       have pc45:=pc4 5
       have pc46:=pc4 6
       have fc4:=fun i => qcb Q4.out.frm i
       have fc40:=fc4 0
       have fc41:=fc4 1
       have fc42:=fc4 2
       have fc43:=fc4 3
       have fc44:=fc4 4
       have fc45:=fc4 5
       have fc46:=fc4 6
       have fc47:=fc4 7
       have ff4:=qub Q4.out.frm
       have S4:=qhi (Q4.out.put 6 (.slice ua x4.length uc))
       clear h g A r4
       have rc:=fun i => qcb Q4.out.res i
       have rc0:=rc 0
       have rc1:=rc 1
       have rc2:=rc 2
       have rc3:=rc 3
       have rc4:=rc 4
       have rc5:=rc 5
       have rc6:=rc 6
       have rc7:=rc 7
       have rf:=qub Q4.out.res
       have HE : Hid (restR xs a 8 bt (a + 1) = .ok ((⟨8,x1,x2,0,0,(bt % 2 != 0),x4,[]⟩ : Fr),j4)):=by show _ = _;unfold restR;simp only [Int.reduceEq,if_false,if_true,or_false,or_true,false_or,true_or,reduceIte];rw [thn_ok E1.out];rw [thn_ok (by unfold offR;rw [if_neg (by omega)];exact E2.out)];rw [thn_ok EC.out];rw [thn_ok ((ET0 _).out.trans E4.out)]
       go_wp2_with fail
       have nRF : ¬ (w.heap.size = w2.heap.size + 1):=by omega
       refine bodyPost_ret (v:=.agg #[.int .i64 8,.int .i64 x1,.int .i64 x2,.int .i64 0,.int .i64 0,.bool (bt % 2 != 0),.slice ua x4.length uc,.slice none 0 0]) (by simp [results,Tryz.results121,go_sem,rc0,rc1,rc2,rc3,rc4,rc5,rc6,rc7,nRF]) rfl ?_
       rw [HE.out]
       obtain ⟨G,A⟩:=S4.out.done (set8 _ w.heap.size (.int .i64 8) (.int .i64 x1) (.int .i64 x2) (.int .i64 0) (.int .i64 0) (.bool (bt % 2 != 0)) (.slice ua x4.length uc) (.slice none 0 0))
       have lF:=(qgs S3.out.frm).1
       have bl:=Own.blk O4
       have OF:=Own.mono (Own.kept (Own.kept O4 (row:=some (w2.heap.size + 1)) (grownBy_set (World.grownBy.refl _ _) ⟨w2.heap.size + 1,6,none⟩ (.slice ua x4.length uc) (.inl rfl)) (fun jj hj e => by have:=bl jj hj;simp only [Option.some.injEq] at e;omega)) (set8 _ w.heap.size (.int .i64 8) (.int .i64 x1) (.int .i64 x2) (.int .i64 0) (.int .i64 0) (.bool (bt % 2 != 0)) (.slice ua x4.length uc) (.slice none 0 0)) (fun jj hj e => by have:=bl jj hj;simp only [Option.some.injEq] at e;omega)) S3.out.gr.size
       exact ⟨G,⟨_,rfl,_,_,rfl,OF,OwnS.nil _ _⟩,A⟩
theorem frame_811 (p b o cp : Nat) (xs : List Int) (a : Nat)
  (bt : Int) (hb1 : bits .and .i64 bt 1 = bt % 2) (hb4 : bits .and .i64 bt 4 = 4) (e4 : bt / 4 % 2 = 1) (hb2 : bits .and .i64 bt 2 = 2) (e2 : bt / 2 % 2 = 1) (w : World) (ht : Tab w) (hA : At w p (.slice (some ⟨b,o,none⟩) xs.length cp) a) (hr : Rd .u8 w (.slice (some ⟨b,o,none⟩) xs.length cp) xs) (hx : Bts xs) (ha : a < xs.length) (hbig : xs.length ≤ 1048576) (hp0 : 0 < p) (hbp : b ≠ p) (hb : b < w.heap.size)
  (hk : kindR xs a = .ok ((8,bt),a + 1)) :
  Calls Tryz.prog 121 #[.pointer (some ⟨p,0,none⟩)] w (StepIs (frV w.heap.size) w p (.slice (some ⟨b,o,none⟩) xs.length cp) (restR xs a 8 bt (a + 1))):=by
 have hlt:=hA.lt
 have c1:=hA.c1
 have HK:=qhi hk
 have HX:=qhi hx
 have bW : Below w.heap.size w (w.alloc (.cells #[.int .i64 0,.int .i64 0,.int .i64 0,.int .i64 0,.int .i64 0,.bool false,.slice none 0 0,.slice none 0 0] 102)):=(qbr _ _).alloc (qlr _) _
 have HT:=qhi (ht.below bW ht.pos)
 have HR:=qhi (hr.below bW)
 have HA:=qhi (hA.alloc (.cells #[.int .i64 0,.int .i64 0,.int .i64 0,.int .i64 0,.int .i64 0,.bool false,.slice none 0 0,.slice none 0 0] 102))
 have hfree : Hid (∀ j,(Value.slice (some ⟨b,o,none⟩) xs.length cp).ownBlock = some j → some p ≠ some j):=fun j hj e => hbp (by simp only [Value.ownBlock,Option.some.injEq] at hj;cases e;exact hj)
 have hold : Hid (∀ j,(Value.slice (some ⟨b,o,none⟩) xs.length cp).ownBlock = some j → j < w.heap.size):=fun j hj => by simp only [Value.ownBlock,Option.some.injEq] at hj;omega
 have KA:=qhi (kind_any p b o xs.length cp xs a _ HA.out HR.out rfl hx ha hbig)
 have PA : Hid (∀ V : World,Calls Tryz.prog 159 #[.int .i64 8] V fun e w' => e = .returned (.tuple #[.agg #[.bool true,.bool false,.bool true,.bool false,.bool false,.bool true,.bool true],.bool true]) ∧ Below V.heap.size V w'):=fun V => partsOf_any 8 V
 have FN : Hid (∀ e W',StepIs (frV w.heap.size) w p (.slice (some ⟨b,o,none⟩) xs.length cp) (restR xs a 8 bt (a + 1)) e W' → StepIs (frV w.heap.size) w p (.slice (some ⟨b,o,none⟩) xs.length cp) (restR xs a 8 bt (a + 1)) e W'):=fun _ _ h => h
 clear hk hx ht hr hA bW FN
 go_enter Tryz.func121,Tryz.ntmps121
 go_wp2_with fail
 refine KA.out.mono ?_
 rintro e w1 h1
 obtain ⟨g1,⟨u,rfl,rfl⟩,A1⟩:=h1.ok HK.out
 go_wp2_with fail
 refine (PA.out _).mono ?_
 rintro e w2 ⟨rfl,b2⟩
 have q1:=block_kept (alloc_at4 w (.cells #[.int .i64 0,.int .i64 0,.int .i64 0,.int .i64 0,.int .i64 0,.bool false,.slice none 0 0,.slice none 0 0] 102)) g1 (by simp;omega)
 have S0:=qhi (FS.start (cs:=#[.int .i64 8,.int .i64 0,.int .i64 0,.int .i64 0,.int .i64 0,.bool (bt % 2 != 0),.slice none 0 0,.slice none 0 0]) (ps:=#[.bool true,.bool false,.bool true,.bool false,.bool false,.bool true,.bool true]) (A1.kept b2) (grownBy_trans (grownBy_trans (World.grownBy_alloc w _ _) g1) (grownBy_of_below b2)) ((HT.out.kept g1 hp0).below b2 (HT.out.kept g1 hp0).pos) ((HR.out.kept g1 hfree.out).below b2) ((b2.block _ (qgs q1).1).trans q1) hlt (qlr _) hp0 hfree.out hold.out)
 have z1 : w.heap.size < w1.heap.size:=(qgs q1).1
 have z2:=b2.size
 clear g1 q1 A1 KA HT HR HA
 go_wp2_with fail
 refine (Calls.mono (number_any p _ xs (a + 1) _ S0.out.tab S0.out.at_ S0.out.rd HX.out (by omega)) ?_)
 rintro e w3 h
 cases r1 : num xs (a + 1) with
 | error y =>
   obtain ⟨y,z⟩:=y
   have HE : Hid (restR xs a 8 bt (a + 1) = .error (y,z)):=by show _ = _;unfold restR;simp only [Int.reduceEq,if_false,if_true,or_false,or_true,false_or,true_or,reduceIte];exact thn_err r1
   obtain ⟨g,rfl⟩:=h.err r1
   refine ⟨rfl,?_⟩
   rw [HE.out]
   exact ⟨grownBy_trans S0.out.gr g,rfl⟩
 | ok y =>
   obtain ⟨x1,j1⟩:=y
   obtain ⟨g,⟨u,rfl,rfl⟩,A⟩:=h.ok r1
   obtain ⟨lo1,hi1,mv1,le1⟩:=num_ok HX.out r1
   have E1:=qhi r1
   have Q1:=qhi (S0.out.step g A)
   have pc1:=fun i => qcb Q1.out.par i
   have pc10:=pc1 0
   have pc11:=pc1 1
   have pc12:=pc1 2
   have pc13:=pc1 3
   have pc14:=pc1 4
   have pc15:=pc1 5
   have pc16:=pc1 6
   have fc1:=fun i => qcb Q1.out.frm i
   have fc10:=fc1 0
   have fc11:=fc1 1
   have fc12:=fc1 2
   have fc13:=fc1 3
   have fc14:=fc1 4
   have fc15:=fc1 5
   have fc16:=fc1 6
   have fc17:=fc1 7
   have ff1:=qub Q1.out.frm
   have S1:=qhi (Q1.out.put 1 (.int .i64 x1))
   clear h g A r1
   go_wp2_with fail
   refine (Calls.mono (number_any p _ xs j1 _ S1.out.tab S1.out.at_ S1.out.rd HX.out (by omega)) ?_)
   rintro e w4 h
   cases r2 : num xs j1 with
   | error y =>
     obtain ⟨y,z⟩:=y
     have HE : Hid (restR xs a 8 bt (a + 1) = .error (y,z)):=by show _ = _;unfold restR;simp only [Int.reduceEq,if_false,if_true,or_false,or_true,false_or,true_or,reduceIte];rw [thn_ok E1.out];exact thn_err (by unfold offR;rw [if_neg (by omega)];exact r2)
     obtain ⟨g,rfl⟩:=h.err r2
     refine ⟨rfl,?_⟩
     rw [HE.out]
     exact ⟨grownBy_trans S1.out.gr g,rfl⟩
   | ok y =>
     obtain ⟨x2,j2⟩:=y
     obtain ⟨g,⟨u,rfl,rfl⟩,A⟩:=h.ok r2
     obtain ⟨lo2,hi2,mv2,le2⟩:=num_ok HX.out r2
     have E2:=qhi r2
     have Q2:=qhi (S1.out.step g A)
     have pc2:=fun i => qcb Q2.out.par i
     have pc20:=pc2 0
     have pc21:=pc2 1
     have pc22:=pc2 2
     have pc23:=pc2 3
     have pc24:=pc2 4
     have pc25:=pc2 5
     have pc26:=pc2 6
     have fc2:=fun i => qcb Q2.out.frm i
     have fc20:=fc2 0
     have fc21:=fc2 1
     have fc22:=fc2 2
     have fc23:=fc2 3
     have fc24:=fc2 4
     have fc25:=fc2 5
     have fc26:=fc2 6
     have fc27:=fc2 7
     have ff2:=qub Q2.out.frm
     have S2:=qhi (Q2.out.put 2 (.int .i64 x2))
     clear h g A r2
     go_wp2_with fail
     refine (Calls.mono (count_num p _ xs j2 bt _ hb2 S2.out.tab S2.out.at_ S2.out.rd HX.out (by omega)) ?_)
     rintro e w5 h
     cases r3 : num xs j2 with
     | error y =>
       obtain ⟨y,z⟩:=y
       have HE : Hid (restR xs a 8 bt (a + 1) = .error (y,z)):=by show _ = _;unfold restR;simp only [Int.reduceEq,if_false,if_true,or_false,or_true,false_or,true_or,reduceIte];rw [thn_ok E1.out];rw [thn_ok (by unfold offR;rw [if_neg (by omega)];exact E2.out)];exact thn_err (by unfold countR;rw [if_neg (by omega)];exact r3)
       obtain ⟨g,rfl⟩:=h.err r3
       refine ⟨rfl,?_⟩
       rw [HE.out]
       exact ⟨grownBy_trans S2.out.gr g,rfl⟩
     | ok y =>
       obtain ⟨x3,j3⟩:=y
       obtain ⟨g,⟨u,rfl,rfl⟩,A⟩:=h.ok r3
       obtain ⟨lo3,hi3,mv3,le3⟩:=num_ok HX.out r3
       have E3:=qhi r3
       have Q3:=qhi (S2.out.step g A)
       have pc3:=fun i => qcb Q3.out.par i
       have pc30:=pc3 0
       have pc31:=pc3 1
       have pc32:=pc3 2
       have pc33:=pc3 3
       have pc34:=pc3 4
       have pc35:=pc3 5
       have pc36:=pc3 6
       have fc3:=fun i => qcb Q3.out.frm i
       have fc30:=fc3 0
       have fc31:=fc3 1
       have fc32:=fc3 2
       have fc33:=fc3 3
       have fc34:=fc3 4
       have fc35:=fc3 5
       have fc36:=fc3 6
       have fc37:=fc3 7
       have ff3:=qub Q3.out.frm
       have S3:=Q3
       clear h g A r3
       have flw : IntKind.i64.wrap (4611686018427387903 - x2) = 4611686018427387903 - x2:=wraps_i64'1 _ (by omega) (by omega)
       by_cases hfl : (4611686018427387903 : Int) - x2 < x3
       ·have tfl : decide (4611686018427387903 - x2 < x3) = true:=qdt (by omega)
        have HE : Hid (restR xs a 8 bt (a + 1) = .error (7,a)):=by show _ = _;unfold restR;simp only [Int.reduceEq,if_false,if_true,or_false,or_true,false_or,true_or,reduceIte];rw [thn_ok E1.out];rw [thn_ok (by unfold offR;rw [if_neg (by omega)];exact E2.out)];rw [thn_ok (by unfold countR;rw [if_neg (by omega)];exact E3.out)];exact thn_err (if_pos hfl)
        go_wp2_with (go_at_call 120;refine (breakOff_any _ _ _ _).mono ?_;rintro e w' ⟨rfl,rfl⟩)
        refine ⟨rfl,?_⟩
        rw [HE.out]
        exact ⟨S3.out.gr,rfl⟩
       have ET0 : ∀ jj,Hid (tailR xs a x2 x3 jj = dataR xs jj x3):=fun jj => if_neg hfl
       have tfl : decide (4611686018427387903 - x2 < x3) = false:=qdf (by omega)
       go_wp2_with fail
       refine (Calls.mono (data_any4 p b o cp xs j3 x3 _ S3.out.at_ S3.out.rd (by omega) (by omega) hbig hbp) ?_)
       rintro e w6 h
       cases r4 : dataR xs j3 x3 with
       | error y =>
         obtain ⟨y,z⟩:=y
         have HE : Hid (restR xs a 8 bt (a + 1) = .error (y,z)):=by show _ = _;unfold restR;simp only [Int.reduceEq,if_false,if_true,or_false,or_true,false_or,true_or,reduceIte];rw [thn_ok E1.out];rw [thn_ok (by unfold offR;rw [if_neg (by omega)];exact E2.out)];rw [thn_ok (by unfold countR;rw [if_neg (by omega)];exact E3.out)];exact thn_err ((ET0 _).out.trans r4)
         obtain ⟨g,rfl⟩:=h.err r4
         refine ⟨rfl,?_⟩
         rw [HE.out]
         exact ⟨grownBy_trans S3.out.gr g,rfl⟩
       | ok y =>
         obtain ⟨x4,j4⟩:=y
         obtain ⟨g,⟨u4,rfl,O4⟩,A⟩:=h.ok r4
         have E4:=qhi r4
         obtain ⟨ua,uc,rfl⟩:=Own.len O4
         have Q4:=qhi (S3.out.step g A)
         have pc4:=fun i => qcb Q4.out.par i
         have pc40:=pc4 0
         have pc41:=pc4 1
         have pc42:=pc4 2
         have pc43:=pc4 3
         have pc44:=pc4 4
         have pc45:=pc4 5
         have pc46:=pc4 6
         have fc4:=fun i => qcb Q4.out.frm i
         have fc40:=fc4 0
         have fc41:=fc4 1
         have fc42:=fc4 2
         have fc43:=fc4 3
         have fc44:=fc4 4
         have fc45:=fc4 5
         have fc46:=fc4 6
         have fc47:=fc4 7
         have ff4:=qub Q4.out.frm
         have S4:=qhi (Q4.out.put 6 (.slice ua x4.length uc))
         clear h g A r4
         have rc:=fun i => qcb Q4.out.res i
         have rc0:=rc 0
         have rc1:=rc 1
         have rc2:=rc 2
         have rc3:=rc 3
         have rc4:=rc 4
         have rc5:=rc 5
         have rc6:=rc 6
         have rc7:=rc 7
         have rf:=qub Q4.out.res
         have HE : Hid (restR xs a 8 bt (a + 1) = .ok ((⟨8,x1,x2,0,0,(bt % 2 != 0),x4,[]⟩ : Fr),j4)):=by show _ = _;unfold restR;simp only [Int.reduceEq,if_false,if_true,or_false,or_true,false_or,true_or,reduceIte];rw [thn_ok E1.out];rw [thn_ok (by unfold offR;rw [if_neg (by omega)];exact E2.out)];rw [thn_ok (by unfold countR;rw [if_neg (by omega)];exact E3.out)];rw [thn_ok ((ET0 _).out.trans E4.out)]
         go_wp2_with fail
         have nRF : ¬ (w.heap.size = w2.heap.size + 1):=by omega
         refine bodyPost_ret (v:=.agg #[.int .i64 8,.int .i64 x1,.int .i64 x2,.int .i64 0,.int .i64 0,.bool (bt % 2 != 0),.slice ua x4.length uc,.slice none 0 0]) (by simp [results,Tryz.results121,go_sem,rc0,rc1,rc2,rc3,rc4,rc5,rc6,rc7,nRF]) rfl ?_
         rw [HE.out]
         obtain ⟨G,A⟩:=S4.out.done (set8 _ w.heap.size (.int .i64 8) (.int .i64 x1) (.int .i64 x2) (.int .i64 0) (.int .i64 0) (.bool (bt % 2 != 0)) (.slice ua x4.length uc) (.slice none 0 0))
         have lF:=(qgs S3.out.frm).1
         have bl:=Own.blk O4
         have OF:=Own.mono (Own.kept (Own.kept O4 (row:=some (w2.heap.size + 1)) (grownBy_set (World.grownBy.refl _ _) ⟨w2.heap.size + 1,6,none⟩ (.slice ua x4.length uc) (.inl rfl)) (fun jj hj e => by have:=bl jj hj;simp only [Option.some.injEq] at e;omega)) (set8 _ w.heap.size (.int .i64 8) (.int .i64 x1) (.int .i64 x2) (.int .i64 0) (.int .i64 0) (.bool (bt % 2 != 0)) (.slice ua x4.length uc) (.slice none 0 0)) (fun jj hj e => by have:=bl jj hj;simp only [Option.some.injEq] at e;omega)) S3.out.gr.size
         exact ⟨G,⟨_,rfl,_,_,rfl,OF,OwnS.nil _ _⟩,A⟩
end Go.Proofs.YtmcomdmcmnbhlaaGreatDoor
