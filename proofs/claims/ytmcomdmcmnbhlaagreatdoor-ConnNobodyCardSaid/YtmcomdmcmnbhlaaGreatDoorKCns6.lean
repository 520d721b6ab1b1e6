import Derived.Test.YtmcomdmcmnbhlaaGreatDoorKCns5
import Derived.Test.YtmcomdmcmnbhlaaGreatDoorKCns1
import Derived.Test.YtmcomdmcmnbhlaaGreatDoorKCn3
import Derived.Test.YtmcomdmcmnbhlaaGreatDoorKSp0
import Derived.Test.YtmcomdmcmnbhlaaGreatDoorKRt0
import Derived.StillTailTactics
import Derived.Test.YtmcomdmcmnbhlaaGreatDoorKCns2
set_option maxRecDepth 100000
set_option maxHeartbeats 25600000
set_option linter.unusedSimpArgs false
set_option linter.unusedVariables false
set_option linter.unnecessarySimpa false
namespace Go.Proofs.YtmcomdmcmnbhlaaGreatDoor
open Go.RowKit Go.Maps
theorem owns0 {w : World} {B e m n : Nat} {v : Value} {xs : List Value} (h : w.ownsRow B e m v n xs) : w.ownsRow 0 e m v n xs:=by
 obtain ⟨h1,h2 | ⟨g,cap,cur,a1,a2,a3⟩⟩:=h
 ·exact ⟨h1,.inl h2⟩
 ·exact ⟨h1,.inr ⟨g,cap,cur,a1,Nat.zero_le _,a3⟩⟩
theorem fresh_color (c : Col) (n k : Nat) : ∃ Z,k < Z ∧ ∀ j,j < n → c j < Z:=by
 induction n with
 | zero => exact ⟨k + 1,by omega,fun j hj => by omega⟩
 | succ n ih =>
   obtain ⟨Z,h1,h2⟩:=ih
   refine ⟨max Z (c n + 1),by omega,fun j hj => ?_⟩
   by_cases h : j = n
   ·subst h;omega
   ·have:=h2 j (by omega);omega
theorem Gin.narrow {X : Nat → List Int} {F : Nat → Bool} {B g n : Nat} {fs : List Fr} {room : Int} {ps : List Pt} {w : World} (h : Gin X F B g n fs room ps w) (s : Int) (hs : 0 ≤ s ∧ s ≤ 4611686018427387903) :
  Calls Tryz.prog 34 #[.pointer (some ⟨g,0,none⟩),.int .i64 s] w fun e w' => e = .returned (.tuple #[]) ∧ Below B w w' ∧ ∃ room',Gin X F B g n fs room' ps w' ∧ (2000 ≤ s → 1000 ≤ room → 100 ≤ room'):=by
 have h2:=h.sum
 have h3:=h.low
 have h5:=h.len
 refine (narrow_any h.gm (by omega) s hs).mono ?_
 rintro e w' ⟨rfl,h1,hb⟩
 exact ⟨rfl,hb,_,⟨h1,h.may,h.many,by omega,by omega,h.bts,h.says,h.parts,h.few,h.num,h.len⟩,fun h6 h7 => by omega⟩
theorem Gin.made {X : Nat → List Int} {F : Nat → Bool} {B g n : Nat} {w : World} (hn : n < 1048576) (h : Gm B g n (4 :: be n 4) 0 1187 [] w) : Gin X F B g n [] 1187 [] w:=by
 have e : bodyOf n [] = 4 :: be n 4:=by simp [bodyOf,encFs]
 refine ⟨by rw [e];exact h,rfl,by simp,?_,by omega,(fun f hf => by cases hf),(fun f hf => by cases hf),(fun f hf => by cases hf),by simp,hn,by rw [e,List.length_cons,be_len];omega⟩
 rw [e,List.length_cons,be_len];omega
theorem room_in (q : St7) : 0 ≤ roomI q ∧ roomI q ≤ 1073741824:=by
 unfold roomI
 split
 ·rename_i h
  have:=right_iff.1 h
  split <;> omega
 ·omega
structure EUp (q q' : EQ) : Prop where
 role : q'.role = q.role
 key : q'.key = q.key
 time : q.time ≤ q'.time
 ws : ∀ i,i < 4 → WSub (q.ws i) (q'.ws i)
 rs : ∀ i,i < 4 → (q'.rs i).st = (q.rs i).st
 came : q'.came = q.came
 cv : q'.cv = q.cv
theorem EUp.trans {a b d : EQ} (h : EUp a b) (k : EUp b d) : EUp a d:=⟨k.role.trans h.role,k.key.trans h.key,Int.le_trans h.time k.time,fun i hi => (h.ws i hi).trans (k.ws i hi),fun i hi => (k.rs i hi).trans (h.rs i hi),k.came.trans h.came,k.cv.trans h.cv⟩
theorem EUp.sub {q q' : EQ} (h : ESub q q') : EUp q q':=⟨by rw [h.same],by rw [h.same],by rw [h.same];exact Int.le_refl _,h.ws,h.rs,by rw [h.same],by rw [h.same]⟩
def sealK (q : EQ) : Int:=bits .xor .u64 q.key (q.role + 1)
def ToldG (X : Nat → List Int) (F : Nat → Bool) (q q' : EQ) (bs : List Int) : Prop :=
 (bs = [] ∧ q'.next = q.next) ∨ (q'.next = q.next + 1 ∧ ∃ fs,bs = sealL (sealK q) (bodyOf q.next.toNat fs) ∧ GramOk q.next.toNat fs ∧ ∀ f ∈ fs,SayF X F f)
theorem Gin.good {X : Nat → List Int} {F : Nat → Bool} {B g n : Nat} {fs : List Fr} {room : Int} {ps : List Pt} {w : World} (h : Gin X F B g n fs room ps w) (h0 : fs ≠ []) : GramOk n fs:=by
 have hl:=h.len
 have e : (bodyOf n fs).length = 1 + (be n 4).length + (encFs fs).length:=by simp [bodyOf];omega
 refine ⟨h.num,h0,?_,by omega,h.bts⟩
 have hm:=h.many
 unfold encL
 rw [if_neg (by omega),if_pos h.may,if_neg (by omega)]
structure AlvQ (q : EQ) : Prop where
 w0 : q.ws 0 = twoQ
 w1 : ∀ i,0 < i → i < 4 → (q.ws i).rest = []
 due : ∀ i,i < 4 → dueR (q.rs i) = false
 turn : q.turn = 0
 asked : q.asked = false
 out : q.fl.lg.l = []
 win : q.fl.win = ⟨12000,0,0,-1,0⟩
def Stepped (c : Col) (K e : Nat) (X : Nat → List Int) (F : Nat → Bool) (Y : Nat → List Int) (G : Nat → Bool) (q : EQ) (Z : Nat) (w : World) (r : Ending) (w' : World) : Prop :=
 ∃ (c' : Col) (q' : EQ) (u : Value) (bs : List Int),r = .returned u ∧ EOk c' K e X F Y G q' w' ∧ Stp c c' (fun i => EndC K i ∨ i = Z) w w' ∧ (∀ j,w.heap.size ≤ j → EndC K (c' j) ∨ c' j = Z) ∧ EUp q q' ∧ q'.asked = false ∧
  Own .u8 5 w' w.heap.size u bs ∧ (∀ j,u.ownBlock = some j → c' j = Z) ∧ ToldG X F q q' bs ∧ (AlvQ q → X 0 = [97] → bs = sealL (sealK q) (bodyOf q.next.toNat [strFr 0 0 true [97]]) ∧ q'.ws 0 = twoT)
theorem estep0 {c : Col} {K e Z : Nat} {X : Nat → List Int} {F : Nat → Bool} {Y : Nat → List Int} {G : Nat → Bool} {q : EQ} {w : World} {N : Nat} (ht : Tab w) (h : EOk c K e X F Y G q w) (hc : ∀ j,w.heap.size ≤ j → c j = Z) (hz : ¬ EndC K Z) (hw : c 0 ≠ Z ∧ ¬ EndC K (c 0))
  (hX : ∀ i,i < 4 → ((X i).length : Int) ≤ 4398046511104 ∧ Bts (X i)) (hY : ∀ i,i < 4 → ((Y i).length : Int) ≤ 4398046511104) (ha : q.asked = true → q.came ≠ []) (hN : q.next = (N : Int)) (hN2 : N < 1048575) (now : Int) :
  Calls Tryz.prog 15 #[.pointer (some ⟨e,0,none⟩),.int .i64 now] w (Stepped c K e X F Y G q Z w):=by
 have H:=qhi h
 have HT:=qhi ht
 have HC:=qhi hc
 have HZ:=qhi hz
 have HW:=qhi hw
 have HX:=qhi hX
 have HY:=qhi hY
 have HA:=qhi ha
 have HN:=qhi hN
 have HN2:=qhi hN2
 have MA:=qhi (emade w h.fly.cells.c0.1)
 have LA:=qhi (later_any h.cell now)
 obtain ⟨T,hT⟩ : ∃ T,T = laterE q.time now:=⟨_,rfl⟩
 rw [← hT] at LA
 have hfit:=later_fits h.num.time (now:=now)
 rw [← hT] at hfit
 have f2:=h.cell.c2.2
 have c2:=h.cell.c2.1
 obtain ⟨e1,s1,_⟩:=h.setTime T hfit
 have E1:=qhi e1
 have S1:=qhi s1
 have hel:=h.cell.c0.lt
 have HL0 : Hid (q.time ≤ T):=hfit.1
 clear h ht hc hz hw hX hY ha hN hN2 hT hfit e1 s1
 go_enter Tryz.func15,Tryz.ntmps15
 go_upto_region 4 with (first
  | (go_at_call 23;refine MA.out.mono ?_;rintro x w2 ⟨rfl,hw⟩;obtain rfl : w = w2:=hw.symm)
  | (go_at_call 29;refine LA.out.mono ?_;rintro x w2 ⟨rfl,hw⟩;obtain rfl : w = w2:=hw.symm))
 have SZ1 : Hid ((w.setCell ⟨e,2,none⟩ (.int .i64 T)).heap.size = w.heap.size):=(by simp [World.setCell] : _ = _)
 generalize w.setCell ⟨e,2,none⟩ (.int .i64 T) = W1 at E1 S1 SZ1 ⊢
 clear c2 f2
 obtain ⟨q1,hq1⟩ : ∃ q1,q1 = ({ q with time:=T } : EQ):=⟨_,rfl⟩
 have U1 : Hid (EUp q q1 ∧ q1.next = q.next ∧ q1.asked = q.asked ∧ q1.time = T ∧ q1.fl = q.fl):=by
  rw [hq1];exact ⟨⟨rfl,rfl,HL0.out,fun _ _ => WSub.refl _,fun _ _ => rfl,rfl,rfl⟩,rfl,rfl,rfl,rfl⟩
 have A1 : Hid (AlvQ q → AlvQ q1):=(fun h => by rw [hq1];exact ⟨h.w0,h.w1,h.due,h.turn,h.asked,h.out,h.win⟩ : AlvQ q → AlvQ q1)
 rw [← hq1] at E1
 have SW : Hid (Stp c c (fun i => EndC K i ∨ i = Z) w W1):=S1.out.mono (fun i hi => .inl (by unfold EndC;omega))
 clear hq1 S1
 have c2d : W1.drew.cell? ⟨e,2,none⟩ = some (.int .i64 T):=by
  have:=E1.out.cell.c2.1
  rw [U1.out.2.2.2.1] at this
  exact this
 have ED:=qhi (E1.out.below (qbd (qbr _ W1) 1))
 have SD : Hid (Stp c c (fun i => EndC K i ∨ i = Z) w W1.drew):=SW.out.trans (Stp.of_below (qbd (qbr _ W1) 1))
 have HLO:=qhi (flyLose T W1.drew ED.out.fly)
 go_region_law (first
  | (go_simp;go_at_call 31;refine HLO.out.mono ?_;rintro x w2 ⟨v',ns,win,d,lg,rfl,O,⟨hfew,hwf⟩,hfly,st,rg,hl0⟩;have L0:=qhi hl0;have E2:=qhi (ED.out.flies hfly st rg ED.out.num.last);have S2:=qhi (SD.out.trans (st.mono (fun i hi => .inl (by have:=ED.out.cell.ce;unfold EndC;omega))));have AG:=qhi (eagain v' ns w2 E2.out O.rd (by omega) (fun j hj hk => HZ.out (by have h1:=O.blk j hj;have h2:=SZ1.out;have h3 : W1.drew.heap.size = W1.heap.size:=rfl;rw [← HC.out j (by omega)];unfold Wrs at hk;unfold EndC;omega)) hwf);clear O hfew hwf hfly st rg hl0)
  | (go_simp;go_at_call 30;refine AG.out.mono ?_;rintro x w3 ⟨rfl,q3,e3,sub3,st3,_,ha0⟩;have A0:=qhi ha0;have E3:=qhi e3;have B3:=qhi sub3;have S3:=qhi (S2.out.trans (st3.mono (fun i hi => .inl (by unfold Wrs at hi;unfold EndC;omega))));clear e3 sub3 st3 ha0))
 have A3 : Hid (AlvQ q → AlvQ q3):=(fun h => by
  have h1:=A1.out h
  obtain ⟨n0,w0,_,g0⟩:=L0.out h1.out
  have e0:=(A0.out n0).2
  rw [e0]
  exact ⟨h1.w0,h1.w1,h1.due,h1.turn,h1.asked,g0 ▸ h1.out,w0 ▸ h1.win⟩ : AlvQ q → AlvQ q3)
 clear L0 A0 A1
 have U3 : Hid (EUp q q3 ∧ q3.next = (N : Int) ∧ q3.asked = q.asked):=⟨U1.out.1.trans (by have u:=EUp.sub B3.out;exact ⟨u.role,u.key,u.time,u.ws,u.rs,u.came,u.cv⟩),by rw [B3.out.same];exact U1.out.2.1.trans HN.out,by rw [B3.out.same];exact U1.out.2.2.1⟩
 have c36 : w3.cell? ⟨e,36,none⟩ = some (.int .i64 (N : Int)):=by
  have:=E3.out.cell.c36.1
  rw [U3.out.2.1] at this
  exact this
 have NG:=qhi (newGram_any N (by have:=HN2.out;omega) w3)
 obtain ⟨B,hB⟩ : ∃ B,B = w3.heap.size:=⟨_,rfl⟩
 have HB : Hid (w.heap.size ≤ B ∧ B = w3.heap.size):=⟨by rw [hB];exact S3.out.size,hB⟩
 have HCB : Hid (∀ j,B ≤ j → c j = Z):=fun j hj => HC.out j (by have:=HB.out.1;omega)
 rw [← hB] at NG
 clear hB HLO AG ED SD S2 E2 B3 c2d
 have HTS : Hid (∀ V,Stp c c (fun i => EndC K i ∨ i = Z) w V → Tab V):=fun V hV => HT.out.block (hV.block _ HT.out.pos (by have:=HW.out;rintro (h | h);exact this.2 h;exact this.1 h))
 go_upto_region 6 with (go_at_call 32;refine NG.out.mono ?_;rintro x w4 ⟨g,rfl,hgm,hb⟩;have B4:=qhi hb;have G4:=qhi (Gin.made (X:=X) (F:=F) (by have:=HN2.out;omega) hgm);clear hgm hb)
 have e4:=E3.out.over2 B4.out HCB.out HZ.out
 have E4:=qhi e4.1
 have S4:=qhi (S3.out.trans (e4.2.mono fun _ => .inr))
 clear e4 c36 NG B4
 have TA:=qhi (etellAck (HTS.out _ S4.out) E4.out G4.out HCB.out HZ.out (by rw [U3.out.2.2,U3.out.1.came];exact HA.out))
 go_upto_region 7 with (go_at_call 33;refine TA.out.mono ?_;rintro x w5 ⟨rfl,fs5,room5,ps5,g5,e5,s5,l5,p5⟩;have P5:=qhi p5;have G5:=qhi g5;have E5:=qhi e5;have S5:=qhi (S4.out.trans (s5.mono (fun i hi => hi.imp (fun h => by unfold Wrs at h;unfold EndC;omega) id)));clear g5 e5 s5 l5 p5)
 obtain ⟨q5,hq5⟩ : ∃ q5,q5 = ({ q3 with asked:=false } : EQ):=⟨_,rfl⟩
 have U5 : Hid (EUp q q5 ∧ q5.next = (N : Int) ∧ q5.asked = false):=by
  rw [hq5]
  exact ⟨U3.out.1.trans ⟨rfl,rfl,Int.le_refl _,fun _ _ => WSub.refl _,fun _ _ => rfl,rfl,rfl⟩,U3.out.2.1,rfl⟩
 have A5 : Hid (AlvQ q → AlvQ q5 ∧ fs5 = [] ∧ room5 = 1187):=(fun h => by
  have h1:=A3.out h
  rw [hq5]
  exact ⟨⟨h1.w0,h1.w1,h1.due,h1.turn,rfl,h1.out,h1.win⟩,P5.out h1.asked⟩ : AlvQ q → AlvQ q5 ∧ fs5 = [] ∧ room5 = 1187)
 clear P5 A3
 rw [← hq5] at E5
 clear hq5 TA G4 E4 S4
 have RM:=qhi (flyRoom w5 E5.out.fly)
 obtain ⟨s,hs⟩ : ∃ s,s = (if 512 ≤ q5.fl.lg.l.length then 0 else roomI q5.fl.win):=⟨_,rfl⟩
 rw [← hs] at RM
 have HS : Hid (0 ≤ s ∧ s ≤ 4611686018427387903):=by
  have:=room_in q5.fl.win
  show 0 ≤ s ∧ s ≤ 4611686018427387903
  rw [hs];split <;> omega
 have A6 : Hid (AlvQ q → 2000 ≤ s):=(fun h => by
  have h1:=(A5.out h).1
  rw [hs,h1.out,h1.win]
  decide : AlvQ q → 2000 ≤ s)
 clear hs
 go_upto_region 8 with (first
  | (go_at_call 35;refine RM.out.mono ?_;rintro x w6 ⟨rfl,hb⟩;have G6:=qhi (G5.out.below hb);have e6:=E5.out.over2 (hb.mono (Nat.le_of_lt G5.out.gm.lt)) HCB.out HZ.out;have E6:=qhi e6.1;have S6:=qhi (S5.out.trans (e6.2.mono fun _ => .inr));clear hb e6)
  | (go_at_call 34;refine (G6.out.narrow s HS.out).mono ?_;rintro x w7 ⟨rfl,hb,room7,g7,r7⟩;have R7:=qhi r7;have G7:=qhi g7;have e7:=E6.out.over2 hb HCB.out HZ.out;have E7:=qhi e7.1;have S7:=qhi (S6.out.trans (e7.2.mono fun _ => .inr));clear hb e7 g7 r7))
 have A7 : Hid (AlvQ q → 100 ≤ room7):=(fun h => R7.out (A6.out h) (by rw [(A5.out h).2.2];omega) : AlvQ q → 100 ≤ room7)
 clear R7 A6
 clear RM HS G5 E5 S5 G6 E6 S6
 have TL:=qhi (etellLimits (HTS.out _ S7.out) E7.out G7.out HCB.out HZ.out HW.out HY.out)
 go_upto_region 9 with (go_at_call 36;refine TL.out.mono ?_;rintro x w8 ⟨rfl,q8,fs8,room8,ps8,g8,e8,sub8,s8,l8,j8⟩;have J8:=qhi j8;have G8:=qhi g8;have E8:=qhi e8;have B8:=qhi sub8;have S8:=qhi (S7.out.trans (s8.mono (fun i hi => hi.imp (fun h => by unfold Wrs at h;unfold EndC;omega) id)));clear g8 e8 sub8 s8 l8 j8)
 have U8 : Hid (EUp q q8 ∧ q8.next = (N : Int) ∧ q8.asked = false):=⟨U5.out.1.trans (EUp.sub B8.out),by rw [B8.out.same];exact U5.out.2.1,by rw [B8.out.same];exact U5.out.2.2⟩
 have A8 : Hid (AlvQ q → X 0 = [97] → BytA X q8 fs8 room8):=(fun h hx => by
  have h1:=A5.out h
  obtain ⟨r1,r2,r3⟩:=J8.out h1.1.due
  rw [r1,r2,r3]
  exact ⟨h1.1.w0,h1.1.w1,h1.1.turn,h1.2.1,A7.out h,hx⟩ : AlvQ q → X 0 = [97] → BytA X q8 fs8 room8)
 clear TL G7 E7 S7 B8 J8 A7 A5
 have TB:=qhi (etellBytes (HTS.out _ S8.out) E8.out G8.out HCB.out HZ.out HW.out HX.out)
 go_upto_region 10 with (go_at_call 37;refine TB.out.mono ?_;rintro x w9 ⟨rfl,q9,tn,fs9,room9,ps9,g9,e9,sub9,s9,l9,j9⟩;have J9:=qhi j9;have G9:=qhi g9;have E9:=qhi e9;have B9:=qhi sub9;have S9:=qhi (S8.out.trans (s9.mono (fun i hi => hi.imp (fun h => by unfold Wrs at h;unfold EndC;omega) id)));clear g9 e9 sub9 s9 l9 j9)
 obtain ⟨qA,hqA⟩ : ∃ qA,qA = ({ q9 with turn:=tn } : EQ):=⟨_,rfl⟩
 have UA : Hid (EUp q qA ∧ qA.next = (N : Int) ∧ qA.asked = false):=by
  rw [hqA]
  exact ⟨(U8.out.1.trans (EUp.sub B9.out)).trans ⟨rfl,rfl,Int.le_refl _,fun _ _ => WSub.refl _,fun _ _ => rfl,rfl,rfl⟩,by show q9.next = _;rw [B9.out.same];exact U8.out.2.1,by show q9.asked = _;rw [B9.out.same];exact U8.out.2.2⟩
 have A9 : Hid (AlvQ q → X 0 = [97] → fs9 = [strFr 0 0 true [97]] ∧ qA.ws 0 = twoT):=(fun h hx => by rw [hqA];exact J9.out (A8.out h hx) : AlvQ q → X 0 = [97] → fs9 = [strFr 0 0 true [97]] ∧ qA.ws 0 = twoT)
 clear J9 A8
 rw [← hqA] at E9
 clear hqA TB G8 E8 S8 B9
 obtain ⟨bv,pv,hBg,hH,hbv,hpv⟩:=G9.out.gm
 obtain ⟨g0,g1,g2,g3,g4⟩:=hH.facts
 by_cases hfs : fs9 = []
 ·have AF : Hid (¬ (AlvQ q ∧ X 0 = [97])):=(fun h => by have:=(A9.out h.1 h.2).1;rw [hfs] at this;exact absurd this (by simp) : ¬ (AlvQ q ∧ X 0 = [97]))
  have hl0 : fs9.length = 0:=by rw [hfs];rfl
  have e0 : ((fs9.length : Int) == 0) = true:=by rw [hl0];rfl
  have e1 : (fs9.length == 0) = true:=by rw [hl0];rfl
  clear hbv hpv hH hfs hl0
  go_wp2_with fail
  go_ret
  exact ⟨c,qA,_,[],rfl,E9.out,S9.out,fun j hj => .inr (HC.out j hj),UA.out.1,UA.out.2.2,Own.nil _ _ _ _,fun j hj => (by cases hj),.inl ⟨rfl,UA.out.2.1.trans HN.out.symm⟩,fun h1 h2 => absurd ⟨h1,h2⟩ AF.out⟩
 ·have hl0 : fs9.length ≠ 0:=fun h => hfs (List.length_eq_zero_iff.1 h)
  have e0 : ((fs9.length : Int) == 0) = false:=by simpa using hfs
  have e1 : (fs9.length == 0) = false:=by simpa using hfs
  have GO:=qhi (G9.out.good hfs)
  have d36 : w9.cell? ⟨e,36,none⟩ = some (.int .i64 (N : Int)):=by
   have:=E9.out.cell.c36.1
   rw [UA.out.2.1] at this
   exact this
  have f36:=E9.out.cell.c36.2
  have hwn : IntKind.i64.wrap ((N : Int) + 1) = (N : Int) + 1:=by rw [IntKind.wrap_i64];have:=HN2.out;omega
  obtain ⟨e10,s10,_⟩:=E9.out.setNext ((N : Int) + 1) (by have h1:=UA.out.2.1;have:=HN2.out;omega)
  have E10:=qhi e10
  have S10:=qhi (S9.out.trans (s10.mono (fun i hi => .inl (by unfold EndC;omega))))
  have G10:=qhi (G9.out.stp s10 (fun j hj _ hk => HZ.out (by rw [← HCB.out j hj];exact ⟨by omega,by omega⟩)))
  clear e10 s10 hbv hpv hH hfs hl0
  go_upto_region 13 with fail
  clear g0 g1 g2 g3 g4 d36 f36 hwn e0 e1
  generalize w9.setCell ⟨e,36,none⟩ (.int .i64 ((N : Int) + 1)) = wA at E10 S10 G10 ⊢
  obtain ⟨qB,hqB⟩ : ∃ qB,qB = ({ qA with next:=(N : Int) + 1 } : EQ):=⟨_,rfl⟩
  have UB : Hid (EUp q qB ∧ qB.next = q.next + 1 ∧ qB.asked = false):=by
   rw [hqB]
   exact ⟨UA.out.1.trans ⟨rfl,rfl,Int.le_refl _,fun _ _ => WSub.refl _,fun _ _ => rfl,rfl,rfl⟩,by rw [HN.out],UA.out.2.2⟩
  have WB : Hid (qB.ws 0 = qA.ws 0):=(by rw [hqB] : qB.ws 0 = qA.ws 0)
  rw [← hqB] at E10
  have HLF : Hid (qB.fl.la < (N : Int)):=by
   have h1:=E9.out.num.last
   have h2:=UA.out.2.1
   rw [hqB]
   show qA.fl.la < (N : Int)
   omega
  have k0 : wA.drew.cell? ⟨e,0,none⟩ = some (.int .i64 q.role):=by have:=E10.out.cell.c0.1;rw [UB.out.1.role] at this;exact this
  have k1 : wA.drew.cell? ⟨e,1,none⟩ = some (.int .u64 q.key):=by have:=E10.out.cell.c1.1;rw [UB.out.1.key] at this;exact this
  obtain ⟨SK,hSK⟩ : ∃ SK,SK = sealK q:=⟨_,rfl⟩
  have KO : Hid (Calls Tryz.prog 39 #[.int .u64 q.key,.int .i64 q.role] wA.drew fun x w' => x = .returned (.int .u64 SK) ∧ wA.drew = w'):=by rw [hSK];exact keyOf_any q.key q.role wA.drew H.out.num.role
  have GD:=qhi (G10.out.drew)
  have SE:=qhi (seal_gram GD.out.gm (bodyOf_bts GD.out.bts) (by have:=GD.out.len;omega) SK)
  have ED:=qhi (E10.out.below (qbd (qbr _ wA) 1))
  have SD:=qhi (S10.out.trans (Stp.of_below (qbd (qbr _ wA) 1)))
  have HSK:=qhi hSK
  clear hqB hSK G10 E10 S10 E9 S9 G9
  go_region_law (first
   | (go_simp;go_at_call 39;refine KO.out.mono ?_;rintro x w2 ⟨rfl,hw⟩;obtain rfl:=hw)
   | (go_simp;go_at_call 38;refine SE.out.mono ?_;rintro x wS ⟨u,rfl,hu,hb⟩;have OU:=qhi hu;have HGK:=qhi hb;have GS:=qhi (GD.out.below hb);have eS:=ED.out.over2 (hb.mono (Nat.le_of_lt GD.out.gm.lt)) HCB.out HZ.out;have ES:=qhi eS.1;have SS:=qhi (SD.out.trans (eS.2.mono fun _ => .inr));obtain ⟨ua,uc,hul⟩:=hu.len;subst hul;clear hu hb eS))
  all_goals clear k0 k1
  all_goals
   obtain ⟨bv2,pv2,hB2,hH2,hb2,hp2⟩:=GS.out.gm
   obtain ⟨g0,g1,g2,g3,g4⟩:=hH2.facts
   obtain ⟨pa,pc,hpv,_,_⟩:=(RdC.of_owns hp2).isSlice
   have HP2:=qhi hp2
   have HSZ : Hid (w.heap.size ≤ wA.drew.heap.size ∧ B ≤ g):=⟨SD.out.size,hB2⟩
   have FIN : Hid (∀ (q' : EQ),q'.next = q.next + 1 → ToldG X F q q' (sealL SK (bodyOf N fs9))):=fun q' hq' => .inr ⟨hq',fs9,by rw [HSK.out,HN.out];rfl,by rw [HN.out];exact GO.out,GS.out.says⟩
   have FIA : Hid (AlvQ q → X 0 = [97] → sealL SK (bodyOf N fs9) = sealL (sealK q) (bodyOf q.next.toNat [strFr 0 0 true [97]]) ∧ qB.ws 0 = twoT):=(fun h1 h2 => by
    obtain ⟨r1,r2⟩:=A9.out h1 h2
    rw [WB.out,r2,r1,HSK.out,HN.out]
    exact ⟨rfl,rfl⟩ : AlvQ q → X 0 = [97] → sealL SK (bodyOf N fs9) = sealL (sealK q) (bodyOf q.next.toNat [strFr 0 0 true [97]]) ∧ qB.ws 0 = twoT)
   clear hp2 hb2 hH2
   by_cases hps : ps9 = []
   ·subst hps
    subst hpv
    go_wp2_with fail
    go_ret
    exact ⟨c,qB,_,_,rfl,ES.out,SS.out,fun j hj => .inr (HC.out j hj),UB.out.1,UB.out.2.2,Own.mono OU.out HSZ.out.1,fun j hj => HC.out j (Nat.le_trans HSZ.out.1 (OU.out.blk j hj)),FIN.out qB UB.out.2.1,FIA.out⟩
   ·have hpl : 0 < ps9.length:=List.length_pos_iff.2 hps
    have hform : ∃ pb,pv2 = .slice (some ⟨pb,0,none⟩) ps9.length pc ∧ B ≤ pb ∧ pb < wS.heap.size:=by
     obtain ⟨_,⟨_,h0⟩ | ⟨pb,cap,cur,h1,h2,h3,_⟩⟩:=HP2.out
     ·omega
     ·rw [hpv] at h1
      simp only [Value.slice.injEq] at h1
      exact ⟨pb,by rw [hpv,h1.1],h2,(qgs h3).1⟩
    obtain ⟨pb,hpv2,hpB,hpz⟩:=hform
    subst hpv2
    clear hpv
    have dp : decide ((ps9.length : Int) > 0) = true:=qdt (by omega)
    have dpn : decide (0 < ps9.length) = true:=qdt hpl
    have dpm : decide (ps9.length > 0) = true:=qdt hpl
    obtain ⟨c2,hc2⟩ : ∃ c2 : Col,c2 = fun j => if j = pb then K + 21 else c j:=⟨_,rfl⟩
    have hcz : c pb = Z:=HCB.out pb hpB
    have hc2n : ∀ j,j ≠ pb → c2 j = c j:=fun j hj => by rw [hc2];exact if_neg hj
    have hc2p : c2 pb = K + 21:=by rw [hc2];exact if_pos rfl
    have ES2:=ES.out.recol (c':=c2) (fun j hj => hc2n j (fun h => HZ.out (by rw [← hcz,← h];exact hj)))
    have hB0:=HB.out.1
    have SS2:=qhi (SS.out.recol (c'':=c2) (fun j hj => hc2n j (by omega)))
    have EDS:=qhi (ES2.below (qbd (qbr _ wS) 1))
    have SDS:=qhi (SS2.out.trans (Stp.of_below (c:=c2) (K:=fun i => EndC K i ∨ i = Z) (qbd (qbr _ wS) 1)))
    have hcg : c g = Z:=HCB.out g HSZ.out.2
    have hne : ∀ j,EndC K (c j) → g ≠ j:=fun j hj h => HZ.out (by rw [← hcg,h];exact hj)
    have hgb : g ≠ pb:=fun h => by
     have h1:=HP2.out
     obtain ⟨_,⟨h0,_⟩ | ⟨pb',cap,cur,h1,h2,h3,_⟩⟩:=HP2.out
     ·cases h0
     ·simp only [Value.slice.injEq,Option.some.injEq,Addr.mk.injEq,and_true] at h1
      rw [← h1.1,← h] at h3
      have hh:=GS.out.gm
      obtain ⟨bv3,pv3,_,hH3,_,_⟩:=hh
      have e3 : wS.heap[g]? = _:=hH3
      rw [h3] at e3
      simp only [Option.some.injEq,Obj.cells.injEq] at e3
      have:=e3.2.1
      revert this
      decide
    have fly:=EDS.out.fly
    obtain ⟨fc1,fc2,fc3⟩:=ES.out.fly.col
    have FS:=qhi (flySend (c:=c2) (k:=K + 21) (e:=e) (o:=37) (G:=g) ⟨N,qB.time,some pb,ps9.length,pc⟩ ((sealL SK (bodyOf N fs9)).length : Int) wS.drew fly g0 g4
     ⟨ps9,owns0 HP2.out,GS.out.parts,fun j hj => by simp only [Option.some.injEq] at hj;rw [← hj];exact hc2p,by have h1:=GS.out.few;have h2:=GS.out.many;omega⟩
     ⟨by have h1:=UA.out.2.1;have h2:=HN.out;have h3:=HLF.out;show qB.fl.la < (N : Int);omega,by have:=HN2.out;show (N : Int) ≤ 1048575;omega⟩
     (fun j hj => by simp only [Option.some.injEq] at hj;subst hj;exact ⟨fun h => HZ.out (by rw [← hcz,h,fc1];exact ⟨by omega,by omega⟩),fun h => HZ.out (by rw [← hcz,h,fc2];exact ⟨by omega,by omega⟩),fun h => HZ.out (by rw [← hcz,h,fc3];exact ⟨by omega,by omega⟩)⟩)
     (hne e (by rw [ES.out.cell.ce];exact ⟨by omega,by omega⟩)) (hne _ (by rw [fc2];exact ⟨by omega,by omega⟩)) (hne _ (by rw [fc3];exact ⟨by omega,by omega⟩)) (hne _ (by rw [fc1];exact ⟨by omega,by omega⟩)))
    have t2 : wS.drew.cell? ⟨e,2,none⟩ = some (.int .i64 qB.time):=ES.out.cell.c2.1
    have PBL : pb < wA.drew.heap.size:=by
     obtain ⟨bv3,pv3,_,hH3,_,hp3⟩:=GD.out.gm
     have hh:=GS.out.gm
     have e1:=hH3.facts.2.2.2.2
     have e2:=(HGK.out.block g (cell_lt e1)).symm
     have e3 : wA.drew.cell? ⟨g,4,none⟩ = some (.slice (some ⟨pb,0,none⟩) ps9.length pc):=by
      have:=g4
      simp only [World.cell?] at this ⊢
      rw [e2];exact this
     rw [e1] at e3
     have e4:=Option.some.inj e3
     rw [e4] at hp3
     exact (World.ownsRow.lt hp3 pb rfl).2
    have HC2 : Hid ((∀ j,j ≠ pb → c2 j = c j) ∧ c2 pb = K + 21 ∧ B ≤ pb ∧ pb < wA.drew.heap.size):=⟨hc2n,hc2p,hpB,PBL⟩
    clear hps hpl hpB hpz hc2 hcz hc2n hc2p ES2 hcg hne hgb fly fc1 fc2 fc3 hB0
    go_upto_region 15 with fail
    go_region_law (first | (go_simp;go_at_call 40;refine FS.out.mono ?_;rintro x wF ⟨win,lg,rfl,hfly,st,rg⟩;have EF:=qhi (EDS.out.flies hfly st rg (by have:=UB.out.2.1;have:=HN.out;show (N : Int) < qB.next;omega));have SF:=qhi (SDS.out.trans (st.mono (fun i hi => .inl (by have:=EDS.out.cell.ce;unfold EndC;omega))));have UF : Hid (∀ j,(Value.slice ua (sealL SK (bodyOf N fs9)).length uc).ownBlock = some j → wF.heap[j]? = wS.heap[j]?):=(fun j hj => by
      have h1:=OU.out.blk j hj
      have h2:=OU.out.blt j hj
      have h3:=HC2.out.2.2.2
      exact st.block j h2 (by rw [HC2.out.1 j (by omega),HC.out j (by have:=HSZ.out.1;omega),EDS.out.cell.ce];have h0:=HZ.out;unfold EndC at h0;omega) : ∀ j,_ → _);clear hfly st rg))
    all_goals go_wp2_with fail
    all_goals go_ret
    all_goals exact ⟨c2,_,_,_,rfl,EF.out,SF.out,fun j hj => (by
      by_cases h : j = pb
      ·left;rw [h,HC2.out.2.1];exact ⟨by omega,by omega⟩
      ·right;rw [HC2.out.1 j h];exact HC.out j hj),UB.out.1.trans ⟨rfl,rfl,Int.le_refl _,fun _ _ => WSub.refl _,fun _ _ => rfl,rfl,rfl⟩,UB.out.2.2,ownsRow_block (Own.mono OU.out HSZ.out.1) UF.out,fun j hj => (by
      have h1:=OU.out.blk j hj
      have h3:=HC2.out.2.2.2
      rw [HC2.out.1 j (by omega)];exact HC.out j (by have:=HSZ.out.1;omega)),FIN.out _ UB.out.2.1,FIA.out⟩
end Go.Proofs.YtmcomdmcmnbhlaaGreatDoor
namespace Go.Proofs.YtmcomdmcmnbhlaaGreatDoor
open Go.RowKit Go.Maps
structure EHe (q q' : EQ) : Prop where
 same : q' = { q with wv:=q'.wv,ws:=q'.ws,rs:=q'.rs,fl:=q'.fl }
 ws : ∀ i,i < 4 → WSub (q.ws i) (q'.ws i)
 rs : ∀ i,i < 4 → (q'.rs i).st = (q.rs i).st
theorem EHe.refl (q : EQ) : EHe q q:=⟨rfl,fun _ _ => WSub.refl _,fun _ _ => rfl⟩
section
variable {c : Col} {K e : Nat} {X : Nat → List Int} {F : Nat → Bool} {Y : Nat → List Int} {G : Nat → Bool} {q : EQ}
end
end Go.Proofs.YtmcomdmcmnbhlaaGreatDoor
