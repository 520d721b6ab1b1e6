import Derived.Test.YtmcomdmcmnbhlaaGreatDoorKCns9
import Derived.Test.YtmcomdmcmnbhlaaGreatDoorKCns8
import Derived.Test.YtmcomdmcmnbhlaaGreatDoorKCn7
import Derived.Test.YtmcomdmcmnbhlaaGreatDoorKCn2
import Derived.Test.YtmcomdmcmnbhlaaGreatDoorKCns10
import Derived.Test.YtmcomdmcmnbhlaaGreatDoorKCns2
import Derived.Test.YtmcomdmcmnbhlaaGreatDoorKCns6
import Derived.StillTailTactics
import Derived.Deep.RegionHeld3
import Derived.Test.YtmcomdmcmnbhlaaGreatDoorKCn3
import Derived.Maps.AppendAt
import Derived.Deep.RegionLaw
import Derived.Test.YtmcomdmcmnbhlaaGreatDoorKCn9
import Derived.Test.YtmcomdmcmnbhlaaGreatDoorKPn0
import Derived.Test.YtmcomdmcmnbhlaaGreatDoorKFr3
import Derived.BigQuiet
import Derived.Test.YtmcomdmcmnbhlaaGreatDoorKFs0
import Derived.Test.YtmcomdmcmnbhlaaGreatDoorKTa0
import Derived.Deep.RegionHeld
import Derived.Deep.QuietTactic
import Derived.Test.YtmcomdmcmnbhlaaGreatDoorKLLift0
import Derived.Deep.Slices
import Derived.Lib.SlBytesConst
set_option maxRecDepth 100000
set_option maxHeartbeats 25600000
set_option linter.unusedSimpArgs false
set_option linter.unusedVariables false
set_option linter.unnecessarySimpa false
namespace Go.Proofs.YtmcomdmcmnbhlaaGreatDoor
open Go.RowKit Go.Maps
theorem Stp.recast {c c1 c1' c2 : Col} {P : Nat → Prop} {w w' : World} (h : Stp c1 c1' P w w') (h1 : ∀ j,j < w.heap.size → c1 j = c j) (h2 : ∀ j,j < w'.heap.size → c2 j = c1' j) : Stp c c2 P w w' :=
 ⟨h.os,h.tape,h.output,h.size,fun i hi => (h2 i (Nat.lt_of_lt_of_le hi h.size)).trans ((h.col i hi).trans (h1 i hi)),fun i hi hn => h.block i hi (by rw [h1 i hi];exact hn)⟩
structure Duo (c : Col) (key : Int) (E : Nat → Nat) (X : Nat → Nat → List Int) (F : Nat → Nat → Bool) (q : Nat → EQ) (T : Nat) (w : World) : Prop where
 ends : ∀ s,s < 2 → EOk c (100 * s) (E s) (X s) (F s) (X (1 - s)) (F (1 - s)) (q s) w
 role : ∀ s,s < 2 → (q s).role = (s : Int) ∧ (q s).key = key
 new : ∀ j,w.heap.size ≤ j → c j = 50
 tab : Tab w
 tc : c 0 = 51
 lens : ∀ s,s < 2 → ∀ i,i < 4 → (X s i).length ≤ 2048 * T ∧ Bts (X s i)
 asked : ∀ s,s < 2 → (q s).asked = true → (q s).came ≠ []
 next : ∀ s,s < 2 → (q s).next ≤ (T : Int)
 cap : T ≤ 100000
section
variable {c : Col} {key : Int} {E : Nat → Nat} {X : Nat → Nat → List Int} {F : Nat → Nat → Bool} {q : Nat → EQ} {T : Nat} {w : World}
theorem Duo.big (h : Duo c key E X F q T w) {s : Nat} (hs : s < 2) {i : Nat} (hi : i < 4) : ((X s i).length : Int) ≤ 4398046511104:=by
 have:=(h.lens s hs i hi).1
 have:=h.cap
 omega
theorem Duo.law (h : Duo c key E X F q T w) {c' : Col} {w' : World} (st : Stp c c' (fun k => k = 50) w w') (hn : ∀ j,w'.heap.size ≤ j → c' j = 50) : Duo c' key E X F q T w' :=
 ⟨fun s hs => (h.ends s hs).stp st (fun i h1 h2 h3 => by omega),h.role,hn,h.tab.block (st.block _ h.tab.pos (by rw [h.tc];omega)),(st.col _ h.tab.pos).trans h.tc,h.lens,h.asked,h.next,h.cap⟩
theorem Duo.below (h : Duo c key E X F q T w) {w' : World} (hb : Below w.heap.size w w') : Duo c key E X F q T w' :=
 h.law (Stp.of_below hb) (fun j hj => h.new j (Nat.le_trans hb.size hj))
theorem Duo.side (h : Duo c key E X F q T w) {s : Nat} (hs : s < 2) {c' : Col} {w' : World} {X' : Nat → List Int} {F' : Nat → Bool} {q' : EQ} {T' : Nat} (he : EOk c' (100 * s) (E s) X' F' (X (1 - s)) (F (1 - s)) q' w') (st : Stp c c' (EndC (100 * s)) w w')
  (hn : ∀ j,w'.heap.size ≤ j → c' j = 50) (hr : q'.role = (q s).role ∧ q'.key = (q s).key) (hl : ∀ i,i < 4 → (X' i).length ≤ 2048 * T' ∧ Bts (X' i)) (ha : q'.asked = true → q'.came ≠ []) (hN : q'.next ≤ (T' : Int)) (hT : T ≤ T') (hc : T' ≤ 100000) (ho : ∀ i,i < 4 → ROk (X' i) (F' i) ((q (1 - s)).rs i).st) :
  Duo c' key E (upd X s X') (upd F s F') (upd q s q') T' w':=by
 have e1 : 1 - (1 - s) = s:=by omega
 have n1 : 1 - s ≠ s:=by omega
 have k0:=(h.ends (1 - s) (by omega)).stp st (fun i h1 h2 h3 => by unfold EndC at h3;omega)
 rw [e1] at k0
 have o : ∀ t,t < 2 → t = s ∨ t = 1 - s:=fun t ht => by omega
 refine ⟨fun t ht => ?_,fun t ht => ?_,hn,h.tab.block (st.block _ h.tab.pos (by rw [h.tc];unfold EndC;omega)),(st.col _ h.tab.pos).trans h.tc,fun t ht i hi => ?_,fun t ht => ?_,fun t ht => ?_,hc⟩
 ·rcases o t ht with rfl | rfl
  ·rw [upd_at,upd_at,upd_at,upd_ne _ _ n1,upd_ne _ _ n1];exact he
  ·rw [e1,upd_at,upd_at,upd_ne _ _ n1,upd_ne _ _ n1,upd_ne _ _ n1]
   exact ⟨k0.cell,k0.num,k0.wr,k0.rd,k0.wok,ho,k0.fly⟩
 ·rcases o t ht with rfl | rfl
  ·rw [upd_at,hr.1,hr.2];exact h.role t ht
  ·rw [upd_ne _ _ n1];exact h.role _ ht
 ·rcases o t ht with rfl | rfl
  ·rw [upd_at];exact hl i hi
  ·rw [upd_ne _ _ n1]
   have:=h.lens _ ht i hi
   exact ⟨by omega,this.2⟩
 ·rcases o t ht with rfl | rfl
  ·rw [upd_at];exact ha
  ·rw [upd_ne _ _ n1];exact h.asked _ ht
 ·rcases o t ht with rfl | rfl
  ·rw [upd_at];exact hN
  ·rw [upd_ne _ _ n1];have:=h.next _ ht;omega
theorem Duo.side0 (h : Duo c key E X F q T w) {s : Nat} (hs : s < 2) {c' : Col} {w' : World} {q' : EQ} {T' : Nat} (he : EOk c' (100 * s) (E s) (X s) (F s) (X (1 - s)) (F (1 - s)) q' w') (st : Stp c c' (EndC (100 * s)) w w')
  (hn : ∀ j,w'.heap.size ≤ j → c' j = 50) (hr : q'.role = (q s).role ∧ q'.key = (q s).key) (ha : q'.asked = true → q'.came ≠ []) (hN : q'.next ≤ (T' : Int)) (hT : T ≤ T') (hc : T' ≤ 100000) :
  Duo c' key E X F (upd q s q') T' w':=by
 have k0:=h.ends (1 - s) (by omega)
 rw [show 1 - (1 - s) = s from by omega] at k0
 have:=h.side hs he st hn hr (fun i hi => ⟨by have:=(h.lens s hs i hi).1;omega,(h.lens s hs i hi).2⟩) ha hN hT hc k0.rok
 rw [upd_self,upd_self] at this
 exact this
theorem write_zero {q : WQ} {b : List Int} {fin : Bool} (h : (writeE q b fin).2 = 0) : q.closed = false ∧ (b.length : Int) ≤ 2048 - queuedN q:=by
 unfold writeE at h
 split at h
 ·cases h
 ·rename_i h1
  split at h
  ·cases h
  ·rename_i h2
   exact ⟨by simpa using h1,by omega⟩
theorem Rd.blt0 {k : IntKind} {w : World} {v : Value} {xs : List Int} (h : Rd k w v xs) (h0 : xs ≠ []) : ∀ j,v.ownBlock = some j → j < w.heap.size:=by
 rcases h with h | ⟨h1,b,o,cc,rfl,h2,h3,h4,h5⟩
 ·exact absurd h.1 h0
 ·intro j hj
  simp only [Value.ownBlock,Option.map_some,Option.some.injEq] at hj
  omega
theorem Duo.write (h : Duo c key E X F q T w) {s : Nat} (hs : s < 2) {i : Nat} (hi : i < 4) (hT : T + 1 ≤ 100000) (bv : Value) (bs : List Int) (fin : Bool) (hr : Rd .u8 w bv bs) (hB : Bts bs) (hb : bs ≠ [] → ∀ j,bv.ownBlock = some j → c j = 50 ∨ c j = 51) :
  Calls Tryz.prog 12 #[.pointer (some ⟨E s,0,none⟩),.int .i64 (i : Int),bv,.bool fin] w fun x w' => x = .returned (.int .i64 (writeE ((q s).ws i) bs fin).2) ∧ ∃ c' q',
   Duo c' key E (upd X s (upd (X s) i (if (writeE ((q s).ws i) bs fin).2 = 0 then X s i ++ bs else X s i))) (upd F s (upd (F s) i (if (writeE ((q s).ws i) bs fin).2 = 0 then fin else F s i))) (upd q s q') (T + 1) w' ∧
   Stp c c' (EndC (100 * s)) w w' ∧ ∃ v',q' = { q s with wv:=upd (q s).wv i v',ws:=upd (q s).ws i (writeE ((q s).ws i) bs fin).1 }:=by
 have hE:=h.ends s hs
 obtain ⟨c1,hc1⟩ : ∃ c1,c1 = paint c w.heap.size (100 * s + 1 + i):=⟨_,rfl⟩
 have hlt : ∀ j,j < w.heap.size → c1 j = c j:=fun j hj => by rw [hc1];exact paint_lt hj
 have hE1:=hE.beyond hlt
 refine (ewrite hE1 hi (h.big hs hi) (fun j hj => by rw [hc1];exact paint_ge hj) bv bs fin hr (fun h0 j hj => by have h5:=hb h0 j hj;rw [hlt j (Rd.blt0 hr h0 j hj)];unfold Wrs;omega)).mono ?_
 rintro x w' ⟨rfl,v',e',st,_⟩
 obtain ⟨c2,hc2⟩ : ∃ c2,c2 = paint c1 w'.heap.size 50:=⟨_,rfl⟩
 have hlt2 : ∀ j,j < w'.heap.size → c2 j = c1 j:=fun j hj => by rw [hc2];exact paint_lt hj
 refine ⟨rfl,c2,_,h.side hs (e'.beyond hlt2) ((st.mono (fun j hj => by unfold Wrs at hj;unfold EndC;omega)).recast hlt hlt2) (fun j hj => by rw [hc2];exact paint_ge hj) ⟨rfl,rfl⟩ (fun j hj => ?_) (h.asked s hs) (by have:=h.next s hs;show (q s).next ≤ _;omega) (by omega) hT (fun j hj => ?_),(st.mono (fun j hj => by unfold Wrs at hj;unfold EndC;omega)).recast hlt hlt2,v',rfl⟩
 ·have hl:=h.lens s hs j hj
  by_cases hji : j = i
  ·subst hji
   rw [upd_at]
   split
   ·rename_i h0
    have:=(write_zero h0).2
    refine ⟨by rw [List.length_append];omega,fun x hx => ?_⟩
    rcases List.mem_append.1 hx with hx | hx
    ·exact hl.2 x hx
    ·exact hB x hx
   ·exact ⟨by omega,hl.2⟩
  ·rw [upd_ne _ _ hji];exact ⟨by omega,hl.2⟩
 ·have k0:=(h.ends (1 - s) (by omega)).rok j hj
  rw [show 1 - (1 - s) = s from by omega] at k0
  by_cases hji : j = i
  ·subst hji
   rw [upd_at,upd_at]
   split
   ·rename_i h0
    have hF : F s j = false:=(hE.wok j hj).closed.symm.trans (write_zero h0).1
    rw [hF] at k0
    exact k0.more bs fin
   ·exact k0
  ·rw [upd_ne _ _ hji,upd_ne _ _ hji];exact k0
theorem Duo.read (h : Duo c key E X F q T w) {s : Nat} (hs : s < 2) {i : Nat} (hi : i < 4) (n : Int) :
  Calls Tryz.prog 13 #[.pointer (some ⟨E s,0,none⟩),.int .i64 (i : Int),.int .i64 n] w fun x w' => ∃ v,x = .returned v ∧ Given w' w.heap.size v (readE ((q s).rs i).st n).2 ∧ ∃ q',
   Duo c key E X F (upd q s q') T w' ∧ Stp c c (EndC (100 * s)) w w' ∧ q'.next = (q s).next ∧ (q'.rs i).st = (readE ((q s).rs i).st n).1 ∧ ∀ j,j ≠ i → q'.rs j = (q s).rs j:=by
 have hE:=h.ends s hs
 refine (eread hE hi n).mono ?_
 rintro x w' ⟨v,rfl,hg,hd⟩
 obtain ⟨e',st,_⟩:=hE.rdone hi _ hd (rok_read (hE.rok i hi) n).1
 have st' : Stp c c (EndC (100 * s)) w w':=st.mono (fun j hj => by unfold EndC;omega)
 exact ⟨v,rfl,hg,_,h.side0 hs e' st' (fun j hj => h.new j (Nat.le_trans st.size hj)) ⟨rfl,rfl⟩ (h.asked s hs) (h.next s hs) (qlr _) h.cap,st',rfl,by show (upd (q s).rs i _ i).st = _;rw [upd_at],fun j hj => upd_ne _ _ hj⟩
theorem Duo.stepd (h : Duo c key E X F q T w) {s : Nat} (hs : s < 2) (hT : T + 1 ≤ 100000) (now : Int) :
  Calls Tryz.prog 15 #[.pointer (some ⟨E s,0,none⟩),.int .i64 now] w fun x w' => ∃ c' q' u bs,x = .returned u ∧ Duo c' key E X F (upd q s q') (T + 1) w' ∧ Stp c c' (EndC (100 * s)) w w' ∧
   Own .u8 5 w' w.heap.size u bs ∧ (∀ j,u.ownBlock = some j → c' j = 50) ∧ ToldG (X s) (F s) (q s) q' bs ∧ (∀ i,i < 4 → (q'.rs i).st = ((q s).rs i).st) ∧ (AlvQ (q s) → X s 0 = [97] → bs = sealL (sealK (q s)) (bodyOf (q s).next.toNat [strFr 0 0 true [97]]) ∧ q'.ws 0 = twoT):=by
 have hE:=h.ends s hs
 obtain ⟨Z,hZ1,hZ2⟩:=fresh_color c w.heap.size 1000
 obtain ⟨c1,hc1⟩ : ∃ c1,c1 = paint c w.heap.size Z:=⟨_,rfl⟩
 have hlt : ∀ j,j < w.heap.size → c1 j = c j:=fun j hj => by rw [hc1];exact paint_lt hj
 have hE1:=hE.beyond hlt
 have hz : ¬ EndC (100 * s) Z:=by unfold EndC;omega
 have hw0 : c1 0 = 51:=(hlt _ h.tab.pos).trans h.tc
 have hnx:=hE.num.next
 have hnT:=h.next s hs
 refine (estep0 (N:=(q s).next.toNat) h.tab hE1 (fun j hj => by rw [hc1];exact paint_ge hj) hz ⟨by rw [hw0];omega,by rw [hw0];unfold EndC;omega⟩ (fun i hi => ⟨h.big hs hi,(h.lens s hs i hi).2⟩) (fun i hi => h.big (by omega) hi) (h.asked s hs) (by omega) (by omega) now).mono ?_
 rintro x w' ⟨c',q',u,bs,rfl,e',st,hnc,hup,hask,ho,hou,htold,halv⟩
 obtain ⟨c2,hc2⟩ : ∃ c2 : Col,c2 = fun j => if c' j = Z then 50 else c' j:=⟨_,rfl⟩
 have e2:=e'.recol (c':=c2) (fun j hj => by rw [hc2];exact if_neg (fun (hh : c' j = Z) => hz (by rw [← hh];exact hj)))
 obtain ⟨c3,hc3⟩ : ∃ c3,c3 = paint c2 w'.heap.size 50:=⟨_,rfl⟩
 have hlt3 : ∀ j,j < w'.heap.size → c3 j = c2 j:=fun j hj => by rw [hc3];exact paint_lt hj
 have hold : ∀ j,j < w.heap.size → c3 j = c j:=fun j hj => by
  rw [hlt3 j (Nat.lt_of_lt_of_le hj st.size),hc2]
  show (if c' j = Z then 50 else c' j) = c j
  rw [st.col j hj,hlt j hj,if_neg (by have:=hZ2 j hj;omega)]
 have st' : Stp c c3 (EndC (100 * s)) w w':=⟨st.os,st.tape,st.output,st.size,hold,fun j hj hn => st.block j hj (by rw [hlt j hj];have:=hZ2 j hj;rintro (hh | hh);exact hn hh;omega)⟩
 have hq : q'.next ≤ ((T + 1 : Nat) : Int):=by
  rcases htold with ⟨_,hh⟩ | ⟨hh,_⟩ <;> omega
 refine ⟨c3,q',u,bs,rfl,h.side0 hs (e2.beyond hlt3) st' (fun j hj => by rw [hc3];exact paint_ge hj) ⟨hup.role,hup.key⟩ (fun hh => by rw [hask] at hh;cases hh) hq (by omega) hT,st',ho,fun j hj => ?_,htold,hup.rs,halv⟩
 rw [hlt3 j (ho.blt j hj),hc2]
 show (if c' j = Z then 50 else c' j) = 50
 rw [if_pos (hou j hj)]
theorem data_p (q : St9) (o : Int) (d : List Int) (fin : Bool) : (dataE q o d fin).1.p = q.p:=by
 unfold dataE
 split
 ·rfl
 split
 ·rfl
 split
 ·rfl
 split
 ·rfl
 exact take_p _ _
theorem heard_p (i : Nat) : ∀ (fs : List Fr) (st : St9),(heardL i st fs).p = st.p
 | [],_ => rfl
 | f :: fs,st => by
   show (heardL i (if f.kind = 8 ∧ f.stream = (i : Int) then (dataE st f.offset f.data f.fin).1 else st) fs).p = st.p
   rw [heard_p i fs]
   split
   ·exact data_p _ _ _ _
   ·rfl
theorem Duo.recv (h : Duo c key E X F q T w) {s n : Nat} (hs : s < 2) {fs : List Fr} (hg : GramOk n fs) (hsay : ∀ f ∈ fs,SayF (X (1 - s)) (F (1 - s)) f) (hak : ∀ f ∈ fs,f.kind = 2 → HearsAck) (va : Option Addr) (vn vc : Nat) (hv : Rd .u8 w (.slice va vn vc) (sealL (bits .xor .u64 key (((1 - s : Nat) : Int) + 1)) (bodyOf n fs))) (now : Int) :
  Calls Tryz.prog 16 #[.pointer (some ⟨E s,0,none⟩),.slice va vn vc,.int .i64 now] w fun x w' => ∃ y c' q',x = .returned (.int .i64 y) ∧ Duo c' key E X F (upd q s q') T w' ∧ Stp c c' (EndC (100 * s)) w w' ∧ q'.next = (q s).next ∧ (∀ i,i < 4 → (q'.rs i).st.p = ((q s).rs i).st.p) ∧ (inB5 (n : Int) (q s).came = false → OneF (q s) fs → y = 0 ∧ ∀ i,i < 4 → (q'.rs i).st = heardL i ((q s).rs i).st fs):=by
 have hE:=h.ends s hs
 obtain ⟨r1,r2⟩:=h.role s hs
 have hk : bits .xor .u64 (q s).key (1 - (q s).role + 1) = bits .xor .u64 key (((1 - s : Nat) : Int) + 1):=by
  rw [r1,r2];congr 1;omega
 rw [← hk] at hv
 refine (erecv (Z:=50) h.tab hE h.new (by unfold EndC;omega) (fun i hi => h.big (by omega) hi) hg hsay hak va vn vc hv now).mono ?_
 rintro x w' ⟨y,c',q',rfl,e',st,hy,hy0,hone⟩
 obtain ⟨c2,hc2⟩ : ∃ c2,c2 = paint c' w'.heap.size 50:=⟨_,rfl⟩
 have hlt2 : ∀ j,j < w'.heap.size → c2 j = c' j:=fun j hj => by rw [hc2];exact paint_lt hj
 have st' : Stp c c2 (EndC (100 * s)) w w':=st.recast (fun _ _ => rfl) hlt2
 have hq : q'.role = (q s).role ∧ q'.key = (q s).key ∧ q'.next = (q s).next ∧ (q'.asked = true → q'.came ≠ []) ∧ ∀ i,i < 4 → (q'.rs i).st.p = ((q s).rs i).st.p:=by
  by_cases h0 : y = 0
  ·obtain ⟨hc,t,ca,cv,cm,hh⟩:=hy0 h0
   refine ⟨by rw [hh.same],by rw [hh.same],by rw [hh.same],fun _ => hc,fun i hi => ?_⟩
   rw [hh.rs i hi,heard_p]
  ·rw [hy h0]
   exact ⟨rfl,rfl,rfl,h.asked s hs,fun _ _ => rfl⟩
 exact ⟨y,c2,q',rfl,h.side0 hs (e'.beyond hlt2) st' (fun j hj => by rw [hc2];exact paint_ge hj) ⟨hq.1,hq.2.1⟩ hq.2.2.2.1 (by rw [hq.2.2.1];exact h.next s hs) (qlr _) h.cap,st',hq.2.2.1,hq.2.2.2.2,fun h1 h2 => by
  have h0:=hone h1 h2
  obtain ⟨_,t,ca,cv,cm,hh⟩:=hy0 h0
  exact ⟨h0,fun i hi => hh.rs i hi⟩⟩
end
end Go.Proofs.YtmcomdmcmnbhlaaGreatDoor
namespace Go.Proofs.YtmcomdmcmnbhlaaGreatDoor
open Go.ChangeShapes Go.WideShapes Go.ChangeAt Go.RowKit Go.Deep
structure ActT where
 k : Int
 sd : Int
 st : Int
 n : Int
 at_ : Int
 by_ : Int
 bv : Value
 bs : List Int
 fin : Bool
def actTV (c : ActT) : Value:=.agg #[.int .i64 c.k,.int .i64 c.sd,.int .i64 c.st,.int .i64 c.n,.int .i64 c.at_,.int .u8 c.by_,c.bv,.bool c.fin]
def actTCell (c : ActT) : List Value:=[.int .i64 c.k,.int .i64 c.sd,.int .i64 c.st,.int .i64 c.n,.int .i64 c.at_,.int .u8 c.by_,c.bv,.bool c.fin]
def ActTOk (w : World) (c : ActT) : Prop:=(0 ≤ c.by_ ∧ c.by_ < 256) ∧ Rd .u8 w c.bv c.bs ∧ Bts c.bs
theorem cellsIntT10 : Tryz.prog.cellsOf 3 = 1:=by kernel_rfl
theorem cellsU8T10 : Tryz.prog.cellsOf 5 = 1:=by kernel_rfl
theorem cellsBoolT10 : Tryz.prog.cellsOf 4 = 1:=by kernel_rfl
theorem cellsBytesT10 : Tryz.prog.cellsOf 29 = 1:=by kernel_rfl
theorem cellsActT10 : Tryz.prog.cellsOf 31 = 8:=by kernel_rfl
section
variable {H : Type} {enc : TypeId × Value → H}
theorem open_numsT {P : Program} {W : World} {t e : TypeId} {k : IntKind} {fuel : Nat} {cs : List Value} {d : DataW H} {p : List MemPlace} (ht : P.underlying t = some (.slice e)) (he : P.underlying e = some (.int k)) (hc : P.cellsOf e = 1)
  (hf : DataW.trod enc P W 0 (fun _ => true) true fuel t cs = some (d,p)) (hlt : ∀ x ∈ p,x.block < W.heap.size) : ∃ v xs,cs = [v] ∧ Rd k W v xs ∧ ∀ n ∈ xs,(Lit.int k n).wf = true:=by
 rcases open_ints ht he hc hf with ⟨hcs,hx⟩ | ⟨a,len,cap,zs,hcs,_,hl,hm,hz,hx,hcell,hwz⟩
 ·exact ⟨_,[],hcs,Rd.nil _ _,by simp⟩
 ·simp only [Prod.mk.injEq] at hx
  obtain ⟨rfl,rfl⟩:=hx
  simp only [if_true] at hz
  refine ⟨_,zs.take len,hcs,?_,fun n hn => hwz n (List.mem_of_mem_take hn)⟩
  by_cases h0 : len = 0
  ·subst h0
   exact .inl ⟨by simp,some a,cap,rfl,hm,fun h => by cases h⟩
  ·obtain ⟨b,off,spot⟩:=a
   have hspot : spot = none:=by simpa [Addr.add] using World.cell?_spot (hcell 0 (by omega))
   subst hspot
   have hb : b < W.heap.size:=hlt (.cell b off) (MemPlace.mem_row.2 ⟨0,by omega,by simp⟩)
   have hlen : (zs.take len).length = len:=by rw [List.length_take];omega
   refine .inr ⟨fun h => h0 (by rw [← hlen,h];rfl),b,off,cap,by rw [hlen],by omega,hm,hb,fun i hi => ?_⟩
   rw [hlen] at hi
   rw [← add_plain,hcell i (by omega)]
   simp [List.getD,hi]
theorem open_actT {W : World} {fuel : Nat} {cs : List Value} {d : DataW H} {p : List MemPlace} (hf : DataW.trod enc Tryz.prog W 0 (fun _ => true) true fuel 31 cs = some (d,p)) (hlt : ∀ x ∈ p,x.block < W.heap.size) (hl : cs.length = 8) :
  ∃ c : ActT,cs = actTCell c ∧ ActTOk W c:=by
 obtain ⟨xs,k,_,hxy,_,hxl,hg⟩:=DataW.trod_struct Tryz.underlying31 hf
 match xs,hxl,cs,hl with
 | [y0,y1,y2,y3,y4,y5,y6,y7],_,[v0,v1,v2,v3,v4,v5,v6,v7],_ =>
   have g0:=hg 0 _ rfl
   have g1:=hg 1 _ rfl
   have g2:=hg 2 _ rfl
   have g3:=hg 3 _ rfl
   have g4:=hg 4 _ rfl
   have g5:=hg 5 _ rfl
   have g6:=hg 6 _ rfl
   have g7:=hg 7 _ rfl
   simp [cellsIntT10,cellsU8T10,cellsBytesT10,cellsBoolT10] at g0 g1 g2 g3 g4 g5 g6 g7
   simp only [Prod.mk.injEq] at hxy
   obtain ⟨rfl,rfl⟩:=hxy
   obtain ⟨n0,e0,_⟩:=DataW.trod_int Tryz.underlying3 g0
   obtain ⟨n1,e1,_⟩:=DataW.trod_int Tryz.underlying3 g1
   obtain ⟨n2,e2,_⟩:=DataW.trod_int Tryz.underlying3 g2
   obtain ⟨n3,e3,_⟩:=DataW.trod_int Tryz.underlying3 g3
   obtain ⟨n4,e4,_⟩:=DataW.trod_int Tryz.underlying3 g4
   obtain ⟨n5,e5,_,w5⟩:=DataW.trod_int Tryz.underlying5 g5
   obtain ⟨q6,bs,e6,hs,hw⟩:=open_numsT (d:=y6.1) (p:=y6.2) Tryz.underlying29 Tryz.underlying5 cellsU8T10 g6 (fun x hx => hlt x (by simp [hx]))
   obtain ⟨b7,e7,_⟩:=DataW.trod_bool Tryz.underlying4 g7
   simp only [List.cons.injEq,and_true] at e0 e1 e2 e3 e4 e5 e6 e7
   exact ⟨⟨n0,n1,n2,n3,n4,n5,q6,bs,b7⟩,by simp only [actTCell,e0,e1,e2,e3,e4,e5,e6,e7],u8_of_wf w5,hs,fun x hx => u8_of_wf (hw x hx)⟩
theorem open_actTV {W : World} {base : Nat} {v : Value} {d : DataW H} {p : List MemPlace} (hval : Value.okWide Tryz.prog W .any base 31 v) (h : DataW.Trod enc Tryz.prog W 0 (fun _ => true) true 31 v d p) (hlt : ∀ x ∈ p,x.block < W.heap.size) :
  ∃ c : ActT,v = actTV c ∧ ActTOk W c:=by
 obtain ⟨cs,rfl,hsz⟩:=okWide_struct Tryz.underlying31 hval
 obtain ⟨fuel,hf⟩:=h
 have hl : (Value.agg cs).cells.toList.length = 8:=by
  rw [cellsActT10] at hsz
  simpa [Value.cells] using hsz
 obtain ⟨c,e,hc⟩:=open_actT hf hlt hl
 refine ⟨c,?_,hc⟩
 have : cs.toList = actTCell c:=by simpa [Value.cells] using e
 rw [← Array.toArray_toList (xs:=cs),this];rfl
end
end Go.Proofs.YtmcomdmcmnbhlaaGreatDoor
namespace Go.Proofs.YtmcomdmcmnbhlaaGreatDoor
open Go.RowKit Go.Maps
def OldC (B : Nat) (c : Col) : Prop:=∀ j,j < B → c j = 50 ∨ c j = 51
theorem OldC.stp {B : Nat} {c c' : Col} {P : Nat → Prop} {w w' : World} (h : OldC B c) (st : Stp c c' P w w') (hB : B ≤ w.heap.size) : OldC B c':=fun j hj => by
 rw [st.col j (Nat.lt_of_lt_of_le hj hB)];exact h j hj
theorem OldC.below {B s : Nat} {c c' : Col} {w w' : World} (h : OldC B c) (st : Stp c c' (EndC (100 * s)) w w') (hs : s < 2) (hB : B ≤ w.heap.size) : Below B w w' :=
 st.below hB (fun i hi => by unfold EndC;rcases h i hi with e | e <;> rw [e] <;> omega)
def NewQ (ro key : Int) (q : EQ) : Prop:=∃ (P : Nat → RdQ) (tb lb mb : Nat),q = newEQ ro key P tb lb mb ∧ ∀ i,i < 4 → P i = newRQ (P i).b (P i).r (P i).m
theorem enew2 (w : World) (s : Nat) (ro key : Int) (hro : ro = (s : Int)) (hs : s < 2) (c : Col) :
  Calls Tryz.prog 18 #[.int .i64 ro,.int .u64 key] w fun x w' => ∃ (e : Nat) (c' : Col) (q : EQ),x = .returned (.tuple #[.pointer (some ⟨e,0,none⟩),.int .i64 0]) ∧ EOk c' (100 * s) e (fun _ => []) (fun _ => false) (fun _ => []) (fun _ => false) q w' ∧
   (∀ j,j < w.heap.size → c' j = c j) ∧ (∀ j,w'.heap.size ≤ j → c' j = 50) ∧ Below w.heap.size w w' ∧ w.heap.size ≤ e ∧ NewQ (s : Int) key q:=by
 subst hro
 refine (enew w (s : Int) key (by omega) c (100 * s)).mono ?_
 rintro x w' ⟨e,c',q,rfl,h,hc,hb,he,P,tb,lb,mb,hq,hP⟩
 refine ⟨e,paint c' w'.heap.size 50,q,rfl,h.beyond (fun j hj => paint_lt hj),fun j hj => ?_,fun j hj => paint_ge hj,hb,he,P,tb,lb,mb,hq,hP⟩
 rw [paint_lt (Nat.lt_of_lt_of_le hj hb.size)]
 exact hc j hj
theorem duo_made {c : Col} {key : Int} {e0 e1 : Nat} {q0 q1 : EQ} {w : World} (h0 : EOk c 0 e0 (fun _ => []) (fun _ => false) (fun _ => []) (fun _ => false) q0 w) (h1 : EOk c 100 e1 (fun _ => []) (fun _ => false) (fun _ => []) (fun _ => false) q1 w) (n0 : NewQ 0 key q0) (n1 : NewQ 1 key q1)
  (hn : ∀ j,w.heap.size ≤ j → c j = 50) (ht : Tab w) (htc : c 0 = 51) : Duo c key (fun s => if s = 0 then e0 else e1) (fun _ _ => []) (fun _ _ => false) (fun s => if s = 0 then q0 else q1) 0 w:=by
 have o : ∀ s,s < 2 → s = 0 ∨ s = 1:=by omega
 obtain ⟨P0,t0,l0,m0,rfl,_⟩:=n0
 obtain ⟨P1,t1,l1,m1,rfl,_⟩:=n1
 refine ⟨fun s hs => ?_,fun s hs => ?_,hn,ht,htc,fun s hs i hi => ⟨Nat.zero_le _,fun x hx => by cases hx⟩,fun s hs ha => ?_,fun s hs => ?_,by omega⟩
 ·rcases o s hs with rfl | rfl
  ·exact h0
  ·exact h1
 ·rcases o s hs with rfl | rfl
  ·exact ⟨rfl,rfl⟩
  ·exact ⟨rfl,rfl⟩
 ·rcases o s hs with rfl | rfl
  ·cases ha
  ·cases ha
 ·rcases o s hs with rfl | rfl
  ·exact Int.le_refl _
  ·exact Int.le_refl _
theorem alv_write : writeE newWQ [97] true = (twoQ,0):=rfl
theorem alv_read : (readE (dataE (fresh9 1024) 0 [97] true).1 9).2 = [97]:=by decide +kernel
theorem alv_over : overB (readE (dataE (fresh9 1024) 0 [97] true).1 9).1 = true:=by decide +kernel
theorem alv_queued : queuedN twoT = 1:=by decide
theorem alv_says : Says [97] true 0 [97] true:=⟨by decide,rfl,fun _ => ⟨rfl,rfl⟩⟩
theorem alv_gram : GramOk 0 [strFr 0 0 true [97]]:=by
 have hm : mayF (strFr 0 0 true [97]) = true:=strFr_may (by omega) (by omega) (by decide)
 have hl : ((encF (strFr 0 0 true [97])).length : Int) ≤ 1000:=strFr_len (by omega) (by omega) (by omega) (by have:=hold_two (room:=1000) (by omega);show ((1 : Nat) : Int) ≤ _;omega)
 have he : encFs [strFr 0 0 true [97]] = encF (strFr 0 0 true [97]):=by simp [encFs]
 refine ⟨by omega,by simp,by rw [he];exact encL_one hm (by omega),?_,fun f hf => ?_⟩
 ·have e : (bodyOf 0 [strFr 0 0 true [97]]).length = 1 + (be 0 4).length + (encFs [strFr 0 0 true [97]]).length:=by simp [bodyOf];omega
  rw [e,he,be_len];omega
 ·simp at hf;subst hf
  intro x hx
  simp [strFr] at hx
  subst hx;omega
theorem alv_one {q : EQ} {ro key : Int} (h : NewQ ro key q) : OneF q [strFr 0 0 true [97]]:=by
 obtain ⟨P,t,l,m,rfl,hP⟩:=h
 refine ⟨_,0,rfl,rfl,rfl,rfl,by omega,?_⟩
 show (0 : Int) + ((1 : Nat) : Int) ≤ (bdOf (P 0)).lim ∧ (bdOf (P 0)).kn = false ∧ (bdOf (P 0)).top ≤ (0 : Int) + ((1 : Nat) : Int)
 rw [hP 0 (by omega)]
 have e : (fresh9 1024).row.length = 1024:=List.length_replicate
 exact ⟨by show (0 : Int) + ((1 : Nat) : Int) ≤ ((0 + (fresh9 1024).row.length : Nat) : Int);rw [e];decide,rfl,by show (0 : Int) ≤ 0 + ((1 : Nat) : Int);decide⟩
theorem alv_write_call {c : Col} {E : Nat → Nat} {q : Nat → EQ} {w : World} {e : Nat} (h : Duo c 7 E (fun _ _ => []) (fun _ _ => false) q 0 w) (he : E 0 = e) (n0 : NewQ 0 7 (q 0)) (bv : Value) (hr : Rd .u8 w bv [97]) (hb : ∀ j,bv.ownBlock = some j → c j = 50) :
  Calls Tryz.prog 12 #[.pointer (some ⟨e,0,none⟩),.int .i64 0,bv,.bool true] w fun x w' => x = .returned (.int .i64 0) ∧ ∃ c' q' X F,Duo c' 7 E X F q' 1 w' ∧ Stp c c' (EndC (100 * 0)) w w' ∧ X 0 0 = [97] ∧ F 0 0 = true ∧ AlvQ (q' 0) ∧ q' 1 = q 1 ∧ (q' 0).next = 0:=by
 obtain ⟨P,tb,lb,mb,hq,hP⟩:=n0
 have hw : (q 0).ws 0 = newWQ:=by rw [hq];rfl
 have W:=h.write (s:=0) (by omega) (i:=0) (by omega) (by omega) bv [97] true hr (by intro x hx;simp at hx;omega) (fun _ j hj => .inl (hb j hj))
 rw [hw,alv_write,he] at W
 refine W.mono ?_
 rintro x w' ⟨rfl,c',q',d,st,v',rfl⟩
 refine ⟨rfl,c',_,_,_,d,st,?_,?_,?_,upd_ne _ _ (by omega),?_⟩
 ·rw [upd_at,upd_at];rfl
 ·rw [upd_at,upd_at];rfl
 ·rw [upd_at,hq]
  refine ⟨by show upd (newEQ 0 7 P tb lb mb).ws 0 (twoQ,(0 : Int)).1 0 = twoQ;rw [upd_at],fun i h1 h2 => ?_,fun i hi => ?_,rfl,rfl,rfl,rfl⟩
  ·show (upd (newEQ 0 7 P tb lb mb).ws 0 (twoQ,(0 : Int)).1 i).rest = []
   rw [upd_ne _ _ (by omega)];rfl
  ·show dueR (P i) = false
   rw [hP i hi];rfl
 ·rw [upd_at,hq];rfl
theorem alv_step_call {c : Col} {E : Nat → Nat} {X : Nat → Nat → List Int} {F : Nat → Nat → Bool} {q : Nat → EQ} {w : World} {e : Nat} (h : Duo c 7 E X F q 1 w) (he : E 0 = e) (hX : X 0 0 = [97]) (ha : AlvQ (q 0)) (hn : (q 0).next = 0) :
  Calls Tryz.prog 15 #[.pointer (some ⟨e,0,none⟩),.int .i64 1] w fun x w' => ∃ c' q' u bs,x = .returned u ∧ Duo c' 7 E X F q' 2 w' ∧ Stp c c' (EndC (100 * 0)) w w' ∧ (bs = sealL (bits .xor .u64 7 (0 + 1)) (bodyOf 0 [strFr 0 0 true [97]]) ∧ 0 < bs.length) ∧ Own .u8 5 w' w.heap.size u bs ∧ (∀ j,u.ownBlock = some j → c' j = 50) ∧ (q' 0).ws 0 = twoT ∧ q' 1 = q 1:=by
 have W:=h.stepd (s:=0) (by omega) (by omega) 1
 rw [he] at W
 refine W.mono ?_
 rintro x w' ⟨c',q',u,bs,rfl,d,st,ho,hu,_,_,hx⟩
 obtain ⟨h1,h2⟩:=hx ha hX
 have hk : sealK (q 0) = bits .xor .u64 7 (0 + 1):=by unfold sealK;rw [(h.role 0 (by omega)).1,(h.role 0 (by omega)).2];rfl
 rw [hk,hn] at h1
 exact ⟨c',_,u,bs,rfl,d,st,⟨h1,by rw [h1,sealL_len];omega⟩,ho,hu,by rw [upd_at];exact h2,upd_ne _ _ (by omega)⟩
theorem alv_recv_call {c : Col} {E : Nat → Nat} {X : Nat → Nat → List Int} {F : Nat → Nat → Bool} {q : Nat → EQ} {w : World} {e : Nat} (h : Duo c 7 E X F q 2 w) (he : E 1 = e) (hX : X 0 0 = [97]) (hF : F 0 0 = true) (n1 : NewQ 1 7 (q 1)) (va : Option Addr) (vn vc : Nat) (bs : List Int) (hbs : bs = sealL (bits .xor .u64 7 (0 + 1)) (bodyOf 0 [strFr 0 0 true [97]])) (hv : Rd .u8 w (.slice va vn vc) bs) :
  Calls Tryz.prog 16 #[.pointer (some ⟨e,0,none⟩),.slice va vn vc,.int .i64 1] w fun x w' => x = .returned (.int .i64 0) ∧ ∃ c' q',Duo c' 7 E X F q' 2 w' ∧ Stp c c' (EndC (100 * 1)) w w' ∧ ((q' 1).rs 0).st = (dataE (fresh9 1024) 0 [97] true).1 ∧ q' 0 = q 0:=by
 rw [hbs] at hv
 have W:=h.recv (s:=1) (n:=0) (fs:=[strFr 0 0 true [97]]) (by omega) alv_gram (fun f hf => by
  simp at hf;subst hf
  exact fun _ => ⟨⟨by show (0 : Int) ≤ 0;omega,by show (0 : Int) < 4;omega⟩,by show (0 : Int) ≤ 0;omega,by show Says (X 0 0) (F 0 0) 0 [97] true;rw [hX,hF];exact alv_says⟩) (fun f hf hk => by
  simp at hf;subst hf
  exact absurd hk (by decide)) va vn vc hv 1
 rw [he] at W
 refine W.mono ?_
 rintro x w' ⟨y,c',q',rfl,d,st,_,_,hx⟩
 obtain ⟨P,tb,lb,mb,hq,hP⟩:=n1
 obtain ⟨h0,h1⟩:=hx (by rw [hq];rfl) (alv_one ⟨P,tb,lb,mb,hq,hP⟩)
 subst h0
 refine ⟨rfl,c',_,d,st,?_,upd_ne _ _ (by omega)⟩
 rw [upd_at,h1 0 (by omega),hq]
 show heardL 0 (P 0).st _ = _
 rw [hP 0 (by omega)]
 rfl
theorem alv_read_call {c : Col} {E : Nat → Nat} {X : Nat → Nat → List Int} {F : Nat → Nat → Bool} {q : Nat → EQ} {w : World} {e : Nat} (h : Duo c 7 E X F q 2 w) (he : E 1 = e) (hs : ((q 1).rs 0).st = (dataE (fresh9 1024) 0 [97] true).1) :
  Calls Tryz.prog 13 #[.pointer (some ⟨e,0,none⟩),.int .i64 0,.int .i64 9] w fun x w' => ∃ v,x = .returned v ∧ Rd .u8 w' v [97] ∧ ∃ q',Duo c 7 E X F q' 2 w' ∧ Stp c c (EndC (100 * 1)) w w' ∧ overB ((q' 1).rs 0).st = true ∧ q' 0 = q 0:=by
 have W:=h.read (s:=1) (by omega) (i:=0) (by omega) 9
 rw [he,hs,alv_read] at W
 refine W.mono ?_
 rintro x w' ⟨v,rfl,hg,q',d,st,_,h1,_⟩
 exact ⟨v,rfl,hg.rd,_,d,st,by rw [upd_at,h1];exact alv_over,upd_ne _ _ (by omega)⟩
theorem alv_done_call {c : Col} {E : Nat → Nat} {X : Nat → Nat → List Int} {F : Nat → Nat → Bool} {q : Nat → EQ} {w : World} {e : Nat} (h : Duo c 7 E X F q 2 w) (he : E 1 = e) (hs : overB ((q 1).rs 0).st = true) :
  Calls Tryz.prog 14 #[.pointer (some ⟨e,0,none⟩),.int .i64 0] w fun x w' => x = .returned (.bool true) ∧ Below w.heap.size w w':=by
 have W:=edone (h.ends 1 (by omega)) (i:=0) (by omega)
 rw [he,hs] at W
 exact W
theorem alv_queued_call {c : Col} {E : Nat → Nat} {X : Nat → Nat → List Int} {F : Nat → Nat → Bool} {q : Nat → EQ} {w : World} {e : Nat} (h : Duo c 7 E X F q 2 w) (he : E 0 = e) (hs : (q 0).ws 0 = twoT) :
  Calls Tryz.prog 11 #[.pointer (some ⟨e,0,none⟩),.int .i64 0] w fun x w' => x = .returned (.int .i64 1) ∧ Below w.heap.size w w':=by
 have W:=equeued (h.ends 0 (by omega)) 0
 rw [if_pos (by omega),he] at W
 have e1 : (q 0).ws (0 : Int).toNat = twoT:=hs
 rw [e1,alv_queued] at W
 exact W
theorem strOf97 : strOfNums [97] = ⟨#[97]⟩:=by decide
theorem alive10 (w : World) (ht : Tab w) : Calls Tryz.prog 8 #[] w fun x w' => x = .returned (.bool true) ∧ Below w.heap.size w w':=by
 obtain ⟨B,hB⟩ : ∃ B,B = w.heap.size:=⟨_,rfl⟩
 obtain ⟨c0,hc0⟩ : ∃ c0 : Col,c0 = fun j => if j = 0 then 51 else 50:=⟨_,rfl⟩
 have O0 : Hid (OldC B c0):=(fun j _ => by rw [hc0];show (if j = 0 then 51 else 50) = 50 ∨ (if j = 0 then 51 else 50) = 51;split <;> omega : OldC B c0)
 have C0 : Hid (c0 0 = 51):=by rw [hc0];exact if_pos rfl
 have HT:=qhi ht
 have HB : Hid (B = w.heap.size):=hB
 have N0:=qhi (enew2 w 0 0 7 rfl (by omega) c0)
 rw [← hB]
 clear hB hc0 ht
 go_enter Tryz.func8,Tryz.ntmps8
 go_upto_region 2 with (go_at_call 18;refine N0.out.mono ?_;rintro x w1 ⟨e0,c1,q0,rfl,h0,hc1,hn1,hb1,_,nq0⟩;have H0:=qhi h0;have HC1:=qhi hc1;have HB1:=qhi hb1;have NQ0:=qhi nq0;clear h0 hc1 hn1 hb1 nq0)
 have N1:=qhi (enew2 w1 1 1 7 rfl (by omega) c1)
 go_upto_region 3 with (go_at_call 18;refine N1.out.mono ?_;rintro x w2 ⟨e1,c2,q1,rfl,h1,hc2,hn2,hb2,_,nq1⟩;have H1:=qhi h1;have HC2:=qhi hc2;have HN2:=qhi hn2;have HB2:=qhi hb2;have NQ1:=qhi nq1;clear h1 hc2 hn2 hb2 nq1)
 obtain ⟨E,q,hE0,hE1,hq0,hq1,D2⟩ : ∃ (E : Nat → Nat) (q : Nat → EQ),E 0 = e0 ∧ E 1 = e1 ∧ q 0 = q0 ∧ q 1 = q1 ∧ Hid (Duo c2 7 E (fun _ _ => []) (fun _ _ => false) q 0 w2):=by
  refine ⟨fun s => if s = 0 then e0 else e1,fun s => if s = 0 then q0 else q1,rfl,rfl,rfl,rfl,duo_made ((H0.out.beyond HC2.out).below HB2.out) H1.out NQ0.out NQ1.out HN2.out ((HT.out.below HB1.out HT.out.pos).below HB2.out (Nat.lt_of_lt_of_le HT.out.pos HB1.out.size)) ?_⟩
  rw [HC2.out _ (Nat.lt_of_lt_of_le HT.out.pos HB1.out.size),HC1.out _ HT.out.pos]
  exact C0.out
 have O2 : Hid (OldC B c2):=(fun j hj => by
  have h1:=HB.out
  have h2:=HB1.out.size
  rw [HC2.out j (by omega),HC1.out j (by omega)]
  exact O0.out j hj : OldC B c2)
 have BB2 : Hid (Below B w w2):=by
  rw [HB.out];exact HB1.out.trans (HB2.out.mono HB1.out.size)
 have Z2 : Hid (B ≤ w2.heap.size):=by
  show B ≤ w2.heap.size
  rw [HB.out];exact BB2.out.size
 have NN0 : Hid (NewQ 0 7 (q 0)):=by rw [hq0];exact NQ0.out
 have NN1 : Hid (NewQ 1 7 (q 1)):=by rw [hq1];exact NQ1.out
 have HE0:=qhi hE0
 have HE1:=qhi hE1
 clear N0 N1 H0 H1 HC1 HC2 HB1 HB2 HN2 NQ0 NQ1 hq0 hq1 hE0 hE1
 obtain ⟨W3,hW3⟩ : ∃ W3,W3 = w2.alloc (.cells #[.int .u8 97] 5 (1,2)):=⟨_,rfl⟩
 have CV : (convert 29 29 (.slice (some ⟨w2.heap.size,0,none⟩) 1 1)).run Tryz.prog (w2.alloc (.cells #[.int .u8 97] 5)) = .ok (.slice (some ⟨w2.heap.size,0,none⟩) 1 1) W3:=by
  rw [hW3];exact Lib.run_convert_bytes_const w2 _ _ #[.int .u8 97] 1 1 Tryz.underlying29 Tryz.underlying5
 have B3 : Hid (Below w2.heap.size w2 W3):=by rw [hW3];exact (qbr _ w2).alloc (qlr _) _
 have RD3 : Hid (Rd .u8 W3 (.slice (some ⟨w2.heap.size,0,none⟩) 1 1) [97]):=by
  rw [hW3]
  refine .inr ⟨by simp,w2.heap.size,0,1,rfl,qlr _,by decide,by simp,fun i hi => ?_⟩
  have hi0 : i = 0:=by simpa using hi
  subst hi0
  exact World.cell?_alloc_mark w2 _ _ _ _
 have WR:=qhi (alv_write_call (D2.out.below B3.out) HE0.out NN0.out (.slice (some ⟨w2.heap.size,0,none⟩) 1 1) RD3.out (fun j hj => by simp only [Value.ownBlock,Option.map_some,Option.some.injEq] at hj;subst hj;exact D2.out.new _ (qlr _)))
 clear hW3
 go_upto_region 5 with (go_at_call 12;refine WR.out.mono ?_;rintro x w4 ⟨rfl,c4,q4,X,F,d4,s4,hX,hF,ha4,hq14,hn4⟩;have D4:=qhi d4;have S4:=qhi s4;have HX:=qhi hX;have HF:=qhi hF;have HA4:=qhi ha4;have HQ4:=qhi hq14;have HN4:=qhi hn4;clear d4 s4 hX hF ha4 hq14 hn4)
 have O4:=qhi (O2.out.stp S4.out (Nat.le_trans Z2.out B3.out.size))
 have BB4:=qhi ((BB2.out.trans (B3.out.mono Z2.out)).trans (O2.out.below S4.out (by omega) (Nat.le_trans Z2.out B3.out.size)))
 have Z4 : Hid (B ≤ w4.heap.size):=Nat.le_trans (Nat.le_trans Z2.out B3.out.size) S4.out.size
 have SP:=qhi (alv_step_call D4.out HE0.out HX.out HA4.out HN4.out)
 clear WR B3 RD3 CV
 go_upto_region 6 with (go_at_call 15;refine SP.out.mono ?_;rintro x w5 ⟨c5,q5,u,bs,rfl,d5,s5,⟨hbs,hbl⟩,o5,_,hw5,hq15⟩;have HBS:=qhi hbs;have HBL:=qhi hbl;have D5:=qhi d5;have S5:=qhi s5;have OU:=qhi o5;have HW5:=qhi hw5;have HQ5:=qhi hq15;obtain ⟨ua,uc,hul⟩:=o5.len;subst hul;clear d5 s5 o5 hw5 hq15 hbs hbl)
 have O5:=qhi (O4.out.stp S5.out Z4.out)
 have BB5:=qhi (BB4.out.trans (O4.out.below S5.out (by omega) Z4.out))
 have Z5 : Hid (B ≤ w5.heap.size):=Nat.le_trans Z4.out S5.out.size
 have RC:=qhi (alv_recv_call D5.out HE1.out HX.out HF.out (by rw [HQ5.out,HQ4.out];exact NN1.out) ua _ uc bs HBS.out OU.out.rd)
 obtain ⟨ul,hul⟩ : ∃ ul,ul = bs.length:=⟨_,rfl⟩
 have hln : 0 < ul:=by rw [hul];exact HBL.out
 rw [← hul] at RC ⊢
 clear hul
 have dl : decide ((ul : Int) > 0) = true:=qdt (by omega)
 have dl2 : decide (0 < ul) = true:=qdt (by omega)
 have dl3 : decide (ul > 0) = true:=qdt (by omega)
 clear SP S4 HA4 HN4 HQ4 OU D4
 go_wp2_with (first
  | (go_at_call 16;refine RC.out.mono ?_;rintro x w6 ⟨rfl,c6,q6,d6,s6,h6,hq6⟩;have D6:=qhi d6;have O6:=qhi (O5.out.stp s6 Z5.out);have BB6:=qhi (BB5.out.trans (O5.out.below s6 (by omega) Z5.out));have Z6 : Hid (B ≤ w6.heap.size):=Nat.le_trans Z5.out s6.size;have RD:=qhi (alv_read_call d6 HE1.out h6);have HQ6:=qhi hq6;clear d6 s6 h6 hq6)
  | (go_at_call 13;refine RD.out.mono ?_;rintro x w7 ⟨v7,rfl,hr7,q7,d7,s7,h7,hq7⟩;have D7:=qhi d7;have BB7:=qhi (BB6.out.trans (O6.out.below s7 (by omega) Z6.out));have Z7 : Hid (B ≤ w7.heap.size):=Nat.le_trans Z6.out s7.size;have DN:=qhi (alv_done_call d7 HE1.out h7);have HQ7:=qhi hq7;obtain ⟨va7,vc7,hv7⟩:=hr7.isSlice;subst hv7;have KC : (convert 29 9 (.slice va7 1 vc7)).run Tryz.prog w7 = .ok (.string (strOfNums [97])) w7:=hr7.conv Tryz.underlying29 Tryz.underlying5 Tryz.underlying9;rw [strOf97] at KC;clear d7 s7 h7 hr7 hq7)
  | (go_at_call 14;refine DN.out.mono ?_;rintro x w8 ⟨rfl,hb8⟩;have D8:=qhi (D7.out.below hb8);have BB8:=qhi (BB7.out.trans (hb8.mono Z7.out));have QU:=qhi (alv_queued_call D8.out HE0.out (by rw [HQ7.out,HQ6.out];exact HW5.out));have Z8 : Hid (B ≤ w8.heap.size):=Nat.le_trans Z7.out hb8.size;clear hb8)
  | (go_at_call 11;refine QU.out.mono ?_;rintro x w9 ⟨rfl,hb9⟩;have BB9:=qhi (BB8.out.trans (hb9.mono Z8.out));clear hb9))
 go_ret
 exact ⟨rfl,BB9.out⟩
end Go.Proofs.YtmcomdmcmnbhlaaGreatDoor
