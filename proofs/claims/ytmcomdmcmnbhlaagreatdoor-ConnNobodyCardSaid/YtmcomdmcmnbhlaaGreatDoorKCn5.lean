import Derived.Test.YtmcomdmcmnbhlaaGreatDoorKCn4
import Derived.Maps.AppendAt
import Derived.Deep.RegionLaw
import Derived.Laws.CopyRow
set_option maxRecDepth 100000
set_option maxHeartbeats 25600000
set_option linter.unusedSimpArgs false
set_option linter.unusedVariables false
set_option linter.unnecessarySimpa false
namespace Go.Proofs.YtmcomdmcmnbhlaaGreatDoor
open Go.RowKit
theorem step_append_at {P : Program} {ops : Array Oper} {w : World} {o : Oper} {a : Act} {K : Act → World → Prop} {Q : Exit → Act → World → Prop} {E : Prop} (hgd : o.guard = none) (s x : Operand) (t : TypeId)
  (ho : o.op = .call { callee:=.builtin .append,args:=#[s,x],argTypes:=#[t,t] }) {e : TypeId} {m bytes : Nat} {z : Value} (hE : ElemC P e m bytes z) (ht : P.underlying t = some (.slice e))
  (B : Nat) (v : Value) (n : Nat) (fl : List Value) (hs : a.eval s = v) (hown : w.ownsRow B e m v n fl) (u : Value) (k : Nat) (gl : List Value) (hx : a.eval x = u) (hr : RdC m w u k gl) (hk : 0 < k) (hone : ∀ u ∈ gl,u.oneCell' = true)
  (hby : (n + k) * bytes ≤ 140737488355328) (h63 : n + k ≤ maxLen) (hB : B ≤ w.heap.size)
  (h : ∀ v' w',w'.ownsRow B e m v' (n + k) (fl ++ gl) → w.grownBy w' v.ownBlock → (v'.ownBlock = v.ownBlock ∨ v'.ownBlock = some w.heap.size) → K (a.put o.dst v') w') : if Region.wanted o (yielded ops a.tmps) = true then Oper.wp P o a w K Q else E:=by
 rw [if_pos (by simp [Region.wanted,hgd])]
 obtain ⟨i,hi,hz,hsz,hbs⟩:=hE.info
 obtain ⟨hlen,⟨rfl,_⟩ | ⟨h0,b,off,c,rfl,h2,h3,h4,h5⟩⟩:=hr
 ·omega
 ·obtain ⟨v',w',hrun,q2,q3,_,q5⟩:=run_append_own_at (P:=P) w B t o.type e i z m bytes ht hi hz hsz hbs hE.size hE.pos v n _ hown ⟨b,off,none⟩ k c gl hlen (fun j u hu => by rw [Addr.add_lit];exact h5 j u hu) hone h63 hby hB
  unfold Oper.wp execOp
  simp only [ho,resolve,invoke,builtin,Sem.run_bind,Sem.run_pure,Result.andThen_ok,List.map_toArray,List.map_cons,List.map_nil,hs,hx,hrun]
  exact h v' w' q2 q3 q5
theorem elemLt : ElemC Tryz.prog 115 3 16 (.agg #[.int .i64 0,.int .u8 0,.bool false]):=⟨info_parts (by kernel_rfl),rfl,by decide⟩
theorem cell_step {e j : Nat} {v : Value} {w w1 w' : World} {row : Option Nat} (h : Cell e j v w) (hb : Below w.heap.size w w1) (g : w1.grownBy w' row) (hn : row ≠ some e) : Cell e j v w':=Cell.grown (h.below hb) g hn
theorem below_ad (w : World) (ob : Obj) : Below w.heap.size w (w.alloc ob).drew:=qbd ((qbr _ w).alloc (qlr _) ob) 1
def WDone (c : Col) (k e o : Nat) (q' : WQ) (w0 w' : World) : Prop:=∃ v',Wr c k e o v' q' w' ∧ Stp c c (fun i => i = k ∨ i = c e) w0 w' ∧ Rgn e o (o + 4) w0 w'
structure WSt (c : Col) (k e o : Nat) (w0 : World) (q : WQ) (X : List Int) (n : Nat) (v : Value) (wr : World) : Prop where
 now : Wr c k e o v ⟨q.rest ++ lts q.size (X.take n),q.size + (X.take n).length,q.closed,q.limit⟩ wr
 keep : Stp c c (fun i => i = k ∨ i = c e) w0 wr
 rgn : Rgn e o (o + 4) w0 wr
theorem WSt.step {c : Col} {k e o : Nat} {w0 : World} {q : WQ} {bs : List Int} {n : Nat} {v v7 : Value} {wr w1 w7 : World} {x : Int} (S : WSt c k e o w0 q bs n v wr) (hn : n < bs.length) (hx : bs.getD n 0 = x) (hk : c e ≠ k) (hnew : ∀ j,w0.heap.size ≤ j → c j = k)
  (hb1 : Below wr.heap.size wr w1) (g : w1.grownBy w7 v.ownBlock) (o7 : w7.ownsRow 0 115 3 v7 ((q.rest ++ lts q.size (bs.take n)).length + 1) (ltC (q.rest ++ lts q.size (bs.take n)) ++ [.int .i64 (q.size + n),.int .u8 x,.bool false]))
  (b7 : v7.ownBlock = v.ownBlock ∨ v7.ownBlock = some w1.heap.size) :
  WSt c k e o w0 q bs (n + 1) v7 ((w7.setCell ⟨e,o,none⟩ v7).setCell ⟨e,o + 1,none⟩ (.int .i64 (q.size + n + 1))):=by
 obtain ⟨a7,c7,hv7,_,_⟩:=(RdC.of_owns o7).isSlice
 have hone : v7.oneCell' = true:=by rw [hv7];rfl
 have htl : (bs.take n).length = n:=by rw [List.length_take];omega
 have ht : bs.take (n + 1) = bs.take n ++ [x]:=by
  rw [List.take_succ_eq_append_getElem hn]
  congr 2
  rw [← hx];simp [List.getD,hn]
 have hrest : q.rest ++ lts q.size (bs.take (n + 1)) = (q.rest ++ lts q.size (bs.take n)) ++ [⟨q.size + n,x,false⟩]:=by
  rw [ht,lts_snoc,htl,List.append_assoc]
 have hel:=S.now.cells.c0.lt
 have hes : w0.heap.size ≤ wr.heap.size:=S.keep.size
 have hce : c e ≠ k:=hk
 have hlt7 : wr.heap.size ≤ w1.heap.size:=hb1.size
 have hcol7 : ∀ j,v7.ownBlock = some j → c j = k:=fun j hj => by
  rcases b7 with h | h
  ·exact S.now.col j (by rw [← h];exact hj)
  ·rw [hj] at h;cases h
   exact hnew _ (by omega)
 have hne7 : v7.ownBlock ≠ some e:=fun h => hce (hcol7 e h)
 have hnb : ∀ j,v7.ownBlock = some j → j ≠ e:=fun j hj h => hne7 (h ▸ hj)
 have x0:=cell_step S.now.cells.c0 hb1 g S.now.ne
 have x1:=cell_step S.now.cells.c1 hb1 g S.now.ne
 have x2:=cell_step S.now.cells.c2 hb1 g S.now.ne
 have x3:=cell_step S.now.cells.c3 hb1 g S.now.ne
 have r1 : Rgn e o (o + 1) w7 (w7.setCell ⟨e,o,none⟩ v7):=Rgn.set ⟨qlr _,by omega⟩
 have r2 : Rgn e (o + 1) (o + 2) (w7.setCell ⟨e,o,none⟩ v7) ((w7.setCell ⟨e,o,none⟩ v7).setCell ⟨e,o + 1,none⟩ (.int .i64 (q.size + n + 1))):=Rgn.set ⟨qlr _,by omega⟩
 refine ⟨⟨⟨?_,?_,?_,?_⟩,?_,hcol7,hne7⟩,?_,?_⟩
 ·exact (x0.set v7 hone).rgn r2 (by omega)
 ·have:=(x1.rgn r1 (by omega)).set (.int .i64 (q.size + n + 1)) rfl
  have e1 : q.size + ((bs.take (n + 1)).length : Int) = q.size + n + 1:=by rw [List.length_take];omega
  show Cell e (o + 1) (.int .i64 (q.size + ((bs.take (n + 1)).length : Int))) _
  rw [e1];exact this
 ·exact (x2.rgn r1 (by omega)).rgn r2 (by omega)
 ·exact (x3.rgn r1 (by omega)).rgn r2 (by omega)
 ·show OwnT _ v7 (q.rest ++ lts q.size (bs.take (n + 1)))
  unfold OwnT
  rw [hrest,List.length_append,List.length_singleton,ltC_append]
  exact ownsRow_block o7 fun j hj => (Below.heap_setCell _ _ _ _ (hnb j hj)).trans (Below.heap_setCell _ _ _ _ (hnb j hj))
 ·refine S.keep.trans ?_
  have h1 : Stp c c (fun i => i = k ∨ i = c e) wr w1:=Stp.of_below hb1
  have h2 : Stp c c (fun i => i = k ∨ i = c e) w1 w7:=Stp.of_grown g fun j hj _ => .inl (S.now.col j hj)
  exact ((h1.trans h2).trans (Stp.set _ _ (.inr rfl))).trans (Stp.set _ _ (.inr rfl))
 ·refine S.rgn.trans ?_
  have h1 : Rgn e o (o + 4) wr w1:=Rgn.below hel hb1
  have h2 : Rgn e o (o + 4) w1 w7:=Rgn.grown (by omega) g S.now.ne
  exact ((h1.trans h2).trans (r1.mono (qlr _) (by omega))).trans (r2.mono (by omega) (by omega))
theorem WSt.fin {c : Col} {k e o : Nat} {w0 : World} {q : WQ} {bs : List Int} {v v7 : Value} {wr w1 w7 : World} (S : WSt c k e o w0 q bs bs.length v wr) (hk : c e ≠ k) (hnew : ∀ j,w0.heap.size ≤ j → c j = k)
  (hb1 : Below wr.heap.size wr w1) (g : w1.grownBy w7 v.ownBlock) (o7 : w7.ownsRow 0 115 3 v7 ((q.rest ++ lts q.size (bs.take bs.length)).length + 1) (ltC (q.rest ++ lts q.size (bs.take bs.length)) ++ [.int .i64 (q.size + bs.length),.int .u8 0,.bool false]))
  (b7 : v7.ownBlock = v.ownBlock ∨ v7.ownBlock = some w1.heap.size) :
  WDone c k e o (wroteE q bs true) w0 ((w7.setCell ⟨e,o,none⟩ v7).setCell ⟨e,o + 2,none⟩ (.bool true)):=by
 obtain ⟨a7,c7,hv7,_,_⟩:=(RdC.of_owns o7).isSlice
 have hone : v7.oneCell' = true:=by rw [hv7];rfl
 have hrest : (wroteE q bs true).rest = (q.rest ++ lts q.size (bs.take bs.length)) ++ [⟨q.size + bs.length,0,false⟩]:=by simp [wroteE]
 have hel:=S.now.cells.c0.lt
 have hes : w0.heap.size ≤ wr.heap.size:=S.keep.size
 have hlt7 : wr.heap.size ≤ w1.heap.size:=hb1.size
 have hcol7 : ∀ j,v7.ownBlock = some j → c j = k:=fun j hj => by
  rcases b7 with h | h
  ·exact S.now.col j (by rw [← h];exact hj)
  ·rw [hj] at h;cases h
   exact hnew _ (by omega)
 have hne7 : v7.ownBlock ≠ some e:=fun h => hk (hcol7 e h)
 have hnb : ∀ j,v7.ownBlock = some j → j ≠ e:=fun j hj h => hne7 (h ▸ hj)
 have x0:=cell_step S.now.cells.c0 hb1 g S.now.ne
 have x1:=cell_step S.now.cells.c1 hb1 g S.now.ne
 have x2:=cell_step S.now.cells.c2 hb1 g S.now.ne
 have x3:=cell_step S.now.cells.c3 hb1 g S.now.ne
 have r1 : Rgn e o (o + 1) w7 (w7.setCell ⟨e,o,none⟩ v7):=Rgn.set ⟨qlr _,by omega⟩
 have r2 : Rgn e (o + 2) (o + 3) (w7.setCell ⟨e,o,none⟩ v7) ((w7.setCell ⟨e,o,none⟩ v7).setCell ⟨e,o + 2,none⟩ (.bool true)):=Rgn.set ⟨qlr _,by omega⟩
 refine ⟨v7,⟨⟨?_,?_,?_,?_⟩,?_,hcol7,hne7⟩,?_,?_⟩
 ·exact (x0.set v7 hone).rgn r2 (by omega)
 ·have:=(x1.rgn r1 (by omega)).rgn r2 (by omega)
  simpa [wroteE] using this
 ·exact (x2.rgn r1 (by omega)).set (.bool true) rfl
 ·exact (x3.rgn r1 (by omega)).rgn r2 (by omega)
 ·show OwnT _ v7 (wroteE q bs true).rest
  unfold OwnT
  rw [hrest,List.length_append,List.length_singleton,ltC_append]
  exact ownsRow_block o7 fun j hj => (Below.heap_setCell _ _ _ _ (hnb j hj)).trans (Below.heap_setCell _ _ _ _ (hnb j hj))
 ·refine S.keep.trans ?_
  have h1 : Stp c c (fun i => i = k ∨ i = c e) wr w1:=Stp.of_below hb1
  have h2 : Stp c c (fun i => i = k ∨ i = c e) w1 w7:=Stp.of_grown g fun j hj _ => .inl (S.now.col j hj)
  exact ((h1.trans h2).trans (Stp.set _ _ (.inr rfl))).trans (Stp.set _ _ (.inr rfl))
 ·refine S.rgn.trans ?_
  have h1 : Rgn e o (o + 4) wr w1:=Rgn.below hel hb1
  have h2 : Rgn e o (o + 4) w1 w7:=Rgn.grown (by omega) g S.now.ne
  exact ((h1.trans h2).trans (r1.mono (qlr _) (by omega))).trans (r2.mono (by omega) (by omega))
theorem write_yes {c : Col} {k e o : Nat} {v : Value} {q : WQ} {w : World} {X : List Int} {F : Bool} (h : Wr c k e o v q w) (hq : WOk X F q) (hX : (X.length : Int) ≤ 4398046511104) (hk : c e ≠ k) (hnew : ∀ j,w.heap.size ≤ j → c j = k)
  (bv : Value) (bs : List Int) (fin : Bool) (hr : Rd .u8 w bv bs) (hb : bs ≠ [] → ∀ j,bv.ownBlock = some j → c j ≠ k ∧ c j ≠ c e) (h1 : q.closed = false) (h2 : (bs.length : Int) ≤ 2048 - queuedN q) :
  Calls Tryz.prog 26 #[.pointer (some ⟨e,o,none⟩),bv,.bool fin] w fun r w' => r = .returned (.int .i64 0) ∧ WDone c k e o (wroteE q bs fin) w w':=by
 have HQd:=qhi (queued_any h hq)
 have HH:=qhi h
 have hle:=h.cells.c0.lt
 have c2:=h.cells.c2.1
 rw [h1] at c2
 have hqn:=hq.few
 have hrl:=hq.len
 have hxl:=hX
 have HSZ:=qhi hq.size
 obtain ⟨va,vc,rfl,_,_⟩ : ∃ a c,bv = .slice a bs.length c ∧ True ∧ True:=by
  rcases hr with ⟨h0,a,cc,h,_⟩ | ⟨h0,b,o,cc,h,_⟩
  ·exact ⟨a,cc,by rw [h,h0];rfl,trivial,trivial⟩
  ·exact ⟨_,cc,h,trivial,trivial⟩
 have HR:=qhi hr
 have HB:=qhi hb
 have hwq : IntKind.i64.wrap (2048 - (queuedN q : Int)) = 2048 - (queuedN q : Int):=by rw [IntKind.wrap_i64];omega
 have t1 : decide ((bs.length : Int) > 2048 - (queuedN q : Int)) = false:=qdf (by omega)
 generalize queuedN q = qn at HQd hwq t1 h2 hqn
 have HN:=qhi hnew
 have HK:=qhi hk
 clear h hq hr hb hnew
 go_enter Tryz.func26,Tryz.ntmps26
 go_wp2_with (go_at_call 25;refine HQd.out.mono ?_;rintro r w2 ⟨rfl,hb2⟩;have HB2:=qhi hb2;clear hb2)
 go_loopw [21] (fun s wr => ∃ (n : Nat) (v : Value),s = .int .i64 n ∧ n ≤ bs.length ∧ WSt c k e o w q bs n v wr) (fun s _ => bs.length - (intOf s).toNat)
 case atStart =>
  refine ⟨0,v,rfl,Nat.zero_le _,?_,Stp.of_below HB2.out,Rgn.below hle HB2.out⟩
  have:=HH.out.below HB2.out
  simpa [lts] using this
 case round =>
  obtain ⟨n,v,rfl,hn,S⟩:=hrel
  have HS:=qhi S
  have c0:=S.now.cells.c0
  have c1:=S.now.cells.c1
  have c20:=S.now.cells.c2
  obtain ⟨c0,c0f⟩:=c0
  obtain ⟨c1,c1f⟩:=c1
  obtain ⟨c20,c20f⟩:=c20
  simp only [h1] at c1 c1f c20
  obtain ⟨ra,rc,rfl,_,_⟩:=S.now.row.slice
  have hel:=S.now.cells.c0.lt
  rcases Nat.lt_or_ge n bs.length with hlt | hge
  ·obtain ⟨b,bo,bc,hbv,_,_,hbl,hbc⟩ : ∃ b bo bc,Value.slice va bs.length vc = .slice (some ⟨b,bo,none⟩) bs.length bc ∧ True ∧ True ∧ b < w.heap.size ∧ ∀ i,i < bs.length → w.cell? ⟨b,bo + i,none⟩ = some (.int .u8 (bs.getD i 0)):=by
    rcases HR.out with ⟨h0,_⟩ | ⟨h0,b,o,cc,h,h2,h3,h4,h5⟩
    ·rw [h0] at hlt;simp at hlt
    ·exact ⟨b,o,cc,h,trivial,trivial,h4,h5⟩
   simp only [Value.slice.injEq,true_and] at hbv
   obtain ⟨rfl,rfl⟩:=hbv
   have hbk:=HB.out (by intro e0;rw [e0] at hlt;simp at hlt) b rfl
   have hx : wr.cell? ⟨b,bo + n,none⟩ = some (.int .u8 (bs.getD n 0)):=by
    rw [World.cell?_of_block (w:=w) (S.keep.block b hbl (by
                                 rintro (x | x)
                                 ·exact hbk.1 x
                                 ·exact hbk.2 x))]
    exact hbc n hlt
   obtain ⟨x,hxx⟩ : ∃ x,bs.getD n 0 = x:=⟨_,rfl⟩
   rw [hxx] at hx
   have hXX:=qhi hxx
   obtain ⟨L,hL⟩ : ∃ L,(q.rest ++ lts q.size (bs.take n)).length = L:=⟨_,rfl⟩
   have hlq:=HH.out.row
   have hlen : L ≤ 8192:=by
    rw [← hL,List.length_append,lts_len,List.length_take]
    have:=hrl
    omega
   have own:=S.now.row
   have hgp : (S.now.row) = S.now.row:=rfl
   clear hgp
   unfold OwnT at own
   simp only at own
   rw [hL] at own
   simp only [hL] at c0
   have OWN:=qhi own
   have hcol:=S.now.col
   have hne:=S.now.ne
   simp only [hL] at hcol hne
   have HC:=qhi hcol
   have HNE:=qhi hne
   have HLL:=qhi hL
   have d0 : wr.drew.cell? ⟨e,o,none⟩ = some (.slice ra L rc):=c0
   have d1 : wr.drew.cell? ⟨e,o + 1,none⟩ = some (.int .i64 (q.size + ((bs.take n).length : Int))):=c1
   have htl : (bs.take n).length = n:=by rw [List.length_take];omega
   rw [htl] at c1 d1
   have hwr : IntKind.i64.wrap (q.size + (n : Int) + 1) = q.size + (n : Int) + 1:=by have:=HSZ.out;rw [IntKind.wrap_i64];omega
   have i3 : (n : Int) < (bs.length : Int):=by omega
   have i4 : (0 : Int) ≤ (n : Int):=by omega
   have f0 : wr.drew.frozen? ⟨e,o,none⟩ = false:=c0f
   have CE0:=qhi (Cell.of c0 c0f)
   have CE1:=qhi (Cell.of c1 c1f)
   clear S own hcol hne hL hbk hxx hlq htl
   go_wp2_with fail
   go_region_law (refine step_append_at rfl (.tmp 29) (.tmp 36) 46 rfl elemLt Tryz.underlying46 0 (.slice ra L rc) L (ltC (q.rest ++ lts q.size (bs.take n))) rfl (World.ownsRow.alloc (show wr.drew.ownsRow _ _ _ _ _ _ from OWN.out) _) (.slice (some ⟨wr.heap.size,0,none⟩) 1 1) 1 _ rfl (RdC.built 3 wr.drew _ _ rfl) ?_ ?_ ?_ ?_ ?_ ?_;(omega);(intro u hu;simp at hu;rcases hu with rfl | rfl | rfl <;> rfl);(omega);(unfold maxLen;omega);(omega);intro v7 w7 o7 g7 b7;obtain ⟨a7,c7,hv7,_,_⟩:=(RdC.of_owns o7).isSlice;subst hv7;have e0:=cell_step CE0.out (below_ad _ _) g7 HNE.out;have e1:=cell_step CE1.out (below_ad _ _) g7 HNE.out;have E0:=qhi e0;have E1:=qhi e1;have O7:=qhi o7;have G7:=qhi g7;have B7:=qhi b7;obtain ⟨e0,e0f⟩:=e0;obtain ⟨e1,e1f⟩:=e1;have e7 : e < w7.heap.size:=cell_lt e0;clear o7 g7 b7)
   all_goals go_wp2_with fail
   all_goals
    have hst:=HS.out.step hlt hXX.out HK.out HN.out (below_ad _ _) (by rw [HLL.out];exact G7.out) (by rw [HLL.out];exact O7.out) (by rw [HLL.out];exact B7.out)
    exact ⟨⟨n + 1,_,by simp,hlt,hst⟩,by simp [intOf];omega⟩
  ·have i3 : ¬ (n : Int) < (bs.length : Int):=by omega
   obtain rfl : n = bs.length:=by omega
   rw [List.take_length] at c1
   cases fin
   ·clear c0 c0f c1 c1f c20 c20f S
    go_wp2_with fail
    go_ret
    refine ⟨rfl,(.slice ra (q.rest ++ lts q.size (bs.take bs.length)).length rc),?_,HS.out.keep,HS.out.rgn⟩
    have hn:=HS.out.now
    rw [h1] at hn
    have e1 : (⟨q.rest ++ lts q.size (bs.take bs.length),q.size + ((bs.take bs.length).length : Int),false,q.limit⟩ : WQ) = wroteE q bs false:=by simp [wroteE]
    rw [e1] at hn
    exact hn
   ·obtain ⟨L,hL⟩ : ∃ L,(q.rest ++ lts q.size (bs.take bs.length)).length = L:=⟨_,rfl⟩
    have hlen : L ≤ 8192:=by
     rw [← hL,List.length_append,lts_len,List.length_take]
     have:=hrl
     omega
    have own:=S.now.row
    unfold OwnT at own
    simp only at own
    rw [hL] at own
    simp only [hL] at c0
    have OWN:=qhi own
    have hcol:=S.now.col
    have hne:=S.now.ne
    simp only [hL] at hcol hne
    have HC:=qhi hcol
    have HNE:=qhi hne
    have HLL:=qhi hL
    have d0 : wr.drew.cell? ⟨e,o,none⟩ = some (.slice ra L rc):=c0
    have d1 : wr.drew.cell? ⟨e,o + 1,none⟩ = some (.int .i64 (q.size + (bs.length : Int))):=c1
    have f0 : wr.drew.frozen? ⟨e,o,none⟩ = false:=c0f
    have CE0:=qhi (Cell.of c0 c0f)
    have CE1:=qhi (Cell.of c1 c1f)
    have CE2:=qhi (Cell.of c20 c20f)
    clear S own hcol hne hL
    go_wp2_with fail
    go_region_law (refine step_append_at rfl (.tmp 53) (.tmp 59) 46 rfl elemLt Tryz.underlying46 0 (.slice ra L rc) L (ltC (q.rest ++ lts q.size (bs.take bs.length))) rfl (World.ownsRow.alloc (show wr.drew.ownsRow _ _ _ _ _ _ from OWN.out) _) (.slice (some ⟨wr.heap.size,0,none⟩) 1 1) 1 _ rfl (RdC.built 3 wr.drew _ _ rfl) ?_ ?_ ?_ ?_ ?_ ?_;(omega);(intro u hu;simp at hu;rcases hu with rfl | rfl | rfl <;> rfl);(omega);(unfold maxLen;omega);(omega);intro v7 w7 o7 g7 b7;obtain ⟨a7,c7,hv7,_,_⟩:=(RdC.of_owns o7).isSlice;subst hv7;have e0:=cell_step CE0.out (below_ad _ _) g7 HNE.out;have e1:=cell_step CE1.out (below_ad _ _) g7 HNE.out;have e2:=cell_step CE2.out (below_ad _ _) g7 HNE.out;have E0:=qhi e0;have E1:=qhi e1;have O7:=qhi o7;have G7:=qhi g7;have B7:=qhi b7;obtain ⟨e0,e0f⟩:=e0;obtain ⟨e1,e1f⟩:=e1;obtain ⟨e2,e2f⟩:=e2;have e7 : e < w7.heap.size:=cell_lt e0;clear o7 g7 b7)
    all_goals go_wp2_with fail
    all_goals
     go_ret
     exact ⟨rfl,HS.out.fin HK.out HN.out (below_ad _ _) (by rw [HLL.out];exact G7.out) (by rw [HLL.out];exact O7.out) (by rw [HLL.out];exact B7.out)⟩
theorem write_any {c : Col} {k e o : Nat} {v : Value} {q : WQ} {w : World} {X : List Int} {F : Bool} (h : Wr c k e o v q w) (hq : WOk X F q) (hX : (X.length : Int) ≤ 4398046511104) (hk : c e ≠ k) (hnew : ∀ j,w.heap.size ≤ j → c j = k)
  (bv : Value) (bs : List Int) (fin : Bool) (hr : Rd .u8 w bv bs) (hb : bs ≠ [] → ∀ j,bv.ownBlock = some j → c j ≠ k ∧ c j ≠ c e) :
  Calls Tryz.prog 26 #[.pointer (some ⟨e,o,none⟩),bv,.bool fin] w fun r w' => r = .returned (.int .i64 (writeE q bs fin).2) ∧ WDone c k e o (writeE q bs fin).1 w w':=by
 by_cases h1 : q.closed = true
 ·have e : writeE q bs fin = (q,18):=if_pos h1
  rw [e]
  have c2:=h.cells.c2.1
  rw [h1] at c2
  have HH:=qhi h
  clear h hq hr hb hnew e
  go_enter Tryz.func26,Tryz.ntmps26
  go_wp2
  go_ret
  exact ⟨rfl,v,HH.out,Stp.refl _ _ _,Rgn.refl _ _ _ _⟩
 have h1' : q.closed = false:=by simpa using h1
 by_cases h2 : (2048 : Int) - queuedN q < bs.length
 ·have e' : writeE q bs fin = (q,17):=by unfold writeE;rw [if_neg h1,if_pos h2]
  rw [e']
  have HQd:=qhi (queued_any h hq)
  have c2:=h.cells.c2.1
  rw [h1'] at c2
  have HH:=qhi h
  have hqn:=hq.few
  have hle:=h.cells.c0.lt
  obtain ⟨va,vc,rfl⟩ : ∃ a c,bv = .slice a bs.length c:=by
   rcases hr with ⟨h0,a,cc,h,_⟩ | ⟨h0,b,o,cc,h,_⟩
   ·exact ⟨a,cc,by rw [h,h0];rfl⟩
   ·exact ⟨_,cc,h⟩
  have hwq : IntKind.i64.wrap (2048 - (queuedN q : Int)) = 2048 - (queuedN q : Int):=by rw [IntKind.wrap_i64];omega
  have t1 : decide ((bs.length : Int) > 2048 - (queuedN q : Int)) = true:=qdt (by omega)
  generalize queuedN q = qn at HQd hwq t1 h2 hqn
  clear h hq hr hb hnew e' h1 h2
  go_enter Tryz.func26,Tryz.ntmps26
  go_wp2_with (go_at_call 25;refine HQd.out.mono ?_;rintro r w2 ⟨rfl,hb2⟩;have HB2:=qhi hb2;clear hb2)
  go_ret
  exact ⟨rfl,v,HH.out.below HB2.out,Stp.of_below HB2.out,Rgn.below hle HB2.out⟩
 ·have e' : writeE q bs fin = (wroteE q bs fin,0):=by unfold writeE;rw [if_neg h1,if_neg h2]
  rw [e']
  exact write_yes h hq hX hk hnew bv bs fin hr hb h1' (by omega)
def noFr : Value:=.agg #[.int .i64 0,.int .i64 0,.int .i64 0,.int .i64 0,.int .i64 0,.bool false,.slice none 0 0,.slice none 0 0]
def frOf (st a : Int) (fin : Bool) (dv : Value) : Value:=.agg #[.int .i64 8,.int .i64 st,.int .i64 a,.int .i64 0,.int .i64 0,.bool fin,dv,.slice none 0 0]
def ptOf (p : Pt) : Value:=.agg #[.int .i64 p.s,.int .i64 p.f,.int .i64 p.t,.int .i64 p.l]
def TellIs (q : WQ) (g cc : Nat) (v : Value) (st room : Int) (w : World) (r : Ending) (w' : World) : Prop :=
 (r = .returned (.tuple #[noFr,ptOf ⟨0,0,0,0⟩]) ∧ (∀ i,∀ h : i < q.rest.length,q.rest[i].told = true) ∧ Below w.heap.size w w') ∨
 ∃ (i N n : Nat) (dv : Value) (hi : i < q.rest.length),WaitR q i N ∧ (n ≤ N ∧ FullT q q.limit room st i N n) ∧ Told q q.limit room st i n ∧ v = .slice (some ⟨g,0,none⟩) q.rest.length cc ∧
  r = .returned (.tuple #[frOf st q.rest[i].at_ (finOf q.size ((q.rest.drop i).take n)) dv,ptOf ⟨st,q.rest[i].at_,q.rest[i].at_ + n,0⟩]) ∧ Own .u8 5 w' w.heap.size dv (dataOf q.size ((q.rest.drop i).take n)) ∧ OwnT w' v (mark true q.rest i n) ∧ Keep [g] w w'
theorem tell_nil {c : Col} {k e o : Nat} {v : Value} {q : WQ} {w : World} (h : Wr c k e o v q w) (st room : Int) (hW : Calls Tryz.prog 111 #[.pointer (some ⟨e,o,none⟩)] ((w.alloc (.cells #[.int .i64 0,.int .i64 0,.int .i64 0,.int .i64 0,.int .i64 0,.bool false,.slice none 0 0,.slice none 0 0] 102)).alloc (.cells #[.int .i64 0,.int .i64 0,.int .i64 0,.int .i64 0] 122))
   fun r w' => r = .returned (.slice none 0 0) ∧ Below (w.heap.size + 2) ((w.alloc (.cells #[.int .i64 0,.int .i64 0,.int .i64 0,.int .i64 0,.int .i64 0,.bool false,.slice none 0 0,.slice none 0 0] 102)).alloc (.cells #[.int .i64 0,.int .i64 0,.int .i64 0,.int .i64 0] 122)) w') :
  Calls Tryz.prog 70 #[.pointer (some ⟨e,o,none⟩),.int .i64 st,.int .i64 room] w fun r w' => r = .returned (.tuple #[noFr,ptOf ⟨0,0,0,0⟩]) ∧ Below w.heap.size w w':=by
 have HW:=qhi hW
 clear hW h
 go_enter Tryz.func70,Tryz.ntmps70
 go_wp2_with (
       go_at_call 111;refine HW.out.mono ?_;rintro r w2 ⟨rfl,hb2⟩
       have HB2 : Hid (Below w.heap.size w w2):=(((qbr _ w).alloc (qlr _) _).alloc (by simp) _).trans (hb2.mono (by omega))
       have R2:=two_made (show Below ((w.alloc _).alloc _).heap.size ((w.alloc _).alloc _) w2 from (by simpa using hb2))
       have HR2:=qhi R2
       have t6:=qcb R2.1
       have t7:=qcb R2.2
       have t60:=t6 0;have t61:=t6 1;have t62:=t6 2;have t63:=t6 3;have t64:=t6 4;have t65:=t6 5;have t66:=t6 6;have t67:=t6 7
       have t70:=t7 0;have t71:=t7 1;have t72:=t7 2;have t73:=t7 3
       simp only [List.getElem?_toArray,List.getElem?_cons_zero,List.getElem?_cons_succ] at t60 t61 t62 t63 t64 t65 t66 t67 t70 t71 t72 t73
       have s6:=qub R2.1
       have s7:=qub R2.2
       have z2:=heap_lt R2.2
       clear t6 t7 hb2 R2)
 refine bodyPost_ret (tell_results rfl rfl (qcb (wOut0_is HR2.out.1 HR2.out.2 _ _ _ _ _ _ _ _ _ _ _ _).1 0) (qcb (wOut0_is HR2.out.1 HR2.out.2 _ _ _ _ _ _ _ _ _ _ _ _).1 1) (qcb (wOut0_is HR2.out.1 HR2.out.2 _ _ _ _ _ _ _ _ _ _ _ _).1 2) (qcb (wOut0_is HR2.out.1 HR2.out.2 _ _ _ _ _ _ _ _ _ _ _ _).1 3) (qcb (wOut0_is HR2.out.1 HR2.out.2 _ _ _ _ _ _ _ _ _ _ _ _).1 4) (qcb (wOut0_is HR2.out.1 HR2.out.2 _ _ _ _ _ _ _ _ _ _ _ _).1 5) (qcb (wOut0_is HR2.out.1 HR2.out.2 _ _ _ _ _ _ _ _ _ _ _ _).1 6) (qcb (wOut0_is HR2.out.1 HR2.out.2 _ _ _ _ _ _ _ _ _ _ _ _).1 7) (qcb (wOut0_is HR2.out.1 HR2.out.2 _ _ _ _ _ _ _ _ _ _ _ _).2.1 0) (qcb (wOut0_is HR2.out.1 HR2.out.2 _ _ _ _ _ _ _ _ _ _ _ _).2.1 1) (qcb (wOut0_is HR2.out.1 HR2.out.2 _ _ _ _ _ _ _ _ _ _ _ _).2.1 2) (qcb (wOut0_is HR2.out.1 HR2.out.2 _ _ _ _ _ _ _ _ _ _ _ _).2.1 3)) rfl ?_
 have K9:=(wOut0_is HR2.out.1 HR2.out.2 (.int .i64 0) (.int .i64 0) (.int .i64 0) (.int .i64 0) (.int .i64 0) (.bool false) (.slice none 0 0) (.slice none 0 0) (.int .i64 0) (.int .i64 0) (.int .i64 0) (.int .i64 0)).2.2
 exact ⟨rfl,HB2.out.trans (K9.to_below (B:=w.heap.size) (fun i hi => by simp at hi;omega) HB2.out.size)⟩
theorem wait_uniq {q : WQ} {i n i' n' : Nat} (h : WaitR q i n) (h' : WaitR q i' n') : i = i' ∧ n = n':=by
 have hl:=h.run.le
 have hl':=h'.run.le
 have hp:=h.pos
 have hp':=h'.pos
 have e : i = i':=by
  rcases Nat.lt_trichotomy i i' with h1 | h1 | h1
  ·have a:=h'.first i h1 (by omega)
   have b:=h.wait 0 (by omega) (by omega)
   simp only [Nat.add_zero] at b
   rw [a] at b;cases b
  ·exact h1
  ·have a:=h.first i' h1 (by omega)
   have b:=h'.wait 0 (by omega) (by omega)
   simp only [Nat.add_zero] at b
   rw [a] at b;cases b
 subst e
 refine ⟨rfl,?_⟩
 rcases Nat.lt_trichotomy n n' with h1 | h1 | h1
 ·rcases h.most (by omega) with a | a
  ·have b:=h'.wait n h1 (by omega)
   rw [a] at b;cases b
  ·exact absurd (h'.run.next n h1 (by omega) (by omega)) (a (by omega))
 ·exact h1
 ·rcases h'.most (by omega) with a | a
  ·have b:=h.wait n' h1 (by omega)
   rw [a] at b;cases b
  ·exact absurd (h.run.next n' h1 (by omega) (by omega)) (a (by omega))
theorem ex_min {p : Nat → Prop} (h : ∃ n,p n) : ∃ n,p n ∧ ∀ m,m < n → ¬ p m:=by
 obtain ⟨n,hn⟩:=h
 induction n using Nat.strongRecOn with
 | ind n ih =>
   by_cases hm : ∃ m,m < n ∧ p m
   ·obtain ⟨m,h1,h2⟩:=hm
    exact ih m h1 h2
   ·exact ⟨n,hn,fun m h1 h2 => hm ⟨m,h1,h2⟩⟩
theorem wait_ex (q : WQ) : (∀ i,∀ h : i < q.rest.length,q.rest[i].told = true) ∨ ∃ i n,WaitR q i n:=by
 by_cases hall : ∀ i,∀ h : i < q.rest.length,q.rest[i].told = true
 ·exact .inl hall
 refine .inr ?_
 have hex : ∃ i,∃ h : i < q.rest.length,q.rest[i].told = false:=by
  refine Classical.byContradiction fun hn => hall fun i h => ?_
  cases ht : q.rest[i].told with
  | true => rfl
  | false => exact absurd ⟨i,h,ht⟩ hn
 obtain ⟨I,⟨hi,hti⟩,hmn⟩:=ex_min hex
 have hmin : ∀ j,j < I → ∀ h : j < q.rest.length,q.rest[j].told = true:=fun j hj h => by
  cases ht : q.rest[j].told with
  | true => rfl
  | false => exact absurd ⟨h,ht⟩ (hmn j hj)
 have grow : ∀ (d n : Nat),q.rest.length - (I + n) = d → 0 < n → WaitP q I n → ∃ m,WaitR q I m:=by
  intro d
  induction d with
  | zero =>
    intro n hd hn hp
    have hle:=hp.1.le
    have hnl : ¬ I + n < q.rest.length:=by omega
    exact ⟨n,hp.1,hn,hp.2,hmin,fun h => absurd h hnl⟩
  | succ d ih =>
    intro n hd hn hp
    have hlt : I + n < q.rest.length:=by omega
    have hlt' : I + n - 1 < q.rest.length:=by omega
    by_cases hgo : q.rest[I + n].told = false ∧ q.rest[I + n].at_ = (q.rest[I + n - 1]'hlt').at_ + 1
    ·exact ih (n + 1) (by omega) (by omega) (wait_more hp hn hlt hgo.1 hgo.2)
    ·refine ⟨n,hp.1,hn,hp.2,hmin,fun h => ?_⟩
     cases ht : q.rest[I + n].told with
     | true => exact .inl rfl
     | false =>
       refine .inr fun h0 e => hgo ⟨ht,?_⟩
       have h1:=hp.1.next (n - 1) (by omega) (by omega) h0
       have e1 : I + n - 1 = I + (n - 1):=by omega
       simp only [e1]
       rw [h1,e]
       generalize q.rest[I].at_ = z
       omega
 obtain ⟨m,hm⟩:=grow _ 1 rfl (by omega) (wait_one hi hti)
 exact ⟨I,m,hm⟩
theorem tell_any {c : Col} {k e o : Nat} {v : Value} {q : WQ} {w : World} {X : List Int} {F : Bool} (h : Wr c k e o v q w) (hq : WOk X F q) (hX : (X.length : Int) ≤ 4398046511104) (ht : Tab w) (hc0 : c 0 ≠ k)
  (st room : Int) (hst : 0 ≤ st ∧ st < 4) (hroom : -100000 ≤ room ∧ room ≤ 1200) :
  Calls Tryz.prog 70 #[.pointer (some ⟨e,o,none⟩),.int .i64 st,.int .i64 room] w fun r w' => ∃ g cc,TellIs q g cc v st room w r w':=by
 rcases wait_ex q with hall | ⟨i,N,hW⟩
 ·refine (tell_nil h st room ((waiting_any (w:=(w.alloc (.cells #[.int .i64 0,.int .i64 0,.int .i64 0,.int .i64 0,.int .i64 0,.bool false,.slice none 0 0,.slice none 0 0] 102)).alloc (.cells #[.int .i64 0,.int .i64 0,.int .i64 0,.int .i64 0] 122)) (h.below (((qbr _ w).alloc (qlr _) _).alloc (by simp) _)) hq (by omega)).mono ?_)).mono ?_
  ·rintro r w' ⟨u,rfl,hu,hb⟩
   rcases hu with ⟨rfl,_⟩ | ⟨i,n,g,c,rfl,hv,hR⟩
   ·exact ⟨rfl,by simpa using hb⟩
   ·have:=hR.wait 0 hR.pos (by have:=hR.run.le;have:=hR.pos;omega)
    rw [hall] at this;cases this
  ·rintro r w' ⟨rfl,hb⟩
   exact ⟨0,0,.inl ⟨rfl,hall,hb⟩⟩
 ·have hi : i < q.rest.length:=by have:=hW.run.le;have:=hW.pos;omega
  obtain ⟨g,cc,rfl,hg,_,_⟩:=h.row.form (by intro e0;rw [e0] at hi;simp at hi)
  refine (tell_loop h hq hX ht (fun e0 => hc0 (by rw [← e0];exact h.col g rfl)) st room hst hroom i N (cc - i) hW hi (fun W hB => (waiting_any (h.below hB) hq (by omega)).mono ?_)).mono ?_
  ·rintro r w' ⟨u,rfl,hu,hb⟩
   rcases hu with ⟨_,hall⟩ | ⟨i',n',g',c',rfl,hv,hR⟩
   ·have:=hW.wait 0 hW.pos (by omega)
    rw [hall] at this;cases this
   ·obtain ⟨rfl,rfl⟩:=wait_uniq hW hR
    simp only [Value.slice.injEq,Option.some.injEq,Addr.mk.injEq,and_true,true_and] at hv
    obtain ⟨rfl,rfl⟩:=hv
    exact ⟨rfl,hb⟩
  ·rintro r w' ⟨n,dv,rfl,hn,hT,hO,hR,hK⟩
   exact ⟨g,cc,.inr ⟨i,N,n,dv,hi,hW,hn,hT,rfl,rfl,hO,hR,hK⟩⟩
theorem run_clear_rows {P : Program} (w : World) (t e ty : TypeId) (z : Value) (ht : P.underlying t = some (.slice e)) (hv : ∀ w,(zeroValue e).run P w = .ok z w) (h1 : ∀ v ∈ z.cells.toList,v.oneCell' = true) (g o n c m : Nat) (hm : z.cells.size = m) (hn : 0 < n)
  (T : TypeId) (cur : List Value) (hg : w.heap[g]? = some (.cells cur.toArray T (0,0))) (hfit : o + n * m ≤ cur.length) :
  ∃ vs : List Value,vs.length = n * m ∧ (Builtin.clear_ #[t] ty #[.slice (some ⟨g,o,none⟩) n c]).run P w = .ok (.tuple #[]) (w.setRow g (splice cur o vs).toArray):=by
 refine ⟨(Builtin.zeroCells z.cells n).toList,by simp [Builtin.zeroCells,hm],?_⟩
 have hz1 : ∀ v ∈ (Builtin.zeroCells z.cells n).toList,v.oneCell' = true:=by
  intro v hv'
  simp only [Builtin.zeroCells,Array.toList_map,Array.toList_range,List.mem_map,List.mem_range] at hv'
  obtain ⟨i,hi,rfl⟩:=hv'
  have hpos : 0 < z.cells.size:=by
   rcases Nat.eq_zero_or_pos z.cells.size with h0 | h0
   ·rw [h0] at hi;simp at hi
   ·exact h0
  have hlt : i % z.cells.size < z.cells.size:=Nat.mod_lt _ hpos
  rw [getElem!_pos z.cells _ hlt]
  exact h1 _ (by simp)
 have hst:=run_storeCells_at P g o T (Builtin.zeroCells z.cells n).toList 0 cur.toArray w hg (by simp [Builtin.zeroCells,hm];omega) hz1
 have e : (cur.toArray.toList.take (o + 0) ++ (Builtin.zeroCells z.cells n).toList ++ cur.toArray.toList.drop (o + 0 + (Builtin.zeroCells z.cells n).toList.length)).toArray = (splice cur o (Builtin.zeroCells z.cells n).toList).toArray:=by simp [splice]
 rw [e] at hst
 obtain ⟨k,rfl⟩ : ∃ k,n = k + 1:=⟨n - 1,by omega⟩
 simp [Builtin.clear_,run_underlying ht,hv,hst]
theorem splice_eq {α : Type} (L : List α) (o : Nat) (cs : List α) : splice L o cs = L.take o ++ (cs ++ L.drop (o + cs.length)):=by unfold splice;simp
theorem cut_splice (cur N vs : List Value) (a : Nat) (ha : a + N.length ≤ cur.length) : (splice (splice cur a N) (a + N.length) vs).take (a + N.length) = cur.take a ++ N:=by
 have hl : (cur.take a ++ N).length = a + N.length:=by rw [List.length_append,List.length_take];omega
 have h1 : (splice cur a N).take (a + N.length) = cur.take a ++ N:=by
  rw [splice_eq,← List.append_assoc,← hl,List.take_left']
  rfl
 rw [splice_eq (splice cur a N),h1,← hl,List.take_left']
 rfl
theorem splice_len (cur N : List Value) (a : Nat) (ha : a + N.length ≤ cur.length) : (splice cur a N).length = cur.length:=by
 unfold splice
 rw [List.length_append,List.length_append,List.length_take,List.length_drop];omega
end Go.Proofs.YtmcomdmcmnbhlaaGreatDoor
