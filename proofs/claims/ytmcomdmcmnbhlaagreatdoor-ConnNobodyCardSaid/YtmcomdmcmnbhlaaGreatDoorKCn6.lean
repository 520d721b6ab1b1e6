import Derived.Test.YtmcomdmcmnbhlaaGreatDoorKCn5
import Derived.Test.YtmcomdmcmnbhlaaGreatDoorKRm1
set_option maxRecDepth 100000
set_option maxHeartbeats 25600000
set_option linter.unusedSimpArgs false
set_option linter.unusedVariables false
set_option linter.unnecessarySimpa false
namespace Go.Proofs.YtmcomdmcmnbhlaaGreatDoor
open Go.RowKit
structure RdQ where
 b : Nat
 r : Nat
 m : Nat
 st : St9
 top : Int
 sure : Int
 told : Int
structure RrC (e o : Nat) (q : RdQ) (w : World) : Prop where
 c0 : Cell e o (.pointer (some ⟨q.b,0,none⟩)) w
 c1 : Cell e (o + 1) (.int .i64 q.top) w
 c2 : Cell e (o + 2) (.int .i64 q.sure) w
 c3 : Cell e (o + 3) (.int .i64 q.told) w
structure Rr (c : Col) (k e o : Nat) (q : RdQ) (w : World) : Prop where
 cells : RrC e o q w
 str : Str q.b q.r q.m q.st w
 col : c q.b = k ∧ c q.r = k ∧ c q.m = k
theorem RrC.block {e o : Nat} {q : RdQ} {w w' : World} (h : RrC e o q w) (hb : w'.heap[e]? = w.heap[e]?) : RrC e o q w':=⟨h.c0.block hb,h.c1.block hb,h.c2.block hb,h.c3.block hb⟩
theorem RrC.below {e o : Nat} {q : RdQ} {w w' : World} (h : RrC e o q w) (hb : Below w.heap.size w w') : RrC e o q w':=h.block (hb.block e h.c0.lt)
theorem RrC.rgn {e o lo hi : Nat} {q : RdQ} {w w' : World} (h : RrC e o q w) (k : Rgn e lo hi w w') (hd : o + 4 ≤ lo ∨ hi ≤ o) : RrC e o q w':=⟨h.c0.rgn k (by omega),h.c1.rgn k (by omega),h.c2.rgn k (by omega),h.c3.rgn k (by omega)⟩
theorem Str.stp {c c' : Col} {K : Nat → Prop} {b r m : Nat} {q : St9} {w w' : World} (h : Str b r m q w) (s : Stp c c' K w w') (h1 : ¬ K (c b)) (h2 : ¬ K (c r)) (h3 : ¬ K (c m)) : Str b r m q w':=by
 obtain ⟨f,r',m',ne⟩:=h
 have hb : ∀ i,i < w.heap.size → ¬ K (c i) → w'.heap[i]? = w.heap[i]?:=s.block
 refine ⟨?_,r'.stp s h2,m'.stp s h3,ne⟩
 obtain ⟨T,e⟩:=f
 exact ⟨T,(hb b (qgs e).1 h1).trans e⟩
theorem Rr.frame {c c' : Col} {K : Nat → Prop} {k e o lo hi : Nat} {q : RdQ} {w w' : World} (h : Rr c k e o q w) (s : Stp c c' K w w') (r : Rgn e lo hi w w') (hk : ¬ K k) (hd : o + 4 ≤ lo ∨ hi ≤ o) : Rr c' k e o q w':=by
 obtain ⟨l1,l2,l3⟩:=h.str.lt
 obtain ⟨k1,k2,k3⟩:=h.col
 exact ⟨h.cells.rgn r hd,h.str.stp s (by rw [k1];exact hk) (by rw [k2];exact hk) (by rw [k3];exact hk),(s.col _ l1).trans k1,(s.col _ l2).trans k2,(s.col _ l3).trans k3⟩
theorem Rr.stp {c c' : Col} {K : Nat → Prop} {k e o : Nat} {q : RdQ} {w w' : World} (h : Rr c k e o q w) (s : Stp c c' K w w') (hk : ¬ K k) (he : ¬ K (c e)) : Rr c' k e o q w':=by
 obtain ⟨l1,l2,l3⟩:=h.str.lt
 obtain ⟨k1,k2,k3⟩:=h.col
 exact ⟨h.cells.block (s.block e h.cells.c0.lt he),h.str.stp s (by rw [k1];exact hk) (by rw [k2];exact hk) (by rw [k3];exact hk),(s.col _ l1).trans k1,(s.col _ l2).trans k2,(s.col _ l3).trans k3⟩
theorem Rr.below {c : Col} {k e o : Nat} {q : RdQ} {w w' : World} (h : Rr c k e o q w) (hb : Below w.heap.size w w') : Rr c k e o q w':=⟨h.cells.below hb,h.str.below hb,h.col⟩
def SDone (c : Col) (k e o : Nat) (q : WQ) (r : RdQ) (w w' : World) : Prop :=
 ∃ v' q' su tl,Wr c k e o v' q' w' ∧ WSub q q' ∧ RrC e (o + 4) ⟨r.b,r.r,r.m,r.st,r.top,su,tl⟩ w' ∧ Stp c c (fun i => i = k ∨ i = c e) w w' ∧ Rgn e o (o + 8) w w'
theorem box_pt (w : World) (p : Pt) : (w.alloc (.cells #[.int .i64 p.s,.int .i64 p.f,.int .i64 p.t,.int .i64 p.l] 122)).heap[w.heap.size]? = some (.cells #[.int .i64 p.s,.int .i64 p.f,.int .i64 p.t,.int .i64 p.l] 122 (0,0)):=alloc_at _ _
theorem Cell.drew {e j : Nat} {v : Value} {w : World} (h : Cell e j v w) : Cell e j v w.drew:=h
theorem SDone.told {c : Col} {k e o : Nat} {v' : Value} {q q' : WQ} {rq : RdQ} {w w5 : World} (W : Wr c k e o v' q' w5) (hs : WSub q q') (R : RrC e (o + 4) rq w5) (S : Stp c c (fun i => i = k ∨ i = c e) w w5) (N : Rgn e o (o + 8) w w5) (hk : c e ≠ k) (x : Int) :
  SDone c k e o q rq w (w5.setCell ⟨e,o + 4 + 3,none⟩ (.int .i64 x)):=by
 have s1 : Stp c c (fun i => i = c e) w5 (w5.setCell ⟨e,o + 4 + 3,none⟩ (.int .i64 x)):=Stp.set _ _ rfl
 have r1 : Rgn e (o + 7) (o + 8) w5 (w5.setCell ⟨e,o + 4 + 3,none⟩ (.int .i64 x)):=Rgn.set ⟨by omega,by omega⟩
 exact ⟨v',q',rq.sure,x,W.frame s1 r1 (fun x => hk x.symm) (by omega),hs,⟨R.c0.rgn r1 (by omega),R.c1.rgn r1 (by omega),R.c2.rgn r1 (by omega),R.c3.set (.int .i64 x) rfl⟩,S.trans (s1.mono fun _ => .inr),N.trans (r1.mono (by omega) (by omega))⟩
theorem SDone.same {c : Col} {k e o : Nat} {v' : Value} {q q' : WQ} {rq : RdQ} {w w5 : World} (W : Wr c k e o v' q' w5) (hs : WSub q q') (R : RrC e (o + 4) rq w5) (S : Stp c c (fun i => i = k ∨ i = c e) w w5) (N : Rgn e o (o + 8) w w5) : SDone c k e o q rq w w5 :=
 ⟨v',q',rq.sure,rq.told,W,hs,R,S,N⟩
theorem row_flag {W : World} {g n c : Nat} {l : List Lt} (h : OwnT W (.slice (some ⟨g,0,none⟩) n c) l) (i : Nat) (hi : i < l.length) : ∃ tb,W.cell? ⟨g,i * 3 + 2,none⟩ = some (.bool tb) ∧ W.frozen? ⟨g,i * 3 + 2,none⟩ = false:=by
 obtain ⟨_,_,l2,lf⟩:=h.at i hi
 exact ⟨_,l2,lf⟩
theorem Wr.flag {c : Col} {k e o g cc i n : Nat} {q : WQ} {wr : World} (h : Wr c k e o (.slice (some ⟨g,0,none⟩) q.rest.length cc) { q with rest:=mark false q.rest i n } wr) (hn : i + n < q.rest.length) :
  Wr c k e o (.slice (some ⟨g,0,none⟩) q.rest.length cc) { q with rest:=mark false q.rest i (n + 1) } (wr.setCell ⟨g,(i + n) * 3 + 2,none⟩ (.bool false)):=by
 have hr:=OwnT.set h.row (i + n) (by show _ < (mark false q.rest i n).length;rw [mark_len];exact hn) false
 have hge : g ≠ e:=fun x => h.ne (by rw [x];rfl)
 refine ⟨h.cells.block (Below.heap_setCell _ _ _ _ (Ne.symm hge)) |> fun x => ⟨x.c0,x.c1,x.c2,x.c3⟩,?_,h.col,h.ne⟩
 show OwnT _ _ (mark false q.rest i (n + 1))
 have e1 : ((mark false q.rest i n).set (i + n) { (mark false q.rest i n)[i + n]'(by rw [mark_len];exact hn) with told:=false }) = mark false q.rest i (n + 1):=by
  rw [mark_get false q.rest i n (i + n) hn (by omega),if_neg (by omega)]
  exact mark_set false q.rest i n hn
 rw [← e1]
 exact hr
theorem again_any {c : Col} {k e o : Nat} {v : Value} {q : WQ} {rq : RdQ} {w : World} {X : List Int} {F : Bool} (h : Wr c k e o v q w) (hr : RrC e (o + 4) rq w) (hq : WOk X F q) (p : Pt) (hp : p.f ≤ p.t) (hk : c e ≠ k) :
  Calls Tryz.prog 57 #[.pointer (some ⟨e,o,none⟩),ptOf p] w fun r w' => r = .returned (.tuple #[]) ∧ SDone c k e o q rq w w':=by
 have B1 : Hid (Below w.heap.size w (w.alloc (.cells #[.int .i64 p.s,.int .i64 p.f,.int .i64 p.t,.int .i64 p.l] 122))):=(qbr _ w).alloc (qlr _) _
 have HW:=qhi (fun W (hW : Below w.heap.size w W) => within_any (h.below hW) hq p)
 have HWr:=qhi h
 have HRr:=qhi hr
 have HP:=qhi (box_pt w p)
 have hel:=h.cells.c0.lt
 have HZ : Hid ((w.alloc (.cells #[.int .i64 p.s,.int .i64 p.f,.int .i64 p.t,.int .i64 p.l] 122)).heap.size = w.heap.size + 1):=(by simp : _ = _)
 have HQ:=qhi hq
 have hlen:=hq.len
 have hp0 : ptOf p = .agg #[.int .i64 p.s,.int .i64 p.f,.int .i64 p.t,.int .i64 p.l]:=rfl
 rw [hp0]
 have HPP:=qhi hp
 have HKK:=qhi hk
 clear h hr hq hp0 hp hk
 go_enter Tryz.func57,Tryz.ntmps57
 go_wp2_with fail
 generalize w.alloc (.cells #[.int .i64 p.s,.int .i64 p.f,.int .i64 p.t,.int .i64 p.l] 122) = W at B1 HP HZ ⊢
 have HL : Hid (∀ V,Below W.heap.size W V → (V.cell? ⟨w.heap.size,0,none⟩ = some (.int .i64 p.s) ∧ V.cell? ⟨w.heap.size,1,none⟩ = some (.int .i64 p.f) ∧ V.cell? ⟨w.heap.size,2,none⟩ = some (.int .i64 p.t) ∧ V.cell? ⟨w.heap.size,3,none⟩ = some (.int .i64 p.l)) ∧ Below W.heap.size W V):=fun V hV => by
  have cp:=qcb (heap_below HP.out hV)
  exact ⟨⟨cp 0,cp 1,cp 2,cp 3⟩,hV⟩
 go_region_held3 (fun V => (V.cell? ⟨w.heap.size,0,none⟩ = some (.int .i64 p.s) ∧ V.cell? ⟨w.heap.size,1,none⟩ = some (.int .i64 p.f) ∧ V.cell? ⟨w.heap.size,2,none⟩ = some (.int .i64 p.t) ∧ V.cell? ⟨w.heap.size,3,none⟩ = some (.int .i64 p.l)) ∧ Below W.heap.size W V)
  (first
   | (exact HL.out _ (qbd (qbr _ _) 1))
   | (exact HL.out _ B3))
  (first
   | (go_at_call 93;refine (HW.out _ (qbd B1.out 1)).mono ?_;rintro r w3 ⟨i,j,rfl,hfi,hfj,hb3⟩;have B3 : Below W.heap.size W w3:=(qbd (qbr _ _) 1).trans hb3))
 have P3:=qhi (heap_below HP.out B3)
 have B3' : Hid (Below w.heap.size w w3):=B1.out.trans (B3.mono B1.out.size)
 have HIJ : Hid (i ≤ j ∧ j ≤ q.rest.length):=⟨hfi.mono hfj HPP.out,hfj.le⟩
 have W3:=qhi (HWr.out.below B3'.out)
 have R3:=qhi (HRr.out.below B3'.out)
 have hij:=HIJ.out.1
 have hjl:=HIJ.out.2
 have hz3 : w.heap.size < w3.heap.size:=heap_lt P3.out
 have hel3 : e < w3.heap.size:=by omega
 have hne3:=W3.out.ne
 have hrow3 : v.ownBlock ≠ some w.heap.size:=row_off W3.out.row P3.out (by decide)
 have HNR:=qhi hne3
 have HRW:=qhi hrow3
 clear hfi hfj B3 hne3 hrow3
 go_wp2_with fail
 go_loopw [6] (fun s wr => ∃ (n : Nat),s = .int .i64 (i + n : Nat) ∧ i + n ≤ j ∧ Wr c k e o v { q with rest:=mark false q.rest i n } wr ∧ w3.grownBy wr v.ownBlock) (fun s _ => j - (intOf s).toNat)
 case atStart => exact ⟨0,by simp,by omega,by rw [mark_zero];exact W3.out,World.grownBy.refl _ _⟩
 case round =>
  obtain ⟨n,rfl,hn,W,G⟩:=hrel
  have HW2:=qhi W
  have HG2:=qhi G
  obtain ⟨m,hm⟩ : ∃ m,i + n = m:=⟨_,rfl⟩
  by_cases hlt : i + n < j
  ·obtain ⟨g,cc,rfl,hg,hcap,hmx⟩:=HWr.out.row.form (by intro e0;rw [e0] at hjl;simp at hjl;omega)
   obtain ⟨tb,l2,lf⟩:=row_flag (l:=mark false q.rest i n) W.row (i + n) (by rw [mark_len];omega)
   have c0:=W.cells.c0.1
   rw [hm] at l2 lf hlt hn ⊢
   have i1 : (m : Int) < (j : Int):=by omega
   have i2 : (0 : Int) ≤ (m : Int):=by omega
   have i3 : (m : Int) < (q.rest.length : Int):=by omega
   have hgW : g < wr.heap.size:=(World.ownsRow.lt W.row g rfl).2
   clear W G
   go_wp2_with fail
   have hW:=HW2.out.flag (by omega)
   rw [hm] at hW
   refine ⟨⟨n + 1,by rw [← hm];simp;omega,by omega,hW,grownBy_trans HG2.out (grown_set _ _ _ _)⟩,by simp [intOf];omega⟩
  ·have i1 : ¬ (((i + n : Nat) : Int) < (j : Int)):=by omega
   have WSt:=WSub.mark q false i n
   have S5 : Hid (Stp c c (fun i => i = k ∨ i = c e) w wr):=(Stp.of_below B3'.out).trans (Stp.of_grown G fun j hj _ => .inl (W3.out.col j hj))
   have g5 : wr.heap[e]? = w3.heap[e]?:=G.block e hel3 (fun x => HNR.out x.symm)
   have R5:=qhi (R3.out.block g5)
   have N5 : Hid (Rgn e o (o + 8) w wr):=(Rgn.below hel B3'.out).trans (Rgn.of_block g5)
   have P5:=qhi (heap_grown P3.out G HRW.out)
   have HWS:=qhi WSt
   have cp:=qcb P5.out
   have p5:=cp 3
   simp only [List.getElem?_toArray,List.getElem?_cons_zero,List.getElem?_cons_succ] at p5
   obtain ⟨s5,s5f⟩:=R5.out.c3
   have p5d : wr.drew.cell? ⟨w.heap.size,3,none⟩ = some (.int .i64 p.l):=p5
   have s5d : wr.drew.cell? ⟨e,o + 4 + 3,none⟩ = some (.int .i64 rq.told):=s5
   clear cp W G WSt g5
   have HB9 : ∀ n,Below wr.heap.size wr (wr.drewN n):=fun n => qbd (qbr _ _) n
   cases e1 : (p.l == rq.told)
   ·go_wp2_with fail
    go_quiet (fail)
    go_wp2_with fail
    go_end0
    exact ⟨rfl,SDone.same (HW2.out.below (HB9 _)) HWS.out (R5.out.below (HB9 _)) (S5.out.drewN _) (N5.out.trans (Rgn.of_block rfl))⟩
   ·go_wp2_with fail
    go_quiet (fail)
    have f5 : (wr.drewN nq).frozen? ⟨e,o + 4 + 3,none⟩ = false:=s5f
    have f6 : (wr.drewN nq).cell? ⟨e,o + 4 + 3,none⟩ = some (.int .i64 rq.told):=s5
    go_wp2_with fail
    go_end0
    exact ⟨rfl,SDone.told (HW2.out.below (HB9 _)) HWS.out (R5.out.below (HB9 _)) (S5.out.drewN _) (N5.out.trans (Rgn.of_block rfl)) HKK.out _⟩
def idleR (q : RdQ) : Bool:=(!decide (q.st.e = -1)) || decide (((q.st.p + q.st.row.length : Nat) : Int) ≤ q.sure)
def dueR (q : RdQ) : Bool:=(!idleR q) && decide (q.told < ((q.st.p + q.st.row.length : Nat) : Int))
theorem Str.dn {b r m : Nat} {q : St9} {w : World} (h : Str b r m q w) (n : Nat) : Str b r m q (w.drewN n):=h.below (qbd (qbr _ _) n)
theorem idleR_any {e o : Nat} {q : RdQ} {w : World} (h : RrC e o q w) (hs : Str q.b q.r q.m q.st w) (hb : q.st.p + q.st.row.length ≤ 9223372036854775807) :
  Calls Tryz.prog 85 #[.pointer (some ⟨e,o,none⟩)] w fun r w' => r = .returned (.bool (idleR q)) ∧ ∃ n,w' = w.drewN n:=by
 have he:=end_any w hs
 obtain ⟨E0,hE0⟩ : ∃ x : Int,(if q.st.e = -1 then 0 else q.st.e) = x:=⟨_,rfl⟩
 rw [hE0] at he
 have HE:=qhi he
 clear he hE0
 have HL:=qhi (fun n => limit_any (w.drewN n) (hs.dn n) hb)
 have c0:=h.c0.1
 have c2:=h.c2.1
 have c0d : w.drew.cell? ⟨e,o,none⟩ = some (.pointer (some ⟨q.b,0,none⟩)):=c0
 have c2d : w.drew.cell? ⟨e,o + 2,none⟩ = some (.int .i64 q.sure):=c2
 have E : Hid (idleR q = ((!decide (q.st.e = -1)) || decide (((q.st.p + q.st.row.length : Nat) : Int) ≤ q.sure))):=rfl
 generalize q.st.p + q.st.row.length = L at HL E
 clear h hs hb
 cases e1 : decide (q.st.e = -1)
 ·rw [e1] at HE E
  go_enter Tryz.func85,Tryz.ntmps85
  go_wp2_with (go_at_call 126;refine HE.out.mono ?_;rintro r w2 ⟨rfl,h⟩;obtain rfl : w = w2:=h.symm)
  go_quiet (fail)
  go_wp2_with fail
  go_ret
  rw [E.out]
  exact ⟨rfl,_,rfl⟩
 ·rw [e1] at HE E
  go_enter Tryz.func85,Tryz.ntmps85
  go_wp2_with (go_at_call 126;refine HE.out.mono ?_;rintro r w2 ⟨rfl,h⟩;obtain rfl : w = w2:=h.symm)
  go_quiet (first | (go_at_call 69;refine Calls.quiet_of (HL.out _)))
  go_wp2_with fail
  go_ret
  rw [E.out]
  exact ⟨rfl,_,rfl⟩
theorem due_any {e o : Nat} {q : RdQ} {w : World} (h : RrC e o q w) (hs : Str q.b q.r q.m q.st w) (hb : q.st.p + q.st.row.length ≤ 9223372036854775807) :
  Calls Tryz.prog 68 #[.pointer (some ⟨e,o,none⟩)] w fun r w' => r = .returned (.bool (dueR q)) ∧ ∃ n,w' = w.drewN n:=by
 have HI:=qhi (fun n => idleR_any (w:=w.drewN n) (h.below (qbd (qbr _ _) n)) (hs.dn n) hb)
 have HL:=qhi (fun n => limit_any (w.drewN n) (hs.dn n) hb)
 have c0:=h.c0.1
 have c3:=h.c3.1
 have c0d : w.drew.cell? ⟨e,o,none⟩ = some (.pointer (some ⟨q.b,0,none⟩)):=c0
 have c3d : w.drew.cell? ⟨e,o + 3,none⟩ = some (.int .i64 q.told):=c3
 have E : Hid (dueR q = ((!idleR q) && decide (q.told < ((q.st.p + q.st.row.length : Nat) : Int)))):=rfl
 generalize q.st.p + q.st.row.length = L at HL E
 clear h hs hb
 cases e1 : idleR q
 ·rw [e1] at HI E
  go_enter Tryz.func68,Tryz.ntmps68
  go_wp2_with fail
  go_quiet (first
   | (go_at_call 85;refine Calls.quiet_of (HI.out _))
   | (go_at_call 69;refine Calls.quiet_of (HL.out _)))
  go_wp2_with fail
  go_ret
  rw [E.out]
  exact ⟨rfl,_,rfl⟩
 ·rw [e1] at HI E
  go_enter Tryz.func68,Tryz.ntmps68
  go_wp2_with fail
  go_quiet (first
   | (go_at_call 85;refine Calls.quiet_of (HI.out _))
   | (go_at_call 69;refine Calls.quiet_of (HL.out _)))
  go_wp2_with fail
  go_ret
  rw [E.out]
  exact ⟨rfl,_,rfl⟩
structure Bd where
 lim : Int
 top : Int
 en : Int
 kn : Bool
def bdOf (q : RdQ) : Bd:=⟨(q.st.p + q.st.row.length : Nat),q.top,(if q.st.e = -1 then 0 else q.st.e),!decide (q.st.e = -1)⟩
structure BdC (e o : Nat) (b : Bd) (w : World) : Prop where
 c0 : Cell e o (.int .i64 b.lim) w
 c1 : Cell e (o + 1) (.int .i64 b.top) w
 c2 : Cell e (o + 2) (.int .i64 b.en) w
 c3 : Cell e (o + 3) (.bool b.kn) w
def BdS (e o : Nat) (w w' : World) : Prop:=∃ b,BdC e o b w' ∧ Keep [e] w w' ∧ Rgn e o (o + 4) w w'
theorem BdS.of {e o : Nat} {b : Bd} {w : World} (h : BdC e o b w) : BdS e o w w:=⟨b,h,Keep.refl _ _,Rgn.refl _ _ _ _⟩
theorem BdS.set1 {e o : Nat} {w w' : World} (h : BdS e o w w') (x : Int) : BdS e o w (w'.setCell ⟨e,o + 1,none⟩ (.int .i64 x)):=by
 obtain ⟨b,h,k,r⟩:=h
 have r1 : Rgn e (o + 1) (o + 2) w' (w'.setCell ⟨e,o + 1,none⟩ (.int .i64 x)):=Rgn.set ⟨by omega,by omega⟩
 exact ⟨⟨b.lim,x,b.en,b.kn⟩,⟨h.c0.rgn r1 (by omega),h.c1.set (.int .i64 x) rfl,h.c2.rgn r1 (by omega),h.c3.rgn r1 (by omega)⟩,k.trans (keep_set _ _ _ _) (fun i hi => .inl hi),r.trans (r1.mono (by omega) (by omega))⟩
theorem BdS.set2 {e o : Nat} {w w' : World} (h : BdS e o w w') (x : Int) : BdS e o w (w'.setCell ⟨e,o + 2,none⟩ (.int .i64 x)):=by
 obtain ⟨b,h,k,r⟩:=h
 have r1 : Rgn e (o + 2) (o + 3) w' (w'.setCell ⟨e,o + 2,none⟩ (.int .i64 x)):=Rgn.set ⟨by omega,by omega⟩
 exact ⟨⟨b.lim,b.top,x,b.kn⟩,⟨h.c0.rgn r1 (by omega),h.c1.rgn r1 (by omega),h.c2.set (.int .i64 x) rfl,h.c3.rgn r1 (by omega)⟩,k.trans (keep_set _ _ _ _) (fun i hi => .inl hi),r.trans (r1.mono (by omega) (by omega))⟩
theorem BdS.set3 {e o : Nat} {w w' : World} (h : BdS e o w w') (x : Bool) : BdS e o w (w'.setCell ⟨e,o + 3,none⟩ (.bool x)):=by
 obtain ⟨b,h,k,r⟩:=h
 have r1 : Rgn e (o + 3) (o + 4) w' (w'.setCell ⟨e,o + 3,none⟩ (.bool x)):=Rgn.set ⟨by omega,by omega⟩
 exact ⟨⟨b.lim,b.top,b.en,x⟩,⟨h.c0.rgn r1 (by omega),h.c1.rgn r1 (by omega),h.c2.rgn r1 (by omega),h.c3.set (.bool x) rfl⟩,k.trans (keep_set _ _ _ _) (fun i hi => .inl hi),r.trans (r1.mono (by omega) (by omega))⟩
theorem BdS.below {e o : Nat} {w w' w2 : World} (h : BdS e o w w') (hb : Below w'.heap.size w' w2) : BdS e o w w2:=by
 obtain ⟨b,h,k,r⟩:=h
 exact ⟨b,⟨h.c0.below hb,h.c1.below hb,h.c2.below hb,h.c3.below hb⟩,k.then_below hb,r.trans (Rgn.below h.c0.lt hb)⟩
theorem BdS.alloc {e o : Nat} {w w' : World} (h : BdS e o w w') (ob : Obj) : BdS e o w (w'.alloc ob):=h.below ((qbr _ _).alloc (qlr _) _)
theorem takeB_any {e o : Nat} {b : Bd} {w : World} (h : BdC e o b w) (kd st off n cd : Int) (fin : Bool) (da sa : Option Addr) (len dc sl sc : Nat) (h0 : 0 ≤ off ∧ off + len ≤ 4611686018427387903) :
  Calls Tryz.prog 80 #[.pointer (some ⟨e,o,none⟩),.agg #[.int .i64 kd,.int .i64 st,.int .i64 off,.int .i64 n,.int .i64 cd,.bool fin,.slice da len dc,.slice sa sl sc]] w fun r w' => (∃ c,r = .returned (.int .i64 c)) ∧ BdS e o w w':=by
 have HB:=qhi (BdS.of h)
 obtain ⟨lim,top,en,kn⟩:=b
 obtain ⟨⟨c0,f0⟩,⟨c1,f1⟩,⟨c2,f2⟩,⟨c3,f3⟩⟩:=h
 simp only at c0 c1 c2 c3
 have hel:=cell_lt c0
 have hne : e ≠ w.heap.size:=by omega
 have hw : IntKind.i64.wrap (off + (len : Int)) = off + (len : Int):=by rw [IntKind.wrap_i64];omega
 obtain ⟨tz,htz⟩ : ∃ x,off + (len : Int) = x:=⟨_,rfl⟩
 rw [htz] at hw
 clear h0 htz
 cases kn <;> cases fin
 all_goals
  go_enter Tryz.func80,Tryz.ntmps80
  go_wp2_with fail
 all_goals go_ret
 all_goals refine ⟨⟨_,rfl⟩,?_⟩
 all_goals with_reducible first
  | exact HB.out.alloc _
  | exact (HB.out.set1 _).alloc _
  | exact ((HB.out.set2 _).set3 _).alloc _
  | exact (((HB.out.set1 _).set2 _).set3 _).alloc _
theorem takeB_yes {e o : Nat} {b : Bd} {w : World} (h : BdC e o b w) (kd st off n cd : Int) (da sa : Option Addr) (len dc sl sc : Nat) (h0 : 0 ≤ off ∧ off + len ≤ 4611686018427387903) (h1 : off + len ≤ b.lim) (h2 : b.kn = false) (h3 : b.top ≤ off + len) :
  Calls Tryz.prog 80 #[.pointer (some ⟨e,o,none⟩),.agg #[.int .i64 kd,.int .i64 st,.int .i64 off,.int .i64 n,.int .i64 cd,.bool true,.slice da len dc,.slice sa sl sc]] w fun r w' => r = .returned (.int .i64 0) ∧ BdS e o w w':=by
 have HB:=qhi (BdS.of h)
 obtain ⟨lim,top,en,kn⟩:=b
 simp only at h2
 subst h2
 obtain ⟨⟨c0,f0⟩,⟨c1,f1⟩,⟨c2,f2⟩,⟨c3,f3⟩⟩:=h
 simp only at c0 c1 c2 c3 h1 h3
 have hel:=cell_lt c0
 have hne : e ≠ w.heap.size:=by omega
 have hw : IntKind.i64.wrap (off + (len : Int)) = off + (len : Int):=by rw [IntKind.wrap_i64];omega
 have e1 : decide (off + (len : Int) > lim) = false:=qdf (by omega)
 have e2 : decide (off + (len : Int) < top) = false:=qdf (by omega)
 clear h0 h1 h3
 go_enter Tryz.func80,Tryz.ntmps80
 go_wp2_with fail
 all_goals go_ret
 all_goals refine ⟨rfl,?_⟩
 all_goals with_reducible first
  | exact HB.out.alloc _
  | exact (HB.out.set1 _).alloc _
  | exact ((HB.out.set2 _).set3 _).alloc _
  | exact (((HB.out.set1 _).set2 _).set3 _).alloc _
def bdV (b : Bd) : Value:=.agg #[.int .i64 b.lim,.int .i64 b.top,.int .i64 b.en,.bool b.kn]
theorem bounds_results {W : World} {tmps : Array Value} {A : Nat} {v0 v1 v2 v3 : Value} (h6 : tmps[2]?.getD undef = .pointer (some ⟨A,0,none⟩))
  (c0 : W.cell? ⟨A,0,none⟩ = some v0) (c1 : W.cell? ⟨A,1,none⟩ = some v1) (c2 : W.cell? ⟨A,2,none⟩ = some v2) (c3 : W.cell? ⟨A,3,none⟩ = some v3) :
  (results Tryz.f79 tmps).run Tryz.prog W = .ok (.agg #[v0,v1,v2,v3]) W:=by
 have hr : Tryz.f79.results = #[.cell 2 156]:=rfl
 simp only [results,hr]
 go_simp
theorem bounds_any {e o : Nat} {q : RdQ} {w : World} (h : RrC e o q w) (hs : Str q.b q.r q.m q.st w) (hb : q.st.p + q.st.row.length ≤ 9223372036854775807) :
  Calls Tryz.prog 79 #[.pointer (some ⟨e,o,none⟩)] w fun r w' => r = .returned (bdV (bdOf q)) ∧ Below w.heap.size w w':=by
 obtain ⟨w1,hw1⟩ : ∃ w1,w1 = w.alloc (.cells #[.int .i64 0,.int .i64 0,.int .i64 0,.bool false] 156):=⟨_,rfl⟩
 have B1 : Hid (Below w.heap.size w w1):=by subst hw1;exact ((qbr _ w).alloc (qlr _) _ : Below _ _ _)
 have hs1:=hs.below B1.out
 have h1:=h.below B1.out
 have he:=end_any w1 hs1
 have A1 : Hid (w1.heap[w.heap.size]? = some (.cells #[.int .i64 0,.int .i64 0,.int .i64 0,.bool false] 156 (0,0))):=by subst hw1;exact (alloc_at w _ : _ = _)
 have E : Hid (bdV (bdOf q) = .agg #[.int .i64 (q.st.p + q.st.row.length : Nat),.int .i64 q.top,.int .i64 (if q.st.e = -1 then 0 else q.st.e),.bool (!decide (q.st.e = -1))]):=rfl
 obtain ⟨E0,hE0⟩ : ∃ x : Int,(if q.st.e = -1 then 0 else q.st.e) = x:=⟨_,rfl⟩
 obtain ⟨kn,hkn⟩ : ∃ x : Bool,(!decide (q.st.e = -1)) = x:=⟨_,rfl⟩
 rw [hE0,hkn] at he E
 have HE:=qhi he
 have HL:=qhi (fun n => limit_any (w1.drewN n) (hs1.dn n) hb)
 have c0:=h1.c0.1
 have c1:=h1.c1.1
 have hel:=h.c0.lt
 generalize q.st.p + q.st.row.length = L at HL E
 have HC : Hid (∀ n,((w1.drewN n).cell? ⟨e,o,none⟩ = some (.pointer (some ⟨q.b,0,none⟩)) ∧ (w1.drewN n).cell? ⟨e,o + 1,none⟩ = some (.int .i64 q.top)) ∧ ∃ m,w1.drewN n = w1.drewN m):=fun n => ⟨⟨c0,c1⟩,n,rfl⟩
 clear h hs hb h1 hs1 he hE0 hkn
 obtain ⟨A,hA⟩ : ∃ A,w.heap.size = A:=⟨_,rfl⟩
 rw [hA] at B1 A1 hel ⊢
 go_enter Tryz.func79,Tryz.ntmps79
 go_upto_region 1 with fail
 rw [← hw1]
 clear hw1 hA
 go_wp2_with (go_at_call 126;refine HE.out.mono ?_;rintro r w2 ⟨rfl,h⟩;obtain rfl : w1 = w2:=h.symm)
 have cA:=qcb A1.out
 have a0:=cA 0;have a1:=cA 1;have a2:=cA 2;have a3:=cA 3
 simp only [List.getElem?_toArray,List.getElem?_cons_zero,List.getElem?_cons_succ] at a0 a1 a2 a3
 have fA:=qub A1.out
 have hne : e ≠ A:=by omega
 have hne' : A ≠ e:=by omega
 have HC2 : Hid (∀ V,Below A w1 V → V.cell? ⟨e,o,none⟩ = some (.pointer (some ⟨q.b,0,none⟩)) ∧ V.cell? ⟨e,o + 1,none⟩ = some (.int .i64 q.top)):=fun V hV => ⟨(hV.cell (p:=⟨e,o,none⟩) hel).trans c0,(hV.cell (p:=⟨e,o + 1,none⟩) hel).trans c1⟩
 go_region_held3 (fun V => V.cell? ⟨e,o,none⟩ = some (.pointer (some ⟨q.b,0,none⟩)) ∧ V.cell? ⟨e,o + 1,none⟩ = some (.int .i64 q.top))
  (first
   | (with_reducible exact HC2.out _ (qbd (qbr A w1) _))
   | (with_reducible exact HC2.out _ ((((((qbd (qbr A w1) _).setCell (p:=⟨A,0,none⟩) (qlr _) _).setCell (p:=⟨A,1,none⟩) (qlr _) _).setCell (p:=⟨A,2,none⟩) (qlr _) _).setCell (p:=⟨A,3,none⟩) (qlr _) _)))
   | (exact HC2.out _ (qbd (qbr A w1) 1)))
  (first
   | (go_at_call 69;refine (HL.out 1).mono ?_;rintro r w3 ⟨rfl,n3,rfl⟩;rw [World.drewN_drewN]))
 all_goals
  go_wp2_with fail
  have h0:=heap_set (j:=0) (u:=.int .i64 L) (show (w1.drewN (1 + n3)).heap[A]? = some (.cells #[.int .i64 0,.int .i64 0,.int .i64 0,.bool false] 156 (0,0)) from A1.out)
  have h1:=heap_set (j:=3) (u:=.bool kn) (heap_set (j:=2) (u:=.int .i64 E0) (heap_set (j:=1) (u:=.int .i64 q.top) h0))
  simp only [Array.set!_eq_setIfInBounds,List.setIfInBounds_toArray,List.set_cons_zero,List.set_cons_succ] at h1
  refine bodyPost_ret (bounds_results rfl (qcb h1 0) (qcb h1 1) (qcb h1 2) (qcb h1 3)) rfl ?_
  rw [E.out]
  refine ⟨rfl,?_⟩
  exact ((((qbd B1.out _).setCell (p:=⟨A,0,none⟩) (qlr _) _).setCell (p:=⟨A,1,none⟩) (qlr _) _).setCell (p:=⟨A,2,none⟩) (qlr _) _).setCell (p:=⟨A,3,none⟩) (qlr _) _
structure RTake (c : Col) (k e o : Nat) (q : RdQ) (off : Int) (bs : List Int) (fin : Bool) (w w' : World) : Prop where
 now : ∃ tp,Rr c k e o ⟨q.b,q.r,q.m,(dataE q.st off bs fin).1,tp,q.sure,q.told⟩ w'
 stp : Stp c c (fun i => i = k ∨ i = c e) w w'
 rgn : Rgn e o (o + 4) w w'
theorem RTake.top {c : Col} {k e o : Nat} {q : RdQ} {off : Int} {bs : List Int} {fin : Bool} {w w' : World} (h : RTake c k e o q off bs fin w w') (hk : c e ≠ k) (x : Int) : RTake c k e o q off bs fin w (w'.setCell ⟨e,o + 1,none⟩ (.int .i64 x)).drew:=by
 obtain ⟨⟨tp,hn⟩,s,r⟩:=h
 have s1 : Stp c c (fun i => i = c e) w' (w'.setCell ⟨e,o + 1,none⟩ (.int .i64 x)):=Stp.set _ _ rfl
 have r1 : Rgn e (o + 1) (o + 2) w' (w'.setCell ⟨e,o + 1,none⟩ (.int .i64 x)):=Rgn.set ⟨by omega,by omega⟩
 obtain ⟨k1,k2,k3⟩:=hn.col
 refine ⟨⟨x,⟨(hn.cells.c0.rgn r1 (by omega)).drew,(hn.cells.c1.set (.int .i64 x) rfl).drew,(hn.cells.c2.rgn r1 (by omega)).drew,(hn.cells.c3.rgn r1 (by omega)).drew⟩,?_,k1,k2,k3⟩,(s.trans (s1.mono fun _ => .inr)).drew,r.trans (r1.mono (by omega) (by omega))⟩
 exact (hn.str.stp s1 (by simp only [k1];exact fun x => hk x.symm) (by simp only [k2];exact fun x => hk x.symm) (by simp only [k3];exact fun x => hk x.symm)).dn 1
theorem rtake_any {c : Col} {k e o : Nat} {q : RdQ} {w : World} (h : Rr c k e o q w) (hok : Ok9 q.st) (hk : c e ≠ k) (kd st off n cd : Int) (fin : Bool) (da : Option Addr) (bs : List Int) (dc : Nat) (sv : Value) (h1 : sv.oneCell' = true) (hR : Rd .u8 w (.slice da bs.length dc) bs) (hb : bs ≠ [] → ∀ j,(Value.slice da bs.length dc).ownBlock = some j → c j ≠ k)
  (h0 : 0 ≤ off ∧ off + bs.length ≤ 4611686018427387903) :
  Calls Tryz.prog 84 #[.pointer (some ⟨e,o,none⟩),.agg #[.int .i64 kd,.int .i64 st,.int .i64 off,.int .i64 n,.int .i64 cd,.bool fin,.slice da bs.length dc,sv]] w fun r w' => r = .returned (.tuple #[]) ∧ RTake c k e o q off bs fin w w':=by
 obtain ⟨k1,k2,k3⟩:=h.col
 obtain ⟨w1,hw1⟩ : ∃ w1,w1 = w.alloc (.cells #[.int .i64 kd,.int .i64 st,.int .i64 off,.int .i64 n,.int .i64 cd,.bool fin,.slice da bs.length dc,sv] 102):=⟨_,rfl⟩
 have B1 : Hid (Below w.heap.size w w1):=by subst hw1;exact ((qbr _ w).alloc (qlr _) _ : Below _ _ _)
 have A1 : Hid (w1.heap[w.heap.size]? = some (.cells #[.int .i64 kd,.int .i64 st,.int .i64 off,.int .i64 n,.int .i64 cd,.bool fin,.slice da bs.length dc,sv] 102 (0,0))):=by subst hw1;exact (alloc_at w _ : _ = _)
 have hel:=h.cells.c0.lt
 have hbe : q.b ≠ e:=fun x => hk (by rw [← x];exact k1)
 have hre : q.r ≠ e:=fun x => hk (by rw [← x];exact k2)
 have hme : q.m ≠ e:=fun x => hk (by rw [← x];exact k3)
 obtain ⟨l1,l2,l3⟩:=h.str.lt
 have HD:=qhi (fun n => data_any9 q.b q.r q.m q.st off (.slice da bs.length dc) bs fin (w1.drewN n) hok ((h.str.below B1.out).dn n) (hR.below (qbd B1.out n)) (fun h0 j hj => ⟨fun x => hb h0 j hj (x ▸ k1),fun x => hb h0 j hj (x ▸ k2),fun x => hb h0 j hj (x ▸ k3)⟩))
 have HR:=qhi h
 have HC0:=qhi (h.cells.below B1.out).c0
 have c0:=(h.cells.below B1.out).c0.1
 have hw : IntKind.i64.wrap (off + (bs.length : Int)) = off + (bs.length : Int):=by rw [IntKind.wrap_i64];omega
 have hww : w1.heap.size = w.heap.size + 1:=by subst hw1;simp
 have HK:=qhi hk
 clear h hok hb hR h0
 obtain ⟨A,hA⟩ : ∃ A,w.heap.size = A:=⟨_,rfl⟩
 go_enter Tryz.func84,Tryz.ntmps84
 go_upto_region 1 with fail
 rw [← hw1]
 clear hw1
 rw [hA] at A1
 have cA:=qcb A1.out
 have a2:=cA 2;have a5:=cA 5;have a6:=cA 6
 simp only [List.getElem?_toArray,List.getElem?_cons_zero,List.getElem?_cons_succ] at a2 a5 a6
 have c0d : w1.drew.cell? ⟨e,o,none⟩ = some (.pointer (some ⟨q.b,0,none⟩)):=c0
 have a2d : w1.drew.cell? ⟨A,2,none⟩ = some (.int .i64 off):=a2
 have a5d : w1.drew.cell? ⟨A,5,none⟩ = some (.bool fin):=a5
 have a6d : w1.drew.cell? ⟨A,6,none⟩ = some (.slice da bs.length dc):=a6
 clear cA
 have HCell : Hid (∀ V,Keep [q.b,q.r,q.m] (w1.drewN 1) V → V.cell? ⟨e,o,none⟩ = some (.pointer (some ⟨q.b,0,none⟩)) ∧ V.cell? ⟨A,2,none⟩ = some (.int .i64 off) ∧ V.cell? ⟨A,5,none⟩ = some (.bool fin) ∧ V.cell? ⟨A,6,none⟩ = some (.slice da bs.length dc)):=fun V hV =>
  ⟨hV.cell (p:=⟨e,o,none⟩) c0 (by simp;exact ⟨fun x => hbe x.symm,fun x => hre x.symm,fun x => hme x.symm⟩),hV.cell (p:=⟨A,2,none⟩) a2 (by simp;omega),hV.cell (p:=⟨A,5,none⟩) a5 (by simp;omega),hV.cell (p:=⟨A,6,none⟩) a6 (by simp;omega)⟩
 go_region_held3 (fun V => V.cell? ⟨e,o,none⟩ = some (.pointer (some ⟨q.b,0,none⟩)) ∧ V.cell? ⟨A,2,none⟩ = some (.int .i64 off) ∧ V.cell? ⟨A,5,none⟩ = some (.bool fin) ∧ V.cell? ⟨A,6,none⟩ = some (.slice da bs.length dc))
  (first
   | (exact ⟨c0,a2,a5,a6⟩)
   | (exact ⟨g0,g2,g5,g6⟩))
  (first
   | (go_at_call 135;refine (HD.out 1).mono ?_;rintro r w3 ⟨rfl,hs3,hk3⟩;have G3:=qhi (HCell.out _ hk3);have S3:=qhi hs3;have K3:=qhi hk3;have g0:=G3.out.1;have g2:=G3.out.2.1;have g5:=G3.out.2.2.1;have g6:=G3.out.2.2.2;clear hs3 hk3))
 all_goals
  have hb3 : Hid (RTake c k e o q off bs fin w w3):=by
   have s1 : Stp c c (fun i => i = k ∨ i = c e) w w3:=(Stp.of_below (B1.out)).trans ((Stp.of_below (qbd (qbr _ w1) 1)).trans (Stp.of_keep K3.out (fun i hi _ => .inl (by
    simp at hi
    rcases hi with rfl | rfl | rfl
    ·exact k1
    ·exact k2
    ·exact k3))))
   have hek : e ∉ [q.b,q.r,q.m]:=by simp;exact ⟨fun x => hbe x.symm,fun x => hre x.symm,fun x => hme x.symm⟩
   have e3 : w3.heap[e]? = (w1.drewN 1).heap[e]?:=K3.out.block e (by show e < w1.heap.size;omega) hek
   have c3:=((HR.out.cells.below B1.out).below (qbd (qbr _ w1) 1)).block e3
   exact (⟨⟨q.top,⟨c3.c0,c3.c1,c3.c2,c3.c3⟩,S3.out,k1,k2,k3⟩,s1,(Rgn.below hel B1.out).trans (Rgn.of_block e3)⟩ : RTake c k e o q off bs fin w w3)
  have T3:=hb3
  obtain ⟨⟨tp,hnow⟩,_,_⟩:=hb3.out
  obtain ⟨c1,c1f⟩:=hnow.cells.c1
  simp only at c1
  have CC:=qhi hnow
  have c1d : w3.drew.cell? ⟨e,o + 1,none⟩ = some (.int .i64 tp):=c1
  have c1g : w3.drew.frozen? ⟨e,o + 1,none⟩ = false:=c1f
  have g2d : w3.drew.cell? ⟨A,2,none⟩ = some (.int .i64 off):=g2
  have g6d : w3.drew.cell? ⟨A,6,none⟩ = some (.slice da bs.length dc):=g6
  clear hnow g0 g5 hb3
  by_cases hl : 0 < bs.length
  ·have i1 : ((bs.length : Int) > 0):=by omega
   go_wp2_with fail
   go_region
   all_goals go_wp2_with fail
   all_goals
    go_end0
    exact ⟨rfl,T3.out.top HK.out _⟩
  ·have i1 : ¬ ((bs.length : Int) > 0):=by omega
   go_wp2_with fail
   go_end0
   exact ⟨rfl,T3.out⟩
def w8 (w : World) (A : Nat) (v0 v1 v2 v3 v4 v5 v6 v7 : Value) : World:=(((((((w.setCell ⟨A,0,none⟩ v0).setCell ⟨A,1,none⟩ v1).setCell ⟨A,2,none⟩ v2).setCell ⟨A,3,none⟩ v3).setCell ⟨A,4,none⟩ v4).setCell ⟨A,5,none⟩ v5).setCell ⟨A,6,none⟩ v6).setCell ⟨A,7,none⟩ v7
theorem w8_is {w : World} {A T : Nat} {x0 x1 x2 x3 x4 x5 x6 x7 : Value} (h : w.heap[A]? = some (.cells #[x0,x1,x2,x3,x4,x5,x6,x7] T (0,0))) (v0 v1 v2 v3 v4 v5 v6 v7 : Value) :
  (w8 w A v0 v1 v2 v3 v4 v5 v6 v7).heap[A]? = some (.cells #[v0,v1,v2,v3,v4,v5,v6,v7] T (0,0)) ∧ Keep [A] w (w8 w A v0 v1 v2 v3 v4 v5 v6 v7):=by
 have h8:=heap_set (j:=7) (u:=v7) (heap_set (j:=6) (u:=v6) (heap_set (j:=5) (u:=v5) (heap_set (j:=4) (u:=v4) (heap_set (j:=3) (u:=v3) (heap_set (j:=2) (u:=v2) (heap_set (j:=1) (u:=v1) (heap_set (j:=0) (u:=v0) h)))))))
 simp only [Array.set!_eq_setIfInBounds,List.setIfInBounds_toArray,List.set_cons_zero,List.set_cons_succ] at h8
 have tr : ∀ {a b c : World},Keep [A] a b → Keep [A] b c → Keep [A] a c:=fun x y => x.trans y (fun i hi => .inl hi)
 exact ⟨h8,tr (tr (tr (tr (tr (tr (tr (keep_set _ _ _ _) (keep_set _ _ _ _)) (keep_set _ _ _ _)) (keep_set _ _ _ _)) (keep_set _ _ _ _)) (keep_set _ _ _ _)) (keep_set _ _ _ _)) (keep_set _ _ _ _)⟩
theorem newStream_results {W : World} {tmps : Array Value} {A : Nat} {v0 v1 v2 v3 v4 v5 v6 v7 : Value} (h6 : tmps[0]?.getD undef = .pointer (some ⟨A,0,none⟩))
  (c0 : W.cell? ⟨A,0,none⟩ = some v0) (c1 : W.cell? ⟨A,1,none⟩ = some v1) (c2 : W.cell? ⟨A,2,none⟩ = some v2) (c3 : W.cell? ⟨A,3,none⟩ = some v3) (c4 : W.cell? ⟨A,4,none⟩ = some v4) (c5 : W.cell? ⟨A,5,none⟩ = some v5) (c6 : W.cell? ⟨A,6,none⟩ = some v6) (c7 : W.cell? ⟨A,7,none⟩ = some v7) :
  (results Tryz.f49 tmps).run Tryz.prog W = .ok (.agg #[v0,v1,v2,v3,v4,v5,v6,v7]) W:=by
 have hr : Tryz.f49.results = #[.cell 0 53]:=rfl
 simp only [results,hr]
 go_simp
theorem newStream_any (w : World) :
  Calls Tryz.prog 49 #[] w fun x w' => ∃ b r m,x = .returned (.agg #[.slice none 0 0,.int .i64 0,.bool false,.int .i64 1024,.pointer (some ⟨b,0,none⟩),.int .i64 0,.int .i64 1024,.int .i64 0]) ∧ Str b r m (fresh9 1024) w' ∧ (w.heap.size ≤ b ∧ w.heap.size ≤ r ∧ w.heap.size ≤ m) ∧ Below w.heap.size w w':=by
 have HN:=qhi (new_yes 1024 (w.alloc (.cells #[.slice none 0 0,.int .i64 0,.bool false,.int .i64 0,.pointer none,.int .i64 0,.int .i64 0,.int .i64 0] 53)) (by decide))
 go_enter Tryz.func49,Tryz.ntmps49
 go_wp2_with (
       go_at_call 88;refine HN.out.mono ?_;rintro x w2 ⟨b,r,m,rfl,hM⟩
       have hz : (w.alloc (.cells #[.slice none 0 0,.int .i64 0,.bool false,.int .i64 0,.pointer none,.int .i64 0,.int .i64 0,.int .i64 0] 53)).heap.size = w.heap.size + 1:=by simp
       have hB:=hM.2.2.2
       rw [hz] at hB
       have A2:=qhi (show w2.heap[w.heap.size]? = some _ from (hB.block w.heap.size (by omega)).trans (alloc_at w _))
       have hL:=hM.2.2.1
       rw [hz] at hL
       have HB2 : Hid (Below w.heap.size w w2):=((qbr _ w).alloc (qlr _) _).trans (hB.mono (by omega))
       have HS:=qhi hM.2.1
       have cA:=qcb A2.out
       have a0:=cA 0;have a1:=cA 1;have a2:=cA 2;have a3:=cA 3;have a4:=cA 4;have a5:=cA 5;have a6:=cA 6;have a7:=cA 7
       simp only [List.getElem?_toArray,List.getElem?_cons_zero,List.getElem?_cons_succ] at a0 a1 a2 a3 a4 a5 a6 a7
       have fA:=qub A2.out
       clear cA hM hB hz)
 refine bodyPost_ret (newStream_results rfl (qcb (w8_is A2.out _ _ _ _ _ _ _ _).1 0) (qcb (w8_is A2.out _ _ _ _ _ _ _ _).1 1) (qcb (w8_is A2.out _ _ _ _ _ _ _ _).1 2) (qcb (w8_is A2.out _ _ _ _ _ _ _ _).1 3) (qcb (w8_is A2.out _ _ _ _ _ _ _ _).1 4) (qcb (w8_is A2.out _ _ _ _ _ _ _ _).1 5) (qcb (w8_is A2.out _ _ _ _ _ _ _ _).1 6) (qcb (w8_is A2.out _ _ _ _ _ _ _ _).1 7)) rfl ?_
 have K9:=(w8_is A2.out (.slice none 0 0) (.int .i64 0) (.bool false) (.int .i64 1024) (.pointer (some ⟨b,0,none⟩)) (.int .i64 0) (.int .i64 1024) (.int .i64 0)).2
 exact ⟨b,r,m,rfl,HS.out.keep K9 (by simp;omega) (by simp;omega) (by simp;omega),⟨by omega,by omega,by omega⟩,HB2.out.trans (K9.to_below (B:=w.heap.size) (fun i hi => by simp at hi;omega) HB2.out.size)⟩
end Go.Proofs.YtmcomdmcmnbhlaaGreatDoor
