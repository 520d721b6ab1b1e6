import Derived.Test.YtmcomdmcmnbhlaaGreatDoorKFr1
import Derived.Test.YtmcomdmcmnbhlaaGreatDoorKFr2
import Derived.Defers
import Derived.Recover
import Derived.Deep.LoopGhost
import Derived.Test.YtmcomdmcmnbhlaaGreatDoorKFr0
import Derived.Test.YtmcomdmcmnbhlaaGreatDoorKSp0
set_option maxRecDepth 100000
set_option maxHeartbeats 25600000
set_option linter.unusedSimpArgs false
set_option linter.unusedVariables false
set_option linter.unnecessarySimpa false
namespace Go.Proofs.YtmcomdmcmnbhlaaGreatDoor
open Go.RowKit
theorem frame_bad (p b o cp : Nat) (xs : List Int) (a : Nat) (w : World) (hA : At w p (.slice (some ⟨b,o,none⟩) xs.length cp) a) (hr : Rd .u8 w (.slice (some ⟨b,o,none⟩) xs.length cp) xs) (hx : Bts xs) (ha : a < xs.length) (hbig : xs.length ≤ 1048576) (y z : Int)
  (hk : kindR xs a = .error (y,z)) :
  Calls Tryz.prog 121 #[.pointer (some ⟨p,0,none⟩)] w (StepIs (frV w.heap.size) w p (.slice (some ⟨b,o,none⟩) xs.length cp) (.error (y,z))):=by
 have hlt:=hA.lt
 have c1:=hA.c1
 have HK:=qhi hk
 have bW : Below w.heap.size w (w.alloc (.cells #[.int .i64 0,.int .i64 0,.int .i64 0,.int .i64 0,.int .i64 0,.bool false,.slice none 0 0,.slice none 0 0] 102)):=(qbr _ _).alloc (qlr _) _
 have KA:=qhi (kind_any p b o xs.length cp xs a _ (hA.alloc (.cells #[.int .i64 0,.int .i64 0,.int .i64 0,.int .i64 0,.int .i64 0,.bool false,.slice none 0 0,.slice none 0 0] 102)) (hr.below bW) rfl hx ha hbig)
 clear hk hr hA bW hx
 go_enter Tryz.func121,Tryz.ntmps121
 go_wp2_with fail
 refine KA.out.mono ?_
 rintro e w1 h1
 obtain ⟨g1,rfl⟩:=h1.err HK.out
 exact ⟨rfl,grownBy_trans (World.grownBy_alloc w _ _) g1,rfl⟩
theorem and1 (c : Int) (h0 : 0 ≤ c) (h1 : c < 256) : bits .and .i64 c 1 = c % 2:=bytes_all (fun c => bits .and .i64 c 1 = c % 2) (by decide +kernel) c h0 h1
theorem and4 (c : Int) (h0 : 0 ≤ c) (h1 : c < 256) : bits .and .i64 c 4 = 4 * (c / 4 % 2):=bytes_all (fun c => bits .and .i64 c 4 = 4 * (c / 4 % 2)) (by decide +kernel) c h0 h1
theorem and2 (c : Int) (h0 : 0 ≤ c) (h1 : c < 256) : bits .and .i64 c 2 = 2 * (c / 2 % 2):=bytes_all (fun c => bits .and .i64 c 2 = 2 * (c / 2 % 2)) (by decide +kernel) c h0 h1
theorem rframe_any (p b o cp : Nat) (xs : List Int) (a : Nat) (w : World) (ht : Tab w) (hA : At w p (.slice (some ⟨b,o,none⟩) xs.length cp) a) (hr : Rd .u8 w (.slice (some ⟨b,o,none⟩) xs.length cp) xs) (hx : Bts xs) (ha : a < xs.length) (hbig : xs.length ≤ 1048576) (hp0 : 0 < p) (hbp : b ≠ p) (hb : b < w.heap.size) :
  Calls Tryz.prog 121 #[.pointer (some ⟨p,0,none⟩)] w (StepIs (frV w.heap.size) w p (.slice (some ⟨b,o,none⟩) xs.length cp) (frameR xs a)):=by
 have hc:=getD_bts hx a
 cases hk : kindR xs a with
 | error e =>
   obtain ⟨y,z⟩:=e
   have e : frameR xs a = .error (y,z):=by unfold frameR;rw [hk]
   rw [e]
   exact frame_bad p b o cp xs a w hA hr hx ha hbig y z hk
 | ok q =>
   obtain ⟨⟨k,bt⟩,j⟩:=q
   have e : frameR xs a = restR xs a k bt j:=by unfold frameR;rw [hk]
   rw [e]
   have hk':=hk
   unfold kindR at hk'
   split at hk'
   ·rename_i hs
    unfold isStream at hs
    simp only [Except.ok.injEq,Prod.mk.injEq] at hk'
    obtain ⟨⟨rfl,rfl⟩,rfl⟩:=hk'
    generalize hbt : xs.getD a 0 - 8 = bt at hk ⊢
    have h0 : 0 ≤ bt:=by omega
    have h1 : bt < 256:=by omega
    have b1:=and1 bt h0 h1
    have b4:=and4 bt h0 h1
    have b2:=and2 bt h0 h1
    have e4 : bt / 4 % 2 = 0 ∨ bt / 4 % 2 = 1:=by omega
    have e2 : bt / 2 % 2 = 0 ∨ bt / 2 % 2 = 1:=by omega
    rcases e4 with e4 | e4
    ·rcases e2 with e2 | e2
     ·exact frame_800 p b o cp xs a bt b1 (by rw [b4,e4];rfl) e4 (by rw [b2,e2];rfl) e2 w ht hA hr hx ha hbig hp0 hbp hb hk
     ·exact frame_801 p b o cp xs a bt b1 (by rw [b4,e4];rfl) e4 (by rw [b2,e2];rfl) e2 w ht hA hr hx ha hbig hp0 hbp hb hk
    ·rcases e2 with e2 | e2
     ·exact frame_810 p b o cp xs a bt b1 (by rw [b4,e4];rfl) e4 (by rw [b2,e2];rfl) e2 w ht hA hr hx ha hbig hp0 hbp hb hk
     ·exact frame_811 p b o cp xs a bt b1 (by rw [b4,e4];rfl) e4 (by rw [b2,e2];rfl) e2 w ht hA hr hx ha hbig hp0 hbp hb hk
   ·split at hk'
    ·rename_i hs hn
     simp only [Except.ok.injEq,Prod.mk.injEq] at hk'
     obtain ⟨⟨rfl,rfl⟩,rfl⟩:=hk'
     unfold knownK at hn
     have h8 : xs.getD a 0 ≠ 8:=fun h => hs (by unfold isStream;omega)
     generalize xs.getD a 0 = k at hk hn h8 ⊢
     rcases hn with rfl | rfl | rfl | rfl | rfl | rfl | rfl | rfl | rfl | rfl | rfl
     ·exact frame_4 p b o cp xs a w ht hA hr hx ha hbig hp0 hbp hb hk
     ·exact frame_5 p b o cp xs a w ht hA hr hx ha hbig hp0 hbp hb hk
     ·exact absurd rfl h8
     ·exact frame_17 p b o cp xs a w ht hA hr hx ha hbig hp0 hbp hb hk
     ·exact frame_16 p b o cp xs a w ht hA hr hx ha hbig hp0 hbp hb hk
     ·exact frame_18 p b o cp xs a w ht hA hr hx ha hbig hp0 hbp hb hk
     ·exact frame_2 p b o cp xs a w ht hA hr hx ha hbig hp0 hbp hb hk
     ·exact frame_28 p b o cp xs a w ht hA hr hx ha hbig hp0 hbp hb hk
     ·exact frame_0 p b o cp xs a w ht hA hr hx ha hbig hp0 hbp hb hk
     ·exact frame_1 p b o cp xs a w ht hA hr hx ha hbig hp0 hbp hb hk
     ·exact frame_30 p b o cp xs a w ht hA hr hx ha hbig hp0 hbp hb hk
    ·cases hk'
theorem catch_fault (A B : Nat) (why at_ y z : Int) (l0 : Value) (older : List PanicEntry) (w : World) (hA : w.heap[A]? = some (.cells #[l0] 97 (0,0))) (hB : w.heap[B]? = some (.cells #[.int .i64 y,.int .i64 z] 147 (0,0))) (hne : A ≠ B) :
  CallsD Tryz.prog 119 #[.pointer (some ⟨A,0,none⟩),.pointer (some ⟨B,0,none⟩)] (.panicking ({ v:=.iface 147 (.agg #[.int .i64 why,.int .i64 at_]),recovered:=false } :: older)) w fun e u' w' =>
   e = .returned (.tuple #[]) ∧ u' = .panicking ({ v:=.iface 147 (.agg #[.int .i64 why,.int .i64 at_]),recovered:=true } :: older) ∧
   w'.heap[A]? = some (.cells #[.slice none 0 0] 97 (0,0)) ∧ w'.heap[B]? = some (.cells #[.int .i64 why,.int .i64 at_] 147 (0,0)) ∧ (∀ C,C ≤ A → C ≤ B → Below C w w'):=by
 refine callsD_of_wpS Tryz.func119 rfl fun c₀ cs hu => ?_
 apply wpS_seq
 apply wpS_region
 simp [wpOpsS,go_sem,recoverD,hu,Tryz.ntmps119,Exit.thenS]
 have ca:=qcb hA 0
 have cb0:=qcb hB 0
 have cb1:=qcb hB 1
 have fa:=qub hA
 have fb:=qub hB
 have hta : ∀ W : World,(Instr.typeAssert (Value.iface 147 (.agg #[.int .i64 why,.int .i64 at_])) 20 147 false).run Tryz.prog W = .ok (.agg #[.int .i64 why,.int .i64 at_]) W:=fun _ => by kernel_rfl
 refine wpS_of_wp ?_
 change Code.wp _ _ _ { tmps:=#[.pointer (some ⟨A,0,none⟩),.pointer (some ⟨B,0,none⟩),(.iface 147 (.agg #[.int .i64 why,.int .i64 at_])),(.iface 147 (.agg #[.int .i64 why,.int .i64 at_])),undef,undef,undef,undef],defers:=[] } _
 go_wp2
 go_region
 all_goals go_wp2
 refine ⟨rfl,_,rfl,_,results_none rfl _ _ _,rfl,rfl,?_,?_,?_⟩
 ·exact (Below.heap_setCell _ _ _ _ hne).trans ((Below.heap_setCell _ _ _ _ hne).trans (Joins.block_setCell hA _))
 ·exact Joins.block_setCell (Joins.block_setCell ((Below.heap_setCell _ _ _ _ (Ne.symm hne)).trans hB) _) _
 ·intro C h1 h2
  exact qbd ((((qbr _ _).setCell h1 _).setCell h2 _).setCell h2 _) 1
theorem catch_idle (A B : Nat) (w : World) :
  CallsD Tryz.prog 119 #[.pointer (some ⟨A,0,none⟩),.pointer (some ⟨B,0,none⟩)] .returning w fun e u' w' => e = .returned (.tuple #[]) ∧ u' = .returning ∧ w' = w:=by
 refine callsD_of_wpS Tryz.func119 rfl fun c₀ cs hu => ?_
 apply wpS_seq
 apply wpS_region
 simp [wpOpsS,go_sem,recoverD,hu,Tryz.ntmps119,Exit.thenS]
 refine wpS_of_wp ?_
 change Code.wp _ _ _ { tmps:=#[.pointer (some ⟨A,0,none⟩),.pointer (some ⟨B,0,none⟩),Value.nilIface,Value.nilIface,undef,undef,undef,undef],defers:=[] } _
 go_wp2
 cases c₀
 simp_all [bodyPostS,results,Tryz.results119]
theorem elemFrame : ElemC Tryz.prog 102 8 96 (.agg #[.int .i64 0,.int .i64 0,.int .i64 0,.int .i64 0,.int .i64 0,.bool false,.slice none 0 0,.slice none 0 0]):=⟨info_parts (by kernel_rfl),rfl,by decide⟩
structure FV where
 f : Fr
 dv : Value
 sv : Value
def frCell (g : FV) : List Value:=[.int .i64 g.f.kind,.int .i64 g.f.stream,.int .i64 g.f.offset,.int .i64 g.f.n,.int .i64 g.f.code,.bool g.f.fin,g.dv,g.sv]
def frC (l : List FV) : List Value:=l.flatMap frCell
theorem frC_append (a b : List FV) : frC (a ++ b) = frC a ++ frC b:=by simp [frC]
theorem frC_get (l : List FV) (i j : Nat) (hi : i < l.length) (hj : j < 8) : (frC l)[i * 8 + j]? = (frCell l[i])[j]?:=flat_get frCell 8 (fun _ => rfl) l i j hi hj
def FvRd (w : World) (g : FV) : Prop:=Rd .u8 w g.dv g.f.data ∧ RdS w g.sv g.f.spans
def RdF (w : World) (v : Value) (fs : List Fr) : Prop:=∃ l : List FV,l.map FV.f = fs ∧ RdC 8 w v l.length (frC l) ∧ ∀ g ∈ l,FvRd w g
def OwnF (w : World) (B : Nat) (v : Value) (fs : List Fr) : Prop:=∃ l : List FV,l.map FV.f = fs ∧ w.ownsRow B 102 8 v l.length (frC l) ∧ ∀ g ∈ l,Own .u8 5 w B g.dv g.f.data ∧ OwnS w B g.sv g.f.spans
theorem frC_one {l : List FV} (h : ∀ g ∈ l,g.dv.oneCell' = true ∧ g.sv.oneCell' = true) : ∀ u ∈ frC l,u.oneCell' = true:=by
 intro u hu
 obtain ⟨g,hg,hu⟩:=List.mem_flatMap.1 hu
 have:=h g hg
 simp only [frCell,List.mem_cons,List.not_mem_nil,or_false] at hu
 rcases hu with rfl | rfl | rfl | rfl | rfl | rfl | rfl | rfl
 all_goals first | rfl | exact this.1 | exact this.2
theorem OwnF.nil (w : World) (B : Nat) : OwnF w B (.slice none 0 0) []:=⟨[],rfl,World.ownsRow_nil w B _ 8,fun g h => by cases h⟩
theorem OwnF.rd {w : World} {B : Nat} {v : Value} {fs : List Fr} (h : OwnF w B v fs) : RdF w v fs:=by
 obtain ⟨l,h1,h2,h3⟩:=h
 exact ⟨l,h1,RdC.of_owns h2,fun g hg => ⟨(h3 g hg).1.rd,(h3 g hg).2.rd⟩⟩
theorem RdF.below {w w' : World} {v : Value} {fs : List Fr} (h : RdF w v fs) (hb : Below w.heap.size w w') : RdF w' v fs:=by
 obtain ⟨l,h1,h2,h3⟩:=h
 exact ⟨l,h1,h2.below hb,fun g hg => ⟨(h3 g hg).1.below hb,(h3 g hg).2.below hb⟩⟩
theorem RdF.isSlice {w : World} {v : Value} {fs : List Fr} (h : RdF w v fs) : ∃ a c,v = .slice a fs.length c ∧ fs.length ≤ c ∧ c ≤ maxLen:=by
 obtain ⟨l,rfl,h2,h3⟩:=h
 rw [List.length_map];exact h2.isSlice
theorem OwnF.len {w : World} {B : Nat} {v : Value} {fs : List Fr} (h : OwnF w B v fs) : ∃ a c,v = .slice a fs.length c:=by
 obtain ⟨a,c,e,_⟩:=h.rd.isSlice
 exact ⟨a,c,e⟩
theorem OwnF.kept {w w' : World} {B p : Nat} {v : Value} {fs : List Fr} (h : OwnF w B v fs) (hg : w.grownBy w' (some p)) (hp : p < B) : OwnF w' B v fs:=by
 obtain ⟨l,h1,h2,h3⟩:=h
 refine ⟨l,h1,World.ownsRow.kept h2 hg ?_,fun g hgl => ⟨Own.kept (h3 g hgl).1 hg ?_,OwnS.kept (h3 g hgl).2 hg ?_⟩⟩
 ·cases hv : v.ownBlock with
  | none => exact .inl rfl
  | some j => exact .inr fun e => by have:=(World.ownsRow.lt h2 j hv).1;cases e;omega
 ·intro j hj e;have:=(h3 g hgl).1.blk j hj;cases e;omega
 ·intro j hj e;have:=(h3 g hgl).2.blk j hj;cases e;omega
theorem OwnF.below {w w' : World} {B : Nat} {v : Value} {fs : List Fr} (h : OwnF w B v fs) (hb : Below w.heap.size w w') : OwnF w' B v fs:=by
 obtain ⟨l,h1,h2,h3⟩:=h
 refine ⟨l,h1,World.ownsRow.kept h2 (grownBy_of_below (row:=none) hb) (by cases hv : v.ownBlock <;> simp),fun g hg => ⟨(h3 g hg).1.below hb,OwnS.kept (h3 g hg).2 (grownBy_of_below (row:=none) hb) (fun _ _ => by simp)⟩⟩
theorem OwnF.mono {w : World} {B B' : Nat} {v : Value} {fs : List Fr} (h : OwnF w B v fs) (hb : B' ≤ B) : OwnF w B' v fs:=by
 obtain ⟨l,h1,⟨a1,a2⟩,h3⟩:=h
 refine ⟨l,h1,⟨a1,?_⟩,fun g hg => ⟨(h3 g hg).1.mono hb,(h3 g hg).2.mono hb⟩⟩
 rcases a2 with a2 | ⟨g,cap,cur,e1,e2,e3⟩
 ·exact .inl a2
 ·exact .inr ⟨g,cap,cur,e1,Nat.le_trans hb e2,e3⟩
theorem OwnF.snoc {w' : World} {B : Nat} {v' : Value} {l : List FV} {g : FV} (h3 : ∀ g ∈ l,Own .u8 5 w' B g.dv g.f.data ∧ OwnS w' B g.sv g.f.spans) (hg : Own .u8 5 w' B g.dv g.f.data ∧ OwnS w' B g.sv g.f.spans) (ho : w'.ownsRow B 102 8 v' (l.length + 1) (frC l ++ frCell g)) : OwnF w' B v' (l.map FV.f ++ [g.f]):=by
 refine ⟨l ++ [g],by simp,?_,?_⟩
 ·rw [List.length_append,frC_append]
  simpa [frC] using ho
 ·intro x hx
  rcases List.mem_append.1 hx with hx | hx
  ·exact h3 x hx
  ·simp at hx;subst hx;exact hg
def decGo (xs : List Int) : Nat → Nat → List Fr → Except (Int × Int) (List Fr)
 | 0,i,l => if i < xs.length then .error (6,i) else .ok l
 | k + 1,i,l => if i < xs.length then (match frameR xs i with | .error e => .error e | .ok (f,j) => decGo xs k j (l ++ [f])) else .ok l
def decL (xs : List Int) : Except (Int × Int) (List Fr):=if 1200 < xs.length then .error (6,0) else decGo xs 64 0 []
theorem thn_inv {α β : Type} {r : Except (Int × Int) (α × Nat)} {k : α → Nat → Except (Int × Int) (β × Nat)} {y : β × Nat} (h : thn r k = .ok y) : ∃ x j,r = .ok (x,j) ∧ k x j = .ok y:=by
 unfold thn at h
 split at h
 ·exact ⟨_,_,rfl,h⟩
 ·cases h
theorem dataR_ok {xs ys : List Int} {i j : Nat} {c : Int} (hi : i ≤ xs.length) (h0 : 0 ≤ c) (h : dataR xs i c = .ok (ys,j)) : i ≤ j ∧ j ≤ xs.length ∧ ys = (xs.drop i).take c.toNat ∧ j = i + c.toNat ∧ (ys.length : Int) = c:=by
 unfold dataR at h
 split at h
 ·cases h
 ·simp only [Except.ok.injEq,Prod.mk.injEq] at h
  obtain ⟨rfl,rfl⟩:=h
  refine ⟨by omega,by omega,rfl,rfl,?_⟩
  rw [List.length_take,List.length_drop];omega
theorem moreR_ok {xs : List Int} (hx : Bts xs) : ∀ {k : Nat} {low : Int} {i j : Nat} {l l' : List (Int × Int)},i ≤ xs.length → moreR xs k low i l = .ok (l',j) → i ≤ j ∧ j ≤ xs.length
 | 0,low,i,j,l,l',hi,h => by
   simp only [moreR,Except.ok.injEq,Prod.mk.injEq] at h
   obtain ⟨_,rfl⟩:=h
   exact ⟨qlr _,hi⟩
 | k + 1,low,i,j,l,l',hi,h => by
   unfold moreR at h
   split at h
   ·cases h
   ·rename_i g j1 hg
    have h1:=atMost_ok hx hg
    split at h
    ·cases h
    ·rename_i s j2 hs
     have h2:=span_ok hx hs
     have h3:=moreR_ok hx (by omega) h
     omega
theorem spansR_ok {xs : List Int} (hx : Bts xs) {i j : Nat} {tp : Int} {l : List (Int × Int)} (h : spansR xs i tp = .ok (l,j)) : i < j ∧ j ≤ xs.length:=by
 unfold spansR at h
 split at h
 ·cases h
 ·rename_i last j1 h1
  have e1:=atMost_ok hx h1
  split at h
  ·cases h
  ·rename_i s j2 h2
   have e2:=span_ok hx h2
   have e3:=moreR_ok hx (by omega) h
   omega
theorem kindR_ok {xs : List Int} {i j : Nat} {k bt : Int} (h : kindR xs i = .ok ((k,bt),j)) : j = i + 1:=by
 unfold kindR at h
 split at h
 ·cases h;rfl
 ·split at h
  ·cases h;rfl
  ·cases h
theorem frameR_pos {xs : List Int} (hx : Bts xs) {i j : Nat} {f : Fr} (hi : i < xs.length) (h : frameR xs i = .ok (f,j)) : i < j ∧ j ≤ xs.length:=by
 unfold frameR at h
 split at h
 ·rename_i k bt j0 hk
  obtain rfl:=kindR_ok hk
  unfold restR at h
  split at h
  ·obtain ⟨x,a,h1,h⟩:=thn_inv h;obtain ⟨x2,a2,h2,h⟩:=thn_inv h;obtain ⟨x3,a3,h3,h⟩:=thn_inv h
   cases h
   have:=num_ok hx h1;have:=num_ok hx h2;have:=spansR_ok hx h3;omega
  split at h
  ·obtain ⟨x,a,h1,h⟩:=thn_inv h;obtain ⟨x2,a2,h2,h⟩:=thn_inv h;obtain ⟨x3,a3,h3,h⟩:=thn_inv h
   cases h
   have:=num_ok hx h1;have:=num_ok hx h2;have:=num_ok hx h3;omega
  split at h
  ·obtain ⟨x,a,h1,h⟩:=thn_inv h;obtain ⟨x2,a2,h2,h⟩:=thn_inv h
   cases h
   have:=num_ok hx h1;have:=num_ok hx h2;omega
  split at h
  ·obtain ⟨x,a,h1,h⟩:=thn_inv h;obtain ⟨x2,a2,h2,h⟩:=thn_inv h;obtain ⟨x3,a3,h3,h⟩:=thn_inv h;obtain ⟨x4,a4,h4,h⟩:=thn_inv h
   cases h
   have e1:=num_ok hx h1
   have e2 : a ≤ a2 ∧ a2 ≤ xs.length:=by
    unfold offR at h2
    split at h2
    ·cases h2;omega
    ·have:=num_ok hx h2;omega
   have e3 : a2 ≤ a3 ∧ a3 ≤ xs.length ∧ 0 ≤ x3:=by
    unfold countR at h3
    split at h3
    ·simp only [Except.ok.injEq,Prod.mk.injEq] at h3;omega
    ·have:=num_ok hx h3;omega
   unfold tailR at h4
   split at h4
   ·cases h4
   ·have:=dataR_ok (by omega) e3.2.2 h4;omega
  split at h
  ·obtain ⟨x,a,h1,h⟩:=thn_inv h
   cases h
   have:=num_ok hx h1;omega
  split at h
  ·obtain ⟨x,a,h1,h⟩:=thn_inv h;obtain ⟨x2,a2,h2,h⟩:=thn_inv h
   cases h
   have:=num_ok hx h1;have:=num_ok hx h2;omega
  split at h
  ·obtain ⟨x,a,h1,h⟩:=thn_inv h;obtain ⟨x2,a2,h2,h⟩:=thn_inv h;obtain ⟨x3,a3,h3,h⟩:=thn_inv h
   cases h
   have e1:=num_ok hx h1;have e2:=num_ok hx h2;have:=dataR_ok (by omega) e2.1 h3;omega
  ·cases h;omega
 ·cases h
def DecIs (w : World) (r : Except (Int × Int) (List Fr)) (e : Ending) (w' : World) : Prop:=Below w.heap.size w w' ∧ match r with
 | .ok fs => ∃ u,e = .returned (.tuple #[u,.agg #[.int .i64 0,.int .i64 0]]) ∧ OwnF w' w.heap.size u fs
 | .error (y,z) => e = .returned (.tuple #[.slice none 0 0,.agg #[.int .i64 y,.int .i64 z]])
theorem door_fault (A B : Nat) (w0 w : World) (why at_ y z : Int) (l0 : Value) (r : Except (Int × Int) (List Fr)) (hr : r = .error (why,at_)) (hA : w.heap[A]? = some (.cells #[l0] 97 (0,0))) (hB : w.heap[B]? = some (.cells #[.int .i64 y,.int .i64 z] 147 (0,0))) (hne : A ≠ B)
  (hb : Below w0.heap.size w0 w) (h1 : w0.heap.size ≤ A) (h2 : w0.heap.size ≤ B) (tmps : Array Value) (t2 : tmps[2]? = some (.pointer (some ⟨A,0,none⟩))) (t3 : tmps[3]? = some (.pointer (some ⟨B,0,none⟩))) :
  bodyPostD Tryz.prog Tryz.f76 (DecIs w0 r) (Exit.panic (faultP why at_)) { tmps:=tmps,defers:=[{ target:=Target.fn (Fn.func 119) #[.pointer (some ⟨A,0,none⟩),.pointer (some ⟨B,0,none⟩)],args:=#[] }] } w:=by
 subst hr
 refine leaves_cons (f:=119) (args:=#[.pointer (some ⟨A,0,none⟩),.pointer (some ⟨B,0,none⟩)]) (by simp) (by simp [go_sem]) ?_
 refine (catch_fault A B why at_ y z l0 [] w hA hB hne).mono ?_
 rintro e u' w' ⟨rfl,rfl,kA,kB,kb⟩
 have ca:=qcb kA 0
 have cb0:=qcb kB 0
 have cb1:=qcb kB 1
 refine ⟨.tuple #[.slice none 0 0,.agg #[.int .i64 why,.int .i64 at_]],?_,hb.trans (kb _ h1 h2 |>.mono (by simp)),rfl⟩
 simp [results,Tryz.results76,go_sem,t2,t3,ca,cb0,cb1]
theorem decode_long (v : Value) (xs : List Int) (w : World) (hr : Rd .u8 w v xs) (hl : 1200 < xs.length) :
  Calls Tryz.prog 76 #[v] w (DecIs w (.error (6,0))):=by
 obtain ⟨va,vc,rfl⟩:=hr.isSlice
 have hmf : ∀ (fn : Fn) (first cap : Array Value) (w : World),(Instr.makeFunc fn first cap).run Tryz.prog w = .ok (.func fn first cap) w:=fun _ _ _ _ => rfl
 have t1 : decide (1200 < (xs.length : Int)) = true:=qdt (by omega)
 clear hr
 go_enter_defers Tryz.func76,Tryz.ntmps76
 go_wp2_with (go_at_call 120;refine (breakOff_any _ _ _ _).mono ?_;rintro e w' ⟨rfl,rfl⟩)
 refine door_fault w.heap.size (w.heap.size + 1) w _ 6 0 0 0 (.slice none 0 0) _ rfl ?_ ?_ (by simp) (((((qbr _ _).alloc (qlr _) _).alloc (by simp) _).alloc (by simp;omega)) _) (qlr _) (by omega) _ rfl rfl
 ·exact (Below.heap_alloc _ _ _ (by simp;omega)).trans ((Below.heap_alloc _ _ _ (by simp)).trans (alloc_at4 _ _))
 ·refine (Below.heap_alloc _ _ _ (by simp)).trans ?_
  have:=alloc_at4 (w.alloc (.cells #[.slice none 0 0] 97)) (.cells #[.int .i64 0,.int .i64 0] 147)
  simp only [World.size_alloc] at this
  exact this
theorem len0 (n : Nat) : ((n : Int) == 0) = decide (n = 0):=by rw [Bool.eq_iff_iff];simp
def numB (n : Int) (has : Bool) : Bool:=if has then decide (0 ≤ n ∧ n ≤ 4611686018427387903) else decide (n = 0)
theorem mayNumber_any (n : Int) (has : Bool) (w : World) :
  Calls Tryz.prog 193 #[.int .i64 n,.bool has] w fun e w' => e = .returned (.bool (numB n has)) ∧ w = w':=by
 cases has
 ·go_enter Tryz.func193,Tryz.ntmps193
  go_wp2
  go_ret
  exact ⟨ret_bool (by simp [numB];rfl),rfl⟩
 ·by_cases h : 0 ≤ n
  ·have h1 : decide (0 ≤ n) = true:=qdt h
   go_enter Tryz.func193,Tryz.ntmps193
   go_wp2
   go_ret
   exact ⟨ret_bool (by simp [numB,h]),rfl⟩
  ·have h1 : decide (0 ≤ n) = false:=qdf h
   have e : numB n true = false:=by simp [numB];intro;omega
   rw [e]
   clear h e
   go_enter Tryz.func193,Tryz.ntmps193
   go_wp2
   go_ret
   exact ⟨rfl,rfl⟩
def dataB (len : Nat) (off : Int) (has : Bool) : Bool:=if has then decide (len ≤ 1200 ∧ (len : Int) ≤ 4611686018427387903 - off) else decide (len = 0)
theorem mayData_any (v : Value) (ys : List Int) (off : Int) (has : Bool) (w : World) (hr : Rd .u8 w v ys) (ho : has = true → 0 ≤ off ∧ off ≤ 4611686018427387903) :
  Calls Tryz.prog 195 #[v,.int .i64 off,.bool has] w fun e w' => e = .returned (.bool (dataB ys.length off has)) ∧ w = w':=by
 obtain ⟨va,vc,rfl⟩:=hr.isSlice
 clear hr
 cases has
 ·go_enter Tryz.func195,Tryz.ntmps195
  go_wp2
  go_ret
  exact ⟨ret_bool (len0 _),rfl⟩
 ·obtain ⟨o0,o1⟩:=ho rfl
  have hw : IntKind.i64.wrap (4611686018427387903 - off) = 4611686018427387903 - off:=by rw [IntKind.wrap_i64];omega
  by_cases h : ys.length ≤ 1200
  ·have h1 : decide ((ys.length : Int) ≤ 1200) = true:=qdt (by omega)
   clear ho
   go_enter Tryz.func195,Tryz.ntmps195
   go_wp2
   go_ret
   exact ⟨ret_bool (by simp [dataB,h]),rfl⟩
  ·have h1 : decide ((ys.length : Int) ≤ 1200) = false:=qdf (by omega)
   have e : dataB ys.length off true = false:=by simp [dataB];intro;omega
   rw [e]
   clear h e ho
   go_enter Tryz.func195,Tryz.ntmps195
   go_wp2
   go_ret
   exact ⟨rfl,rfl⟩
def risesB (least : Int) : List (Int × Int) → Bool
 | [] => true
 | s :: r => if s.1 < least ∨ s.2 < s.1 ∨ 4611686018427387903 < s.2 then false else risesB (s.2 + 2) r
def spansB (ss : List (Int × Int)) (has : Bool) : Bool:=if has then (decide (1 ≤ ss.length ∧ ss.length ≤ 32) && risesB 0 ss) else decide (ss.length = 0)
theorem maySpans_any (v : Value) (ss : List (Int × Int)) (has : Bool) (w : World) (hr : RdS w v ss) :
  Calls Tryz.prog 194 #[v,.bool has] w fun e w' => e = .returned (.bool (spansB ss has)) ∧ Below w.heap.size w w':=by
 cases has
 ·obtain ⟨va,vc,rfl,_,_⟩:=hr.isSlice
  clear hr
  go_enter Tryz.func194,Tryz.ntmps194
  go_wp2
  go_ret
  exact ⟨ret_bool (len0 _),qbr _ _⟩
 by_cases h1 : ss.length < 1
 ·obtain ⟨va,vc,rfl,_,_⟩:=hr.isSlice
  have e : spansB ss true = false:=by simp [spansB];omega
  have t1 : decide ((ss.length : Int) < 1) = true:=qdt (by omega)
  rw [e]
  clear hr h1 e
  go_enter Tryz.func194,Tryz.ntmps194
  go_wp2
  go_ret
  exact ⟨rfl,qbr _ _⟩
 by_cases h2 : 32 < ss.length
 ·obtain ⟨va,vc,rfl,_,_⟩:=hr.isSlice
  have e : spansB ss true = false:=by simp [spansB];omega
  have t1 : decide ((ss.length : Int) < 1) = false:=qdf (by omega)
  have t2 : decide (32 < (ss.length : Int)) = true:=qdt (by omega)
  rw [e]
  clear hr h1 h2 e
  go_enter Tryz.func194,Tryz.ntmps194
  go_wp2
  go_ret
  exact ⟨rfl,qbr _ _⟩
 have e : spansB ss true = risesB 0 ss:=by simp [spansB,show 1 ≤ ss.length ∧ ss.length ≤ 32 by omega]
 rw [e]
 obtain ⟨b,o,c,rfl,hb⟩:=hr.form (by intro h;rw [h] at h1;simp at h1)
 have HR:=qhi hr
 have t1 : decide ((ss.length : Int) < 1) = false:=qdf (by omega)
 have t2 : decide (32 < (ss.length : Int)) = false:=qdf (by omega)
 have hl32 : ss.length ≤ 32:=by omega
 clear hr h1 h2 e
 go_enter Tryz.func194,Tryz.ntmps194
 go_wp2_with fail
 go_loopw [5,23] (fun l i wr => ∃ (k : Nat) (least : Int),l = .int .i64 least ∧ i = .int .i64 k ∧ 0 ≤ least ∧ k ≤ ss.length ∧ risesB least (ss.drop k) = risesB 0 ss ∧ Below w.heap.size w wr) (fun _ i _ => ss.length - (intOf i).toNat)
 case atStart => exact ⟨0,0,rfl,rfl,by omega,Nat.zero_le _,rfl,qbr _ _⟩
 case round =>
  obtain ⟨k,least,rfl,rfl,hl0,hk,hris,hbel⟩:=hrel
  have HRis:=qhi hris
  have hz:=hbel.size
  by_cases hlt : k < ss.length
  ·obtain ⟨q0,q1⟩:=(HR.out.below hbel).cells rfl k hlt
   have hd : ss.drop k = ss.getD k (0,0) :: ss.drop (k + 1):=by rw [List.drop_eq_getElem_cons hlt];simp [List.getD,hlt]
   obtain ⟨⟨x,y⟩,hs⟩ : ∃ s,s = ss.getD k (0,0):=⟨_,rfl⟩
   rw [← hs] at q0 q1 hd
   simp only at q0 q1
   have HD:=qhi hd
   have hi1 : (k : Int) < (ss.length : Int):=by omega
   have hw1 : IntKind.i64.wrap ((k : Int) + 1) = (k : Int) + 1:=wraps_i64'1 _ (by omega) (by omega)
   clear hd hs hris
   by_cases hbad : x < least ∨ y < x ∨ 4611686018427387903 < y
   ·have HE : Hid (risesB 0 ss = false):=by show _ = _;rw [← HRis.out,HD.out,risesB];exact if_pos hbad
    by_cases b1 : x < least
    ·have d1 : decide (x < least) = true:=qdt b1
     clear hbad
     go_wp2
     go_ret
     rw [HE.out]
     exact ⟨rfl,hbel.alloc hz _⟩
    ·have d1 : decide (x < least) = false:=qdf b1
     by_cases b2 : y < x
     ·have d2 : decide (y < x) = true:=qdt b2
      clear hbad b1
      go_wp2
      go_ret
      rw [HE.out]
      exact ⟨rfl,hbel.alloc hz _⟩
     ·have d2 : decide (y < x) = false:=qdf b2
      have d3 : decide (4611686018427387903 < y) = true:=qdt (by omega)
      clear hbad b1 b2
      go_wp2
      go_ret
      rw [HE.out]
      exact ⟨rfl,hbel.alloc hz _⟩
   ·have HE : Hid (risesB (y + 2) (ss.drop (k + 1)) = risesB 0 ss):=by show _ = _;rw [← HRis.out,HD.out,risesB];exact (if_neg hbad).symm
    have d1 : decide (x < least) = false:=qdf (by omega)
    have d2 : decide (y < x) = false:=qdf (by omega)
    have d3 : decide (4611686018427387903 < y) = false:=qdf (by omega)
    have hy0 : 0 ≤ y:=by omega
    have hw2 : IntKind.i64.wrap (y + 2) = y + 2:=by rw [IntKind.wrap_i64];omega
    clear hbad
    go_wp2
    refine ⟨⟨k + 1,y + 2,rfl,by go_num,by omega,by omega,HE.out,hbel.alloc hz _⟩,by simp [intOf];omega⟩
  ·have hk2 : k = ss.length:=by omega
   have hlt2 : decide ((k : Int) < (ss.length : Int)) = false:=qdf (by omega)
   have HE : Hid (risesB 0 ss = true):=by show _ = _;rw [← HRis.out,hk2,List.drop_length];rfl
   clear hk2 hris
   go_wp2
   go_ret
   rw [HE.out]
   exact ⟨rfl,hbel⟩
def mayF (f : Fr) : Bool:=decide (knownK f.kind) && numB f.stream (hStream f.kind) && numB f.code (hCode f.kind) && numB f.offset (hOffset f.kind) && numB f.n (hN f.kind) && spansB f.spans (hSpans f.kind) && dataB f.data.length f.offset (hData f.kind) && (hFin f.kind || !f.fin)
theorem may_any4 (f : Fr) (da sa : Option Addr) (dc sc : Nat) (w : World) (hd : Rd .u8 w (.slice da f.data.length dc) f.data) (hs : RdS w (.slice sa f.spans.length sc) f.spans) :
  Calls Tryz.prog 149 #[.agg #[.int .i64 f.kind,.int .i64 f.stream,.int .i64 f.offset,.int .i64 f.n,.int .i64 f.code,.bool f.fin,.slice da f.data.length dc,.slice sa f.spans.length sc]] w fun e w' => e = .returned (.bool (mayF f)) ∧ Below w.heap.size w w':=by
 have HD:=qhi hd
 have HS:=qhi hs
 have hM : Hid (mayF f = (decide (knownK f.kind) && numB f.stream (hStream f.kind) && numB f.code (hCode f.kind) && numB f.offset (hOffset f.kind) && numB f.n (hN f.kind) && spansB f.spans (hSpans f.kind) && dataB f.data.length f.offset (hData f.kind) && (hFin f.kind || !f.fin))):=rfl
 clear hd hs
 go_enter Tryz.func149,Tryz.ntmps149
 go_wp2_with fail
 refine (partsOf_any f.kind _).mono ?_
 unfold partsV
 rintro e w1 ⟨rfl,b1⟩
 have bA : Below w.heap.size w (w.alloc (.cells #[.int .i64 f.kind,.int .i64 f.stream,.int .i64 f.offset,.int .i64 f.n,.int .i64 f.code,.bool f.fin,.slice da f.data.length dc,.slice sa f.spans.length sc] 102)):=(qbr _ _).alloc (qlr _) _
 have B1 : Below w.heap.size w w1:=bA.trans (b1.mono (by simp))
 have kx:=(b1.block w.heap.size (by simp)).trans (alloc_at4 w (.cells #[.int .i64 f.kind,.int .i64 f.stream,.int .i64 f.offset,.int .i64 f.n,.int .i64 f.code,.bool f.fin,.slice da f.data.length dc,.slice sa f.spans.length sc] 102))
 have kc:=fun i => qcb kx i
 have kc0:=kc 0
 have kc1:=kc 1
 have kc2:=kc 2
 have kc3:=kc 3
 have kc4:=kc 4
 have kc5:=kc 5
 have kc6:=kc 6
 have kc7:=kc 7
 have z1:=b1.size
 have zx : w.heap.size < w1.heap.size:=(qgs kx).1
 have HKX:=qhi kx
 clear bA kc kx b1
 obtain ⟨q,hq⟩ : ∃ q,q = decide (knownK f.kind):=⟨_,rfl⟩
 rw [← hq] at hM ⊢
 have HQ:=qhi hq
 clear hq
 cases q
 ·go_wp2_with fail
  go_ret
  exact ⟨ret_bool (by rw [hM.out];rfl),B1.alloc B1.size _⟩
 go_wp2_with fail
 refine (mayNumber_any _ _ _).mono ?_
 rintro e w' ⟨rfl,rfl⟩
 cases h1 : numB f.stream (hStream f.kind)
 ·go_wp2_with fail
  go_ret
  exact ⟨ret_bool (by rw [hM.out,h1];rfl),B1.alloc B1.size _⟩
 go_wp2_with fail
 refine (mayNumber_any _ _ _).mono ?_
 rintro e w' ⟨rfl,rfl⟩
 cases h2 : numB f.code (hCode f.kind)
 ·go_wp2_with fail
  go_ret
  exact ⟨ret_bool (by rw [hM.out,h1,h2];rfl),B1.alloc B1.size _⟩
 go_wp2_with fail
 refine (mayNumber_any _ _ _).mono ?_
 rintro e w' ⟨rfl,rfl⟩
 cases h3 : numB f.offset (hOffset f.kind)
 ·go_wp2_with fail
  go_ret
  exact ⟨ret_bool (by rw [hM.out,h1,h2,h3];rfl),B1.alloc B1.size _⟩
 go_wp2_with fail
 refine (mayNumber_any _ _ _).mono ?_
 rintro e w' ⟨rfl,rfl⟩
 cases h4 : numB f.n (hN f.kind)
 ·go_wp2_with fail
  go_ret
  exact ⟨ret_bool (by rw [hM.out,h1,h2,h3,h4];rfl),B1.alloc B1.size _⟩
 go_wp2_with fail
 refine (maySpans_any _ f.spans _ _ (HS.out.below (B1.alloc B1.size _))).mono ?_
 rintro e w2 ⟨rfl,b2⟩
 have B2 : Below w.heap.size w w2:=(B1.alloc B1.size _).trans (b2.mono (by simp;omega))
 have z2:=b2.size
 have k2:=(b2.block w.heap.size (by simp;omega)).trans ((Below.heap_alloc w1 _ _ zx).trans HKX.out)
 have k3:=(b2.block w1.heap.size (by simp)).trans (alloc_at4 w1 (.cells #[.bool (hStream f.kind),.bool (hCode f.kind),.bool (hOffset f.kind),.bool (hN f.kind),.bool (hSpans f.kind),.bool (hData f.kind),.bool (hFin f.kind)] 227))
 have kd0:=qcb k2 0
 have kd1:=qcb k2 1
 have kd2:=qcb k2 2
 have kd3:=qcb k2 3
 have kd4:=qcb k2 4
 have kd5:=qcb k2 5
 have kd6:=qcb k2 6
 have kd7:=qcb k2 7
 have ke0:=qcb k3 0
 have ke1:=qcb k3 1
 have ke2:=qcb k3 2
 have ke3:=qcb k3 3
 have ke4:=qcb k3 4
 have ke5:=qcb k3 5
 have ke6:=qcb k3 6
 clear k2 k3 b2
 cases h5 : spansB f.spans (hSpans f.kind)
 ·go_wp2_with fail
  go_ret
  exact ⟨ret_bool (by rw [hM.out,h1,h2,h3,h4,h5];rfl),B2⟩
 go_wp2_with fail
 refine (mayData_any _ f.data _ _ _ (HD.out.below B2) ?_).mono ?_
 ·intro hdk
  have hk : f.kind = 8 ∨ f.kind = 28:=by simpa [hData] using hdk
  have h3':=h3
  rcases hk with hk | hk
  ·rw [hk] at h3'
   simpa [numB,hOffset] using h3'
  ·rw [hk] at h3'
   have : f.offset = 0:=by simpa [numB,hOffset] using h3'
   omega
 rintro e w' ⟨rfl,rfl⟩
 cases h6 : dataB f.data.length f.offset (hData f.kind)
 ·go_wp2_with fail
  go_ret
  exact ⟨ret_bool (by rw [hM.out,h1,h2,h3,h4,h5,h6];rfl),B2⟩
 cases h7 : hFin f.kind
 ·rw [h7] at ke6
  go_wp2_with fail
  go_ret
  exact ⟨ret_bool (by rw [hM.out,h1,h2,h3,h4,h5,h6,h7];simp),B2⟩
 ·rw [h7] at ke6
  go_wp2_with fail
  go_ret
  exact ⟨ret_bool (by rw [hM.out,h1,h2,h3,h4,h5,h6,h7];simp),B2⟩
def asksF (f : Fr) : Bool:=f.kind != 0 && f.kind != 2 && f.kind != 28
theorem asks_any (f : Fr) (da sa : Option Addr) (dl sl dc sc : Nat) (w : World) :
  Calls Tryz.prog 82 #[.agg #[.int .i64 f.kind,.int .i64 f.stream,.int .i64 f.offset,.int .i64 f.n,.int .i64 f.code,.bool f.fin,.slice da dl dc,.slice sa sl sc]] w fun e w' => e = .returned (.bool (asksF f)) ∧ Below w.heap.size w w':=by
 have hM : Hid (asksF f = (f.kind != 0 && f.kind != 2 && f.kind != 28)):=rfl
 cases h0 : (f.kind != 0)
 ·rw [h0] at hM
  go_enter Tryz.func82,Tryz.ntmps82
  go_wp2
  go_ret
  exact ⟨ret_bool (by rw [hM.out];rfl),(qbr _ _).alloc (qlr _) _⟩
 ·cases h2 : (f.kind != 2)
  ·rw [h0,h2] at hM
   go_enter Tryz.func82,Tryz.ntmps82
   go_wp2
   go_ret
   exact ⟨ret_bool (by rw [hM.out];rfl),(qbr _ _).alloc (qlr _) _⟩
  ·rw [h0,h2] at hM
   go_enter Tryz.func82,Tryz.ntmps82
   go_wp2
   go_ret
   exact ⟨ret_bool (by rw [hM.out];rfl),(qbr _ _).alloc (qlr _) _⟩
def E (n : Int) : List Int:=enc n (sizeI n)
theorem fits_of {n : Int} (h0 : 0 ≤ n) (h1 : n ≤ 4611686018427387903) : fitsB n 8 = true:=by
 simp only [fitsB,decide_eq_true_eq]
 exact ⟨h0,by simp only [Int.reduceMul,Int.reduceSub,Int.reduceToNat,Int.reducePow];omega⟩
theorem E_len {n : Int} (h : fitsB n 8 = true) : 1 ≤ (E n).length ∧ (E n).length ≤ 8:=by
 have:=sizeI_in h
 unfold E
 rw [enc_len _ _ this.1]
 rcases this.1 with h | h | h | h <;> rw [h] <;> decide
theorem E_le (n : Int) : (E n).length ≤ 8:=by
 unfold E enc
 split
 ·simp [be_len1]
 ·split
  ·simp [be_len1]
  ·split <;> simp [be_len1]
theorem E_bts (n : Int) : Bts (E n):=enc_bts _ _
structure WG (q : Nat) (w w' : World) : Prop where
 bel : Below q w w'
 kept : ∀ k cs e fr,w.heap[k]? = some (.cells cs e fr) → e ≠ 5 → k ≠ q → w'.heap[k]? = some (.cells cs e fr)
theorem WG.refl (q : Nat) (w : World) : WG q w w:=⟨qbr _ _,fun _ _ _ _ h _ _ => h⟩
theorem WG.trans {q : Nat} {a b c : World} (h : WG q a b) (k : WG q b c) : WG q a c:=⟨h.bel.trans k.bel,fun j cs e fr h1 h2 h3 => k.kept j cs e fr (h.kept j cs e fr h1 h2 h3) h2 h3⟩
theorem WG.of_below {q : Nat} {a b : World} (h : Below a.heap.size a b) (hq : q ≤ a.heap.size) : WG q a b:=⟨h.mono hq,fun j _ _ _ h1 _ _ => (h.block j (qgs h1).1).trans h1⟩
theorem WG.drewN {q : Nat} {a b : World} (h : WG q a b) (n : Nat) : WG q a (b.drewN n):=⟨qbd h.bel n,h.kept⟩
theorem WG.grown {q : Nat} {w w1 w2 : World} {v : Value} {bs : List Int} (h : WG q w w1) (o : Own .u8 5 w1 (q + 1) v bs) (g : w1.grownBy w2 v.ownBlock) (hq : q ≤ w1.heap.size) : WG q w w2:=by
 refine ⟨h.bel.grown g hq (fun k hk => by have:=o.blk k hk;omega),fun k cs e fr h1 h2 h3 => ?_⟩
 have k1:=h.kept k cs e fr h1 h2 h3
 refine block_kept k1 g fun hv => ?_
 rcases o.2 with ⟨rfl,_⟩ | ⟨g',cap,cur,rfl,_,hg',_⟩
 ·cases hv
 ·simp only [Value.ownBlock,Option.some.injEq] at hv
  subst hv
  rw [hg'] at k1
  simp only [Option.some.injEq,Obj.cells.injEq] at k1
  exact h2 k1.2.1.symm
theorem WG.setAt {q : Nat} {w w1 : World} (h : WG q w w1) (i : Nat) (x : Value) : WG q w (w1.setCell ⟨q,i,none⟩ x) :=
 ⟨h.bel.setCell (qlr _) _,fun k cs e fr h1 h2 h3 => (Below.heap_setCell _ _ _ _ h3).trans (h.kept k cs e fr h1 h2 h3)⟩
structure WAt (w : World) (q : Nat) (v : Value) (bs : List Int) : Prop where
 is : w.heap[q]? = some (.cells #[v] 220 (0,0))
 own : Own .u8 5 w (q + 1) v bs
theorem WAt.lt {w : World} {q : Nat} {v : Value} {bs : List Int} (h : WAt w q v bs) : q < w.heap.size:=(qgs h.is).1
theorem WAt.below {w w' : World} {q : Nat} {v : Value} {bs : List Int} (h : WAt w q v bs) (hb : Below w.heap.size w w') : WAt w' q v bs:=⟨(hb.block q h.lt).trans h.is,h.own.below hb⟩
def WIs (w : World) (q : Nat) (bs : List Int) (e : Ending) (w' : World) : Prop:=e = .returned (.tuple #[]) ∧ WG q w w' ∧ ∃ v,WAt w' q v bs
theorem wnumber_any (q : Nat) (v : Value) (n : Int) (bs : List Int) (w : World) (ht : Tab w) (h : WAt w q v bs) (h0 : 0 ≤ n) (h1 : n ≤ 4611686018427387903) (hb : bs.length ≤ 1073741824) :
  Calls Tryz.prog 196 #[.pointer (some ⟨q,0,none⟩),.int .i64 n] w (WIs w q (bs ++ E n)):=by
 have hf:=fits_of h0 h1
 have HL:=qhi (E_len hf)
 have HP:=qhi (put_yes (.slice none 0 0) [] n w ht (Rd.nil _ _) (by simp) hf)
 have H:=qhi h
 obtain ⟨va,vc,rfl⟩:=h.own.len
 have c0:=qcb h.is 0
 clear h ht hf
 go_enter Tryz.func196,Tryz.ntmps196
 go_wp2_with fail
 refine HP.out.mono ?_
 rintro e w1 ⟨u,rfl,ou,b1⟩
 obtain ⟨ua,uc,rfl⟩:=ou.len
 have k1:=(b1.block q H.out.lt).trans H.out.is
 have d0:=qcb k1 0
 have df:=qub k1
 have O1:=H.out.own.below b1
 have lq:=H.out.lt
 have z1:=b1.size
 have ll:=HL.out.2
 go_wp2_with (first
  | (at_builtin;refine wpList_append_rd _ rfl (.tmp 15) (.tmp 16) 29 rfl elemU81 Tryz.underlying29 (q + 1) (.slice va bs.length vc) bs rfl O1 _ (E n) rfl ou.rd ?_ ?_ ?_ ?_;(omega);(unfold maxLen;omega);(omega);intro v2 w2 o2 g2;obtain ⟨a2,c2,rfl⟩:=Own.len o2;have k2:=block_kept k1 g2 (fun e => by have:=O1.blk _ e;omega);have e0:=qcb k2 0;have ef:=qub k2))
 go_end0
 refine ⟨rfl,((WG.of_below b1 (by omega)).grown O1 g2 (by omega)).setAt _ _,.slice a2 (bs.length + (E n).length) c2,Joins.block_setCell k2 _,?_⟩
 rw [← List.length_append]
 exact Own.kept o2 (grownBy_set (World.grownBy.refl _ _) _ _ (.inl rfl)) (fun j hj e => by have:=o2.blk j hj;simp only [Option.some.injEq] at e;omega)
theorem RdS.cells1 {w w' : World} {b o n c q : Nat} {ss : List (Int × Int)} (h : RdS w (.slice (some ⟨b,o,none⟩) n c) ss) (hb : Below q w w') (hq : b < q) : RdS w' (.slice (some ⟨b,o,none⟩) n c) ss:=by
 have hn : ss.length = n:=by obtain ⟨_,_,e,_⟩:=RdC.isSlice h;simp only [Value.slice.injEq] at e;exact e.2.1.symm
 subst hn
 obtain ⟨h0,h | ⟨h1,b',o',c',e,h2,h3,h4,h5⟩⟩:=h
 ·exact ⟨h0,.inl h⟩
 ·refine ⟨h0,.inr ⟨h1,b',o',c',e,h2,h3,Nat.lt_of_lt_of_le h4 hb.size,fun j u hu => ?_⟩⟩
  simp only [Value.slice.injEq,Option.some.injEq,Addr.mk.injEq,and_true,true_and] at e
  obtain ⟨⟨rfl,rfl⟩,rfl⟩:=e
  exact (hb.cell (p:=⟨b,o + j,none⟩) hq).trans (h5 j u hu)
def typeI (f : Fr) : Int:=if f.kind = 8 then (if f.fin then 15 else 14) else f.kind
theorem typeOf_any (f : Fr) (da sa : Option Addr) (dl sl dc sc : Nat) (w : World) :
  Calls Tryz.prog 197 #[.agg #[.int .i64 f.kind,.int .i64 f.stream,.int .i64 f.offset,.int .i64 f.n,.int .i64 f.code,.bool f.fin,.slice da dl dc,.slice sa sl sc]] w fun e w' => e = .returned (.int .i64 (typeI f)) ∧ Below w.heap.size w w':=by
 by_cases h : f.kind = 8
 ·have h0 : (f.kind != 8) = false:=by simp [h]
  cases hf : f.fin
  ·have e : typeI f = 14:=by simp [typeI,h,hf]
   rw [e]
   clear e h
   go_enter Tryz.func197,Tryz.ntmps197
   go_wp2
   go_ret
   exact ⟨rfl,(qbr _ _).alloc (qlr _) _⟩
  ·have e : typeI f = 15:=by simp [typeI,h,hf]
   rw [e]
   clear e h
   go_enter Tryz.func197,Tryz.ntmps197
   go_wp2
   go_ret
   exact ⟨rfl,(qbr _ _).alloc (qlr _) _⟩
 ·have h0 : (f.kind != 8) = true:=by simp [h]
  have e : typeI f = f.kind:=by simp [typeI,h]
  rw [e]
  clear e h
  go_enter Tryz.func197,Tryz.ntmps197
  go_wp2
  go_ret
  exact ⟨rfl,(qbr _ _).alloc (qlr _) _⟩
def downL (hi : Int × Int) : List (Int × Int) → List Int
 | [] => []
 | s :: r => E (hi.1 - s.2 - 2) ++ E (s.2 - s.1) ++ downL s r
def spanBytes (ss : List (Int × Int)) : List Int:=match ss.reverse with
 | [] => []
 | l :: r => E (r.length : Int) ++ E (l.2 - l.1) ++ downL l r
theorem downL_le (hi : Int × Int) (l : List (Int × Int)) : (downL hi l).length ≤ 16 * l.length:=by
 induction l generalizing hi with
 | nil => simp [downL]
 | cons s r ih =>
   have:=ih s
   have a:=E_le (hi.1 - s.2 - 2)
   have b:=E_le (s.2 - s.1)
   simp only [downL,List.length_append,List.length_cons];omega
theorem spanBytes_le (ss : List (Int × Int)) : (spanBytes ss).length ≤ 16 * ss.length:=by
 unfold spanBytes
 split
 ·simp
 ·rename_i l r h
  have hl : ss.length = r.length + 1:=by rw [← List.length_reverse,h];simp
  have:=downL_le l r
  have a:=E_le (r.length : Int)
  have b:=E_le (l.2 - l.1)
  simp only [List.length_append];omega
def Rises : List (Int × Int) → Prop
 | [] => True
 | [s] => 0 ≤ s.1 ∧ s.1 ≤ s.2 ∧ s.2 ≤ 4611686018427387903
 | s :: t :: r => 0 ≤ s.1 ∧ s.1 ≤ s.2 ∧ s.2 + 2 ≤ t.1 ∧ s.2 ≤ 4611686018427387903 ∧ Rises (t :: r)
theorem Rises.of {least : Int} {ss : List (Int × Int)} (h0 : 0 ≤ least) (h : risesB least ss = true) : Rises ss:=by
 induction ss generalizing least with
 | nil => trivial
 | cons s r ih =>
   unfold risesB at h
   split at h
   ·cases h
   ·rename_i hn
    have hr:=ih (by omega) h
    cases r with
    | nil => exact ⟨by omega,by omega,by omega⟩
    | cons t r =>
      refine ⟨by omega,by omega,?_,by omega,hr⟩
      unfold risesB at h
      split at h
      ·cases h
      ·omega
theorem Rises.at {ss : List (Int × Int)} (h : Rises ss) (i : Nat) (hi : i < ss.length) : 0 ≤ (ss.getD i (0,0)).1 ∧ (ss.getD i (0,0)).1 ≤ (ss.getD i (0,0)).2 ∧ (ss.getD i (0,0)).2 ≤ 4611686018427387903:=by
 induction ss generalizing i with
 | nil => simp at hi
 | cons s r ih =>
   cases i with
   | zero => cases r with
     | nil => exact h
     | cons t r => exact ⟨h.1,h.2.1,h.2.2.2.1⟩
   | succ i => cases r with
     | nil => simp at hi
     | cons t r => exact ih h.2.2.2.2 i (by simpa using hi)
theorem Rises.next {ss : List (Int × Int)} (h : Rises ss) (i : Nat) (hi : i + 1 < ss.length) : (ss.getD i (0,0)).2 + 2 ≤ (ss.getD (i + 1) (0,0)).1:=by
 induction ss generalizing i with
 | nil => simp at hi
 | cons s r ih =>
   cases r with
   | nil => simp at hi
   | cons t r =>
     cases i with
     | zero => exact h.2.2.1
     | succ i => exact ih h.2.2.2.2 i (by simpa using hi)
theorem spanBytes_at {ss : List (Int × Int)} {m : Nat} (h : ss.length = m + 1) : spanBytes ss = E (m : Int) ++ (E ((ss.getD m (0,0)).2 - (ss.getD m (0,0)).1) ++ downL (ss.getD m (0,0)) (ss.take m).reverse):=by
 have e : ss = ss.take m ++ [ss.getD m (0,0)]:=by
  conv => lhs;rw [← List.take_append_drop m ss]
  congr 1
  rw [List.drop_eq_getElem_cons (by omega),List.drop_of_length_le (by omega)]
  simp [List.getD,show m < ss.length by omega]
 have r : ss.reverse = ss.getD m (0,0) :: (ss.take m).reverse:=by
  conv => lhs;rw [e]
  simp
 unfold spanBytes
 rw [r]
 simp only [List.length_reverse,List.length_take]
 rw [show min m ss.length = m by omega,List.append_assoc]
theorem wspans_any (q : Nat) (v : Value) (b o c : Nat) (ss : List (Int × Int)) (bs : List Int) (w : World) (ht : Tab w) (h : WAt w q v bs) (hb : bs.length ≤ 1073741) (hq : 0 < q) (hr : Rises ss) (h1 : 1 ≤ ss.length) (h32 : ss.length ≤ 32) (hs : RdS w (.slice (some ⟨b,o,none⟩) ss.length c) ss) (hbq : b < q) :
  Calls Tryz.prog 198 #[.pointer (some ⟨q,0,none⟩),.slice (some ⟨b,o,none⟩) ss.length c] w (WIs w q (bs ++ spanBytes ss)):=by
 obtain ⟨m,hm⟩ : ∃ m,ss.length = m + 1:=⟨ss.length - 1,by omega⟩
 have HT:=qhi ht
 have H:=qhi h
 have HS:=qhi hs
 have HR:=qhi hr
 have hw1 : IntKind.i64.wrap ((ss.length : Int) - 1) = (m : Int):=by rw [IntKind.wrap_i64];omega
 have hlt:=h.lt
 have N1:=qhi (wnumber_any q v m bs w ht h (by omega) (by omega) (by omega))
 clear ht h hs hr
 go_enter Tryz.func198,Tryz.ntmps198
 go_wp2_with fail
 refine N1.out.mono ?_
 rintro e w1 ⟨rfl,g1,v1,A1⟩
 have R1:=qhi (HS.out.cells1 g1.bel hbq)
 obtain ⟨q0,q1⟩:=R1.out.cells rfl m (by omega)
 obtain ⟨r1,r2,r3⟩:=HR.out.at m (by omega)
 obtain ⟨⟨x,y⟩,hs⟩ : ∃ s,s = ss.getD m (0,0):=⟨_,rfl⟩
 rw [← hs] at q0 q1 r1 r2 r3
 simp only at q0 q1 r1 r2 r3
 have hw2 : IntKind.i64.wrap (y - x) = y - x:=by rw [IntKind.wrap_i64];omega
 have hi1 : (m : Int) < (ss.length : Int):=by omega
 have hi2 : m < ss.length:=by omega
 have hi3 : (0 : Int) ≤ (m : Int):=by omega
 have HM:=qhi hm
 clear hm
 have q0' : w1.drew.cell? ⟨b,o + m * 2,none⟩ = some (.int .i64 x):=q0
 have q1' : w1.drew.cell? ⟨b,o + m * 2 + 1,none⟩ = some (.int .i64 y):=q1
 go_wp2_with fail
 have hl1 : (bs ++ E (m : Int)).length ≤ 1073741 + 8:=by have:=(E_len (fits_of (n:=(m : Int)) (by omega) (by omega))).2;rw [List.length_append];omega
 have T1:=HT.out.below g1.bel hq
 have N2:=qhi (wnumber_any q v1 (y - x) (bs ++ E (m : Int)) w1.drew (T1.heap rfl) ⟨A1.is,A1.own⟩ (by omega) (by omega) (by omega))
 go_region_held3 (fun w' => w'.cell? ⟨b,o + m * 2,none⟩ = some (.int .i64 x) ∧ w'.cell? ⟨b,o + m * 2 + 1,none⟩ = some (.int .i64 y))
  (first
   | (exact ⟨q0',q1'⟩)
   | (exact ⟨(g2.bel.cell (p:=⟨b,_,none⟩) hbq).trans q0',(g2.bel.cell (p:=⟨b,_,none⟩) hbq).trans q1'⟩))
  (first
   | (go_at_call 196;refine N2.out.mono ?_;rintro e w2 ⟨rfl,g2,v2,A2⟩))
 have G2 : WG q w w2:=g1.trans (WG.trans ((WG.refl q w1).drewN 1) g2)
 have HE : Hid (bs ++ spanBytes ss = bs ++ E (m : Int) ++ E (y - x) ++ downL (ss.getD m (0,0)) (ss.take m).reverse):=by
  show _ = _
  rw [spanBytes_at HM.out,← hs]
  simp only [List.append_assoc]
 have HA2:=qhi A2
 clear q0 q1 q0' q1' r1 r2 r3 hs g1 g2 A1 R1 N1 N2 A2 T1 hw2
 go_wp2_with fail
 have HL:=qhi (spanBytes_le ss)
 go_loopw [5] (fun i wr => ∃ (k : Nat) (vk : Value) (bk : List Int),i = .int .i64 ((k : Int) - 1) ∧ k ≤ m ∧ bk ++ downL (ss.getD k (0,0)) (ss.take k).reverse = bs ++ spanBytes ss ∧ WAt wr q vk bk ∧ WG q w wr) (fun i _ => (intOf i + 1).toNat)
 case atStart => exact ⟨m,v2,_,rfl,qlr _,by rw [HE.out],HA2.out,G2⟩
 case round =>
  obtain ⟨k,vk,bk,rfl,hk,hbk,Ak,Gk⟩:=hrel
  have HB:=qhi hbk
  have hlk : bk.length ≤ 1073741 + 512:=by
   have e1:=congrArg List.length hbk
   have e2:=HL.out
   rw [List.length_append,List.length_append] at e1
   omega
  clear hbk
  cases k with
  | zero =>
    have HZ : Hid (bk = bs ++ spanBytes ss):=by
     show _ = _
     rw [← HB.out];simp [downL]
    go_wp2
    go_end0
    exact ⟨rfl,Gk,vk,by rw [← HZ.out];exact Ak⟩
  | succ k =>
    have e0 : (((k + 1 : Nat) : Int) - 1) = (k : Int):=by omega
    rw [e0]
    obtain ⟨a1,a2,a3⟩:=HR.out.at k (by omega)
    obtain ⟨c1,c2,c3⟩:=HR.out.at (k + 1) (by omega)
    have d1:=HR.out.next k (by omega)
    have Rk:=HS.out.cells1 Gk.bel hbq
    obtain ⟨p0,p1⟩:=Rk.cells rfl k (by omega)
    obtain ⟨p2,p3⟩:=Rk.cells rfl (k + 1) (by omega)
    have HD : Hid ((ss.take (k + 1)).reverse = ss.getD k (0,0) :: (ss.take k).reverse):=by
     show _ = _
     rw [List.take_succ_eq_append_getElem (by omega)]
     simp [List.getD,show k < ss.length by omega]
    obtain ⟨⟨x0,y0⟩,hs0⟩ : ∃ s,s = ss.getD k (0,0):=⟨_,rfl⟩
    obtain ⟨⟨x1,y1⟩,hs1⟩ : ∃ s,s = ss.getD (k + 1) (0,0):=⟨_,rfl⟩
    rw [← hs0] at a1 a2 a3 d1 p0 p1
    rw [← hs1] at c1 c2 c3 d1 p2 p3
    simp only at a1 a2 a3 c1 c2 c3 d1 p0 p1 p2 p3
    have HS0:=qhi hs0
    have HS1:=qhi hs1
    have hw4 : IntKind.i64.wrap ((k : Int) + 1) = (k : Int) + 1:=wraps_i64'1 _ (by omega) (by omega)
    have hw5 : IntKind.i64.wrap (x1 - y0) = x1 - y0:=by rw [IntKind.wrap_i64];omega
    have hw6 : IntKind.i64.wrap (x1 - y0 - 2) = x1 - y0 - 2:=by rw [IntKind.wrap_i64];omega
    have hw7 : IntKind.i64.wrap (y0 - x0) = y0 - x0:=by rw [IntKind.wrap_i64];omega
    have j1 : (k : Int) < (ss.length : Int):=by omega
    have j2 : k < ss.length:=by omega
    have j3 : (0 : Int) ≤ (k : Int):=by omega
    have j4 : (k : Int) + 1 < (ss.length : Int):=by omega
    have j5 : k + 1 < ss.length:=by omega
    have j6 : (0 : Int) ≤ (k : Int) + 1:=by omega
    have p1' : wr.drew.cell? ⟨b,o + k * 2 + 1,none⟩ = some (.int .i64 y0):=p1
    have p2' : wr.drew.cell? ⟨b,o + (k + 1) * 2,none⟩ = some (.int .i64 x1):=p2
    have TW:=HT.out.below Gk.bel hq
    have M1:=qhi (wnumber_any q vk (x1 - y0 - 2) bk wr.drew (TW.heap rfl) ⟨Ak.is,Ak.own⟩ (by omega) (by omega) (by omega))
    have l1:=E_le (x1 - y0 - 2)
    clear hs0 hs1 TW Rk p3
    go_wp2_with fail
    go_region_held3 (fun w' => w'.cell? ⟨b,o + k * 2 + 1,none⟩ = some (.int .i64 y0) ∧ w'.cell? ⟨b,o + (k + 1) * 2,none⟩ = some (.int .i64 x1))
     (first
      | (exact ⟨p1',p2'⟩)
      | (exact ⟨(g3.bel.cell (p:=⟨b,_,none⟩) hbq).trans p1',(g3.bel.cell (p:=⟨b,_,none⟩) hbq).trans p2'⟩))
     (first
      | (go_at_call 196;refine M1.out.mono ?_;rintro e w3 ⟨rfl,g3,v3,A3⟩))
    have G3 : WG q w w3:=Gk.trans (WG.trans ((WG.refl q wr).drewN 1) g3)
    have r0 : w3.drew.cell? ⟨b,o + k * 2,none⟩ = some (.int .i64 x0):=(g3.bel.cell (p:=⟨b,_,none⟩) hbq).trans p0
    have r1 : w3.drew.cell? ⟨b,o + k * 2 + 1,none⟩ = some (.int .i64 y0):=(g3.bel.cell (p:=⟨b,_,none⟩) hbq).trans p1
    have M2:=qhi (wnumber_any q v3 (y0 - x0) (bk ++ E (x1 - y0 - 2)) w3.drew ((HT.out.below G3.bel hq).heap rfl) ⟨A3.is,A3.own⟩ (by omega) (by omega) (by rw [List.length_append];omega))
    go_wp2_with fail
    go_region_held3 (fun w' => w'.cell? ⟨b,o + k * 2,none⟩ = some (.int .i64 x0) ∧ w'.cell? ⟨b,o + k * 2 + 1,none⟩ = some (.int .i64 y0))
     (first
      | (exact ⟨r0,r1⟩)
      | (exact ⟨(g4.bel.cell (p:=⟨b,_,none⟩) hbq).trans r0,(g4.bel.cell (p:=⟨b,_,none⟩) hbq).trans r1⟩))
     (first
      | (go_at_call 196;refine M2.out.mono ?_;rintro e w4 ⟨rfl,g4,v4,A4⟩))
    have G4 : WG q w w4:=G3.trans (WG.trans ((WG.refl q w3).drewN 1) g4)
    have HB2 : Hid (bk ++ E (x1 - y0 - 2) ++ E (y0 - x0) ++ downL (ss.getD k (0,0)) (ss.take k).reverse = bs ++ spanBytes ss):=by
     show _ = _
     rw [← HB.out,HD.out,downL,← HS0.out,← HS1.out]
     simp only [List.append_assoc]
    go_wp2_with fail
    exact ⟨⟨k,v4,_,rfl,by omega,HB2.out,A4,G4⟩,by simp [intOf]⟩
end Go.Proofs.YtmcomdmcmnbhlaaGreatDoor
