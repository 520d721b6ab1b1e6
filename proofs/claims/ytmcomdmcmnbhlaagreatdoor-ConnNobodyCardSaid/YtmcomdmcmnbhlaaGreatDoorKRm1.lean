import Derived.Test.YtmcomdmcmnbhlaaGreatDoorKRm0
import Derived.Test.YtmcomdmcmnbhlaaGreatDoorKLGen0
import Derived.Laws.Small
import Derived.Deep.DeepCutAuto
import Derived.Lib.SlBytesConst
set_option maxRecDepth 100000
set_option maxHeartbeats 25600000
set_option linter.unusedSimpArgs false
set_option linter.unusedVariables false
set_option linter.unnecessarySimpa false
namespace Go.Proofs.YtmcomdmcmnbhlaaGreatDoor
open Go.RowKit
def lenOf : Value → Nat
 | .slice _ n _ => n
 | _ => 0
structure Taken (b r m sb : Nat) (row : List Int) (came : List Bool) (p o T : Nat) (e : Int) (br : Bool) (bs : List Int) (w : World) (j k g l : Nat) (vb vr vc : Value) (wr : World) : Prop where
 place : p + j = o + k
 room : j + g = came.length
 left : k + l = bs.length
 bytes : Rd .u8 wr vb (bs.drop k)
 own : 0 < l → ∃ s2 c2,vb = .slice (some ⟨sb,s2,none⟩) l c2
 rows : ∃ ar,vr = .slice ar g g ∧ (0 < g → ar = some ⟨r,j,none⟩)
 marks : ∃ ac,vc = .slice ac g g ∧ (0 < g → ac = some ⟨m,j,none⟩)
 fields : StrC b r m came.length p T e br wr
 row : Cs wr r ((mixR p row came o (bs.take k)).map (Value.int .u8))
 came : Cs wr m ((mixC p came o k).map Value.bool)
 keep : Keep [b,r,m] w wr
theorem lead_pos {cs : List Bool} (h : 0 < cs.length) : 1 ≤ lead (cs.getD 0 false) cs:=by
 cases cs with
 | nil => simp at h
 | cons c cs => simp [lead,List.takeWhile_cons]
theorem Taken.next {b r m sb s2 c2 : Nat} {row : List Int} {came : List Bool} {p o T : Nat} {e : Int} {br : Bool} {bs : List Int} {w wr : World} {j k g l : Nat}
  (h : Taken b r m sb row came p o T e br bs w j k g l (.slice (some ⟨sb,s2,none⟩) l c2) (.slice (some ⟨r,j,none⟩) g g) (.slice (some ⟨m,j,none⟩) g g) wr) (n : Nat) (h1 : 1 ≤ n) (h2 : n ≤ g) (h3 : n ≤ l) (h4 : l ≤ c2) (wr' : World)
  (hk : Keep [b,r,m] wr wr') (hs : sb ∉ [b,r,m]) (hF : StrC b r m came.length p T e br wr') (hR : Cs wr' r ((mixR p row came o (bs.take (k + n))).map (Value.int .u8))) (hC : Cs wr' m ((mixC p came o (k + n)).map Value.bool)) :
  Taken b r m sb row came p o T e br bs w (j + n) (k + n) (g - n) (l - n) (.slice (if c2 = n then some ⟨sb,s2,none⟩ else some ⟨sb,s2 + n,none⟩) (l - n) (c2 - n)) (.slice (if g = n then some ⟨r,j,none⟩ else some ⟨r,j + n,none⟩) (g - n) (g - n))
   (.slice (if g = n then some ⟨m,j,none⟩ else some ⟨m,j + n,none⟩) (g - n) (g - n)) wr':=by
 have hp:=h.place
 have hr:=h.room
 have hl:=h.left
 refine ⟨by omega,by omega,by omega,?_,fun hlt => ⟨s2 + n,c2 - n,by rw [if_neg (by omega)]⟩,⟨_,rfl,fun hg => if_neg (by omega)⟩,⟨_,rfl,fun hg => if_neg (by omega)⟩,hF,hR,hC,h.keep.trans hk (fun i hi => .inl hi)⟩
 have hb : Rd .u8 wr' (.slice (some ⟨sb,s2,none⟩) l c2) (bs.drop k):=h.bytes.keep hk (fun i hi => by simp only [Value.ownBlock,Option.some.injEq] at hi;subst hi;exact hs)
 have:=hb.cut n (l - n) (by omega) (if c2 = n then some ⟨sb,s2,none⟩ else some ⟨sb,s2 + n,none⟩) (fun hn => if_neg hn) (by split <;> simp)
 rw [List.drop_drop] at this
 rwa [List.take_of_length_le (by rw [List.length_drop];omega)] at this
theorem Taken.nothing {b r m sb : Nat} {row : List Int} {came : List Bool} {p o T : Nat} {e : Int} {br : Bool} {bs : List Int} {w wr : World} {j k g : Nat} {vb vr vc : Value}
  (h : Taken b r m sb row came p o T e br bs w j k g 0 vb vr vc wr) : ∃ a c,vb = .slice a 0 c:=by
 have hl:=h.left
 have hb0 : bs.drop k = []:=List.drop_eq_nil_of_le (by omega)
 have:=h.bytes
 rw [hb0] at this
 rcases this with ⟨_,a,c,e1,_⟩ | ⟨h0,_⟩
 ·exact ⟨a,c,e1⟩
 ·exact absurd rfl h0
theorem take_core (b r m sb so sc rd fr T : Nat) (q : St9) (o : Nat) (bs : List Int) (w : World) (hq : Ok9 q) (h : Str b r m q w) (hR : Rd .u8 w (.slice (some ⟨sb,so,none⟩) bs.length sc) bs) (hne : bs ≠ []) (hsb : sb ≠ b ∧ sb ≠ r ∧ sb ≠ m) (hbl : bs.length ≤ sc)
  (hfit : o + bs.length ≤ q.p + q.row.length) (hbig : o + bs.length ≤ 4611686018427387903) (hT : max q.top (o + bs.length) = T)
  (h1 : max ((q.p : Int) - (o : Int)) 0 = (rd : Int)) (h2 : max ((o : Int) - (q.p : Int)) 0 = (fr : Int)) (hpl : q.p + fr = o + rd) (hrd : rd < bs.length) (hst : rd = 0 ∨ o + rd ≤ q.p) :
  Calls Tryz.prog 186 #[.pointer (some ⟨b,0,none⟩),.int .i64 o,.slice (some ⟨sb,so,none⟩) bs.length sc] w fun e w' => e = .returned (.tuple #[]) ∧ Str b r m (takeE9 q o bs) w' ∧ Keep [b,r,m] w w':=by
 obtain ⟨c0,c1,c2,c3,-⟩:=h.fields.facts
 obtain ⟨-,f3,-⟩:=h.fields.free
 have hlen:=hq.len
 have hfew:=hq.few
 have hpt:=hq.pt
 have hbg:=hq.big
 have HF:=qhi h.fields
 have HRw:=qhi h.row
 have HCw:=qhi h.came
 have HNE:=qhi h.ne
 obtain ⟨n1,n2,n3⟩:=h.ne
 obtain ⟨s1,s2',s3⟩:=hsb
 have HE : Hid (takeE9 q o bs = { q with row:=mixR q.p q.row q.came o bs,came:=mixC q.p q.came o bs.length,top:=T }):=by
  show _ = _
  rw [← hT]
  exact if_neg hne
 obtain ⟨row,came,p,top,e,br⟩:=q
 simp only at c0 c1 c2 c3 hfit hT h1 h2 hpl hst hlen hfew hpt hbg HF HRw HCw HE
 rw [← hlen] at c0 c1 hfit hfew HF
 have HLen:=qhi hlen
 have H1:=qhi h1
 have H2:=qhi h2
 have H3 : Hid (min (rd : Int) (bs.length : Int) = (rd : Int)):=by show _ = _;omega
 have HT : Hid (max (top : Int) ((o : Int) + (bs.length : Int)) = (T : Int)):=by show _ = _;omega
 have hw1 : IntKind.i64.wrap ((o : Int) + (bs.length : Int)) = (o : Int) + (bs.length : Int):=wraps_i64'9 _ (by omega) (by omega)
 have hw2 : IntKind.i64.wrap ((p : Int) - (o : Int)) = (p : Int) - (o : Int):=wraps_i64'9 _ (by omega) (by omega)
 have hw3 : IntKind.i64.wrap ((o : Int) - (p : Int)) = (o : Int) - (p : Int):=wraps_i64'9 _ (by omega) (by omega)
 have hlb : bs.length ≤ 4611686018427387903:=by omega
 have hx0 : ¬ (bs.length : Int) = 0:=by omega
 have hx0' : ((bs.length : Int) == 0) = false:=by simpa using hx0
 have hx1 : (rd : Int) ≤ (bs.length : Int):=by omega
 have hx2 : (0 : Int) ≤ (rd : Int):=by omega
 have hx3 : (fr : Int) ≤ (came.length : Int):=by omega
 have hx4 : (0 : Int) ≤ (fr : Int):=by omega
 have hx5 : ¬ sc = rd:=by omega
 have hx6 : ¬ came.length = fr:=by omega
 have HR:=qhi hR
 have HPL : Hid (p + fr = o + rd):=hpl
 have HST:=qhi hst
 have K1 : Hid (Keep [b,r,m] w (w.setCell ⟨b,3,none⟩ (.int .i64 (T : Int)))):=(Keep.refl [b,r,m] w).trans (keep_set b 3 w _) (fun i hi => .inl (by simp at hi;simp [hi]))
 have HF1 : Hid (StrC b r m came.length p T e br (w.setCell ⟨b,3,none⟩ (.int .i64 (T : Int)))):=HF.out.set 3 (.int .i64 (T : Int))
 have HR1 : Hid (Cs (w.setCell ⟨b,3,none⟩ (.int .i64 (T : Int))) r (row.map (Value.int .u8))):=HRw.out.keep (keep_set b 3 w _) (by simp;exact Ne.symm n1)
 have HC1 : Hid (Cs (w.setCell ⟨b,3,none⟩ (.int .i64 (T : Int))) m (came.map Value.bool)):=HCw.out.keep (keep_set b 3 w _) (by simp;exact Ne.symm n2)
 have HB1 : Hid (Rd .u8 (w.setCell ⟨b,3,none⟩ (.int .i64 (T : Int))) (.slice (some ⟨sb,so,none⟩) bs.length sc) bs):=HR.out.keep (keep_set b 3 w _) (fun j hj => by simp only [Value.ownBlock,Option.some.injEq] at hj;subst hj;simp;exact s1)
 obtain ⟨d0,d1,d2,d3,-⟩:=HF1.out.facts
 have hpl':=hpl
 clear h hq hlen hpt hbg hT h1 h2 hR hne hpl hst
 go_enter Tryz.func186,Tryz.ntmps186
 go_upto_region 1 with fail
 go_cut [] (fun wc => wc = w.setCell ⟨b,3,none⟩ (.int .i64 (T : Int)))
 case first =>
  go_wp2_with fail
  all_goals
   go_meet
   have hh:=HT.out
   congr 2
   omega
 case rest =>
  obtain rfl:=hcut
  clear c0 c1 c2 c3 f3
  go_upto_region 2 with fail
  go_cut [6] (fun v wc => v = .int .i64 (rd : Int) ∧ wc = w.setCell ⟨b,3,none⟩ (.int .i64 (T : Int)))
  case first =>
   go_wp2_with fail
   all_goals
    go_meet
    refine ⟨?_,rfl⟩
    have hh:=H1.out
    congr 1
    omega
  case rest =>
   obtain ⟨rfl,rfl⟩:=hcut
   go_upto_region 4 with fail
   go_cut [7] (fun v wc => v = .int .i64 (fr : Int) ∧ wc = w.setCell ⟨b,3,none⟩ (.int .i64 (T : Int)))
   case first =>
    go_wp2_with fail
    all_goals
     go_meet
     refine ⟨?_,rfl⟩
     have hh:=H2.out
     congr 1
     omega
   case rest =>
    obtain ⟨rfl,rfl⟩:=hcut
    go_upto_region 5 with fail
    generalize w.setCell ⟨b,3,none⟩ (.int .i64 (T : Int)) = w0 at *
    go_quiet (fail)
    go_wp2_with fail
    have K2 : Hid (Keep [b,r,m] w (w0.drewN nq)):=K1.out.drewN nq
    have HF2 : Hid (StrC b r m came.length p T e br (w0.drewN nq)):=HF1.out
    have HR2 : Hid (Cs (w0.drewN nq) r (row.map (Value.int .u8))):=HR1.out
    have HC2 : Hid (Cs (w0.drewN nq) m (came.map Value.bool)):=HC1.out
    have HB2 : Hid (Rd .u8 (w0.drewN nq) (.slice (some ⟨sb,so,none⟩) bs.length sc) bs):=HB1.out.below (qbd (qbr _ w0) nq)
    clear d0 d1 d2 d3
    go_loopw [2,8,9] (fun vb vr vc wr => ∃ (j k g l : Nat),Taken b r m sb row came p o T e br bs w j k g l vb vr vc wr) (fun vb _ _ _ => lenOf vb)
    case atStart =>
     refine ⟨fr,rd,came.length - fr,bs.length - rd,⟨HPL.out,by omega,by omega,?_,fun _ => ⟨_,_,rfl⟩,⟨_,rfl,fun _ => rfl⟩,⟨_,rfl,fun _ => rfl⟩,HF2.out,?_,?_,K2.out⟩⟩
     ·have:=HB2.out.cut rd (bs.length - rd) (by omega) (some ⟨sb,so + rd,none⟩) (fun _ => rfl) (by simp)
      rwa [List.take_of_length_le (by rw [List.length_drop];omega)] at this
     ·rw [mixR_start HST.out];exact HR2.out
     ·rw [mixC_start HST.out];exact HC2.out
    case round =>
     obtain ⟨j,k,g,l,hT⟩:=hrel
     have HTk:=qhi hT
     have hp1:=hT.place
     have hp2:=hT.room
     have hp3:=hT.left
     by_cases hl : 0 < l
     ·obtain ⟨s2,c2,rfl⟩:=hT.own hl
      obtain ⟨ar,rfl,har⟩:=hT.rows
      obtain ⟨ac,rfl,hac⟩:=hT.marks
      have hg : l ≤ g:=by omega
      obtain rfl:=har (by omega)
      obtain rfl:=hac (by omega)
      have hcl : (mixC p came o k).length = came.length:=mixC_len ..
      have hdl : ((mixC p came o k).drop j).length = g:=by rw [List.length_drop,hcl];omega
      have q0:=hT.came.get j (.bool ((mixC p came o k).getD j false)) (by rw [getD_lt (by omega)];simp [show j < (mixC p came o k).length by omega])
      obtain ⟨x,hx⟩ : ∃ x,x = (mixC p came o k).getD j false:=⟨_,rfl⟩
      rw [← hx] at q0
      have hx' : ((mixC p came o k).drop j).getD 0 false = x:=by rw [getD_drop];exact hx.symm
      have HA:=qhi (alike_any (.slice (some ⟨m,j,none⟩) g g) ((mixC p came o k).drop j) x wr (RdB.of_cs hT.came j _ g g (by omega) (qlr _) (fun _ => rfl)) (by rw [hdl];omega))
      have HL1:=qhi (lead_lt x false ((mixC p came o k).drop j))
      have hl1 : 1 ≤ lead x ((mixC p came o k).drop j):=by
       have:=lead_pos (cs:=(mixC p came o k).drop j) (by omega)
       rwa [hx'] at this
      have hl2 : lead x ((mixC p came o k).drop j) ≤ g:=by have:=lead_le x ((mixC p came o k).drop j);omega
      obtain ⟨L,hL⟩ : ∃ L,L = lead x ((mixC p came o k).drop j):=⟨_,rfl⟩
      rw [← hL] at HA HL1 hl1 hl2
      have HX:=qhi hx
      obtain ⟨n,hn⟩ : ∃ n,n = min L l:=⟨_,rfl⟩
      have HN:=qhi hn
      have hn1 : 1 ≤ n:=by omega
      have hn2 : n ≤ g:=by omega
      have hn3 : n ≤ l:=by omega
      have hn4 : n ≤ L:=by omega
      have hcap : l ≤ c2:=by
       have:=hT.bytes
       rcases this with ⟨e0,_⟩ | ⟨_,b',o',c',e1,h4,_⟩
       ·have : (bs.drop k).length = 0:=by rw [e0];rfl
        rw [List.length_drop] at this;omega
       ·simp only [Value.slice.injEq] at e1
        obtain ⟨_,e2,e3⟩:=e1
        omega
      have HALL : Hid (∀ i,j ≤ i → i < j + n → came.getD i false = x):=fun i h1 h2 => by
       have:=HL1.out (i - j) (by omega)
       rw [getD_drop,show j + (i - j) = i by omega,mixC_behind hp1 h1] at this
       exact this
      have HP1:=qhi hp1
      have i1 : ((l : Int) > 0):=by omega
      have i2 : (0 : Int) < (g : Int):=by omega
      have i3 : (n : Int) ≤ (g : Int):=by omega
      have i4 : (n : Int) ≤ (l : Int):=by omega
      have i5 : (0 : Int) ≤ (n : Int):=by omega
      clear hT hL hn hx hx' hl1 hdl hcl hp1 har hac HL1
      go_upto_region 7 with fail
      go_cut [10] (fun v wc => v = .int .i64 (n : Int) ∧ wc = wr)
      case first =>
       go_wp2_with (go_at_call 92;refine HA.out.mono ?_;rintro e w2 ⟨rfl,rfl⟩)
       all_goals
        go_meet
        refine ⟨?_,rfl⟩
        have hh:=HN.out
        congr 1
        omega
      case rest =>
       obtain ⟨rfl,hcw⟩:=hcut
       obtain rfl:=hcw.symm
       have HSB : Hid (sb ∉ [b,r,m]):=by show _;simp;exact ⟨s1,s2',s3⟩
       cases x
       ·have hlr : (mixR p row came o (bs.take k)).length = row.length:=mixR_len ..
        have hbl2 : ((bs.drop k).take n).length = n:=by rw [List.length_take,List.length_drop];omega
        have hsrc : ∀ (i : Nat) (v : Value),(((bs.drop k).take n).map (Value.int .u8))[i]? = some v → wr.cell? ((⟨sb,s2,none⟩ : Addr).add i) = some v:=fun i v hv => by
         have hi : i < n:=by
          have:=(List.getElem?_eq_some_iff.1 hv).1
          rw [List.length_map,hbl2] at this;exact this
         rw [Addr.add_lit]
         rcases HTk.out.bytes with ⟨e0,_⟩ | ⟨_,b',o',c',e1,_,_,_,h5⟩
         ·have : (bs.drop k).length = 0:=by rw [e0];rfl
          rw [List.length_drop] at this;omega
         ·simp only [Value.slice.injEq,Option.some.injEq,Addr.mk.injEq,and_true,true_and] at e1
          obtain ⟨⟨rfl,rfl⟩,e2,e3⟩:=e1
          rw [h5 i (by rw [List.length_drop];omega),← hv]
          simp [List.getD,hi,show k + i < bs.length by omega]
        have HSrc:=qhi hsrc
        have hfit2 : j + (((bs.drop k).take n).map (Value.int .u8)).length ≤ ((mixR p row came o (bs.take k)).map (Value.int .u8)).length:=by
         rw [List.length_map,List.length_map,hbl2,hlr]
         have:=HLen.out
         omega
        have HFit:=qhi hfit2
        have HBl2:=qhi hbl2
        have HMin : Hid ((((bs.drop k).take n).map (Value.int .u8)).length = Nat.min l n):=by
         show _ = _
         rw [List.length_map,hbl2];exact (Nat.min_eq_right hn3).symm
        clear hsrc hfit2 hbl2 hlr
        go_wp2_with (first
         | (with_reducible refine wpList_copy_cs _ rfl (.tmp 75) (.tmp 76) 29 29 rfl 5 Tryz.underlying29 u8_size r j n g l c2 ⟨sb,s2,none⟩ (by simp [Act.eval,Act.put]) (by simp [Act.eval,Act.put]) ((mixR p row came o (bs.take k)).map (Value.int .u8)) HTk.out.row (((bs.drop k).take n).map (Value.int .u8)) HMin.out (fun _ => HSrc.out) HFit.out (fun v hv => ints_oneCell .u8 _ v hv) ?_
            intro w1 hr1 hg1
            have HRow1 : Hid (Cs w1 r ((mixR p row came o (bs.take (k + n))).map (Value.int .u8))):=by
             show _
             rw [mixR_fill HP1.out (by omega) (by have:=HLen.out;omega) HALL.out,map_splice]
             exact hr1.out
            have KK1 : Hid (Keep [b,r,m] wr w1):=Keep.of_grown hg1 (fun i hi => .inl (by cases hi;simp))
            have HF1' : Hid (StrC b r m came.length p T e br w1):=Cs.grown HTk.out.fields hg1 (by simpa using n1)
            have HCm1 : Hid (Cs w1 m ((mixC p came o k).map Value.bool)):=HTk.out.came.grown hg1 (by simpa using Ne.symm n3)
            clear hr1 hg1)
         | (go_at_call 217;refine (mark_any m j n g (mixC p came o k) w1 HCm1.out (by rw [mixC_len];omega) (by omega)).mono ?_;rintro e w2 ⟨rfl,hc2,hg2⟩
            have HCm2 : Hid (Cs w2 m ((mixC p came o (k + n)).map Value.bool)):=by
             show _
             rw [mixC_fill HP1.out (by omega)]
             exact hc2
            have KK2 : Hid (Keep [b,r,m] wr w2):=KK1.out.trans (S':=[b,r,m]) (Keep.of_grown hg2 (fun i hi => .inl (by cases hi;simp))) (fun i hi => .inl hi)
            have HF2' : Hid (StrC b r m came.length p T e br w2):=Cs.grown HF1'.out hg2 (by simpa using n2)
            have HRow2 : Hid (Cs w2 r ((mixR p row came o (bs.take (k + n))).map (Value.int .u8))):=HRow1.out.grown hg2 (by simpa using n3)
            clear hc2 hg2))
        go_quiet (fail)
        go_wp2_with fail
        exact ⟨⟨j + n,k + n,g - n,l - n,HTk.out.next n hn1 hn2 hn3 hcap _ (KK2.out.drewN nq) HSB.out HF2'.out HRow2.out HCm2.out⟩,by simp only [lenOf];omega⟩
       ·go_wp2_with fail
        go_quiet (fail)
        go_wp2_with fail
        refine ⟨⟨j + n,k + n,g - n,l - n,HTk.out.next n hn1 hn2 hn3 hcap _ ((Keep.refl _ wr).drewN nq) HSB.out HTk.out.fields ?_ ?_⟩,by simp only [lenOf];omega⟩
        ·rw [mixR_skip HP1.out (by omega) HALL.out];exact HTk.out.row
        ·rw [mixC_skip HP1.out HALL.out];exact HTk.out.came
     ·obtain rfl : l = 0:=by omega
      obtain rfl : k = bs.length:=by omega
      obtain ⟨ab,cb,rfl⟩:=hT.nothing
      have hre:=hT.row
      rw [List.take_length] at hre
      have HRe:=qhi hre
      clear hT hre
      go_wp2_with fail
      go_end0
      rw [HE.out]
      refine ⟨rfl,⟨?_,HRe.out,HTk.out.came,HNE.out⟩,HTk.out.keep⟩
      have el : (mixR p row came o bs).length = came.length:=by rw [mixR_len];exact HLen.out.symm
      show StrC b r m (mixR p row came o bs).length p T e br wr
      rw [el]
      exact HTk.out.fields
theorem take_read (b r m sb so sc : Nat) (q : St9) (o : Nat) (bs : List Int) (w : World) (hq : Ok9 q) (h : Str b r m q w) (hx : 0 < bs.length) (hbl : bs.length ≤ sc)
  (hbig : o + bs.length ≤ 4611686018427387903) (hall : o + bs.length ≤ q.p) :
  Calls Tryz.prog 186 #[.pointer (some ⟨b,0,none⟩),.int .i64 o,.slice (some ⟨sb,so,none⟩) bs.length sc] w fun e w' => e = .returned (.tuple #[]) ∧ Str b r m (takeE9 q o bs) w' ∧ Keep [b,r,m] w w':=by
 have HH:=qhi h
 have HE : Hid (takeE9 q o bs = q):=by
  show _ = _
  have hm:=mixR_start (p:=q.p) (row:=q.row) (came:=q.came) (o:=o) (b:=bs) (k:=bs.length) (.inr hall)
  rw [List.take_length] at hm
  have hc:=mixC_start (p:=q.p) (came:=q.came) (o:=o) (k:=bs.length) (.inr hall)
  have ht : max q.top (o + bs.length) = q.top:=by have:=hq.pt;omega
  unfold takeE9
  rw [if_neg (by intro e;rw [e] at hx;simp at hx),hm,hc,ht]
 obtain ⟨c0,c1,c2,c3,-⟩:=h.fields.facts
 obtain ⟨-,f3,-⟩:=h.fields.free
 have hpt:=hq.pt
 have hbg:=hq.big
 have hfew:=hq.few
 obtain ⟨n1,n2,n3⟩:=h.ne
 have HNE:=qhi h.ne
 have KS : Hid (Keep [b,r,m] w (w.setCell ⟨b,3,none⟩ (.int .i64 (q.top : Int)))):=(Keep.refl [b,r,m] w).trans (keep_set b 3 w _) (fun i hi => .inl (by simp at hi;simp [hi]))
 have HS : Hid (Str b r m q (w.setCell ⟨b,3,none⟩ (.int .i64 (q.top : Int)))) :=
  ⟨h.fields.set 3 (.int .i64 (q.top : Int)),h.row.keep (keep_set b 3 w _) (by simp;exact Ne.symm n1),h.came.keep (keep_set b 3 w _) (by simp;exact Ne.symm n2),h.ne⟩
 rw [HE.out]
 obtain ⟨d0,d1,d2,d3,-⟩:=HS.out.fields.facts
 obtain ⟨row,came,p,top,e,br⟩:=q
 simp only at c0 c1 c2 c3 d0 d1 d2 d3 hpt hbg hall HS hfew KS
 have hw1 : IntKind.i64.wrap ((o : Int) + (bs.length : Int)) = (o : Int) + (bs.length : Int):=wraps_i64'9 _ (by omega) (by omega)
 have hw2 : IntKind.i64.wrap ((p : Int) - (o : Int)) = (p : Int) - (o : Int):=wraps_i64'9 _ (by omega) (by omega)
 have hw3 : IntKind.i64.wrap ((o : Int) - (p : Int)) = (o : Int) - (p : Int):=wraps_i64'9 _ (by omega) (by omega)
 have hlb : bs.length ≤ 4611686018427387903:=by omega
 have hx0 : ¬ (bs.length : Int) = 0:=by omega
 have hx0' : ((bs.length : Int) == 0) = false:=by simpa using hx0
 have HAll : Hid (o + bs.length ≤ p):=hall
 clear h hq HE HH
 go_enter Tryz.func186,Tryz.ntmps186
 go_upto_region 1 with fail
 go_cut [] (fun wc => wc = w.setCell ⟨b,3,none⟩ (.int .i64 (top : Int)))
 case first =>
  go_wp2_with fail
  all_goals
   go_meet
   have hh:=HAll.out
   congr 2
   try omega
 case rest =>
  obtain rfl:=hcut
  clear c0 c1 c2 c3 f3
  go_upto_region 2 with fail
  go_cut [6] (fun v wc => v = .int .i64 (bs.length : Int) ∧ wc = w.setCell ⟨b,3,none⟩ (.int .i64 (top : Int)))
  case first =>
   go_wp2_with fail
   all_goals
    go_meet
    refine ⟨?_,rfl⟩
    have hh:=HAll.out
    congr 1
    try omega
  case rest =>
   obtain ⟨rfl,rfl⟩:=hcut
   by_cases hsc : sc = bs.length
   ·subst hsc
    go_upto_region 4 with fail
    go_cut [7] (fun v wc => v = .int .i64 0 ∧ wc = w.setCell ⟨b,3,none⟩ (.int .i64 (top : Int)))
    case first =>
     go_wp2_with fail
     all_goals
      go_meet
      refine ⟨?_,rfl⟩
      have hh:=HAll.out
      congr 1
      try omega
    case rest =>
     obtain ⟨rfl,rfl⟩:=hcut
     go_upto_region 5 with fail
     generalize w.setCell ⟨b,3,none⟩ (.int .i64 (top : Int)) = w0 at *
     go_quiet (fail)
     go_wp2_with fail
     refine wp_loop_rounds 1 ?_
     rw [rounds_succ]
     go_wp2_with fail
     go_end0
     exact ⟨rfl,HS.out.drewN nq,KS.out.drewN nq⟩
   ·have hsc' : ¬ sc = bs.length:=hsc
    go_upto_region 4 with fail
    go_cut [7] (fun v wc => v = .int .i64 0 ∧ wc = w.setCell ⟨b,3,none⟩ (.int .i64 (top : Int)))
    case first =>
     go_wp2_with fail
     all_goals
      go_meet
      refine ⟨?_,rfl⟩
      have hh:=HAll.out
      congr 1
      try omega
    case rest =>
     obtain ⟨rfl,rfl⟩:=hcut
     go_upto_region 5 with fail
     generalize w.setCell ⟨b,3,none⟩ (.int .i64 (top : Int)) = w0 at *
     go_quiet (fail)
     go_wp2_with fail
     refine wp_loop_rounds 1 ?_
     rw [rounds_succ]
     go_wp2_with fail
     go_end0
     exact ⟨rfl,HS.out.drewN nq,KS.out.drewN nq⟩
theorem take_any9 (b r m : Nat) (q : St9) (o : Nat) (bv : Value) (bs : List Int) (w : World) (hq : Ok9 q) (h : Str b r m q w) (hR : Rd .u8 w bv bs) (ha : bs ≠ [] → ∀ j,bv.ownBlock = some j → j ≠ b ∧ j ≠ r ∧ j ≠ m)
  (hfit : o + bs.length ≤ q.p + q.row.length) (hbig : o + bs.length ≤ 4611686018427387903) :
  Calls Tryz.prog 186 #[.pointer (some ⟨b,0,none⟩),.int .i64 o,bv] w fun e w' => e = .returned (.tuple #[]) ∧ Str b r m (takeE9 q o bs) w' ∧ Keep [b,r,m] w w':=by
 have hR':=hR
 rcases hR with ⟨rfl,a,c,rfl,_⟩ | ⟨hne,sb,so,sc,rfl,hc,_⟩
 ·have HH:=qhi h
  clear h hR' ha hq
  go_enter Tryz.func186,Tryz.ntmps186
  go_wp2_with fail
  (try simp only [Exit.inBlock,Exit.then]);refine bodyPost_ret (results_none rfl _ _ _) rfl ?_
  exact ⟨rfl,HH.out,Keep.refl _ _⟩
 ·have hpos : 0 < bs.length:=by cases bs with | nil => exact absurd rfl hne | cons _ _ => simp
  by_cases hall : o + bs.length ≤ q.p
  ·exact take_read b r m sb so sc q o bs w hq h hpos hc hbig hall
  ·by_cases hle : q.p ≤ o
   ·exact take_core b r m sb so sc 0 (o - q.p) _ q o bs w hq h hR' hne (ha hne sb rfl) hc hfit hbig rfl (by omega) (by omega) (by omega) hpos (.inl rfl)
   ·exact take_core b r m sb so sc (q.p - o) 0 _ q o bs w hq h hR' hne (ha hne sb rfl) hc hfit hbig rfl (by omega) (by omega) (by omega) (by omega) (.inr (by omega))
theorem take_same (q : St9) (o : Nat) (b : List Int) : ({ takeE9 q o b with e:=q.e } : St9) = takeE9 q o b:=by unfold takeE9;split <;> rfl
theorem Str.setEnd {b r m : Nat} {q : St9} {w : World} (h : Str b r m q w) (x : Int) : Str b r m { q with e:=x } (w.setCell ⟨b,4,none⟩ (.int .i64 x)) :=
 ⟨h.fields.set 4 (.int .i64 x),h.row.keep (keep_set b 4 w _) (by simp;exact Ne.symm h.ne.1),h.came.keep (keep_set b 4 w _) (by simp;exact Ne.symm h.ne.2.1),h.ne⟩
def Does9 (b r m : Nat) (q' : St9) (w : World) (w' : World) : Prop:=Str b r m q' w' ∧ Keep [b,r,m] w w'
theorem Does9.same {b r m : Nat} {q : St9} {w : World} (h : Str b r m q w) : Does9 b r m q w w:=⟨h,Keep.refl _ _⟩
theorem Does9.drewN {b r m : Nat} {q : St9} {w : World} (h : Str b r m q w) (n : Nat) : Does9 b r m q w (w.drewN n):=⟨h.drewN n,(Keep.refl _ _).drewN n⟩
theorem mayEnd_b {b r m : Nat} {q : St9} (x : Int) (w : World) (h : Str b r m q w) (y : Bool) (hy : mayEndB q x = y) : Calls Tryz.prog 185 #[.pointer (some ⟨b,0,none⟩),.int .i64 x] w fun e w' => e = .returned (.bool y) ∧ w' = w:=hy ▸ mayEnd_any x w h
theorem limit_i {b r m : Nat} {q : St9} (w : World) (hq : Ok9 q) (h : Str b r m q w) : Calls Tryz.prog 69 #[.pointer (some ⟨b,0,none⟩)] w fun e w' => e = .returned (.int .i64 ((q.p : Int) + (q.row.length : Int))) ∧ ∃ n,w' = w.drewN n:=by
 have:=limit_any w h (by have:=hq.pt;have:=hq.big;have:=hq.few;omega)
 rwa [Int.natCast_add] at this
theorem data_any9 (b r m : Nat) (q : St9) (off : Int) (bv : Value) (bs : List Int) (fin : Bool) (w : World) (hq : Ok9 q) (h : Str b r m q w) (hR : Rd .u8 w bv bs) (ha : bs ≠ [] → ∀ j,bv.ownBlock = some j → j ≠ b ∧ j ≠ r ∧ j ≠ m) :
  Calls Tryz.prog 135 #[.pointer (some ⟨b,0,none⟩),.int .i64 off,bv,.bool fin] w fun e w' => e = .returned (.int .i64 (dataE q off bs fin).2) ∧ Does9 b r m (dataE q off bs fin).1 w w':=by
 obtain ⟨va,vc,hv⟩:=hR.isSlice
 have hlm:=hR.len
 unfold maxLen at hlm
 subst hv
 have HM:=qhi (made_any9 w h)
 have HH:=qhi h
 have hw1 : IntKind.i64.wrap (4611686018427387903 - (bs.length : Int)) = 4611686018427387903 - (bs.length : Int):=wraps_i64'9 _ (by omega) (by omega)
 unfold dataE
 cases h1 : withinB9 off 0 (4611686018427387903 - (bs.length : Int))
 ·have H1:=qhi h1
  rw [if_pos rfl]
  clear h1 hR ha h hq
  go_enter Tryz.func135,Tryz.ntmps135
  go_wp2_with (first
   | (go_at_call 56;refine HM.out.mono ?_;rintro e w2 ⟨rfl,h⟩;obtain rfl : w = w2:=h.symm)
   | (go_at_call 136;refine (within_b9 _ _ _ _ H1.out _).mono ?_;rintro e w2 ⟨rfl,h⟩;obtain rfl : w = w2:=h.symm))
  go_ret
  exact ⟨rfl,Does9.same HH.out⟩
 have H1:=qhi h1
 rw [if_neg (by decide)]
 have hwi:=within_iff9.1 h1
 have hw2 : IntKind.i64.wrap (off + (bs.length : Int)) = off + (bs.length : Int):=wraps_i64'9 _ (by omega) (by omega)
 obtain ⟨_,_,_,_,c4,c5⟩:=h.fields.facts
 cases h2 : q.br
 case true =>
  rw [if_pos rfl]
  rw [h2] at c5
  clear h1 h2 hR ha h hq hwi
  go_enter Tryz.func135,Tryz.ntmps135
  go_wp2_with (first
   | (go_at_call 56;refine HM.out.mono ?_;rintro e w2 ⟨rfl,h⟩;obtain rfl : w = w2:=h.symm)
   | (go_at_call 136;refine (within_b9 _ _ _ _ H1.out _).mono ?_;rintro e w2 ⟨rfl,h⟩;obtain rfl : w = w2:=h.symm))
  go_ret
  exact ⟨rfl,Does9.same HH.out⟩
 rw [if_neg (by decide)]
 rw [h2] at c5
 have HLim:=qhi (limit_i w hq h)
 obtain ⟨lim,hlim⟩ : ∃ lim : Int,lim = (q.p : Int) + (q.row.length : Int):=⟨_,rfl⟩
 have HLE:=qhi hlim
 rw [← hlim] at HLim ⊢
 obtain ⟨tt,hto⟩ : ∃ tt : Int,tt = off + (bs.length : Int):=⟨_,rfl⟩
 have HTo:=qhi hto
 have hw2' : IntKind.i64.wrap (off + (bs.length : Int)) = tt:=hw2.trans hto.symm
 rw [← hto]
 clear hw2
 by_cases h3 : lim < tt
 ·rw [if_pos h3]
  clear h1 h2 hR ha h hq hwi hlim hto
  go_enter Tryz.func135,Tryz.ntmps135
  go_wp2_with (first
   | (go_at_call 56;refine HM.out.mono ?_;rintro e w2 ⟨rfl,h⟩;obtain rfl : w = w2:=h.symm)
   | (go_at_call 136;refine (within_b9 _ _ _ _ H1.out _).mono ?_;rintro e w2 ⟨rfl,h⟩;obtain rfl : w = w2:=h.symm)
   | (go_at_call 69;refine HLim.out.mono ?_;rintro e w3 ⟨rfl,nn,rfl⟩))
  go_ret
  exact ⟨rfl,Does9.drewN HH.out _⟩
 rw [if_neg h3]
 obtain ⟨o,rfl⟩ : ∃ o : Nat,off = (o : Int):=⟨off.toNat,by omega⟩
 rw [Int.toNat_natCast]
 have HK:=qhi (fun n (x : Bool) hx => known_b (w.drewN n) (h.drewN n) x hx)
 have HME:=qhi (fun n (y : Bool) hy => mayEnd_b tt (w.drewN n) (h.drewN n) y hy)
 have HBig:=qhi (show o + bs.length ≤ 4611686018427387903 by omega)
 have HFit:=qhi (show o + bs.length ≤ q.p + q.row.length by omega)
 have HTk:=qhi (fun n => take_any9 b r m q o (.slice va bs.length vc) bs (w.drewN n) hq (h.drewN n) (hR.below (qbd (qbr _ w) n)) ha HFit.out HBig.out)
 have e3 : decide (tt > lim) = false:=qdf h3
 obtain ⟨e0,he0⟩ : ∃ e0,e0 = q.e:=⟨_,rfl⟩
 rw [← he0] at c4 HK ⊢
 have HE0:=qhi he0
 clear h1 h2 h3 hR ha h hq hwi hlim hto he0
 by_cases h4 : e0 = -1
 ·have H4 : Hid ((!decide (e0 = -1)) = false):=by show _ = _;simp [h4]
  have HN : Hid (¬ (e0 ≠ -1 ∧ e0 < tt)):=fun k => k.1 h4
  clear h4
  cases fin
  ·rw [if_neg (by rintro (h | h);exact HN.out h;exact absurd h.1 (by decide))]
   have hse : ({ takeE9 q o bs with e:=if false = true then tt else e0 } : St9) = takeE9 q o bs:=by rw [HE0.out];exact take_same q o bs
   rw [hse]
   clear hse
   go_enter Tryz.func135,Tryz.ntmps135
   go_wp2_with (first
    | (go_at_call 56;refine HM.out.mono ?_;rintro e w2 ⟨rfl,h⟩;obtain rfl : w = w2:=h.symm)
    | (go_at_call 136;refine (within_b9 _ _ _ _ H1.out _).mono ?_;rintro e w2 ⟨rfl,h⟩;obtain rfl : w = w2:=h.symm)
    | (go_at_call 69;refine HLim.out.mono ?_;rintro e w3 ⟨rfl,nn,rfl⟩;have c4' : (w.drewN nn).cell? ⟨b,4,none⟩ = some (.int .i64 e0):=c4)
    | (go_at_call 167;refine (HK.out _ false H4.out).mono ?_;rintro e w4 ⟨rfl,h4⟩;obtain rfl:=h4.symm)
    | (go_at_call 186;refine (HTk.out _).mono ?_;rintro e w5 ⟨rfl,hS5,hK5⟩
       have HS5:=qhi hS5
       have HK5:=qhi (((Keep.refl [b,r,m] w).drewN nn).trans hK5 (fun i hi => .inl hi))
       obtain ⟨_,_,_,_,y4,_⟩:=hS5.fields.facts
       obtain ⟨_,_,z4,_⟩:=hS5.fields.free
       clear hS5 hK5))
   go_ret
   exact ⟨rfl,HS5.out,HK5.out⟩
  ·cases hy : mayEndB q tt
   ·rw [if_pos (.inr ⟨rfl,rfl⟩)]
    have HY:=qhi hy
    clear hy
    go_enter Tryz.func135,Tryz.ntmps135
    go_wp2_with (first
     | (go_at_call 56;refine HM.out.mono ?_;rintro e w2 ⟨rfl,h⟩;obtain rfl : w = w2:=h.symm)
     | (go_at_call 136;refine (within_b9 _ _ _ _ H1.out _).mono ?_;rintro e w2 ⟨rfl,h⟩;obtain rfl : w = w2:=h.symm)
     | (go_at_call 69;refine HLim.out.mono ?_;rintro e w3 ⟨rfl,nn,rfl⟩;have c4' : (w.drewN nn).cell? ⟨b,4,none⟩ = some (.int .i64 e0):=c4)
     | (go_at_call 167;refine (HK.out _ false H4.out).mono ?_;rintro e w4 ⟨rfl,h4⟩;obtain rfl:=h4.symm)
     | (go_at_call 185;refine (HME.out _ false HY.out).mono ?_;rintro e w4 ⟨rfl,h4⟩;obtain rfl:=h4.symm))
    go_ret
    exact ⟨rfl,Does9.drewN HH.out _⟩
   ·rw [if_neg (by rintro (h | h);exact HN.out h;exact absurd h.2 (by decide))]
    rw [if_pos rfl]
    have HY:=qhi hy
    clear hy
    go_enter Tryz.func135,Tryz.ntmps135
    go_wp2_with (first
     | (go_at_call 56;refine HM.out.mono ?_;rintro e w2 ⟨rfl,h⟩;obtain rfl : w = w2:=h.symm)
     | (go_at_call 136;refine (within_b9 _ _ _ _ H1.out _).mono ?_;rintro e w2 ⟨rfl,h⟩;obtain rfl : w = w2:=h.symm)
     | (go_at_call 69;refine HLim.out.mono ?_;rintro e w3 ⟨rfl,nn,rfl⟩;have c4' : (w.drewN nn).cell? ⟨b,4,none⟩ = some (.int .i64 e0):=c4)
     | (go_at_call 167;refine (HK.out _ false H4.out).mono ?_;rintro e w4 ⟨rfl,h4⟩;obtain rfl:=h4.symm)
     | (go_at_call 185;refine (HME.out _ true HY.out).mono ?_;rintro e w4 ⟨rfl,h4⟩;obtain rfl:=h4.symm)
     | (go_at_call 186;refine (HTk.out _).mono ?_;rintro e w5 ⟨rfl,hS5,hK5⟩
        have HS5:=qhi hS5
        have HK5:=qhi (((Keep.refl [b,r,m] w).drewN nn).trans hK5 (fun i hi => .inl hi))
        obtain ⟨_,_,_,_,y4,_⟩:=hS5.fields.facts
        obtain ⟨_,_,z4,_⟩:=hS5.fields.free
        clear hS5 hK5))
    go_ret
    exact ⟨rfl,Str.setEnd HS5.out tt,HK5.out.trans (keep_set b 4 w5 _) (fun i hi => .inl (by simp at hi;simp [hi]))⟩
 ·have H4 : Hid ((!decide (e0 = -1)) = true):=by show _ = _;simp [h4]
  by_cases h5 : e0 < tt
  ·rw [if_pos (.inl ⟨h4,h5⟩)]
   have e5 : decide (tt > e0) = true:=qdt h5
   clear h4 h5
   go_enter Tryz.func135,Tryz.ntmps135
   go_wp2_with (first
    | (go_at_call 56;refine HM.out.mono ?_;rintro e w2 ⟨rfl,h⟩;obtain rfl : w = w2:=h.symm)
    | (go_at_call 136;refine (within_b9 _ _ _ _ H1.out _).mono ?_;rintro e w2 ⟨rfl,h⟩;obtain rfl : w = w2:=h.symm)
    | (go_at_call 69;refine HLim.out.mono ?_;rintro e w3 ⟨rfl,nn,rfl⟩;have c4' : (w.drewN nn).cell? ⟨b,4,none⟩ = some (.int .i64 e0):=c4)
    | (go_at_call 167;refine (HK.out _ true H4.out).mono ?_;rintro e w4 ⟨rfl,h4⟩;obtain rfl:=h4.symm))
   go_ret
   exact ⟨rfl,Does9.drewN HH.out _⟩
  ·have HN : Hid (¬ (e0 ≠ -1 ∧ e0 < tt)):=fun k => h5 k.2
   have e5 : decide (tt > e0) = false:=qdf h5
   clear h4 h5
   cases fin
   ·rw [if_neg (by rintro (h | h);exact HN.out h;exact absurd h.1 (by decide))]
    have hse : ({ takeE9 q o bs with e:=if false = true then tt else e0 } : St9) = takeE9 q o bs:=by rw [HE0.out];exact take_same q o bs
    rw [hse]
    clear hse
    go_enter Tryz.func135,Tryz.ntmps135
    go_wp2_with (first
     | (go_at_call 56;refine HM.out.mono ?_;rintro e w2 ⟨rfl,h⟩;obtain rfl : w = w2:=h.symm)
     | (go_at_call 136;refine (within_b9 _ _ _ _ H1.out _).mono ?_;rintro e w2 ⟨rfl,h⟩;obtain rfl : w = w2:=h.symm)
     | (go_at_call 69;refine HLim.out.mono ?_;rintro e w3 ⟨rfl,nn,rfl⟩;have c4' : (w.drewN nn).cell? ⟨b,4,none⟩ = some (.int .i64 e0):=c4)
     | (go_at_call 167;refine (HK.out _ true H4.out).mono ?_;rintro e w4 ⟨rfl,h4⟩;obtain rfl:=h4.symm)
     | (go_at_call 186;refine (HTk.out _).mono ?_;rintro e w5 ⟨rfl,hS5,hK5⟩
        have HS5:=qhi hS5
        have HK5:=qhi (((Keep.refl [b,r,m] w).drewN nn).trans hK5 (fun i hi => .inl hi))
        obtain ⟨_,_,_,_,y4,_⟩:=hS5.fields.facts
        obtain ⟨_,_,z4,_⟩:=hS5.fields.free
        clear hS5 hK5))
    go_ret
    exact ⟨rfl,HS5.out,HK5.out⟩
   ·cases hy : mayEndB q tt
    ·rw [if_pos (.inr ⟨rfl,rfl⟩)]
     have HY:=qhi hy
     clear hy
     go_enter Tryz.func135,Tryz.ntmps135
     go_wp2_with (first
      | (go_at_call 56;refine HM.out.mono ?_;rintro e w2 ⟨rfl,h⟩;obtain rfl : w = w2:=h.symm)
      | (go_at_call 136;refine (within_b9 _ _ _ _ H1.out _).mono ?_;rintro e w2 ⟨rfl,h⟩;obtain rfl : w = w2:=h.symm)
      | (go_at_call 69;refine HLim.out.mono ?_;rintro e w3 ⟨rfl,nn,rfl⟩;have c4' : (w.drewN nn).cell? ⟨b,4,none⟩ = some (.int .i64 e0):=c4)
      | (go_at_call 167;refine (HK.out _ true H4.out).mono ?_;rintro e w4 ⟨rfl,h4⟩;obtain rfl:=h4.symm)
      | (go_at_call 185;refine (HME.out _ false HY.out).mono ?_;rintro e w4 ⟨rfl,h4⟩;obtain rfl:=h4.symm))
     go_ret
     exact ⟨rfl,Does9.drewN HH.out _⟩
    ·rw [if_neg (by rintro (h | h);exact HN.out h;exact absurd h.2 (by decide))]
     rw [if_pos rfl]
     have HY:=qhi hy
     clear hy
     go_enter Tryz.func135,Tryz.ntmps135
     go_wp2_with (first
      | (go_at_call 56;refine HM.out.mono ?_;rintro e w2 ⟨rfl,h⟩;obtain rfl : w = w2:=h.symm)
      | (go_at_call 136;refine (within_b9 _ _ _ _ H1.out _).mono ?_;rintro e w2 ⟨rfl,h⟩;obtain rfl : w = w2:=h.symm)
      | (go_at_call 69;refine HLim.out.mono ?_;rintro e w3 ⟨rfl,nn,rfl⟩;have c4' : (w.drewN nn).cell? ⟨b,4,none⟩ = some (.int .i64 e0):=c4)
      | (go_at_call 167;refine (HK.out _ true H4.out).mono ?_;rintro e w4 ⟨rfl,h4⟩;obtain rfl:=h4.symm)
      | (go_at_call 185;refine (HME.out _ true HY.out).mono ?_;rintro e w4 ⟨rfl,h4⟩;obtain rfl:=h4.symm)
      | (go_at_call 186;refine (HTk.out _).mono ?_;rintro e w5 ⟨rfl,hS5,hK5⟩
         have HS5:=qhi hS5
         have HK5:=qhi (((Keep.refl [b,r,m] w).drewN nn).trans hK5 (fun i hi => .inl hi))
         obtain ⟨_,_,_,_,y4,_⟩:=hS5.fields.facts
         obtain ⟨_,_,z4,_⟩:=hS5.fields.free
         clear hS5 hK5))
     go_ret
     exact ⟨rfl,Str.setEnd HS5.out tt,HK5.out.trans (keep_set b 4 w5 _) (fun i hi => .inl (by simp at hi;simp [hi]))⟩
def Given (w : World) (B : Nat) (v : Value) (ys : List Int) : Prop :=
 ys.length ≤ 4096 ∧ ((ys = [] ∧ v = .slice none 0 0) ∨ (ys ≠ [] ∧ ∃ g,v = .slice (some ⟨g,0,none⟩) ys.length ys.length ∧ B ≤ g ∧ Cs w g (ys.map (Value.int .u8))))
theorem Given.rd {w : World} {B : Nat} {v : Value} {ys : List Int} (h : Given w B v ys) : Rd .u8 w v ys:=by
 obtain ⟨hl,⟨rfl,rfl⟩ | ⟨h0,g,rfl,_,hc⟩⟩:=h
 ·exact Rd.nil _ _
 ·refine .inr ⟨h0,g,0,ys.length,rfl,qlr _,by unfold maxLen;omega,hc.lt,fun i hi => ?_⟩
  rw [Nat.zero_add]
  refine hc.get i _ ?_
  rw [getD_lt hi];simp [hi]
theorem src_take {w : World} {g : Nat} {cur : List Value} (h : Cs w g cur) (n : Nat) : ∀ j v,(cur.take n)[j]? = some v → w.cell? ((⟨g,0,none⟩ : Addr).add j) = some v:=by
 intro j v hv
 rw [Addr.add_lit,Nat.zero_add]
 refine h.get _ _ ?_
 rw [List.getElem?_take] at hv
 split at hv
 ·exact hv
 ·cases hv
theorem read_any (b r m : Nat) (q : St9) (n : Int) (w : World) (hq : Ok9 q) (h : Str b r m q w) :
  Calls Tryz.prog 27 #[.pointer (some ⟨b,0,none⟩),.int .i64 n] w fun e w' => ∃ v,e = .returned v ∧ Given w' w.heap.size v (readE q n).2 ∧ Does9 b r m (readE q n).1 w w':=by
 have HR:=qhi (ready_any w hq h)
 have HH:=qhi h
 have hrl:=hq.ready_le
 have hfew:=hq.few
 obtain ⟨M,hM⟩ : ∃ M : Int,M = min n (readyN q : Int):=⟨_,rfl⟩
 have HMin:=qhi hM
 have HE1 : Hid (M < 1 → readE q n = (q,[])):=fun h1 => by unfold readE;rw [← hM];exact if_pos h1
 have HE2 : Hid (∀ k : Nat,M = (k : Int) → 1 ≤ k → readE q n = (dropE9 q k,q.row.take k)):=fun k h1 h2 => by
  unfold readE;rw [← hM,if_neg (by omega),h1,Int.toNat_natCast]
 have hM1 : M ≤ (q.row.length : Int):=by omega
 have HMr : Hid (M ≤ (readyN q : Int)):=by show M ≤ _;omega
 obtain ⟨rn,hrn⟩ : ∃ rn,rn = readyN q:=⟨_,rfl⟩
 rw [← hrn] at HR HMin
 clear hM hrl
 go_enter Tryz.func27,Tryz.ntmps27
 go_upto_region 1 with fail
 go_cut [1] (fun v wc => v = .int .i64 M ∧ wc = w)
 case first =>
  clear h hq
  go_wp2_with (go_at_call 54;refine HR.out.mono ?_;rintro e w2 ⟨rfl,h⟩;obtain rfl : w = w2:=h.symm)
  all_goals
   go_meet
   refine ⟨?_,rfl⟩
   have hh:=HMin.out
   congr 1
   omega
 case rest =>
  obtain ⟨rfl,hcw⟩:=hcut
  obtain rfl:=hcw.symm
  by_cases h1 : M < 1
  ·have HE:=qhi (HE1.out h1)
   have e1 : decide (M < 1) = true:=qdt h1
   clear h hq h1 hrn
   go_wp2_with fail
   go_ret
   rw [HE.out]
   exact ⟨_,rfl,⟨by simp,.inl ⟨rfl,rfl⟩⟩,Does9.same HH.out⟩
  ·have e1 : decide (M < 1) = false:=qdf h1
   obtain ⟨k,hk⟩ : ∃ k : Nat,M = (k : Int):=⟨M.toNat,by omega⟩
   have hk1 : 1 ≤ k:=by omega
   have HE:=qhi (HE2.out k hk hk1)
   clear HE1 HE2
   subst hk
   have hkl : k ≤ q.row.length:=by omega
   have hk2 : k ≤ 4096:=by omega
   have hmk:=makeU8 k hk2 w
   have a1:=Cs.made' w (.int .u8 0) k 5
   have HA1:=qhi a1
   have HS1:=qhi (h.below (below1 w (.cells (madeCells #[.int .u8 0] k) 5)))
   have HB1:=qhi (below1 w (.cells (madeCells #[.int .u8 0] k) 5))
   obtain ⟨d0,_,_,_,_,_⟩:=HS1.out.fields.facts
   have hlb:=h.lt
   have HF:=qhi (fun W (hW : Str b r m q W) => forget_any b r m q k W hq hW hk1 hkl (by
    have h2:=hq.big
    have h3:=hq.cm (k - 1) (lead_lt true false q.came (k - 1) (by have:=HMr.out;unfold readyN at this;omega))
    omega))
   have HLr : Hid ((q.row.map (Value.int .u8)).length = q.row.length):=List.length_map _
   have HMn : Hid (((q.row.map (Value.int .u8)).take k).length = Nat.min q.row.length k):=by
    show _ = _
    rw [List.length_take,HLr.out];exact (Nat.min_eq_left hkl).trans (Nat.min_eq_right hkl).symm
   have HSr : Hid (0 < ((q.row.map (Value.int .u8)).take k).length → ∀ j v,((q.row.map (Value.int .u8)).take k)[j]? = some v → (w.alloc (.cells (madeCells #[.int .u8 0] k) 5)).cell? ((⟨r,0,none⟩ : Addr).add j) = some v):=fun _ => src_take HS1.out.row k
   have HSp : Hid (splice (List.replicate k (Value.int .u8 0)) 0 ((q.row.map (Value.int .u8)).take k) = (q.row.take k).map (Value.int .u8)):=by
    show _ = _
    have l1 : ((q.row.map (Value.int .u8)).take k).length = k:=by rw [List.length_take,HLr.out];omega
    unfold splice
    rw [l1,List.drop_eq_nil_of_le (by simp),List.append_nil,List.take_zero,List.nil_append,List.map_take]
   have HFi : Hid (0 + ((q.row.map (Value.int .u8)).take k).length ≤ (List.replicate k (Value.int .u8 0)).length):=by
    show _ ≤ _
    rw [List.length_take,HLr.out,List.length_replicate];omega
   clear h hq h1 hrn e1 a1
   have e1 : decide ((k : Int) < 1) = false:=qdf (by omega)
   have hnb : w.heap.size ≠ b ∧ w.heap.size ≠ r ∧ w.heap.size ≠ m:=⟨by omega,by omega,by omega⟩
   have HNB:=qhi hnb
   have i1 : (0 : Int) ≤ (k : Int):=by omega
   clear hlb hnb
   go_wp2_with (first
    | (with_reducible refine wpList_copy_cs _ rfl (.tmp 14) (.tmp 18) 29 29 rfl 5 Tryz.underlying29 u8_size w.heap.size 0 k k q.row.length q.row.length ⟨r,0,none⟩ (by simp [Act.eval,Act.put]) (by simp [Act.eval,Act.put]) (List.replicate k (.int .u8 0)) HA1.out ((q.row.map (Value.int .u8)).take k) HMn.out HSr.out HFi.out (fun v hv => ints_oneCell .u8 q.row v (List.mem_of_mem_take hv)) ?_
       intro w2 hr2 hg2
       have HG2 : Hid (Cs w2 w.heap.size ((q.row.take k).map (Value.int .u8))):=by
        have:=hr2.out
        rw [HSp.out] at this
        exact this
       have HS2:=qhi (HS1.out.keep (S:=[w.heap.size]) (Keep.of_grown hg2 (fun j hj => .inl (by cases hj;simp))) (by simp;exact Ne.symm HNB.out.1) (by simp;exact Ne.symm HNB.out.2.1) (by simp;exact Ne.symm HNB.out.2.2))
       have HK2 : Hid (Keep [b,r,m] w w2):=(Keep.of_below HB1.out).trans (S':=[w.heap.size]) (Keep.of_grown hg2 (fun j hj => .inl (by cases hj;simp))) (fun i hi => .inr (by simp at hi;omega))
       clear hr2 hg2)
    | (go_at_call 55;refine (HF.out _ HS2.out).mono ?_;rintro e w3 ⟨rfl,hS3,hK3⟩))
   go_ret
   rw [HE.out]
   have hl : (q.row.take k).length = k:=by rw [List.length_take];omega
   have hG : Given w3 w.heap.size (.slice (some ⟨w.heap.size,0,none⟩) k k) (q.row.take k):=by
    refine ⟨by rw [hl];omega,.inr ⟨fun e => ?_,w.heap.size,by rw [hl],qlr _,HG2.out.keep hK3 (by simp;exact HNB.out)⟩⟩
    rw [e] at hl;simp at hl;omega
   exact ⟨_,rfl,hG,hS3,HK2.out.trans hK3 (fun i hi => .inl hi)⟩
def Mine (B b r m : Nat) (q : St9) (w0 w : World) : Prop:=Ok9 q ∧ Str b r m q w ∧ (B ≤ b ∧ B ≤ r ∧ B ≤ m) ∧ Below B w0 w
theorem new_yes (n : Int) (w : World) (hn : withinB9 n 1 4096 = true) :
  Calls Tryz.prog 88 #[.int .i64 n] w fun e w' => ∃ b r m,e = .returned (.tuple #[.pointer (some ⟨b,0,none⟩),.int .i64 0]) ∧ Mine w.heap.size b r m (fresh9 n.toNat) w w':=by
 refine (new_any9 n w).mono ?_
 rintro e w' (⟨h,_⟩ | ⟨_,b,r,m,rfl,hs,hl,hb⟩)
 ·rw [hn] at h;cases h
 ·have:=within_iff9.1 hn
  exact ⟨b,r,m,rfl,fresh_ok9 _ (by omega) (by omega),hs,hl,hb⟩
end Go.Proofs.YtmcomdmcmnbhlaaGreatDoor
