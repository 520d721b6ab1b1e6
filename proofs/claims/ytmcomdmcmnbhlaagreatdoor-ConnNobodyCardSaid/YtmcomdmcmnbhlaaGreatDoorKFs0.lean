import Derived.Test.YtmcomdmcmnbhlaaGreatDoorKFr5
import Derived.Test.YtmcomdmcmnbhlaaGreatDoorKFr3
set_option maxRecDepth 100000
set_option maxHeartbeats 25600000
set_option linter.unusedSimpArgs false
set_option linter.unusedVariables false
set_option linter.unnecessarySimpa false
namespace Go.Proofs.YtmcomdmcmnbhlaaGreatDoor
open Go.RowKit
def BtsF (fs : List Fr) : Prop:=∀ f ∈ fs,Bts f.data
theorem RdC.lit (m n : Nat) (w : World) (cs : Array Value) (e : TypeId) (hm : cs.size = n * m) (hn : 0 < n) (hx : n ≤ maxLen) : RdC m (w.alloc (.cells cs e)) (.slice (some ⟨w.heap.size,0,none⟩) n n) n cs.toList:=by
 refine ⟨by simpa using hm,.inr ⟨hn,w.heap.size,0,n,rfl,qlr _,hx,by simp,fun j u hu => ?_⟩⟩
 rw [World.cell?_alloc_at _ _ _ _ rfl,Nat.zero_add]
 simpa using hu
theorem RdF.one {w : World} {g : FV} (h : FvRd w g) : RdF (w.alloc (.cells (frCell g).toArray 102)) (.slice (some ⟨w.heap.size,0,none⟩) 1 1) [g.f]:=by
 have hb : Below w.heap.size w (w.alloc (.cells (frCell g).toArray 102)):=(qbr _ _).alloc (qlr _) _
 refine ⟨[g],rfl,?_,fun x hx => ?_⟩
 ·have:=RdC.lit 8 1 w (frCell g).toArray 102 rfl (by omega) (by decide)
  simpa [frC] using this
 ·simp only [List.mem_singleton] at hx
  subst hx
  exact ⟨h.1.below hb,h.2.below hb⟩
def Suf (xs : List Int) (i : Nat) (ys : List Int) : Prop:=∃ pre,xs = pre ++ ys ∧ pre.length = i
theorem Suf.step {xs : List Int} {i : Nat} {a ys : List Int} (h : Suf xs i (a ++ ys)) : Suf xs (i + a.length) ys:=by
 obtain ⟨pre,rfl,rfl⟩:=h
 exact ⟨pre ++ a,by simp,by simp⟩
theorem Suf.le {xs : List Int} {i : Nat} {ys : List Int} (h : Suf xs i ys) : i + ys.length = xs.length:=by
 obtain ⟨pre,rfl,rfl⟩:=h
 simp
theorem num_E {xs : List Int} {i : Nat} {n : Int} {ys : List Int} (h : Suf xs i (E n ++ ys)) (h0 : 0 ≤ n) (h1 : n ≤ 4611686018427387903) : num xs i = .ok (n,i + (E n).length):=by
 obtain ⟨pre,rfl,rfl⟩:=h
 have hs:=sizeI_in (fits_of h0 h1)
 have hg:=getS_enc pre ys n (sizeI n) hs.1 hs.2
 unfold num
 rw [show E n = enc n (sizeI n) from rfl,hg,enc_len _ _ hs.1]
theorem atMost_E {xs : List Int} {i : Nat} {n most why : Int} {ys : List Int} (h : Suf xs i (E n ++ ys)) (h0 : 0 ≤ n) (h1 : n ≤ 4611686018427387903) (h2 : n ≤ most) : atMostR xs i most why = .ok (n,i + (E n).length):=by
 unfold atMostR
 rw [num_E h h0 h1]
 exact if_neg (by omega)
theorem span_E {xs : List Int} {i : Nat} {s : Int × Int} {ys : List Int} (h : Suf xs i (E (s.2 - s.1) ++ ys)) (h0 : 0 ≤ s.1) (h1 : s.1 ≤ s.2) (h2 : s.2 ≤ 4611686018427387903) : spanR xs i s.2 = .ok (s,i + (E (s.2 - s.1)).length):=by
 unfold spanR
 rw [atMost_E h (by omega) (by omega) (by omega)]
 show Except.ok ((s.2 - (s.2 - s.1),s.2),_) = _
 rw [show s.2 - (s.2 - s.1) = s.1 by omega]
def Falls (hi : Int × Int) : List (Int × Int) → Prop
 | [] => True
 | s :: r => 0 ≤ s.1 ∧ s.1 ≤ s.2 ∧ s.2 + 2 ≤ hi.1 ∧ hi.1 ≤ 4611686018427387903 ∧ Falls s r
theorem more_E {xs ys : List Int} : ∀ {l : List (Int × Int)} {hi : Int × Int} {i : Nat} {acc : List (Int × Int)},Suf xs i (downL hi l ++ ys) → Falls hi l → moreR xs l.length hi.1 i acc = .ok (l.reverse ++ acc,i + (downL hi l).length)
 | [],hi,i,acc,_,_ => by simp [moreR,downL]
 | s :: r,hi,i,acc,h,hf => by
   obtain ⟨f1,f2,f3,f4,f5⟩:=hf
   rw [downL,List.append_assoc,List.append_assoc] at h
   have e1:=atMost_E (most:=hi.1 - 2) (why:=5) h (by omega) (by omega) (by omega)
   have h2:=h.step
   have e2:=span_E h2 f1 f2 (by omega)
   have e3:=more_E (acc:=s :: acc) h2.step f5
   rw [List.length_cons,moreR,e1]
   show (match spanR xs (i + (E (hi.1 - s.2 - 2)).length) (hi.1 - 2 - (hi.1 - s.2 - 2)) with | .error e => _ | .ok (s,j') => _) = _
   rw [show hi.1 - 2 - (hi.1 - s.2 - 2) = s.2 by omega,e2]
   show moreR xs r.length s.1 _ (s :: acc) = _
   rw [e3,downL]
   simp [Nat.add_assoc]
theorem Rises.snoc {A : List (Int × Int)} {s h : Int × Int} (hr : Rises (A ++ [s,h])) : Rises (A ++ [s]) ∧ s.2 + 2 ≤ h.1:=by
 induction A with
 | nil => exact ⟨⟨hr.1,hr.2.1,hr.2.2.2.1⟩,hr.2.2.1⟩
 | cons a A ih =>
   cases A with
   | nil =>
     obtain ⟨h1,h2,h3,h4,h5⟩:=hr
     have:=ih h5
     exact ⟨⟨h1,h2,h3,h4,this.1⟩,this.2⟩
   | cons b A =>
     obtain ⟨h1,h2,h3,h4,h5⟩:=hr
     have:=ih h5
     exact ⟨⟨h1,h2,h3,h4,this.1⟩,this.2⟩
theorem Rises.last {A : List (Int × Int)} {s : Int × Int} (hr : Rises (A ++ [s])) : 0 ≤ s.1 ∧ s.1 ≤ s.2 ∧ s.2 ≤ 4611686018427387903:=by
 have:=hr.at A.length (by simp)
 simpa [List.getD] using this
theorem Rises.falls : ∀ {r : List (Int × Int)} {h : Int × Int},Rises (r.reverse ++ [h]) → Falls h r
 | [],_,_ => trivial
 | s :: r,h,hr => by
   have e : (s :: r).reverse ++ [h] = r.reverse ++ [s,h]:=by simp
   rw [e] at hr
   obtain ⟨h1,h2⟩:=hr.snoc
   have h3:=h1.last
   have h4 : 0 ≤ h.1 ∧ h.1 ≤ h.2 ∧ h.2 ≤ 4611686018427387903:=by
    rw [show r.reverse ++ [s,h] = (r.reverse ++ [s]) ++ [h] by simp] at hr
    exact hr.last
   exact ⟨h3.1,h3.2.1,h2,by omega,h1.falls⟩
theorem spans_E {xs ys : List Int} {i : Nat} {ss : List (Int × Int)} (h : Suf xs i (spanBytes ss ++ ys)) (hr : Rises ss) (h1 : 1 ≤ ss.length) (h32 : ss.length ≤ 32) : spansR xs i (lastTo ss) = .ok (ss,i + (spanBytes ss).length):=by
 obtain ⟨l,r,hlr⟩ : ∃ l r,ss.reverse = l :: r:=by
  cases hc : ss.reverse with
  | nil =>
    have e : ss = []:=by simpa using hc
    rw [e] at h1;simp at h1
  | cons l r => exact ⟨l,r,rfl⟩
 have hss : ss = r.reverse ++ [l]:=by
  have:=congrArg List.reverse hlr
  simpa using this
 have hb : spanBytes ss = E (r.length : Int) ++ E (l.2 - l.1) ++ downL l r:=by unfold spanBytes;rw [hlr]
 have hlast : lastTo ss = l.2:=by
  unfold lastTo
  rw [hss]
  simp [List.getD]
 have hl : ss.length = r.length + 1:=by rw [hss];simp
 rw [hss] at hr
 have v:=hr.last
 rw [hb,List.append_assoc,List.append_assoc] at h
 have e1:=atMost_E (most:=31) (why:=6) h (by omega) (by omega) (by omega)
 have e2:=span_E h.step v.1 v.2.1 v.2.2
 have e3:=more_E (acc:=[l]) h.step.step hr.falls
 unfold spansR
 rw [e1]
 show (match spanR xs (i + (E (r.length : Int)).length) (lastTo ss) with | .error e => _ | .ok (s,j') => _) = _
 rw [hlast,e2]
 show moreR xs ((r.length : Int)).toNat l.1 _ [l] = _
 rw [show ((r.length : Int)).toNat = r.length by omega,e3,← hss,hb]
 simp [Nat.add_assoc]
theorem data_E {xs ys ds : List Int} {i : Nat} (h : Suf xs i (ds ++ ys)) : dataR xs i ds.length = .ok (ds,i + ds.length):=by
 have hl:=h.le
 rw [List.length_append] at hl
 unfold dataR
 rw [if_neg (by omega)]
 obtain ⟨pre,rfl,rfl⟩:=h
 simp
theorem E_small {n : Int} (h0 : 0 ≤ n) (h1 : n < 64) : E n = [n]:=by
 have f1 : fitsB n 1 = true:=by simp only [fitsB,decide_eq_true_eq,Int.reduceMul,Int.reduceSub,Int.reduceToNat,Int.reducePow];omega
 have hs : sizeI n = 1:=by unfold sizeI;rw [if_pos f1]
 unfold E enc
 rw [hs,if_pos rfl]
 simp [be1,bm1]
 omega
theorem suf_head {xs ys : List Int} {i : Nat} {t : Int} (h : Suf xs i ([t] ++ ys)) : xs.getD i 0 = t:=by
 obtain ⟨pre,rfl,rfl⟩:=h
 simp [List.getD]
theorem kind_E {xs ys : List Int} {i : Nat} {t : Int} (h : Suf xs i (E t ++ ys)) (h0 : 0 ≤ t) (h1 : t < 64) (hs : ¬ isStream t) (hk : knownK t) : kindR xs i = .ok ((t,7),i + 1):=by
 rw [E_small h0 h1] at h
 unfold kindR
 rw [suf_head h,if_neg hs,if_pos hk]
theorem kind_S {xs ys : List Int} {i : Nat} {t : Int} (h : Suf xs i (E t ++ ys)) (hs : isStream t) : kindR xs i = .ok ((8,t - 8),i + 1):=by
 unfold isStream at hs
 rw [E_small (by omega) (by omega)] at h
 unfold kindR
 rw [suf_head h,if_pos (by unfold isStream;exact hs)]
theorem frame_eta (f : Fr) : f = ⟨f.kind,f.stream,f.offset,f.n,f.code,f.fin,f.data,f.spans⟩:=by cases f;rfl
theorem typeE_len {t : Int} (h0 : 0 ≤ t) (h1 : t < 64) : (E t).length = 1:=by rw [E_small h0 h1];rfl
theorem encF_0 {f : Fr} (hk : f.kind = 0) : encF f = E (typeI f):=by
 have a1 : hStream f.kind = false:=by rw [hk];rfl
 have a2 : hCode f.kind = false:=by rw [hk];rfl
 have a3 : hOffset f.kind = false:=by rw [hk];rfl
 have a4 : hSpans f.kind = false:=by rw [hk];rfl
 have a5 : hN f.kind = false:=by rw [hk];rfl
 have a6 : hData f.kind = false:=by rw [hk];rfl
 rw [encF,a1,a2,a3,a4,a5,a6]
 simp only [iteT,iteF,nilA,nilB]
theorem frameE_0 {xs ys : List Int} {i : Nat} {f : Fr} (hk : f.kind = 0) (hm : mayF f = true) (h : Suf xs i (encF f ++ ys)) : frameR xs i = .ok (f,i + (encF f).length):=by
 obtain ⟨_,h1,h2,h3,h4,h5,h6,h7⟩:=mayF_parts hm
 rw [hk] at h1 h2 h3 h4 h5 h6 h7
 have v_stream:=numB_no h1 rfl
 have v_code:=numB_no h2 rfl
 have v_offset:=numB_no h3 rfl
 have v_n:=numB_no h4 rfl
 have vs : f.spans = []:=by simpa [spansB,hSpans] using h5
 have vd : f.data = []:=by simpa [dataB,hData] using h6
 have vf : f.fin = false:=by simpa [hFin] using h7
 rw [encF_0 hk] at h ⊢
 have ht : typeI f = 0:=by unfold typeI;rw [hk];simp
 try simp only [assocA] at h
 have p0:=h
 rw [ht] at h ⊢
 have hkd:=kind_E h (by omega) (by omega) (by unfold isStream;omega) (by unfold knownK;omega)
 have hl0:=typeE_len (t:=0) (by omega) (by omega)
 skip
 unfold frameR
 rw [hkd]
 show restR xs i 0 7 (i + 1) = _
 unfold restR
 simp only [Int.reduceEq,if_false,if_true,or_false,or_true,false_or,true_or,reduceIte]
 refine congrArg Except.ok (Prod.ext ?_ ?_)
 ·conv => rhs;rw [frame_eta f,hk,v_stream,v_code,v_offset,v_n,vs,vd,vf]
  rfl
 ·show i + 1 = _;rw [hl0]
theorem encF_1 {f : Fr} (hk : f.kind = 1) : encF f = E (typeI f):=by
 have a1 : hStream f.kind = false:=by rw [hk];rfl
 have a2 : hCode f.kind = false:=by rw [hk];rfl
 have a3 : hOffset f.kind = false:=by rw [hk];rfl
 have a4 : hSpans f.kind = false:=by rw [hk];rfl
 have a5 : hN f.kind = false:=by rw [hk];rfl
 have a6 : hData f.kind = false:=by rw [hk];rfl
 rw [encF,a1,a2,a3,a4,a5,a6]
 simp only [iteT,iteF,nilA,nilB]
theorem frameE_1 {xs ys : List Int} {i : Nat} {f : Fr} (hk : f.kind = 1) (hm : mayF f = true) (h : Suf xs i (encF f ++ ys)) : frameR xs i = .ok (f,i + (encF f).length):=by
 obtain ⟨_,h1,h2,h3,h4,h5,h6,h7⟩:=mayF_parts hm
 rw [hk] at h1 h2 h3 h4 h5 h6 h7
 have v_stream:=numB_no h1 rfl
 have v_code:=numB_no h2 rfl
 have v_offset:=numB_no h3 rfl
 have v_n:=numB_no h4 rfl
 have vs : f.spans = []:=by simpa [spansB,hSpans] using h5
 have vd : f.data = []:=by simpa [dataB,hData] using h6
 have vf : f.fin = false:=by simpa [hFin] using h7
 rw [encF_1 hk] at h ⊢
 have ht : typeI f = 1:=by unfold typeI;rw [hk];simp
 try simp only [assocA] at h
 have p0:=h
 rw [ht] at h ⊢
 have hkd:=kind_E h (by omega) (by omega) (by unfold isStream;omega) (by unfold knownK;omega)
 have hl0:=typeE_len (t:=1) (by omega) (by omega)
 skip
 unfold frameR
 rw [hkd]
 show restR xs i 1 7 (i + 1) = _
 unfold restR
 simp only [Int.reduceEq,if_false,if_true,or_false,or_true,false_or,true_or,reduceIte]
 refine congrArg Except.ok (Prod.ext ?_ ?_)
 ·conv => rhs;rw [frame_eta f,hk,v_stream,v_code,v_offset,v_n,vs,vd,vf]
  rfl
 ·show i + 1 = _;rw [hl0]
theorem encF_30 {f : Fr} (hk : f.kind = 30) : encF f = E (typeI f):=by
 have a1 : hStream f.kind = false:=by rw [hk];rfl
 have a2 : hCode f.kind = false:=by rw [hk];rfl
 have a3 : hOffset f.kind = false:=by rw [hk];rfl
 have a4 : hSpans f.kind = false:=by rw [hk];rfl
 have a5 : hN f.kind = false:=by rw [hk];rfl
 have a6 : hData f.kind = false:=by rw [hk];rfl
 rw [encF,a1,a2,a3,a4,a5,a6]
 simp only [iteT,iteF,nilA,nilB]
theorem frameE_30 {xs ys : List Int} {i : Nat} {f : Fr} (hk : f.kind = 30) (hm : mayF f = true) (h : Suf xs i (encF f ++ ys)) : frameR xs i = .ok (f,i + (encF f).length):=by
 obtain ⟨_,h1,h2,h3,h4,h5,h6,h7⟩:=mayF_parts hm
 rw [hk] at h1 h2 h3 h4 h5 h6 h7
 have v_stream:=numB_no h1 rfl
 have v_code:=numB_no h2 rfl
 have v_offset:=numB_no h3 rfl
 have v_n:=numB_no h4 rfl
 have vs : f.spans = []:=by simpa [spansB,hSpans] using h5
 have vd : f.data = []:=by simpa [dataB,hData] using h6
 have vf : f.fin = false:=by simpa [hFin] using h7
 rw [encF_30 hk] at h ⊢
 have ht : typeI f = 30:=by unfold typeI;rw [hk];simp
 try simp only [assocA] at h
 have p0:=h
 rw [ht] at h ⊢
 have hkd:=kind_E h (by omega) (by omega) (by unfold isStream;omega) (by unfold knownK;omega)
 have hl0:=typeE_len (t:=30) (by omega) (by omega)
 skip
 unfold frameR
 rw [hkd]
 show restR xs i 30 7 (i + 1) = _
 unfold restR
 simp only [Int.reduceEq,if_false,if_true,or_false,or_true,false_or,true_or,reduceIte]
 refine congrArg Except.ok (Prod.ext ?_ ?_)
 ·conv => rhs;rw [frame_eta f,hk,v_stream,v_code,v_offset,v_n,vs,vd,vf]
  rfl
 ·show i + 1 = _;rw [hl0]
theorem encF_4 {f : Fr} (hk : f.kind = 4) : encF f = E (typeI f) ++ (E f.stream ++ (E f.code ++ (E f.offset))):=by
 have a1 : hStream f.kind = true:=by rw [hk];rfl
 have a2 : hCode f.kind = true:=by rw [hk];rfl
 have a3 : hOffset f.kind = true:=by rw [hk];rfl
 have a4 : hSpans f.kind = false:=by rw [hk];rfl
 have a5 : hN f.kind = false:=by rw [hk];rfl
 have a6 : hData f.kind = false:=by rw [hk];rfl
 rw [encF,a1,a2,a3,a4,a5,a6]
 simp only [iteT,iteF,nilA,nilB]
theorem frameE_4 {xs ys : List Int} {i : Nat} {f : Fr} (hk : f.kind = 4) (hm : mayF f = true) (h : Suf xs i (encF f ++ ys)) : frameR xs i = .ok (f,i + (encF f).length):=by
 obtain ⟨_,h1,h2,h3,h4,h5,h6,h7⟩:=mayF_parts hm
 rw [hk] at h1 h2 h3 h4 h5 h6 h7
 have v_stream:=numB_yes h1 rfl
 have v_code:=numB_yes h2 rfl
 have v_offset:=numB_yes h3 rfl
 have v_n:=numB_no h4 rfl
 have vs : f.spans = []:=by simpa [spansB,hSpans] using h5
 have vd : f.data = []:=by simpa [dataB,hData] using h6
 have vf : f.fin = false:=by simpa [hFin] using h7
 rw [encF_4 hk] at h ⊢
 have ht : typeI f = 4:=by unfold typeI;rw [hk];simp
 try simp only [assocA] at h
 have p0:=h
 rw [ht] at h ⊢
 have hkd:=kind_E h (by omega) (by omega) (by unfold isStream;omega) (by unfold knownK;omega)
 have hl0:=typeE_len (t:=4) (by omega) (by omega)
 have s0:=h.step
 rw [hl0] at s0
 have e1:=num_E s0 v_stream.1 v_stream.2
 have s1:=s0.step
 have e2:=num_E s1 v_code.1 v_code.2
 have s2:=s1.step
 have e3:=num_E s2 v_offset.1 v_offset.2
 unfold frameR
 rw [hkd]
 show restR xs i 4 7 (i + 1) = _
 unfold restR
 simp only [Int.reduceEq,if_false,if_true,or_false,or_true,false_or,true_or,reduceIte]
 rw [thn_ok e1]
 rw [thn_ok e2]
 rw [thn_ok e3]
 refine congrArg Except.ok (Prod.ext ?_ ?_)
 ·conv => rhs;rw [frame_eta f,hk,v_n,vs,vd,vf]
 ·simp only [List.length_append,hl0]
  try omega
theorem encF_5 {f : Fr} (hk : f.kind = 5) : encF f = E (typeI f) ++ (E f.stream ++ (E f.code)):=by
 have a1 : hStream f.kind = true:=by rw [hk];rfl
 have a2 : hCode f.kind = true:=by rw [hk];rfl
 have a3 : hOffset f.kind = false:=by rw [hk];rfl
 have a4 : hSpans f.kind = false:=by rw [hk];rfl
 have a5 : hN f.kind = false:=by rw [hk];rfl
 have a6 : hData f.kind = false:=by rw [hk];rfl
 rw [encF,a1,a2,a3,a4,a5,a6]
 simp only [iteT,iteF,nilA,nilB]
theorem frameE_5 {xs ys : List Int} {i : Nat} {f : Fr} (hk : f.kind = 5) (hm : mayF f = true) (h : Suf xs i (encF f ++ ys)) : frameR xs i = .ok (f,i + (encF f).length):=by
 obtain ⟨_,h1,h2,h3,h4,h5,h6,h7⟩:=mayF_parts hm
 rw [hk] at h1 h2 h3 h4 h5 h6 h7
 have v_stream:=numB_yes h1 rfl
 have v_code:=numB_yes h2 rfl
 have v_offset:=numB_no h3 rfl
 have v_n:=numB_no h4 rfl
 have vs : f.spans = []:=by simpa [spansB,hSpans] using h5
 have vd : f.data = []:=by simpa [dataB,hData] using h6
 have vf : f.fin = false:=by simpa [hFin] using h7
 rw [encF_5 hk] at h ⊢
 have ht : typeI f = 5:=by unfold typeI;rw [hk];simp
 try simp only [assocA] at h
 have p0:=h
 rw [ht] at h ⊢
 have hkd:=kind_E h (by omega) (by omega) (by unfold isStream;omega) (by unfold knownK;omega)
 have hl0:=typeE_len (t:=5) (by omega) (by omega)
 have s0:=h.step
 rw [hl0] at s0
 have e1:=num_E s0 v_stream.1 v_stream.2
 have s1:=s0.step
 have e2:=num_E s1 v_code.1 v_code.2
 unfold frameR
 rw [hkd]
 show restR xs i 5 7 (i + 1) = _
 unfold restR
 simp only [Int.reduceEq,if_false,if_true,or_false,or_true,false_or,true_or,reduceIte]
 rw [thn_ok e1]
 rw [thn_ok e2]
 refine congrArg Except.ok (Prod.ext ?_ ?_)
 ·conv => rhs;rw [frame_eta f,hk,v_offset,v_n,vs,vd,vf]
 ·simp only [List.length_append,hl0]
  try omega
theorem encF_16 {f : Fr} (hk : f.kind = 16) : encF f = E (typeI f) ++ (E f.n):=by
 have a1 : hStream f.kind = false:=by rw [hk];rfl
 have a2 : hCode f.kind = false:=by rw [hk];rfl
 have a3 : hOffset f.kind = false:=by rw [hk];rfl
 have a4 : hSpans f.kind = false:=by rw [hk];rfl
 have a5 : hN f.kind = true:=by rw [hk];rfl
 have a6 : hData f.kind = false:=by rw [hk];rfl
 rw [encF,a1,a2,a3,a4,a5,a6]
 simp only [iteT,iteF,nilA,nilB]
theorem frameE_16 {xs ys : List Int} {i : Nat} {f : Fr} (hk : f.kind = 16) (hm : mayF f = true) (h : Suf xs i (encF f ++ ys)) : frameR xs i = .ok (f,i + (encF f).length):=by
 obtain ⟨_,h1,h2,h3,h4,h5,h6,h7⟩:=mayF_parts hm
 rw [hk] at h1 h2 h3 h4 h5 h6 h7
 have v_stream:=numB_no h1 rfl
 have v_code:=numB_no h2 rfl
 have v_offset:=numB_no h3 rfl
 have v_n:=numB_yes h4 rfl
 have vs : f.spans = []:=by simpa [spansB,hSpans] using h5
 have vd : f.data = []:=by simpa [dataB,hData] using h6
 have vf : f.fin = false:=by simpa [hFin] using h7
 rw [encF_16 hk] at h ⊢
 have ht : typeI f = 16:=by unfold typeI;rw [hk];simp
 try simp only [assocA] at h
 have p0:=h
 rw [ht] at h ⊢
 have hkd:=kind_E h (by omega) (by omega) (by unfold isStream;omega) (by unfold knownK;omega)
 have hl0:=typeE_len (t:=16) (by omega) (by omega)
 have s0:=h.step
 rw [hl0] at s0
 have e1:=num_E s0 v_n.1 v_n.2
 unfold frameR
 rw [hkd]
 show restR xs i 16 7 (i + 1) = _
 unfold restR
 simp only [Int.reduceEq,if_false,if_true,or_false,or_true,false_or,true_or,reduceIte]
 rw [thn_ok e1]
 refine congrArg Except.ok (Prod.ext ?_ ?_)
 ·conv => rhs;rw [frame_eta f,hk,v_stream,v_code,v_offset,vs,vd,vf]
 ·simp only [List.length_append,hl0]
  try omega
theorem encF_18 {f : Fr} (hk : f.kind = 18) : encF f = E (typeI f) ++ (E f.n):=by
 have a1 : hStream f.kind = false:=by rw [hk];rfl
 have a2 : hCode f.kind = false:=by rw [hk];rfl
 have a3 : hOffset f.kind = false:=by rw [hk];rfl
 have a4 : hSpans f.kind = false:=by rw [hk];rfl
 have a5 : hN f.kind = true:=by rw [hk];rfl
 have a6 : hData f.kind = false:=by rw [hk];rfl
 rw [encF,a1,a2,a3,a4,a5,a6]
 simp only [iteT,iteF,nilA,nilB]
theorem frameE_18 {xs ys : List Int} {i : Nat} {f : Fr} (hk : f.kind = 18) (hm : mayF f = true) (h : Suf xs i (encF f ++ ys)) : frameR xs i = .ok (f,i + (encF f).length):=by
 obtain ⟨_,h1,h2,h3,h4,h5,h6,h7⟩:=mayF_parts hm
 rw [hk] at h1 h2 h3 h4 h5 h6 h7
 have v_stream:=numB_no h1 rfl
 have v_code:=numB_no h2 rfl
 have v_offset:=numB_no h3 rfl
 have v_n:=numB_yes h4 rfl
 have vs : f.spans = []:=by simpa [spansB,hSpans] using h5
 have vd : f.data = []:=by simpa [dataB,hData] using h6
 have vf : f.fin = false:=by simpa [hFin] using h7
 rw [encF_18 hk] at h ⊢
 have ht : typeI f = 18:=by unfold typeI;rw [hk];simp
 try simp only [assocA] at h
 have p0:=h
 rw [ht] at h ⊢
 have hkd:=kind_E h (by omega) (by omega) (by unfold isStream;omega) (by unfold knownK;omega)
 have hl0:=typeE_len (t:=18) (by omega) (by omega)
 have s0:=h.step
 rw [hl0] at s0
 have e1:=num_E s0 v_n.1 v_n.2
 unfold frameR
 rw [hkd]
 show restR xs i 18 7 (i + 1) = _
 unfold restR
 simp only [Int.reduceEq,if_false,if_true,or_false,or_true,false_or,true_or,reduceIte]
 rw [thn_ok e1]
 refine congrArg Except.ok (Prod.ext ?_ ?_)
 ·conv => rhs;rw [frame_eta f,hk,v_stream,v_code,v_offset,vs,vd,vf]
 ·simp only [List.length_append,hl0]
  try omega
theorem encF_17 {f : Fr} (hk : f.kind = 17) : encF f = E (typeI f) ++ (E f.stream ++ (E f.n)):=by
 have a1 : hStream f.kind = true:=by rw [hk];rfl
 have a2 : hCode f.kind = false:=by rw [hk];rfl
 have a3 : hOffset f.kind = false:=by rw [hk];rfl
 have a4 : hSpans f.kind = false:=by rw [hk];rfl
 have a5 : hN f.kind = true:=by rw [hk];rfl
 have a6 : hData f.kind = false:=by rw [hk];rfl
 rw [encF,a1,a2,a3,a4,a5,a6]
 simp only [iteT,iteF,nilA,nilB]
theorem frameE_17 {xs ys : List Int} {i : Nat} {f : Fr} (hk : f.kind = 17) (hm : mayF f = true) (h : Suf xs i (encF f ++ ys)) : frameR xs i = .ok (f,i + (encF f).length):=by
 obtain ⟨_,h1,h2,h3,h4,h5,h6,h7⟩:=mayF_parts hm
 rw [hk] at h1 h2 h3 h4 h5 h6 h7
 have v_stream:=numB_yes h1 rfl
 have v_code:=numB_no h2 rfl
 have v_offset:=numB_no h3 rfl
 have v_n:=numB_yes h4 rfl
 have vs : f.spans = []:=by simpa [spansB,hSpans] using h5
 have vd : f.data = []:=by simpa [dataB,hData] using h6
 have vf : f.fin = false:=by simpa [hFin] using h7
 rw [encF_17 hk] at h ⊢
 have ht : typeI f = 17:=by unfold typeI;rw [hk];simp
 try simp only [assocA] at h
 have p0:=h
 rw [ht] at h ⊢
 have hkd:=kind_E h (by omega) (by omega) (by unfold isStream;omega) (by unfold knownK;omega)
 have hl0:=typeE_len (t:=17) (by omega) (by omega)
 have s0:=h.step
 rw [hl0] at s0
 have e1:=num_E s0 v_stream.1 v_stream.2
 have s1:=s0.step
 have e2:=num_E s1 v_n.1 v_n.2
 unfold frameR
 rw [hkd]
 show restR xs i 17 7 (i + 1) = _
 unfold restR
 simp only [Int.reduceEq,if_false,if_true,or_false,or_true,false_or,true_or,reduceIte]
 rw [thn_ok e1]
 rw [thn_ok e2]
 refine congrArg Except.ok (Prod.ext ?_ ?_)
 ·conv => rhs;rw [frame_eta f,hk,v_code,v_offset,vs,vd,vf]
 ·simp only [List.length_append,hl0]
  try omega
theorem encF_2 {f : Fr} (hk : f.kind = 2) : encF f = E (typeI f) ++ (E (lastTo f.spans) ++ (E f.n ++ (spanBytes f.spans))):=by
 have a1 : hStream f.kind = false:=by rw [hk];rfl
 have a2 : hCode f.kind = false:=by rw [hk];rfl
 have a3 : hOffset f.kind = false:=by rw [hk];rfl
 have a4 : hSpans f.kind = true:=by rw [hk];rfl
 have a5 : hN f.kind = true:=by rw [hk];rfl
 have a6 : hData f.kind = false:=by rw [hk];rfl
 rw [encF,a1,a2,a3,a4,a5,a6]
 simp only [iteT,iteF,nilA,nilB]
theorem frameE_2 {xs ys : List Int} {i : Nat} {f : Fr} (hk : f.kind = 2) (hm : mayF f = true) (h : Suf xs i (encF f ++ ys)) : frameR xs i = .ok (f,i + (encF f).length):=by
 obtain ⟨_,h1,h2,h3,h4,h5,h6,h7⟩:=mayF_parts hm
 rw [hk] at h1 h2 h3 h4 h5 h6 h7
 have v_stream:=numB_no h1 rfl
 have v_code:=numB_no h2 rfl
 have v_offset:=numB_no h3 rfl
 have v_n:=numB_yes h4 rfl
 have vs : Rises f.spans ∧ 1 ≤ f.spans.length ∧ f.spans.length ≤ 32:=by
  simp only [spansB,hSpans,decide_true,if_true,Bool.and_eq_true,decide_eq_true_eq] at h5
  exact ⟨Rises.of (Int.le_refl _) h5.2,h5.1.1,h5.1.2⟩
 have hla0:=vs.1.at (f.spans.length - 1) (by omega)
 have hla : 0 ≤ lastTo f.spans ∧ lastTo f.spans ≤ 4611686018427387903:=by unfold lastTo;omega
 have vd : f.data = []:=by simpa [dataB,hData] using h6
 have vf : f.fin = false:=by simpa [hFin] using h7
 rw [encF_2 hk] at h ⊢
 have ht : typeI f = 2:=by unfold typeI;rw [hk];simp
 try simp only [assocA] at h
 have p0:=h
 rw [ht] at h ⊢
 have hkd:=kind_E h (by omega) (by omega) (by unfold isStream;omega) (by unfold knownK;omega)
 have hl0:=typeE_len (t:=2) (by omega) (by omega)
 have s0:=h.step
 rw [hl0] at s0
 have e1:=num_E s0 hla.1 hla.2
 have s1:=s0.step
 have e2:=num_E s1 v_n.1 v_n.2
 have s2:=s1.step
 have e3:=spans_E s2 vs.1 vs.2.1 vs.2.2
 unfold frameR
 rw [hkd]
 show restR xs i 2 7 (i + 1) = _
 unfold restR
 simp only [Int.reduceEq,if_false,if_true,or_false,or_true,false_or,true_or,reduceIte]
 rw [thn_ok e1]
 rw [thn_ok e2]
 rw [thn_ok e3]
 refine congrArg Except.ok (Prod.ext ?_ ?_)
 ·conv => rhs;rw [frame_eta f,hk,v_stream,v_code,v_offset,vd,vf]
 ·simp only [List.length_append,hl0]
  try omega
theorem encF_28 {f : Fr} (hk : f.kind = 28) : encF f = E (typeI f) ++ (E f.code ++ (E (f.data.length : Int) ++ (f.data))):=by
 have a1 : hStream f.kind = false:=by rw [hk];rfl
 have a2 : hCode f.kind = true:=by rw [hk];rfl
 have a3 : hOffset f.kind = false:=by rw [hk];rfl
 have a4 : hSpans f.kind = false:=by rw [hk];rfl
 have a5 : hN f.kind = false:=by rw [hk];rfl
 have a6 : hData f.kind = true:=by rw [hk];rfl
 rw [encF,a1,a2,a3,a4,a5,a6]
 simp only [iteT,iteF,nilA,nilB]
theorem frameE_28 {xs ys : List Int} {i : Nat} {f : Fr} (hk : f.kind = 28) (hm : mayF f = true) (h : Suf xs i (encF f ++ ys)) : frameR xs i = .ok (f,i + (encF f).length):=by
 obtain ⟨_,h1,h2,h3,h4,h5,h6,h7⟩:=mayF_parts hm
 rw [hk] at h1 h2 h3 h4 h5 h6 h7
 have v_stream:=numB_no h1 rfl
 have v_code:=numB_yes h2 rfl
 have v_offset:=numB_no h3 rfl
 have v_n:=numB_no h4 rfl
 have vs : f.spans = []:=by simpa [spansB,hSpans] using h5
 have vd : f.data.length ≤ 1200 ∧ (f.data.length : Int) ≤ 4611686018427387903 - f.offset:=by simpa [dataB,hData] using h6
 have vf : f.fin = false:=by simpa [hFin] using h7
 rw [encF_28 hk] at h ⊢
 have ht : typeI f = 28:=by unfold typeI;rw [hk];simp
 try simp only [assocA] at h
 have p0:=h
 rw [ht] at h ⊢
 have hkd:=kind_E h (by omega) (by omega) (by unfold isStream;omega) (by unfold knownK;omega)
 have hl0:=typeE_len (t:=28) (by omega) (by omega)
 have s0:=h.step
 rw [hl0] at s0
 have e1:=num_E s0 v_code.1 v_code.2
 have s1:=s0.step
 have e2:=num_E s1 (by omega) (by omega)
 have s2:=s1.step
 have e3:=data_E s2
 unfold frameR
 rw [hkd]
 show restR xs i 28 7 (i + 1) = _
 unfold restR
 simp only [Int.reduceEq,if_false,if_true,or_false,or_true,false_or,true_or,reduceIte]
 rw [thn_ok e1]
 rw [thn_ok e2]
 rw [thn_ok e3]
 refine congrArg Except.ok (Prod.ext ?_ ?_)
 ·conv => rhs;rw [frame_eta f,hk,v_stream,v_offset,v_n,vs,vf]
 ·simp only [List.length_append,hl0]
  try omega
theorem encF_8 {f : Fr} (hk : f.kind = 8) : encF f = E (typeI f) ++ (E f.stream ++ (E f.offset ++ (E (f.data.length : Int) ++ (f.data)))):=by
 have a1 : hStream f.kind = true:=by rw [hk];rfl
 have a2 : hCode f.kind = false:=by rw [hk];rfl
 have a3 : hOffset f.kind = true:=by rw [hk];rfl
 have a4 : hSpans f.kind = false:=by rw [hk];rfl
 have a5 : hN f.kind = false:=by rw [hk];rfl
 have a6 : hData f.kind = true:=by rw [hk];rfl
 rw [encF,a1,a2,a3,a4,a5,a6]
 simp only [iteT,iteF,nilA,nilB]
theorem frameE_8 {xs ys : List Int} {i : Nat} {f : Fr} (hk : f.kind = 8) (hm : mayF f = true) (h : Suf xs i (encF f ++ ys)) : frameR xs i = .ok (f,i + (encF f).length):=by
 obtain ⟨_,h1,h2,h3,h4,h5,h6,h7⟩:=mayF_parts hm
 rw [hk] at h1 h2 h3 h4 h5 h6 h7
 have v_stream:=numB_yes h1 rfl
 have v_code:=numB_no h2 rfl
 have v_offset:=numB_yes h3 rfl
 have v_n:=numB_no h4 rfl
 have vs : f.spans = []:=by simpa [spansB,hSpans] using h5
 have vd : f.data.length ≤ 1200 ∧ (f.data.length : Int) ≤ 4611686018427387903 - f.offset:=by simpa [dataB,hData] using h6
 rw [encF_8 hk] at h ⊢
 have ht : isStream (typeI f):=by unfold isStream typeI;rw [hk];cases f.fin <;> simp
 have ht8 : typeI f - 8 = 6 + (if f.fin then 1 else 0):=by unfold typeI;rw [hk];cases f.fin <;> simp
 have h64 : 0 ≤ typeI f ∧ typeI f < 64:=by unfold isStream at ht;omega
 try simp only [assocA] at h
 have p0:=h
 have hkd:=kind_S h ht
 have hl0:=typeE_len h64.1 h64.2
 have s0:=h.step
 rw [hl0] at s0
 have e1:=num_E s0 v_stream.1 v_stream.2
 have s1:=s0.step
 have e2:=num_E s1 v_offset.1 v_offset.2
 have s2:=s1.step
 have e3:=num_E s2 (by omega) (by omega)
 have s3:=s2.step
 have e4:=data_E s3
 unfold frameR
 rw [hkd]
 show restR xs i 8 (typeI f - 8) (i + 1) = _
 unfold restR
 simp only [Int.reduceEq,if_false,if_true,or_false,or_true,false_or,true_or,reduceIte]
 have o4 : (typeI f - 8) / 4 % 2 = 1:=by rw [ht8];cases f.fin <;> decide
 have o2 : (typeI f - 8) / 2 % 2 = 1:=by rw [ht8];cases f.fin <;> decide
 have o1 : ((typeI f - 8) % 2 != 0) = f.fin:=by rw [ht8];cases f.fin <;> decide
 have eo:=(show offR xs (typeI f - 8) (i + 1 + (E f.stream).length) = num xs (i + 1 + (E f.stream).length) from if_neg (by omega)).trans e2
 have ec:=(show countR xs (typeI f - 8) (i + 1 + (E f.stream).length + (E f.offset).length) = num xs (i + 1 + (E f.stream).length + (E f.offset).length) from if_neg (by omega)).trans e3
 have et:=(show tailR xs i f.offset (f.data.length : Int) (i + 1 + (E f.stream).length + (E f.offset).length + (E (f.data.length : Int)).length) = dataR xs (i + 1 + (E f.stream).length + (E f.offset).length + (E (f.data.length : Int)).length) (f.data.length : Int) from if_neg (by omega)).trans e4
 rw [thn_ok e1,thn_ok eo,thn_ok ec,thn_ok et,o1]
 refine congrArg Except.ok (Prod.ext ?_ ?_)
 ·conv => rhs;rw [frame_eta f,hk,v_code,v_n,vs]
 ·simp only [List.length_append,hl0]
  try omega
theorem frame_E {xs ys : List Int} {i : Nat} {f : Fr} (hm : mayF f = true) (h : Suf xs i (encF f ++ ys)) : frameR xs i = .ok (f,i + (encF f).length):=by
 have hk:=(mayF_parts hm).1
 unfold knownK at hk
 rcases hk with hk | hk | hk | hk | hk | hk | hk | hk | hk | hk | hk
 ·exact frameE_4 hk hm h
 ·exact frameE_5 hk hm h
 ·exact frameE_8 hk hm h
 ·exact frameE_17 hk hm h
 ·exact frameE_16 hk hm h
 ·exact frameE_18 hk hm h
 ·exact frameE_2 hk hm h
 ·exact frameE_28 hk hm h
 ·exact frameE_0 hk hm h
 ·exact frameE_1 hk hm h
 ·exact frameE_30 hk hm h
theorem encF_pos {f : Fr} (hm : mayF f = true) : 1 ≤ (encF f).length:=by
 have h : 0 ≤ typeI f ∧ typeI f < 64:=by
  have hk:=(mayF_parts hm).1
  unfold knownK at hk
  unfold typeI
  split
  ·split <;> omega
  ·omega
 rw [encF,List.length_append,typeE_len h.1 h.2];omega
theorem encFs_cons (f : Fr) (fs : List Fr) : encFs (f :: fs) = encF f ++ encFs fs:=by simp [encFs]
theorem decGo_E {xs : List Int} : ∀ {fs : List Fr} {k i : Nat} {l : List Fr},(∀ f ∈ fs,mayF f = true) → fs.length ≤ k → Suf xs i (encFs fs) → decGo xs k i l = .ok (l ++ fs)
 | [],k,i,l,_,_,h => by
   have:=h.le
   simp [encFs] at this
   cases k <;> simp [decGo,show ¬ i < xs.length by omega]
 | f :: fs,0,i,l,_,hk,_ => by simp at hk
 | f :: fs,k + 1,i,l,hm,hk,h => by
   rw [encFs_cons] at h
   have hf:=hm f (by simp)
   have hl:=h.le
   rw [List.length_append] at hl
   have hp:=encF_pos hf
   rw [decGo,if_pos (by omega),frame_E hf h]
   show decGo xs k _ (l ++ [f]) = _
   rw [decGo_E (fun g hg => hm g (by simp [hg])) (by simpa using hk) h.step]
   simp
theorem dec_enc {fs : List Fr} {bs : List Int} (h : encL fs = .ok bs) : decL bs = .ok fs:=by
 unfold encL at h
 split at h
 ·cases h
 ·split at h
  ·rename_i h1 h2
   split at h
   ·cases h
   ·rename_i h3
    cases h
    unfold decL
    rw [if_neg h3]
    have:=decGo_E (xs:=encFs fs) (l:=[]) (i:=0) (k:=64) (fun f hf => List.all_eq_true.1 h2 f hf) (by omega) ⟨[],by simp,rfl⟩
    simpa using this
  ·cases h
theorem nil_bts : Bts []:=fun x h => by cases h
theorem downL_bts (hi : Int × Int) (l : List (Int × Int)) : Bts (downL hi l):=by
 induction l generalizing hi with
 | nil => exact nil_bts
 | cons s r ih => exact ((E_bts _).append (E_bts _)).append (ih s)
theorem spanBytes_bts (ss : List (Int × Int)) : Bts (spanBytes ss):=by
 unfold spanBytes
 split
 ·exact nil_bts
 ·exact ((E_bts _).append (E_bts _)).append (downL_bts _ _)
theorem encF_bts {f : Fr} (h : Bts f.data) : Bts (encF f):=by
 have b : ∀ (c : Bool) (l : List Int),Bts l → Bts (if c = true then l else []):=fun c l hl => by
  cases c
  ·exact nil_bts
  ·exact hl
 rw [encF]
 exact (E_bts _).append ((b _ _ (E_bts _)).append ((b _ _ (E_bts _)).append ((b _ _ (E_bts _)).append ((b _ _ (E_bts _)).append ((b _ _ (E_bts _)).append ((b _ _ (spanBytes_bts _)).append (b _ _ ((E_bts _).append h))))))))
theorem encFs_bts {fs : List Fr} (h : BtsF fs) : Bts (encFs fs):=by
 induction fs with
 | nil => exact nil_bts
 | cons f fs ih =>
   rw [encFs_cons]
   exact (encF_bts (h f (by simp))).append (ih fun g hg => h g (by simp [hg]))
end Go.Proofs.YtmcomdmcmnbhlaaGreatDoor
