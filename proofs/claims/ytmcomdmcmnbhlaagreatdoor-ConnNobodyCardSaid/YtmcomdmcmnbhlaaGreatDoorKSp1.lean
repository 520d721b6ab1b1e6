import Derived.Test.YtmcomdmcmnbhlaaGreatDoorKSp0
set_option maxRecDepth 100000
set_option maxHeartbeats 25600000
set_option linter.unusedSimpArgs false
set_option linter.unusedVariables false
set_option linter.unnecessarySimpa false
namespace Go.Proofs.YtmcomdmcmnbhlaaGreatDoor
open Go.RowKit
theorem add_B (a : Addr) (n c : Nat) (ss : List (Int × Int)) (f t : Int) (w : World) (hr : RdS w (.slice (some a) n c) ss) (hR : rightB5 ss = true) (hS : spanB f t = true) (hlt : ¬ upN (f - 1) ss < bhN (t + 1) ss) :
  Calls Tryz.prog 127 #[.slice (some a) n c,.int .i64 f,.int .i64 t] w (Gives2 (addE ss f t).1 (addE ss f t).2 w):=by
 have hft : 0 ≤ f ∧ f ≤ t ∧ t ≤ 4611686018427387903:=by simpa [spanB] using hS
 have hRi : riseB 0 ss = true ∧ ss.length ≤ 256:=by simpa [rightB5,and_comm] using hR
 obtain ⟨a',c',e',hn1,hn2⟩:=hr.isSlice
 simp only [Value.slice.injEq] at e'
 obtain ⟨rfl,rfl,rfl⟩:=e'
 have HM:=mayBoth_any _ ss f t w hr
 rw [hR,hS,Bool.and_self] at HM
 have HMay:=qhi HM
 have HR:=qhi hr
 have HRt:=qhi hR
 have HE : Hid ((addE ss f t) = if (addP ss f t).length ≤ 256 then (addP ss f t,0) else ([],6)):=by
  show _ = _
  rw [addP_eq hft.2.1 hRi.1,addE,hR,hS];rfl
 have hk1:=bhN_le (t + 1) ss
 have hP : Hid (addP ss f t = ss.take (upN (f - 1) ss) ++ ((f,t) :: ss.drop (bhN (t + 1) ss))):=by
  show _ = _
  rw [addP,wholeP,if_neg hlt]
 have hle : upN (f - 1) ss ≤ bhN (t + 1) ss:=up_le_bh (by omega) hRi.1
 generalize hp : upN (f - 1) ss = p at hlt hle hP
 generalize hq : bhN (t + 1) ss = q at hlt hle hP hk1
 obtain rfl : p = q:=by omega
 have HPp:=qhi hp
 have HQq:=qhi hq
 have hw1 : IntKind.i64.wrap (f - 1) = f - 1:=by rw [IntKind.wrap_i64];omega
 have hw2 : IntKind.i64.wrap (t + 1) = t + 1:=by rw [IntKind.wrap_i64];omega
 have ht1 : decide ((p : Int) < (p : Int)) = false:=qdf (Int.lt_irrefl _)
 have ht2 : decide (p < p) = false:=qdf (Nat.lt_irrefl p)
 have hi5 : (p : Int) ≤ (c : Int):=by omega
 have hi6 : (p : Int) ≤ (ss.length : Int):=by omega
 have hl:=hRi.2
 unfold maxLen at hn2
 clear HM hr hR hS hp hq hRi hlt hle
 go_enter Tryz.func127,Tryz.ntmps127
 go_wp2_with fail
 refine HMay.out.mono ?_
 rintro e w1 ⟨rfl,hb1⟩
 have B1:=qhi hb1
 clear hb1
 go_wp2_with fail
 refine (upTo_any _ ss _ _ (HR.out.below B1.out) HRt.out).mono ?_
 rw [HPp.out]
 rintro e w2 ⟨rfl,hb2⟩
 have B2:=qhi (B1.out.trans (hb2.mono B1.out.size))
 clear hb2
 go_wp2_with fail
 refine (behind_any _ ss _ _ (HR.out.below B2.out) HRt.out).mono ?_
 rw [HQq.out]
 rintro e w3 ⟨rfl,hb3⟩
 have B3:=qhi (B2.out.trans (hb3.mono B2.out.size))
 clear hb3
 have B4:=qhi (B3.out.alloc (B3.out.size) (.cells #[.int .i64 f,.int .i64 t] 151))
 have z3:=B3.out.size
 have FACT : ∀ (u v : Int) (V : World),w3.alloc (.cells #[.int .i64 u,.int .i64 v] 151) = V → u = f → v = t →
   ∃ u0 v0,u0 = f ∧ v0 = t ∧ Below w.heap.size w V ∧ V.heap.size = w3.heap.size + 1 ∧ V.cell? ⟨w3.heap.size,0,none⟩ = some (.int .i64 u0) ∧ V.cell? ⟨w3.heap.size,1,none⟩ = some (.int .i64 v0):=by
  rintro u v V rfl hu hv
  exact ⟨u,v,hu,hv,B3.out.alloc z3 _,by simp,by rw [World.cell?_alloc_at _ _ _ _ rfl];rfl,by rw [World.cell?_alloc_at _ _ _ _ rfl];rfl⟩
 have F:=qhi FACT
 clear FACT B4
 go_wp2_with fail
 all_goals
  clear ht1 ht2 hw1 hw2
  generalize hV : w3.alloc _ = V
  obtain ⟨u0,v0,hU,hV2,BV,zV,c0,c1⟩:=F.out _ _ _ hV rfl rfl
  have R0 : Hid (RdS (V.alloc (.cells #[.int .i64 u0,.int .i64 v0] 151)) (.slice (some a) p c) (ss.take p)):=by
   have:=(HR.out.below (BV.alloc BV.size (.cells #[.int .i64 u0,.int .i64 v0] 151))).cutAny 0 p (by omega) (some a) (fun _ => by cases a;simp [Addr.add]) (by simp)
   show RdS _ _ _
   simpa using this
  have R1 : Hid (RdS (V.alloc (.cells #[.int .i64 u0,.int .i64 v0] 151)) (.slice (some ⟨V.heap.size,0,none⟩) 1 1) [(u0,v0)]):=reads_built V u0 v0
  have R2 : Hid (RdS (V.alloc (.cells #[.int .i64 u0,.int .i64 v0] 151)) (.slice (if c = p then some a else some (a.add (p * 2))) (ss.length - p) (c - p)) (ss.drop p)):=by
   have:=(HR.out.below (BV.alloc BV.size (.cells #[.int .i64 u0,.int .i64 v0] 151))).cutAny p (ss.length - p) (by omega) (if c = p then some a else some (a.add (p * 2))) (fun h => by rw [if_neg h]) (by split <;> simp)
   rw [List.take_of_length_le (by rw [List.length_drop];exact qlr _)] at this
   exact this
  have hT : (ss.take p).length + [(u0,v0)].length + (ss.drop p).length ≤ 8796093022208:=by rw [List.length_take,List.length_drop];simp only [List.length_cons,List.length_nil];omega
  have HT:=qhi hT
  have E0 : Hid (addP ss f t = ss.take p ++ [(u0,v0)] ++ ss.drop p):=by
   show _ = _
   rw [hP.out,hU,hV2];simp
  have HBV:=qhi BV
  have ZV:=qhi zV
  clear hV BV zV hT hU hV2
  by_cases hlen : (addP ss f t).length ≤ 256
  ·have HE2 : Hid (addE ss f t = (addP ss f t,0)):=by show _ = _;rw [HE.out,if_pos hlen]
   have HL : Hid ((ss.take p ++ [(u0,v0)] ++ ss.drop p).length ≤ 256):=by rw [E0.out] at hlen;exact hlen
   clear hlen
   go_region_law (first
    | (go_simp;go_at_call 171;refine (concat3d_any _ _ _ _ _ _ _ _ (by simp) R0.out R1.out R2.out HT.out).mono ?_;rintro e w5 ⟨v5,rfl,o5,b5⟩;have O5:=qhi o5;have B5:=qhi b5;clear o5 b5)
    | (go_simp;go_at_call 170;refine (notMany_ok v5 _ _ O5.out.rd HL.out).mono ?_;rintro e w6 ⟨rfl,rfl⟩))
   all_goals go_wp2
   all_goals go_ret2
   all_goals
    have B6:=qbd ((HBV.out.alloc HBV.out.size (.cells #[.int .i64 u0,.int .i64 v0] 151)).alloc (by have:=HBV.out.size;simp;omega) (.cells #[.slice (some a) p c,.slice (some ⟨V.heap.size,0,none⟩) 1 1,.slice (if c = p then some a else some (a.add (p * 2))) (ss.length - p) (c - p)] 63)) 1
    rw [HE2.out,E0.out]
    exact ⟨v5,rfl,O5.out.mono B6.size,B6.trans (B5.out.mono B6.size)⟩
  ·have HE2 : Hid (addE ss f t = ([],6)):=by show _ = _;rw [HE.out,if_neg hlen]
   have HL : Hid (256 < (ss.take p ++ [(u0,v0)] ++ ss.drop p).length):=by rw [E0.out] at hlen;exact Nat.lt_of_not_le hlen
   clear hlen
   go_region_law (first
    | (go_simp;go_at_call 171;refine (concat3d_any _ _ _ _ _ _ _ _ (by simp) R0.out R1.out R2.out HT.out).mono ?_;rintro e w5 ⟨v5,rfl,o5,b5⟩;have O5:=qhi o5;have B5:=qhi b5;clear o5 b5)
    | (go_simp;go_at_call 170;refine (notMany_no v5 _ _ O5.out.rd HL.out).mono ?_;rintro e w6 ⟨rfl,rfl⟩))
   all_goals go_wp2
   all_goals go_ret2
   all_goals
    have B6:=qbd ((HBV.out.alloc HBV.out.size (.cells #[.int .i64 u0,.int .i64 v0] 151)).alloc (by have:=HBV.out.size;simp;omega) (.cells #[.slice (some a) p c,.slice (some ⟨V.heap.size,0,none⟩) 1 1,.slice (if c = p then some a else some (a.add (p * 2))) (ss.length - p) (c - p)] 63)) 1
    rw [HE2.out]
    exact ⟨_,rfl,OwnS.nil _ _,B6.trans (B5.out.mono B6.size)⟩
theorem add_C (f t : Int) (w : World) (hS : spanB f t = true) :
  Calls Tryz.prog 127 #[.slice none 0 0,.int .i64 f,.int .i64 t] w (Gives2 (addE [] f t).1 (addE [] f t).2 w):=by
 have hft : 0 ≤ f ∧ f ≤ t ∧ t ≤ 4611686018427387903:=by simpa [spanB] using hS
 have hr : RdS w (.slice none 0 0) []:=RdS.nil w
 have HM:=mayBoth_any _ [] f t w hr
 rw [hS,show rightB5 [] = true from rfl,Bool.and_self] at HM
 have HMay:=qhi HM
 have HR:=qhi hr
 have HE2 : Hid (addE [] f t = ([(f,t)],0)):=by show _ = _;simp [addE,hS,addR,show rightB5 [] = true from rfl]
 have hw1 : IntKind.i64.wrap (f - 1) = f - 1:=by rw [IntKind.wrap_i64];omega
 have hw2 : IntKind.i64.wrap (t + 1) = t + 1:=by rw [IntKind.wrap_i64];omega
 clear HM hr hS
 go_enter Tryz.func127,Tryz.ntmps127
 go_wp2_with fail
 refine HMay.out.mono ?_
 rintro e w1 ⟨rfl,hb1⟩
 have B1:=qhi hb1
 clear hb1
 go_wp2_with fail
 refine (upTo_any _ [] _ _ (HR.out.below B1.out) rfl).mono ?_
 rw [show upN (f - 1) [] = 0 from rfl]
 rintro e w2 ⟨rfl,hb2⟩
 have B2:=qhi (B1.out.trans (hb2.mono B1.out.size))
 clear hb2
 go_wp2_with fail
 refine (behind_any _ [] _ _ (HR.out.below B2.out) rfl).mono ?_
 rw [show bhN (t + 1) [] = 0 from rfl]
 rintro e w3 ⟨rfl,hb3⟩
 have B3:=qhi (B2.out.trans (hb3.mono B2.out.size))
 clear hb3
 have z3:=B3.out.size
 have FACT : ∀ (u v : Int) (V : World),w3.alloc (.cells #[.int .i64 u,.int .i64 v] 151) = V → u = f → v = t →
   ∃ u0 v0,u0 = f ∧ v0 = t ∧ Below w.heap.size w V ∧ V.heap.size = w3.heap.size + 1 ∧ V.cell? ⟨w3.heap.size,0,none⟩ = some (.int .i64 u0) ∧ V.cell? ⟨w3.heap.size,1,none⟩ = some (.int .i64 v0):=by
  rintro u v V rfl hu hv
  exact ⟨u,v,hu,hv,B3.out.alloc z3 _,by simp,by rw [World.cell?_alloc_at _ _ _ _ rfl];rfl,by rw [World.cell?_alloc_at _ _ _ _ rfl];rfl⟩
 have F:=qhi FACT
 clear FACT
 go_wp2_with fail
 clear hw1 hw2
 generalize hV : w3.alloc _ = V
 obtain ⟨u0,v0,hU,hV2,BV,zV,c0,c1⟩:=F.out _ _ _ hV rfl rfl
 have R0 : Hid (RdS (V.alloc (.cells #[.int .i64 u0,.int .i64 v0] 151)) (.slice none 0 0) []):=RdS.nil _
 have R1 : Hid (RdS (V.alloc (.cells #[.int .i64 u0,.int .i64 v0] 151)) (.slice (some ⟨V.heap.size,0,none⟩) 1 1) [(u0,v0)]):=reads_built V u0 v0
 have E0 : Hid ([(f,t)] = ([] : List (Int × Int)) ++ [(u0,v0)] ++ []):=by
  show _ = _
  rw [hU,hV2];rfl
 have HBV:=qhi BV
 clear hV BV zV hU hV2
 go_region_law (first
  | (go_simp;go_at_call 171;refine (concat3d_any _ _ _ _ _ [] [(u0,v0)] [] (by simp) R0.out R1.out R0.out (by simp)).mono ?_;rintro e w5 ⟨v5,rfl,o5,b5⟩;have O5:=qhi o5;have B5:=qhi b5;clear o5 b5)
  | (go_simp;go_at_call 170;refine (notMany_ok v5 _ _ O5.out.rd (by simp)).mono ?_;rintro e w6 ⟨rfl,rfl⟩))
 all_goals go_wp2
 all_goals go_ret2
 all_goals
  have B6:=qbd ((HBV.out.alloc HBV.out.size (.cells #[.int .i64 u0,.int .i64 v0] 151)).alloc (by have:=HBV.out.size;simp;omega) (.cells #[.slice none 0 0,.slice (some ⟨V.heap.size,0,none⟩) 1 1,.slice none 0 0] 63)) 1
  rw [HE2.out,E0.out]
  exact ⟨v5,rfl,O5.out.mono B6.size,B6.trans (B5.out.mono B6.size)⟩
theorem add_any (v : Value) (ss : List (Int × Int)) (f t : Int) (w : World) (hr : RdS w v ss) :
  Calls Tryz.prog 127 #[v,.int .i64 f,.int .i64 t] w (Gives2 (addE ss f t).1 (addE ss f t).2 w):=by
 by_cases h : (rightB5 ss && spanB f t) = true
 ·obtain ⟨hR,hS⟩:=Bool.and_eq_true_iff.1 h
  obtain ⟨a,c,rfl,_,_⟩:=hr.isSlice
  cases a with
  | none =>
    obtain ⟨rfl,rfl⟩:=hr.nilCut
    exact add_C f t w hS
  | some a =>
    obtain ⟨b,o,sp⟩:=a
    by_cases hlt : upN (f - 1) ss < bhN (t + 1) ss
    ·obtain ⟨b',o',c',e,_⟩:=hr.form (by intro h0;rw [h0] at hlt;exact absurd hlt (Nat.lt_irrefl 0))
     simp only [Value.slice.injEq,Option.some.injEq,Addr.mk.injEq] at e
     obtain ⟨⟨rfl,rfl,rfl⟩,_,rfl⟩:=e
     exact add_A b o _ c ss f t w hr hR hS hlt
    ·exact add_B ⟨b,o,sp⟩ _ c ss f t w hr hR hS hlt
 ·have HE : Hid (addE ss f t = ([],1)):=by show _ = _;rw [addE,if_neg h]
  have HM:=mayBoth_any _ ss f t w hr
  rw [Bool.eq_false_iff.2 h] at HM
  have HM':=qhi HM
  obtain ⟨a,c,rfl,_,_⟩:=hr.isSlice
  rw [HE.out]
  clear HM hr h
  go_enter Tryz.func127,Tryz.ntmps127
  go_wp2_with (go_at_call 168;refine HM'.out.mono ?_;rintro e w1 ⟨rfl,hb1⟩)
  go_ret2
  exact ⟨_,rfl,OwnS.nil _ _,hb1⟩
end Go.Proofs.YtmcomdmcmnbhlaaGreatDoor
