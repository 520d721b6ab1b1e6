import Derived.Test.YtmcomdmcmnbhlaaGreatDoorKLGen0
set_option maxRecDepth 100000
set_option maxHeartbeats 25600000
set_option linter.unusedSimpArgs false
set_option linter.unusedVariables false
set_option linter.unnecessarySimpa false
namespace Go.Proofs.YtmcomdmcmnbhlaaGreatDoor
open Go.RowKit
def tickB (n : Int) : Bool:=decide (0 ≤ n) && decide (n ≤ 1099511627776)
theorem tick_iff {n : Int} : tickB n = true ↔ 0 ≤ n ∧ n ≤ 1099511627776:=by simp [tickB]
structure St6 where
 h : Bool
 l : Int
 s : Int
 v : Int
 t : Int
def nul6 : St6:=⟨false,0,0,0,0⟩
def sameB6 (p q : St6) : Bool:=p.h == q.h && (p.l == q.l && (p.s == q.s && (p.v == q.v && p.t == q.t)))
def rightB6 (q : St6) : Bool:=if q.h then [q.l,q.s,q.v,q.t].all tickB && decide (q.l ≤ q.t) else sameB6 q nul6
theorem right_has {q : St6} (h : rightB6 q = true) (hh : q.h = true) : (0 ≤ q.l ∧ q.l ≤ 1099511627776) ∧ (0 ≤ q.s ∧ q.s ≤ 1099511627776) ∧ (0 ≤ q.v ∧ q.v ≤ 1099511627776) ∧ (0 ≤ q.t ∧ q.t ≤ 1099511627776) ∧ q.l ≤ q.t:=by
 rw [rightB6,if_pos hh] at h
 simpa [tick_iff,and_assoc] using h
def lowI (a b : Int) : Int:=if b < a then b else a
def highI (a b : Int) : Int:=if a < b then b else a
def dbl : Nat → Int → Int
 | 0,n => n
 | k + 1,n => if n < 1048576 then dbl k (n * 2) else n
def startI (q : St6) : Int:=if q.h then q.s + (if 4 * q.v < 1 then 1 else 4 * q.v) + 25 else 125
def probeI (q : St6) (k : Int) : Int:=lowI (dbl k.toNat (startI q)) 1048576
def probeE (q : St6) (k : Int) : Int × Int:=if rightB6 q = true then (if k < 0 then (0,1) else (probeI q k,0)) else (0,1)
def lossI (q : St6) : Int:=if q.h then highI ((9 * highI q.s q.t).tdiv 8) 1 else 112
def lossE (q : St6) : Int × Int:=if rightB6 q = true then (lossI q,0) else (0,1)
theorem wraps_i64'6 (n : Int) (h₀ : -9223372036854775808 ≤ n) (h₁ : n < 9223372036854775808) : IntKind.i64.wrap n = n:=by rw [IntKind.wrap_i64];omega
theorem areTicks_any (v : Value) (xs : List Int) (w : World) (hr : Rd .i64 w v xs) :
  Calls Tryz.prog 142 #[v] w fun e w' => e = .returned (.bool (xs.all tickB)) ∧ w' = w:=by
 rcases hr with ⟨rfl,a,c,rfl,_,_⟩ | ⟨h0,b,o,c,rfl,hc,hm,hb,hcell⟩
 ·go_enter Tryz.func142,Tryz.ntmps142
  go_wp2_with fail
  refine wp_loop_rounds 1 ?_
  rw [rounds_succ]
  go_wp2
  go_ret
  exact ⟨rfl,rfl⟩
 ·unfold maxLen at hm
  have HC:=qhi hcell
  clear hcell h0
  go_enter Tryz.func142,Tryz.ntmps142
  go_wp2_with fail
  go_loop [7] (fun i => ∃ (k : Nat),i = .int .i64 k ∧ k ≤ xs.length ∧ (xs.drop k).all tickB = xs.all tickB) (fun i => xs.length - (intOf i).toNat)
  case atStart => exact ⟨0,rfl,Nat.zero_le _,by simp⟩
  case round =>
   obtain ⟨k,rfl,hk,hall⟩:=hrel
   have HA:=qhi hall
   clear hall
   by_cases hlt : k < xs.length
   ·have hd : xs.drop k = xs.getD k 0 :: xs.drop (k + 1):=by rw [List.drop_eq_getElem_cons hlt];simp [List.getD,hlt]
    have q0:=HC.out k hlt
    generalize xs.getD k 0 = x at hd q0
    have hi1 : (k : Int) < (xs.length : Int):=by omega
    have hw1 : IntKind.i64.wrap ((k : Int) + 1) = (k : Int) + 1:=wraps_i64'6 _ (by omega) (by omega)
    have HD:=qhi hd
    clear hd
    by_cases h1 : 0 ≤ x
    ·have t1 : decide (x < 0) = false:=qdf (by omega)
     by_cases h2 : x ≤ 1099511627776
     ·have t2 : decide (x > 1099511627776) = false:=qdf (by omega)
      have HE : Hid ((xs.drop (k + 1)).all tickB = xs.all tickB):=by
       show _ = _;rw [← HA.out,HD.out,List.all_cons,tick_iff.2 ⟨h1,h2⟩,Bool.true_and]
      clear h1 h2
      go_wp2
      go_round
      case rel => exact ⟨k + 1,by go_num,by omega,HE.out⟩
      case measure => simp [intOf,hw1];omega
     ·have t2 : decide (x > 1099511627776) = true:=qdt (by omega)
      have HE : Hid (xs.all tickB = false):=by
       show _ = _;rw [← HA.out,HD.out,List.all_cons];simp [tickB,h2]
      clear h1 h2
      go_wp2
      go_ret
      rw [HE.out]
      exact ⟨rfl,rfl⟩
    ·have t1 : decide (x < 0) = true:=qdt (by omega)
     have HE : Hid (xs.all tickB = false):=by
      show _ = _;rw [← HA.out,HD.out,List.all_cons];simp [tickB,h1]
     clear h1
     go_wp2
     go_ret
     rw [HE.out]
     exact ⟨rfl,rfl⟩
   ·have hk2 : k = xs.length:=by omega
    have HE : Hid (xs.all tickB = true):=by
     show _ = _;rw [← HA.out,hk2,List.drop_length];rfl
    clear hk2
    go_wp2
    go_ret
    rw [HE.out]
    exact ⟨rfl,rfl⟩
theorem eql_any (h h' : Bool) (a b c d a' b' c' d' : Int) (w : World) :
  (Op.equalIn 10000 60 (.agg #[.bool h,.int .i64 a,.int .i64 b,.int .i64 c,.int .i64 d]) (.agg #[.bool h',.int .i64 a',.int .i64 b',.int .i64 c',.int .i64 d'])).run Tryz.prog w = .ok (sameB6 ⟨h,a,b,c,d⟩ ⟨h',a',b',c',d'⟩) w:=by
 have u3:=Tryz.underlying3
 have a3:=Tryz.isAgg3
 have z3:=Tryz.sizeOf3
 have u4:=Tryz.underlying4
 have a4:=Tryz.isAgg4
 have z4:=Tryz.sizeOf4
 have hS : Tryz.prog.underlying 60 = some (.struct (Tryz.prog.fieldsOf 60)):=by kernel_rfl
 have hp : Tryz.prog.stoodInHeld 60 = false:=by kernel_rfl
 rw [show (10000 : Nat) = 9999 + 1 from rfl,run_equalIn_agg w 9999 60 _ _ hS hp]
 simp only [Program.fieldsOf,Tryz.underlying60]
 go_simp
 unfold sameB6
 by_cases h1 : a = a' <;> by_cases h2 : b = b' <;> by_cases h3 : c = c' <;> by_cases h4 : d = d' <;> cases h <;> cases h' <;> simp [h1,h2,h3,h4]
theorem ticks4 (l s v t : Int) (b : Bool) (hb : [l,s,v,t].all tickB = b) (p : Nat) (w : World) (hp : p = w.heap.size) :
  Calls Tryz.prog 142 #[.slice (some ⟨p,0,none⟩) 4 4] (w.alloc (.cells #[.int .i64 l,.int .i64 s,.int .i64 v,.int .i64 t] 3)) fun e w' => e = .returned (.bool b) ∧ w' = w.alloc (.cells #[.int .i64 l,.int .i64 s,.int .i64 v,.int .i64 t] 3):=by
 subst hp
 rw [← hb]
 exact areTicks_any _ _ _ (Rd.lit [l,s,v,t] (by simp) 4 rfl (by decide) _ rfl)
theorem guard_not : Tryz.prog.eqGuardType Tryz.prog.depth 60 = false:=by kernel_rfl
theorem right_no (l s v t : Int) (w : World) :
  Calls Tryz.prog 94 #[.agg #[.bool false,.int .i64 l,.int .i64 s,.int .i64 v,.int .i64 t]] w fun e w' => e = .returned (.bool (sameB6 ⟨false,l,s,v,t⟩ ⟨false,0,0,0,0⟩)) ∧ Below w.heap.size w w':=by
 have hg:=guard_not
 have q24:=fun w => eql_any false false l s v t 0 0 0 0 w
 generalize sameB6 ⟨false,l,s,v,t⟩ ⟨false,0,0,0,0⟩ = r at q24 ⊢
 go_enter Tryz.func94,Tryz.ntmps94
 go_wp2
 go_ret
 exact ⟨rfl,(qbr _ _).alloc (qlr _) _⟩
theorem right_yes (l s v t : Int) (w : World) :
  Calls Tryz.prog 94 #[.agg #[.bool true,.int .i64 l,.int .i64 s,.int .i64 v,.int .i64 t]] w fun e w' => e = .returned (.bool ([l,s,v,t].all tickB && decide (l ≤ t))) ∧ Below w.heap.size w w':=by
 have hb:=((qbr w.heap.size w).alloc (qlr _) (.cells #[.bool true,.int .i64 l,.int .i64 s,.int .i64 v,.int .i64 t] 60)).alloc (by simp) (.cells #[.int .i64 l,.int .i64 s,.int .i64 v,.int .i64 t] 3)
 have HB:=qhi hb
 clear hb
 cases hq : [l,s,v,t].all tickB
 ·have R:=qhi (ticks4 l s v t _ hq)
  rw [Bool.false_and]
  clear hq
  go_enter Tryz.func94,Tryz.ntmps94
  go_wp2_with fail
  refine (R.out _ _ (by simp)).mono ?_
  rintro e w2 ⟨rfl,rfl⟩
  go_wp2
  go_ret
  exact ⟨rfl,HB.out⟩
 ·have R:=qhi (ticks4 l s v t _ hq)
  rw [Bool.true_and]
  clear hq
  go_enter Tryz.func94,Tryz.ntmps94
  go_wp2_with fail
  refine (R.out _ _ (by simp)).mono ?_
  rintro e w2 ⟨rfl,rfl⟩
  go_wp2
  go_ret
  exact ⟨rfl,HB.out⟩
theorem right_any6 (h : Bool) (l s v t : Int) (w : World) :
  Calls Tryz.prog 94 #[.agg #[.bool h,.int .i64 l,.int .i64 s,.int .i64 v,.int .i64 t]] w fun e w' => e = .returned (.bool (rightB6 ⟨h,l,s,v,t⟩)) ∧ Below w.heap.size w w':=by
 cases h
 ·exact right_no l s v t w
 ·exact right_yes l s v t w
theorem right_b6 (h : Bool) (l s v t : Int) (b : Bool) (hb : rightB6 ⟨h,l,s,v,t⟩ = b) (w : World) :
  Calls Tryz.prog 94 #[.agg #[.bool h,.int .i64 l,.int .i64 s,.int .i64 v,.int .i64 t]] w fun e w' => e = .returned (.bool b) ∧ Below w.heap.size w w':=hb ▸ right_any6 h l s v t w
def Held6 (b : Nat) (h : Bool) (l s v t : Int) (W : World) : Prop:=∃ T,W.heap[b]? = some (.cells #[.bool h,.int .i64 l,.int .i64 s,.int .i64 v,.int .i64 t] T (0,0))
theorem held_last6 (h : Bool) (l s v t : Int) (T : TypeId) (w : World) : Held6 w.heap.size h l s v t (w.alloc (.cells #[.bool h,.int .i64 l,.int .i64 s,.int .i64 v,.int .i64 t] T)) :=
 ⟨T,by show (w.heap.push _)[w.heap.size]? = _;simp⟩
theorem Held6.lt {b : Nat} {h : Bool} {l s v t : Int} {W : World} (H : Held6 b h l s v t W) : b < W.heap.size:=by
 obtain ⟨T,e⟩:=H
 exact (qgs e).1
theorem Held6.below {b : Nat} {h : Bool} {l s v t : Int} {W W' : World} (H : Held6 b h l s v t W) (hb : Below W.heap.size W W') : Held6 b h l s v t W':=by
 have k:=H.lt
 obtain ⟨T,e⟩:=H
 exact ⟨T,by rw [hb.block b k];exact e⟩
theorem Held6.facts {b : Nat} {h : Bool} {l s v t : Int} {W : World} (H : Held6 b h l s v t W) :
  W.cell? ⟨b,0,none⟩ = some (.bool h) ∧ W.cell? ⟨b,1,none⟩ = some (.int .i64 l) ∧ W.cell? ⟨b,2,none⟩ = some (.int .i64 s) ∧ W.cell? ⟨b,3,none⟩ = some (.int .i64 v) ∧ W.cell? ⟨b,4,none⟩ = some (.int .i64 t):=by
 obtain ⟨T,e⟩:=H
 simp [World.cell?,e]
theorem dbl_great {k : Nat} {n : Int} (h : ¬ n < 1048576) : dbl k n = n:=by
 cases k with
 | zero => rfl
 | succ k => rw [dbl,if_neg h]
theorem dbl_less {k : Nat} {n : Int} (h : n < 1048576) : dbl (k + 1) n = dbl k (n * 2):=by rw [dbl,if_pos h]
theorem probeE_a {h : Bool} {l s v t k : Int} (hr : rightB6 ⟨h,l,s,v,t⟩ = false) : probeE ⟨h,l,s,v,t⟩ k = (0,1):=by rw [probeE,hr];rfl
theorem probeE_b {h : Bool} {l s v t k : Int} (hr : rightB6 ⟨h,l,s,v,t⟩ = true) (hk : k < 0) : probeE ⟨h,l,s,v,t⟩ k = (0,1):=by rw [probeE,if_pos hr,if_pos hk]
theorem probeE_c {h : Bool} {l s v t k : Int} (hr : rightB6 ⟨h,l,s,v,t⟩ = true) (hk : ¬ k < 0) : probeE ⟨h,l,s,v,t⟩ k = (lowI (dbl k.toNat (startI ⟨h,l,s,v,t⟩)) 1048576,0):=by rw [probeE,if_pos hr,if_neg hk];rfl
theorem probe_a (h : Bool) (l s v t k : Int) (w : World) (hr : rightB6 ⟨h,l,s,v,t⟩ = false) :
  Calls Tryz.prog 102 #[.agg #[.bool h,.int .i64 l,.int .i64 s,.int .i64 v,.int .i64 t],.int .i64 k] w fun e w' => e = .returned (.tuple #[.int .i64 0,.int .i64 1]) ∧ Below w.heap.size w w':=by
 have B:=qhi ((qbr w.heap.size w).alloc (qlr _) (.cells #[.bool h,.int .i64 l,.int .i64 s,.int .i64 v,.int .i64 t] 60))
 have HP:=qhi (held_last6 h l s v t 60 w)
 have R:=qhi (fun w => right_b6 h l s v t _ hr w)
 clear hr
 go_enter Tryz.func102,Tryz.ntmps102
 go_wp2_with fail
 refine (R.out _).mono ?_
 rintro e w2 ⟨rfl,hb2⟩
 have BB:=qhi (B.out.trans (hb2.mono B.out.size))
 obtain ⟨p0,p1,p2,p3,p4⟩:=(HP.out.below hb2).facts
 clear R hb2 B HP
 go_wp2
 go_ret2
 exact ⟨rfl,BB.out⟩
theorem probe_b (h : Bool) (l s v t k : Int) (w : World) (hr : rightB6 ⟨h,l,s,v,t⟩ = true) (hk : k < 0) :
  Calls Tryz.prog 102 #[.agg #[.bool h,.int .i64 l,.int .i64 s,.int .i64 v,.int .i64 t],.int .i64 k] w fun e w' => e = .returned (.tuple #[.int .i64 0,.int .i64 1]) ∧ Below w.heap.size w w':=by
 have tk : decide (k < 0) = true:=qdt hk
 have B:=qhi ((qbr w.heap.size w).alloc (qlr _) (.cells #[.bool h,.int .i64 l,.int .i64 s,.int .i64 v,.int .i64 t] 60))
 have HP:=qhi (held_last6 h l s v t 60 w)
 have R:=qhi (fun w => right_b6 h l s v t _ hr w)
 clear hr
 go_enter Tryz.func102,Tryz.ntmps102
 go_wp2_with fail
 refine (R.out _).mono ?_
 rintro e w2 ⟨rfl,hb2⟩
 have BB:=qhi (B.out.trans (hb2.mono B.out.size))
 obtain ⟨p0,p1,p2,p3,p4⟩:=(HP.out.below hb2).facts
 clear R hb2 B HP
 go_wp2
 go_ret2
 exact ⟨rfl,BB.out⟩
theorem probe_c (l s v t k n : Int) (w : World) (hr : rightB6 ⟨false,l,s,v,t⟩ = true) (hk : ¬ k < 0) (hk1 : k ≤ 9223372036854775807) (hn : n = 125) :
  Calls Tryz.prog 102 #[.agg #[.bool false,.int .i64 l,.int .i64 s,.int .i64 v,.int .i64 t],.int .i64 k] w fun e w' => e = .returned (.tuple #[.int .i64 (lowI (dbl k.toNat n) 1048576),.int .i64 0]) ∧ Below w.heap.size w w':=by
 have tk : decide (k < 0) = false:=qdf hk
 have N0 : Hid (0 ≤ n ∧ n ≤ 8796093022208):=by show _ ∧ _;omega
 have B:=qhi ((qbr w.heap.size w).alloc (qlr _) (.cells #[.bool false,.int .i64 l,.int .i64 s,.int .i64 v,.int .i64 t] 60))
 have HP:=qhi (held_last6 false l s v t 60 w)
 have R:=qhi (fun w => right_b6 false l s v t _ hr w)
 clear hr
 go_enter Tryz.func102,Tryz.ntmps102
 go_wp2_with fail
 refine (R.out _).mono ?_
 rintro e w2 ⟨rfl,hb2⟩
 have BB:=qhi (B.out.trans (hb2.mono B.out.size))
 obtain ⟨p0,p1,p2,p3,p4⟩:=(HP.out.below hb2).facts
 clear R hb2 B HP
 go_wp2_with fail
 clear p0 p1 p2 p3 p4
 rw [← hn]
 clear hn
 go_loop [6,25] (fun m i => ∃ (j : Nat) (x : Int),i = .int .i64 j ∧ m = .int .i64 x ∧ (j : Int) ≤ k ∧ 0 ≤ x ∧ x ≤ 8796093022208 ∧ dbl (k.toNat - j) x = dbl k.toNat n) (fun _ i => k.toNat - (intOf i).toNat)
 case atStart => exact ⟨0,n,rfl,rfl,by omega,N0.out.1,N0.out.2,rfl⟩
 case round =>
  obtain ⟨j,x,rfl,rfl,hj,hx0,hx1,hd⟩:=hrel
  have HD:=qhi hd
  clear hd
  by_cases hlt : (j : Int) < k
  ·by_cases hg : x < 1048576
   ·have w1 : IntKind.i64.wrap (x * 2) = x * 2:=wraps_i64'6 _ (by omega) (by omega)
    have w2 : IntKind.i64.wrap ((j : Int) + 1) = (j : Int) + 1:=wraps_i64'6 _ (by omega) (by omega)
    have t1 : decide (x ≥ 1048576) = false:=qdf (by omega)
    have t2 : decide (x < 1048576) = true:=qdt hg
    have t3 : decide ((j : Int) < k) = true:=qdt hlt
    have HE : Hid (dbl (k.toNat - (j + 1)) (x * 2) = dbl k.toNat n):=by
     show _ = _
     rw [← HD.out,show k.toNat - j = k.toNat - (j + 1) + 1 by omega,dbl_less hg]
    go_wp2
    go_round
    case rel => exact ⟨j + 1,x * 2,by go_num,rfl,by omega,by omega,by omega,HE.out⟩
    case measure => simp [intOf,w2];omega
   ·have t1 : decide (x ≥ 1048576) = true:=qdt (by omega)
    have t2 : decide (x < 1048576) = false:=qdf hg
    have t3 : decide ((j : Int) < k) = true:=qdt hlt
    have HE : Hid (dbl k.toNat n = x):=by
     show _ = _
     rw [← HD.out,dbl_great hg]
    by_cases hm : 1048576 < x
    ·go_wp2
     go_ret2
     rw [HE.out,show lowI x 1048576 = 1048576 from if_pos (by omega)]
     exact ⟨rfl,BB.out⟩
    ·go_wp2
     go_ret2
     rw [HE.out,show lowI x 1048576 = x from if_neg (by omega)]
     exact ⟨rfl,BB.out⟩
  ·have t3 : decide ((j : Int) < k) = false:=qdf hlt
   have HE : Hid (dbl k.toNat n = x):=by
    show _ = _
    rw [← HD.out,show k.toNat - j = 0 by omega];rfl
   by_cases hm : 1048576 < x
   ·go_wp2
    go_ret2
    rw [HE.out,show lowI x 1048576 = 1048576 from if_pos (by omega)]
    exact ⟨rfl,BB.out⟩
   ·go_wp2
    go_ret2
    rw [HE.out,show lowI x 1048576 = x from if_neg (by omega)]
    exact ⟨rfl,BB.out⟩
theorem probe_d0 (l s v t k n : Int) (w : World) (hr : rightB6 ⟨true,l,s,v,t⟩ = true) (hk : ¬ k < 0) (hk1 : k ≤ 9223372036854775807) (hv1 : 4 * v < 1) (hn : n = s + 1 + 25) :
  Calls Tryz.prog 102 #[.agg #[.bool true,.int .i64 l,.int .i64 s,.int .i64 v,.int .i64 t],.int .i64 k] w fun e w' => e = .returned (.tuple #[.int .i64 (lowI (dbl k.toNat n) 1048576),.int .i64 0]) ∧ Below w.heap.size w w':=by
 have tk : decide (k < 0) = false:=qdf hk
 obtain ⟨hl,hs,hv,ht,_⟩:=right_has hr rfl
 simp only at hl hs hv ht
 have x0 : IntKind.i64.wrap (4 * v) = 4 * v:=wraps_i64'6 _ (by omega) (by omega)
 have x1 : IntKind.i64.wrap (s + 1) = s + 1:=wraps_i64'6 _ (by omega) (by omega)
 have x2 : IntKind.i64.wrap (s + 1 + 25) = n:=by rw [hn];exact wraps_i64'6 _ (by omega) (by omega)
 have N0 : Hid (0 ≤ n ∧ n ≤ 8796093022208):=by show _ ∧ _;omega
 clear hl hs hv ht hn
 have B:=qhi ((qbr w.heap.size w).alloc (qlr _) (.cells #[.bool true,.int .i64 l,.int .i64 s,.int .i64 v,.int .i64 t] 60))
 have HP:=qhi (held_last6 true l s v t 60 w)
 have R:=qhi (fun w => right_b6 true l s v t _ hr w)
 clear hr
 go_enter Tryz.func102,Tryz.ntmps102
 go_wp2_with fail
 refine (R.out _).mono ?_
 rintro e w2 ⟨rfl,hb2⟩
 have BB:=qhi (B.out.trans (hb2.mono B.out.size))
 obtain ⟨p0,p1,p2,p3,p4⟩:=(HP.out.below hb2).facts
 clear R hb2 B HP
 go_wp2_with fail
 clear p0 p1 p2 p3 p4 x0 x1 x2
 go_loop [6,25] (fun m i => ∃ (j : Nat) (x : Int),i = .int .i64 j ∧ m = .int .i64 x ∧ (j : Int) ≤ k ∧ 0 ≤ x ∧ x ≤ 8796093022208 ∧ dbl (k.toNat - j) x = dbl k.toNat n) (fun _ i => k.toNat - (intOf i).toNat)
 case atStart => exact ⟨0,n,rfl,rfl,by omega,N0.out.1,N0.out.2,rfl⟩
 case round =>
  obtain ⟨j,x,rfl,rfl,hj,hx0,hx1,hd⟩:=hrel
  have HD:=qhi hd
  clear hd
  by_cases hlt : (j : Int) < k
  ·by_cases hg : x < 1048576
   ·have w1 : IntKind.i64.wrap (x * 2) = x * 2:=wraps_i64'6 _ (by omega) (by omega)
    have w2 : IntKind.i64.wrap ((j : Int) + 1) = (j : Int) + 1:=wraps_i64'6 _ (by omega) (by omega)
    have t1 : decide (x ≥ 1048576) = false:=qdf (by omega)
    have t2 : decide (x < 1048576) = true:=qdt hg
    have t3 : decide ((j : Int) < k) = true:=qdt hlt
    have HE : Hid (dbl (k.toNat - (j + 1)) (x * 2) = dbl k.toNat n):=by
     show _ = _
     rw [← HD.out,show k.toNat - j = k.toNat - (j + 1) + 1 by omega,dbl_less hg]
    go_wp2
    go_round
    case rel => exact ⟨j + 1,x * 2,by go_num,rfl,by omega,by omega,by omega,HE.out⟩
    case measure => simp [intOf,w2];omega
   ·have t1 : decide (x ≥ 1048576) = true:=qdt (by omega)
    have t2 : decide (x < 1048576) = false:=qdf hg
    have t3 : decide ((j : Int) < k) = true:=qdt hlt
    have HE : Hid (dbl k.toNat n = x):=by
     show _ = _
     rw [← HD.out,dbl_great hg]
    by_cases hm : 1048576 < x
    ·go_wp2
     go_ret2
     rw [HE.out,show lowI x 1048576 = 1048576 from if_pos (by omega)]
     exact ⟨rfl,BB.out⟩
    ·go_wp2
     go_ret2
     rw [HE.out,show lowI x 1048576 = x from if_neg (by omega)]
     exact ⟨rfl,BB.out⟩
  ·have t3 : decide ((j : Int) < k) = false:=qdf hlt
   have HE : Hid (dbl k.toNat n = x):=by
    show _ = _
    rw [← HD.out,show k.toNat - j = 0 by omega];rfl
   by_cases hm : 1048576 < x
   ·go_wp2
    go_ret2
    rw [HE.out,show lowI x 1048576 = 1048576 from if_pos (by omega)]
    exact ⟨rfl,BB.out⟩
   ·go_wp2
    go_ret2
    rw [HE.out,show lowI x 1048576 = x from if_neg (by omega)]
    exact ⟨rfl,BB.out⟩
theorem probe_d1 (l s v t k n : Int) (w : World) (hr : rightB6 ⟨true,l,s,v,t⟩ = true) (hk : ¬ k < 0) (hk1 : k ≤ 9223372036854775807) (hv1 : ¬ 4 * v < 1) (hn : n = s + 4 * v + 25) :
  Calls Tryz.prog 102 #[.agg #[.bool true,.int .i64 l,.int .i64 s,.int .i64 v,.int .i64 t],.int .i64 k] w fun e w' => e = .returned (.tuple #[.int .i64 (lowI (dbl k.toNat n) 1048576),.int .i64 0]) ∧ Below w.heap.size w w':=by
 have tk : decide (k < 0) = false:=qdf hk
 obtain ⟨hl,hs,hv,ht,_⟩:=right_has hr rfl
 simp only at hl hs hv ht
 have x0 : IntKind.i64.wrap (4 * v) = 4 * v:=wraps_i64'6 _ (by omega) (by omega)
 have x1 : IntKind.i64.wrap (s + 4 * v) = s + 4 * v:=wraps_i64'6 _ (by omega) (by omega)
 have x2 : IntKind.i64.wrap (s + 4 * v + 25) = n:=by rw [hn];exact wraps_i64'6 _ (by omega) (by omega)
 have N0 : Hid (0 ≤ n ∧ n ≤ 8796093022208):=by show _ ∧ _;omega
 clear hl hs hv ht hn
 have B:=qhi ((qbr w.heap.size w).alloc (qlr _) (.cells #[.bool true,.int .i64 l,.int .i64 s,.int .i64 v,.int .i64 t] 60))
 have HP:=qhi (held_last6 true l s v t 60 w)
 have R:=qhi (fun w => right_b6 true l s v t _ hr w)
 clear hr
 go_enter Tryz.func102,Tryz.ntmps102
 go_wp2_with fail
 refine (R.out _).mono ?_
 rintro e w2 ⟨rfl,hb2⟩
 have BB:=qhi (B.out.trans (hb2.mono B.out.size))
 obtain ⟨p0,p1,p2,p3,p4⟩:=(HP.out.below hb2).facts
 clear R hb2 B HP
 go_wp2_with fail
 clear p0 p1 p2 p3 p4 x0 x1 x2
 go_loop [6,25] (fun m i => ∃ (j : Nat) (x : Int),i = .int .i64 j ∧ m = .int .i64 x ∧ (j : Int) ≤ k ∧ 0 ≤ x ∧ x ≤ 8796093022208 ∧ dbl (k.toNat - j) x = dbl k.toNat n) (fun _ i => k.toNat - (intOf i).toNat)
 case atStart => exact ⟨0,n,rfl,rfl,by omega,N0.out.1,N0.out.2,rfl⟩
 case round =>
  obtain ⟨j,x,rfl,rfl,hj,hx0,hx1,hd⟩:=hrel
  have HD:=qhi hd
  clear hd
  by_cases hlt : (j : Int) < k
  ·by_cases hg : x < 1048576
   ·have w1 : IntKind.i64.wrap (x * 2) = x * 2:=wraps_i64'6 _ (by omega) (by omega)
    have w2 : IntKind.i64.wrap ((j : Int) + 1) = (j : Int) + 1:=wraps_i64'6 _ (by omega) (by omega)
    have t1 : decide (x ≥ 1048576) = false:=qdf (by omega)
    have t2 : decide (x < 1048576) = true:=qdt hg
    have t3 : decide ((j : Int) < k) = true:=qdt hlt
    have HE : Hid (dbl (k.toNat - (j + 1)) (x * 2) = dbl k.toNat n):=by
     show _ = _
     rw [← HD.out,show k.toNat - j = k.toNat - (j + 1) + 1 by omega,dbl_less hg]
    go_wp2
    go_round
    case rel => exact ⟨j + 1,x * 2,by go_num,rfl,by omega,by omega,by omega,HE.out⟩
    case measure => simp [intOf,w2];omega
   ·have t1 : decide (x ≥ 1048576) = true:=qdt (by omega)
    have t2 : decide (x < 1048576) = false:=qdf hg
    have t3 : decide ((j : Int) < k) = true:=qdt hlt
    have HE : Hid (dbl k.toNat n = x):=by
     show _ = _
     rw [← HD.out,dbl_great hg]
    by_cases hm : 1048576 < x
    ·go_wp2
     go_ret2
     rw [HE.out,show lowI x 1048576 = 1048576 from if_pos (by omega)]
     exact ⟨rfl,BB.out⟩
    ·go_wp2
     go_ret2
     rw [HE.out,show lowI x 1048576 = x from if_neg (by omega)]
     exact ⟨rfl,BB.out⟩
  ·have t3 : decide ((j : Int) < k) = false:=qdf hlt
   have HE : Hid (dbl k.toNat n = x):=by
    show _ = _
    rw [← HD.out,show k.toNat - j = 0 by omega];rfl
   by_cases hm : 1048576 < x
   ·go_wp2
    go_ret2
    rw [HE.out,show lowI x 1048576 = 1048576 from if_pos (by omega)]
    exact ⟨rfl,BB.out⟩
   ·go_wp2
    go_ret2
    rw [HE.out,show lowI x 1048576 = x from if_neg (by omega)]
    exact ⟨rfl,BB.out⟩
theorem probe_any (h : Bool) (l s v t k : Int) (w : World) (hk1 : k ≤ 9223372036854775807) :
  Calls Tryz.prog 102 #[.agg #[.bool h,.int .i64 l,.int .i64 s,.int .i64 v,.int .i64 t],.int .i64 k] w fun e w' => e = .returned (.tuple #[.int .i64 (probeE ⟨h,l,s,v,t⟩ k).1,.int .i64 (probeE ⟨h,l,s,v,t⟩ k).2]) ∧ Below w.heap.size w w':=by
 cases hr : rightB6 ⟨h,l,s,v,t⟩
 ·rw [probeE_a hr];exact probe_a h l s v t k w hr
 by_cases hk : k < 0
 ·rw [probeE_b hr hk];exact probe_b h l s v t k w hr hk
 rw [probeE_c hr hk]
 cases h
 ·exact probe_c l s v t k _ w hr hk hk1 rfl
 ·by_cases hv : 4 * v < 1
  ·exact probe_d0 l s v t k _ w hr hk hk1 hv (by simp [startI,hv])
  ·exact probe_d1 l s v t k _ w hr hk hk1 hv (by simp [startI,hv])
theorem lossE_a {h : Bool} {l s v t : Int} (hr : rightB6 ⟨h,l,s,v,t⟩ = false) : lossE ⟨h,l,s,v,t⟩ = (0,1):=by rw [lossE,hr];rfl
theorem lossE_b {l s v t : Int} (hr : rightB6 ⟨false,l,s,v,t⟩ = true) : lossE ⟨false,l,s,v,t⟩ = (112,0):=by rw [lossE,hr];rfl
theorem lossE_c {l s v t : Int} (hr : rightB6 ⟨true,l,s,v,t⟩ = true) : lossE ⟨true,l,s,v,t⟩ = (highI ((9 * highI s t).tdiv 8) 1,0):=by rw [lossE,hr];rfl
theorem loss_a (h : Bool) (l s v t : Int) (w : World) (hr : rightB6 ⟨h,l,s,v,t⟩ = false) :
  Calls Tryz.prog 58 #[.agg #[.bool h,.int .i64 l,.int .i64 s,.int .i64 v,.int .i64 t]] w fun e w' => e = .returned (.tuple #[.int .i64 0,.int .i64 1]) ∧ Below w.heap.size w w':=by
 have B:=qhi ((qbr w.heap.size w).alloc (qlr _) (.cells #[.bool h,.int .i64 l,.int .i64 s,.int .i64 v,.int .i64 t] 60))
 have HP:=qhi (held_last6 h l s v t 60 w)
 have R:=qhi (fun w => right_b6 h l s v t _ hr w)
 clear hr
 go_enter Tryz.func58,Tryz.ntmps58
 go_wp2_with fail
 refine (R.out _).mono ?_
 rintro e w2 ⟨rfl,hb2⟩
 have BB:=qhi (B.out.trans (hb2.mono B.out.size))
 obtain ⟨p0,p1,p2,p3,p4⟩:=(HP.out.below hb2).facts
 clear R hb2 B HP
 go_wp2
 go_ret2
 exact ⟨rfl,BB.out⟩
theorem loss_b (l s v t : Int) (w : World) (hr : rightB6 ⟨false,l,s,v,t⟩ = true) :
  Calls Tryz.prog 58 #[.agg #[.bool false,.int .i64 l,.int .i64 s,.int .i64 v,.int .i64 t]] w fun e w' => e = .returned (.tuple #[.int .i64 112,.int .i64 0]) ∧ Below w.heap.size w w':=by
 have B:=qhi ((qbr w.heap.size w).alloc (qlr _) (.cells #[.bool false,.int .i64 l,.int .i64 s,.int .i64 v,.int .i64 t] 60))
 have HP:=qhi (held_last6 false l s v t 60 w)
 have R:=qhi (fun w => right_b6 false l s v t _ hr w)
 clear hr
 go_enter Tryz.func58,Tryz.ntmps58
 go_wp2_with fail
 refine (R.out _).mono ?_
 rintro e w2 ⟨rfl,hb2⟩
 have BB:=qhi (B.out.trans (hb2.mono B.out.size))
 obtain ⟨p0,p1,p2,p3,p4⟩:=(HP.out.below hb2).facts
 clear R hb2 B HP
 go_wp2
 go_ret2
 exact ⟨rfl,BB.out⟩
theorem loss_c1 (l s v t q : Int) (w : World) (hr : rightB6 ⟨true,l,s,v,t⟩ = true) (hA : s < t) (hq : q = (9 * t).tdiv 8) (hC : q < 1) :
  Calls Tryz.prog 58 #[.agg #[.bool true,.int .i64 l,.int .i64 s,.int .i64 v,.int .i64 t]] w fun e w' => e = .returned (.tuple #[.int .i64 1,.int .i64 0]) ∧ Below w.heap.size w w':=by
 obtain ⟨hl,hs,hv,ht,_⟩:=right_has hr rfl
 simp only at hl hs hv ht
 have w1 : IntKind.i64.wrap (9 * t) = 9 * t:=wraps_i64'6 _ (by omega) (by omega)
 have w2 : IntKind.i64.wrap ((9 * t).tdiv 8) = q:=by
  rw [hq,Int.tdiv_eq_ediv_of_nonneg (by omega)];exact wraps_i64'6 _ (by omega) (by omega)
 clear hl hs hv ht hq
 have B:=qhi ((qbr w.heap.size w).alloc (qlr _) (.cells #[.bool true,.int .i64 l,.int .i64 s,.int .i64 v,.int .i64 t] 60))
 have HP:=qhi (held_last6 true l s v t 60 w)
 have R:=qhi (fun w => right_b6 true l s v t _ hr w)
 clear hr
 go_enter Tryz.func58,Tryz.ntmps58
 go_wp2_with fail
 refine (R.out _).mono ?_
 rintro e w2 ⟨rfl,hb2⟩
 have BB:=qhi (B.out.trans (hb2.mono B.out.size))
 obtain ⟨p0,p1,p2,p3,p4⟩:=(HP.out.below hb2).facts
 clear R hb2 B HP
 go_wp2
 go_ret2
 exact ⟨rfl,BB.out⟩
theorem loss_c2 (l s v t q : Int) (w : World) (hr : rightB6 ⟨true,l,s,v,t⟩ = true) (hA : s < t) (hq : q = (9 * t).tdiv 8) (hC : ¬ q < 1) :
  Calls Tryz.prog 58 #[.agg #[.bool true,.int .i64 l,.int .i64 s,.int .i64 v,.int .i64 t]] w fun e w' => e = .returned (.tuple #[.int .i64 q,.int .i64 0]) ∧ Below w.heap.size w w':=by
 obtain ⟨hl,hs,hv,ht,_⟩:=right_has hr rfl
 simp only at hl hs hv ht
 have w1 : IntKind.i64.wrap (9 * t) = 9 * t:=wraps_i64'6 _ (by omega) (by omega)
 have w2 : IntKind.i64.wrap ((9 * t).tdiv 8) = q:=by
  rw [hq,Int.tdiv_eq_ediv_of_nonneg (by omega)];exact wraps_i64'6 _ (by omega) (by omega)
 clear hl hs hv ht hq
 have B:=qhi ((qbr w.heap.size w).alloc (qlr _) (.cells #[.bool true,.int .i64 l,.int .i64 s,.int .i64 v,.int .i64 t] 60))
 have HP:=qhi (held_last6 true l s v t 60 w)
 have R:=qhi (fun w => right_b6 true l s v t _ hr w)
 clear hr
 go_enter Tryz.func58,Tryz.ntmps58
 go_wp2_with fail
 refine (R.out _).mono ?_
 rintro e w2 ⟨rfl,hb2⟩
 have BB:=qhi (B.out.trans (hb2.mono B.out.size))
 obtain ⟨p0,p1,p2,p3,p4⟩:=(HP.out.below hb2).facts
 clear R hb2 B HP
 go_wp2
 go_ret2
 exact ⟨rfl,BB.out⟩
theorem loss_c3 (l s v t q : Int) (w : World) (hr : rightB6 ⟨true,l,s,v,t⟩ = true) (hA : ¬ s < t) (hq : q = (9 * s).tdiv 8) (hC : q < 1) :
  Calls Tryz.prog 58 #[.agg #[.bool true,.int .i64 l,.int .i64 s,.int .i64 v,.int .i64 t]] w fun e w' => e = .returned (.tuple #[.int .i64 1,.int .i64 0]) ∧ Below w.heap.size w w':=by
 obtain ⟨hl,hs,hv,ht,_⟩:=right_has hr rfl
 simp only at hl hs hv ht
 have w1 : IntKind.i64.wrap (9 * s) = 9 * s:=wraps_i64'6 _ (by omega) (by omega)
 have w2 : IntKind.i64.wrap ((9 * s).tdiv 8) = q:=by
  rw [hq,Int.tdiv_eq_ediv_of_nonneg (by omega)];exact wraps_i64'6 _ (by omega) (by omega)
 clear hl hs hv ht hq
 have B:=qhi ((qbr w.heap.size w).alloc (qlr _) (.cells #[.bool true,.int .i64 l,.int .i64 s,.int .i64 v,.int .i64 t] 60))
 have HP:=qhi (held_last6 true l s v t 60 w)
 have R:=qhi (fun w => right_b6 true l s v t _ hr w)
 clear hr
 go_enter Tryz.func58,Tryz.ntmps58
 go_wp2_with fail
 refine (R.out _).mono ?_
 rintro e w2 ⟨rfl,hb2⟩
 have BB:=qhi (B.out.trans (hb2.mono B.out.size))
 obtain ⟨p0,p1,p2,p3,p4⟩:=(HP.out.below hb2).facts
 clear R hb2 B HP
 go_wp2
 go_ret2
 exact ⟨rfl,BB.out⟩
theorem loss_c4 (l s v t q : Int) (w : World) (hr : rightB6 ⟨true,l,s,v,t⟩ = true) (hA : ¬ s < t) (hq : q = (9 * s).tdiv 8) (hC : ¬ q < 1) :
  Calls Tryz.prog 58 #[.agg #[.bool true,.int .i64 l,.int .i64 s,.int .i64 v,.int .i64 t]] w fun e w' => e = .returned (.tuple #[.int .i64 q,.int .i64 0]) ∧ Below w.heap.size w w':=by
 obtain ⟨hl,hs,hv,ht,_⟩:=right_has hr rfl
 simp only at hl hs hv ht
 have w1 : IntKind.i64.wrap (9 * s) = 9 * s:=wraps_i64'6 _ (by omega) (by omega)
 have w2 : IntKind.i64.wrap ((9 * s).tdiv 8) = q:=by
  rw [hq,Int.tdiv_eq_ediv_of_nonneg (by omega)];exact wraps_i64'6 _ (by omega) (by omega)
 clear hl hs hv ht hq
 have B:=qhi ((qbr w.heap.size w).alloc (qlr _) (.cells #[.bool true,.int .i64 l,.int .i64 s,.int .i64 v,.int .i64 t] 60))
 have HP:=qhi (held_last6 true l s v t 60 w)
 have R:=qhi (fun w => right_b6 true l s v t _ hr w)
 clear hr
 go_enter Tryz.func58,Tryz.ntmps58
 go_wp2_with fail
 refine (R.out _).mono ?_
 rintro e w2 ⟨rfl,hb2⟩
 have BB:=qhi (B.out.trans (hb2.mono B.out.size))
 obtain ⟨p0,p1,p2,p3,p4⟩:=(HP.out.below hb2).facts
 clear R hb2 B HP
 go_wp2
 go_ret2
 exact ⟨rfl,BB.out⟩
theorem loss_any (h : Bool) (l s v t : Int) (w : World) :
  Calls Tryz.prog 58 #[.agg #[.bool h,.int .i64 l,.int .i64 s,.int .i64 v,.int .i64 t]] w fun e w' => e = .returned (.tuple #[.int .i64 (lossE ⟨h,l,s,v,t⟩).1,.int .i64 (lossE ⟨h,l,s,v,t⟩).2]) ∧ Below w.heap.size w w':=by
 cases hr : rightB6 ⟨h,l,s,v,t⟩
 ·rw [lossE_a hr];exact loss_a h l s v t w hr
 cases h
 ·rw [lossE_b hr];exact loss_b l s v t w hr
 ·rw [lossE_c hr]
  by_cases hA : s < t
  ·rw [show highI s t = t from if_pos hA]
   by_cases hC : (9 * t).tdiv 8 < 1
   ·rw [show highI ((9 * t).tdiv 8) 1 = 1 from if_pos hC];exact loss_c1 l s v t _ w hr hA rfl hC
   ·rw [show highI ((9 * t).tdiv 8) 1 = (9 * t).tdiv 8 from if_neg hC];exact loss_c2 l s v t _ w hr hA rfl hC
  ·rw [show highI s t = s from if_neg hA]
   by_cases hC : (9 * s).tdiv 8 < 1
   ·rw [show highI ((9 * s).tdiv 8) 1 = 1 from if_pos hC];exact loss_c3 l s v t _ w hr hA rfl hC
   ·rw [show highI ((9 * s).tdiv 8) 1 = (9 * s).tdiv 8 from if_neg hC];exact loss_c4 l s v t _ w hr hA rfl hC
end Go.Proofs.YtmcomdmcmnbhlaaGreatDoor
