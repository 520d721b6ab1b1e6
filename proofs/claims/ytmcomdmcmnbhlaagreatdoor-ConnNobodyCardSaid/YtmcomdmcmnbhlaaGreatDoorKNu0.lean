import Derived.Test.YtmcomdmcmnbhlaaGreatDoorKVi0
set_option maxRecDepth 100000
set_option maxHeartbeats 25600000
set_option linter.unusedSimpArgs false
set_option linter.unusedVariables false
set_option linter.unnecessarySimpa false
namespace Go.Proofs.YtmcomdmcmnbhlaaGreatDoor
open Go.RowKit
def getS (xs : List Int) (i : Nat) : Option (Int × Nat):=if i < xs.length ∧ i + widN (xs.getD i 0) ≤ xs.length then some (acc xs i (widN (xs.getD i 0) - 1),widN (xs.getD i 0)) else none
def GetAt (w : World) (xs : List Int) (i : Nat) (e : Ending) (w' : World) : Prop :=
 (∃ n W,getS xs i = some (n,W) ∧ 1 ≤ W ∧ i + W ≤ xs.length ∧ GetIs w n (i + W : Nat) 0 0 e w') ∨ (getS xs i = none ∧ GetIs w 0 0 3 xs.length e w')
theorem wid_pos (c : Int) : 1 ≤ widN c:=by unfold widN;split <;> (try split) <;> (try split) <;> omega
theorem get_at (v : Value) (xs : List Int) (i : Nat) (w : World) (ht : Tab w) (hr : Rd .u8 w v xs) (hx : Bts xs) (hi : i ≤ xs.length) : Calls Tryz.prog 203 #[v,.int .i64 i] w (GetAt w xs i):=by
 by_cases h0 : i = xs.length
 ·subst h0
  exact (get_end v xs w hr).mono fun e w' h => .inr ⟨if_neg (by omega),h⟩
 replace hi : i < xs.length:=by omega
 by_cases h3 : xs.length < i + widN (xs.getD i 0)
 ·exact (get_short v xs i w ht hr hx hi h3).mono fun e w' h => .inr ⟨if_neg (by omega),h⟩
 have hs : getS xs i = some (acc xs i (widN (xs.getD i 0) - 1),widN (xs.getD i 0)):=if_pos ⟨hi,by omega⟩
 have hc:=getD_bts hx i
 have hq : xs.getD i 0 / 64 = 0 ∨ xs.getD i 0 / 64 = 1 ∨ xs.getD i 0 / 64 = 2 ∨ xs.getD i 0 / 64 = 3:=by omega
 rcases hq with hq | hq | hq | hq
 ·have e : widN (xs.getD i 0) = 1:=by unfold widN;rw [if_pos hq]
  rw [e] at hs h3
  exact (get_ok1 v xs i w ht hr hx (by omega) hq).mono fun e w' h => .inl ⟨_,1,hs,by omega,by omega,h⟩
 ·have e : widN (xs.getD i 0) = 2:=by unfold widN;rw [if_neg (by omega),if_pos hq]
  rw [e] at hs h3
  exact (get_ok2 v xs i w ht hr hx (by omega) hq).mono fun e w' h => .inl ⟨_,2,hs,by omega,by omega,h⟩
 ·have e : widN (xs.getD i 0) = 4:=by unfold widN;rw [if_neg (by omega),if_neg (by omega),if_pos hq]
  rw [e] at hs h3
  exact (get_ok4 v xs i w ht hr hx (by omega) hq).mono fun e w' h => .inl ⟨_,4,hs,by omega,by omega,h⟩
 ·have e : widN (xs.getD i 0) = 8:=by unfold widN;rw [if_neg (by omega),if_neg (by omega),if_neg (by omega)]
  rw [e] at hs h3
  exact (get_ok8 v xs i w ht hr hx (by omega) hq).mono fun e w' h => .inl ⟨_,8,hs,by omega,by omega,h⟩
def step256 (s b : Int) : Int:=s * 256 + b
theorem be_fold (m k : Nat) (s : Int) : (be1 m k).foldl step256 s = s * 256 ^ k + ((m % 256 ^ k : Nat) : Int):=by
 induction k generalizing m with
 | zero => simp [be1,Nat.mod_one]
 | succ k ih =>
   rw [be1,List.foldl_append,ih]
   simp only [List.foldl_cons,List.foldl_nil,step256]
   rw [Nat.pow_succ',Nat.mod_mul,Int.pow_succ]
   generalize (256 : Int) ^ k = p
   have e : s * (p * 256) = s * p * 256:=by rw [Int.mul_assoc]
   rw [e]
   simp only [Int.natCast_add,Int.natCast_mul]
   omega
theorem acc_fold (L : List Int) (a : Nat) : ∀ k,a + 1 + k ≤ L.length → acc L a k = ((L.drop (a + 1)).take k).foldl step256 (L.getD a 0 % 64)
 | 0,_ => rfl
 | k + 1,h => by
   have hk : k < (L.drop (a + 1)).length:=by rw [List.length_drop];omega
   rw [acc,acc_fold L a k (by omega),List.take_succ_eq_append_getElem hk,List.foldl_append]
   simp only [List.foldl_cons,List.foldl_nil,step256,List.getElem_drop]
   simp [List.getD,List.getElem?_eq_getElem (show a + 1 + k < L.length by omega)]
theorem acc_be (xs zs : List Int) (m K : Nat) : acc (xs ++ (be1 m (K + 1) ++ zs)) xs.length K = ((m / 256 ^ K % 256 : Nat) : Int) % 64 * 256 ^ K + ((m % 256 ^ K : Nat) : Int):=by
 rw [acc_fold _ _ _ (by simp [be_len1];omega)]
 have e1 : (xs ++ (be1 m (K + 1) ++ zs)).getD xs.length 0 = ((m / 256 ^ K % 256 : Nat) : Int):=by
  simp [List.getD,be_cons1]
 have e2 : ((xs ++ (be1 m (K + 1) ++ zs)).drop (xs.length + 1)).take K = be1 m K:=by
  rw [be_cons1,List.drop_append,List.drop_of_length_le (by omega),List.nil_append,show xs.length + 1 - xs.length = 1 by omega,List.cons_append,List.drop_succ_cons,List.drop_zero,List.take_append_of_le_length (by rw [be_len1];omega)]
  exact be_all1 m K
 rw [e1,e2,be_fold]
theorem head_be (xs zs : List Int) (m K : Nat) : (xs ++ (be1 m (K + 1) ++ zs)).getD xs.length 0 = ((m / 256 ^ K % 256 : Nat) : Int):=by
 simp [List.getD,be_cons1]
theorem getS_enc (xs zs : List Int) (n width : Int) (hw : okW width) (hf : fitsB n width = true) : getS (xs ++ (enc n width ++ zs)) xs.length = some (n,width.toNat):=by
 have hfl:=fits_lt hf
 rcases hw with rfl | rfl | rfl | rfl
 all_goals
  simp only [Int.reduceMul,Int.reduceSub,Int.reduceToNat,Int.reducePow] at hfl
  obtain ⟨n0,n1⟩:=hfl
 ·have ee : enc n 1 = be1 (bm1 n).toNat (0 + 1):=rfl
  have hh:=head_be xs zs (bm1 n).toNat 0
  rw [ee]
  have hW : widN ((xs ++ (be1 (bm1 n).toNat (0 + 1) ++ zs)).getD xs.length 0) = 1:=by
   rw [hh];unfold widN bm1;simp only [Nat.reducePow];rw [if_pos (by omega)]
  unfold getS
  rw [hW,if_pos (by simp [be_len1];omega),acc_be]
  unfold bm1
  simp only [Nat.reducePow,Int.reducePow]
  congr 2
  omega
 ·have ee : enc n 2 = be1 (bm2 n).toNat (1 + 1):=rfl
  have hh:=head_be xs zs (bm2 n).toNat 1
  rw [ee]
  have hW : widN ((xs ++ (be1 (bm2 n).toNat (1 + 1) ++ zs)).getD xs.length 0) = 2:=by
   rw [hh];unfold widN bm2;simp only [Nat.reducePow];rw [if_neg (by omega),if_pos (by omega)]
  unfold getS
  rw [hW,if_pos (by simp [be_len1];omega),acc_be]
  unfold bm2
  simp only [Nat.reducePow,Int.reducePow]
  congr 2
  omega
 ·have ee : enc n 4 = be1 (bm4 n).toNat (3 + 1):=rfl
  have hh:=head_be xs zs (bm4 n).toNat 3
  rw [ee]
  have hW : widN ((xs ++ (be1 (bm4 n).toNat (3 + 1) ++ zs)).getD xs.length 0) = 4:=by
   rw [hh];unfold widN bm4;simp only [Nat.reducePow];rw [if_neg (by omega),if_neg (by omega),if_pos (by omega)]
  unfold getS
  rw [hW,if_pos (by simp [be_len1];omega),acc_be]
  unfold bm4
  simp only [Nat.reducePow,Int.reducePow]
  congr 2
  omega
 ·have ee : enc n 8 = be1 (bm8 n).toNat (7 + 1):=rfl
  have hh:=head_be xs zs (bm8 n).toNat 7
  rw [ee]
  have hW : widN ((xs ++ (be1 (bm8 n).toNat (7 + 1) ++ zs)).getD xs.length 0) = 8:=by
   rw [hh];unfold widN bm8;simp only [Nat.reducePow];rw [if_neg (by omega),if_neg (by omega),if_neg (by omega)]
  unfold getS
  rw [hW,if_pos (by simp [be_len1];omega),acc_be]
  unfold bm8
  simp only [Nat.reducePow,Int.reducePow]
  congr 2
  omega
end Go.Proofs.YtmcomdmcmnbhlaaGreatDoor
