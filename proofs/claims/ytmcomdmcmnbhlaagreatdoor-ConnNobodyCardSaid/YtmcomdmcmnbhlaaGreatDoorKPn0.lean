import Derived.Test.YtmcomdmcmnbhlaaGreatDoorKLGen0
import Derived.Lib.Hide
set_option maxRecDepth 100000
set_option maxHeartbeats 25600000
set_option linter.unusedSimpArgs false
set_option linter.unusedVariables false
set_option linter.unnecessarySimpa false
namespace Go.Proofs.YtmcomdmcmnbhlaaGreatDoor
open Go.RowKit
theorem wrap_small (x : Int) (h0 : 0 ≤ x) (h1 : x ≤ 9223372036854775807) : IntKind.i64.wrap x = x:=by
 rw [IntKind.wrap_i64];omega
theorem and_mask (n : Int) (m k : Nat) (hk : 2 ^ k - 1 = m) (hm : m < 4294967296) :
  bits .and .i64 n (m : Int) = n % ((2 ^ k : Nat) : Int):=by
 show IntKind.i64.wrap (((BitVec.ofInt 64 n) &&& (BitVec.ofInt 64 (m : Int))).toNat : Int) = _
 have e1 : ((BitVec.ofInt 64 n) &&& (BitVec.ofInt 64 (m : Int))).toNat = (BitVec.ofInt 64 n).toNat % 2 ^ k:=by
  rw [BitVec.toNat_and]
  have : (BitVec.ofInt 64 (m : Int)).toNat = 2 ^ k - 1:=by
   rw [BitVec.toNat_ofInt];omega
  rw [this,Nat.and_two_pow_sub_one_eq_mod]
 rw [e1,BitVec.toNat_ofInt]
 have hp : 2 ^ k = m + 1:=by
  have : 0 < 2 ^ k:=Nat.pow_pos (by decide)
  omega
 have hd : 2 ^ k ∣ 18446744073709551616:=by
  have : k ≤ 64:=by
   by_cases h : k ≤ 64
   ·exact h
   ·have : 2 ^ 64 ≤ 2 ^ k:=Nat.pow_le_pow_right (by decide) (by omega)
    omega
  have e : (18446744073709551616 : Nat) = 2 ^ 64:=by decide
  rw [e];exact Nat.pow_dvd_pow 2 this
 have hb : (n % 18446744073709551616).toNat % 2 ^ k < 2 ^ k:=Nat.mod_lt _ (by omega)
 have e2 : (((n % 18446744073709551616).toNat % 2 ^ k : Nat) : Int) = n % ((2 ^ k : Nat) : Int):=by
  rw [Int.natCast_emod,Int.toNat_of_nonneg (by omega)]
  exact Int.emod_emod_of_dvd n (show ((2 ^ k : Nat) : Int) ∣ ((18446744073709551616 : Nat) : Int) from Int.natCast_dvd_natCast.mpr hd)
 show IntKind.i64.wrap (((n % 18446744073709551616).toNat % 2 ^ k : Nat) : Int) = _
 rw [wrap_small _ (by omega) (by omega),e2]
theorem mask1 (n : Int) : bits .and .i64 n 255 = n % 256:=and_mask n 255 8 (by decide) (by decide)
theorem mask2 (n : Int) : bits .and .i64 n 65535 = n % 65536:=and_mask n 65535 16 (by decide) (by decide)
theorem mask3 (n : Int) : bits .and .i64 n 16777215 = n % 16777216:=and_mask n 16777215 24 (by decide) (by decide)
theorem mask4 (n : Int) : bits .and .i64 n 4294967295 = n % 4294967296:=and_mask n 4294967295 32 (by decide) (by decide)
def cnt (w : Int) : Int:=if w = 1 then 256 else if w = 2 then 65536 else if w = 3 then 16777216 else 4294967296
def IsNum (n : Int) : Prop:=0 ≤ n ∧ n ≤ 4611686018427387903
instance (n : Int) : Decidable (IsNum n):=inferInstanceAs (Decidable (_ ∧ _))
def IsWid (w : Int) : Prop:=1 ≤ w ∧ w ≤ 4
instance (n : Int) : Decidable (IsWid n):=inferInstanceAs (Decidable (_ ∧ _))
theorem IsWid.cases {w : Int} (h : IsWid w) : w = 1 ∨ w = 2 ∨ w = 3 ∨ w = 4:=by unfold IsWid at h;omega
def growI (largest cut w : Int) : Int :=
 let k:=cnt w
 let least:=largest + 1 - k / 2 + 1
 let n:=least + (cut - least) % k
 let n:=if n < 0 then n + k else n
 if n > 4611686018427387903 then n - k else n
def GrowOk (largest cut w : Int) : Prop:=-1 ≤ largest ∧ largest ≤ 4611686018427387903 ∧ IsWid w ∧ 0 ≤ cut ∧ cut < cnt w
instance (l c w : Int) : Decidable (GrowOk l c w):=inferInstanceAs (Decidable (_ ∧ _))
def Two (w : World) (a c : Int) (e : Ending) (w' : World) : Prop:=e = .returned (.tuple #[.int .i64 a,.int .i64 c]) ∧ w = w'
theorem isNumber_any (n : Int) (w : World) :
  Calls Tryz.prog 105 #[.int .i64 n] w fun e w' => e = .returned (.bool (decide (IsNum n))) ∧ w = w':=by
 by_cases h0 : 0 ≤ n
 ·by_cases h1 : n ≤ 4611686018427387903
  ·have e : decide (IsNum n) = true:=by simp [IsNum,h0,h1]
   rw [e]
   clear e
   have d0 : decide (n ≥ 0) = true:=by simp [h0]
   have d1 : decide (n ≤ 4611686018427387903) = true:=by simp [h1]
   go_enter Tryz.func105,Tryz.ntmps105
   go_wp2
   go_ret
   exact ⟨rfl,rfl⟩
  ·have e : decide (IsNum n) = false:=by simp [IsNum,h1]
   rw [e]
   clear e
   have d0 : decide (n ≥ 0) = true:=by simp [h0]
   have d1 : decide (n ≤ 4611686018427387903) = false:=by simp [h1]
   go_enter Tryz.func105,Tryz.ntmps105
   go_wp2
   go_ret
   exact ⟨rfl,rfl⟩
 ·have e : decide (IsNum n) = false:=by simp [IsNum,h0]
  rw [e]
  clear e
  have d0 : decide (n ≥ 0) = false:=by simp;omega
  go_enter Tryz.func105,Tryz.ntmps105
  go_wp2
  go_ret
  exact ⟨rfl,rfl⟩
theorem isWidth_any (n : Int) (w : World) :
  Calls Tryz.prog 106 #[.int .i64 n] w fun e w' => e = .returned (.bool (decide (IsWid n))) ∧ w = w':=by
 by_cases h0 : 1 ≤ n
 ·by_cases h1 : n ≤ 4
  ·have e : decide (IsWid n) = true:=by simp [IsWid,h0,h1]
   rw [e]
   clear e
   have d0 : decide (n ≥ 1) = true:=by simp [h0]
   have d1 : decide (n ≤ 4) = true:=by simp [h1]
   go_enter Tryz.func106,Tryz.ntmps106
   go_wp2
   go_ret
   exact ⟨rfl,rfl⟩
  ·have e : decide (IsWid n) = false:=by simp [IsWid,h1]
   rw [e]
   clear e
   have d0 : decide (n ≥ 1) = true:=by simp [h0]
   have d1 : decide (n ≤ 4) = false:=by simp [h1]
   go_enter Tryz.func106,Tryz.ntmps106
   go_wp2
   go_ret
   exact ⟨rfl,rfl⟩
 ·have e : decide (IsWid n) = false:=by simp [IsWid,h0]
  rw [e]
  clear e
  have d0 : decide (n ≥ 1) = false:=by simp;omega
  go_enter Tryz.func106,Tryz.ntmps106
  go_wp2
  go_ret
  exact ⟨rfl,rfl⟩
theorem count_any (n : Int) (w : World) (h : IsWid n) :
  Calls Tryz.prog 148 #[.int .i64 n] w fun e w' => e = .returned (.int .i64 (cnt n)) ∧ w = w':=by
 rcases h.cases with rfl | rfl | rfl | rfl
 all_goals
  go_enter Tryz.func148,Tryz.ntmps148
  go_wp2
  go_ret
  exact ⟨rfl,rfl⟩
theorem low_any (n k : Int) (w : World) (h : IsWid k) :
  Calls Tryz.prog 107 #[.int .i64 n,.int .i64 k] w fun e w' => e = .returned (.int .i64 (n % cnt k)) ∧ w = w':=by
 have hm1:=qhi (mask1 n)
 have hm2:=qhi (mask2 n)
 have hm3:=qhi (mask3 n)
 have hm4:=qhi (mask4 n)
 rcases h.cases with rfl | rfl | rfl | rfl
 ·have hm:=hm1.out
  go_enter Tryz.func107,Tryz.ntmps107
  go_wp2
  go_ret
  exact ⟨rfl,rfl⟩
 ·have hm:=hm2.out
  go_enter Tryz.func107,Tryz.ntmps107
  go_wp2
  go_ret
  exact ⟨rfl,rfl⟩
 ·have hm:=hm3.out
  go_enter Tryz.func107,Tryz.ntmps107
  go_wp2
  go_ret
  exact ⟨rfl,rfl⟩
 ·have hm:=hm4.out
  go_enter Tryz.func107,Tryz.ntmps107
  go_wp2
  go_ret
  exact ⟨rfl,rfl⟩
theorem cut_bad (n k : Int) (w : World) (h : ¬ IsNum n ∨ ¬ IsWid k) : Calls Tryz.prog 62 #[.int .i64 n,.int .i64 k] w (Two w 0 1):=by
 by_cases hn : IsNum n
 ·have e : decide (IsNum n) = true:=by simp [hn]
  have hk : ¬ IsWid k:=by
   rcases h with h | h
   ·exact absurd hn h
   ·exact h
  have ek : decide (IsWid k) = false:=by simp [hk]
  clear h
  go_enter Tryz.func62,Tryz.ntmps62
  go_wp2_with fail
  refine (isNumber_any n _).mono ?_
  rintro e w' ⟨rfl,rfl⟩
  rw [e]
  go_wp2_with fail
  refine (isWidth_any k _).mono ?_
  rintro e w' ⟨rfl,rfl⟩
  rw [ek]
  go_wp2
  go_ret2
  exact ⟨rfl,rfl⟩
 ·have e : decide (IsNum n) = false:=by simp [hn]
  clear h
  go_enter Tryz.func62,Tryz.ntmps62
  go_wp2_with fail
  refine (isNumber_any n _).mono ?_
  rintro e w' ⟨rfl,rfl⟩
  rw [e]
  go_wp2
  go_ret2
  exact ⟨rfl,rfl⟩
theorem cut_good (n k : Int) (w : World) (hn : IsNum n) (hk : IsWid k) : Calls Tryz.prog 62 #[.int .i64 n,.int .i64 k] w (Two w (n % cnt k) 0):=by
 have e : decide (IsNum n) = true:=by simp [hn]
 have ek : decide (IsWid k) = true:=by simp [hk]
 go_enter Tryz.func62,Tryz.ntmps62
 go_wp2_with fail
 refine (isNumber_any n _).mono ?_
 rintro e w' ⟨rfl,rfl⟩
 rw [e]
 go_wp2_with fail
 refine (isWidth_any k _).mono ?_
 rintro e w' ⟨rfl,rfl⟩
 rw [ek]
 go_wp2_with fail
 refine (low_any n k _ hk).mono ?_
 rintro e w' ⟨rfl,rfl⟩
 go_wp2
 go_ret2
 exact ⟨rfl,rfl⟩
def cutOk (n k : Int) : Bool:=decide (IsNum n) && decide (IsWid k)
theorem cut_any (n k : Int) (w : World) : Calls Tryz.prog 62 #[.int .i64 n,.int .i64 k] w (Two w (if cutOk n k then n % cnt k else 0) (if cutOk n k then 0 else 1)):=by
 by_cases hn : IsNum n
 ·by_cases hk : IsWid k
  ·have e : cutOk n k = true:=by simp [cutOk,hn,hk]
   rw [e];exact cut_good n k w hn hk
  ·have e : cutOk n k = false:=by simp [cutOk,hk]
   rw [e];exact cut_bad n k w (.inr hk)
 ·have e : cutOk n k = false:=by simp [cutOk,hn]
  rw [e];exact cut_bad n k w (.inl hn)
theorem two_eq {a b c : Int} (h : a = b) : Ending.returned (.tuple #[.int .i64 a,.int .i64 c]) = Ending.returned (.tuple #[.int .i64 b,.int .i64 c]):=by rw [h]
theorem grow_eq (l c w k m : Int) (hk : cnt w = k) (hm : m = (c - (l + 1 - k / 2 + 1)) % k) :
  growI l c w = if (if l + 1 - k / 2 + 1 + m < 0 then l + 1 - k / 2 + 1 + m + k else l + 1 - k / 2 + 1 + m) > 4611686018427387903 then (if l + 1 - k / 2 + 1 + m < 0 then l + 1 - k / 2 + 1 + m + k else l + 1 - k / 2 + 1 + m) - k else (if l + 1 - k / 2 + 1 + m < 0 then l + 1 - k / 2 + 1 + m + k else l + 1 - k / 2 + 1 + m):=by
 subst hm;subst hk;rfl
theorem grow_1 (l c : Int) (w : World) (h : GrowOk l c 1) : Calls Tryz.prog 118 #[.int .i64 l,.int .i64 c,.int .i64 1] w (Two w (growI l c 1) 0):=by
 obtain ⟨l0,l1,hk,c0,c1⟩:=h
 have c2 : c < 256:=c1
 clear hk c1
 have d2 : decide (c < 0) = false:=by simp;omega
 have d3 : decide (c ≥ 256) = false:=by simp;omega
 obtain ⟨m,hm⟩ : ∃ m,m = (c - (l + 1 - 128 + 1)) % 256:=⟨_,rfl⟩
 have hg : Hid (growI l c 1 = if (if l + 1 - 128 + 1 + m < 0 then l + 1 - 128 + 1 + m + 256 else l + 1 - 128 + 1 + m) > 4611686018427387903 then (if l + 1 - 128 + 1 + m < 0 then l + 1 - 128 + 1 + m + 256 else l + 1 - 128 + 1 + m) - 256 else (if l + 1 - 128 + 1 + m < 0 then l + 1 - 128 + 1 + m + 256 else l + 1 - 128 + 1 + m)):=qhi (grow_eq l c 1 256 m rfl hm)
 have hma:=mask1 (c - (l + 1 - 128 + 1))
 rw [← hm] at hma
 have m0 : 0 ≤ m:=by omega
 have m1 : m < 256:=by omega
 clear hm
 by_cases hl : l = -1
 ·subst hl
  have e : c - (-1 + 1 - 128 + 1) = c + 127:=by omega
  rw [e] at hma
  clear e
  go_enter Tryz.func118,Tryz.ntmps118
  go_wp2
  all_goals
   go_ret2
   exact ⟨two_eq (by
            rw [hg.out];repeat' split
            all_goals omega),rfl⟩
 ·have e : (l == -1) = false:=by simp [hl]
  have en : decide (IsNum l) = true:=qdt ⟨by omega,l1⟩
  have w1 : IntKind.i64.wrap (l + 1) = l + 1:=by rw [IntKind.wrap_i64];omega
  have w2 : IntKind.i64.wrap (l + 1 - 128) = l + 1 - 128:=by rw [IntKind.wrap_i64];omega
  have w3 : IntKind.i64.wrap (l + 1 - 128 + 1) = l + 1 - 128 + 1:=by rw [IntKind.wrap_i64];omega
  have w4 : IntKind.i64.wrap (c - (l + 1 - 128 + 1)) = c - (l + 1 - 128 + 1):=by rw [IntKind.wrap_i64];omega
  have w5 : IntKind.i64.wrap (l + 1 - 128 + 1 + m) = l + 1 - 128 + 1 + m:=by rw [IntKind.wrap_i64];omega
  go_enter Tryz.func118,Tryz.ntmps118
  go_wp2_with fail
  refine (isNumber_any l _).mono ?_
  rintro e w' ⟨rfl,rfl⟩
  rw [en]
  go_wp2
  all_goals
   go_ret2
   exact ⟨two_eq (by
            rw [hg.out];repeat' split
            all_goals omega),rfl⟩
theorem grow_2 (l c : Int) (w : World) (h : GrowOk l c 2) : Calls Tryz.prog 118 #[.int .i64 l,.int .i64 c,.int .i64 2] w (Two w (growI l c 2) 0):=by
 obtain ⟨l0,l1,hk,c0,c1⟩:=h
 have c2 : c < 65536:=c1
 clear hk c1
 have d2 : decide (c < 0) = false:=by simp;omega
 have d3 : decide (c ≥ 65536) = false:=by simp;omega
 obtain ⟨m,hm⟩ : ∃ m,m = (c - (l + 1 - 32768 + 1)) % 65536:=⟨_,rfl⟩
 have hg : Hid (growI l c 2 = if (if l + 1 - 32768 + 1 + m < 0 then l + 1 - 32768 + 1 + m + 65536 else l + 1 - 32768 + 1 + m) > 4611686018427387903 then (if l + 1 - 32768 + 1 + m < 0 then l + 1 - 32768 + 1 + m + 65536 else l + 1 - 32768 + 1 + m) - 65536 else (if l + 1 - 32768 + 1 + m < 0 then l + 1 - 32768 + 1 + m + 65536 else l + 1 - 32768 + 1 + m)):=qhi (grow_eq l c 2 65536 m rfl hm)
 have hma:=mask2 (c - (l + 1 - 32768 + 1))
 rw [← hm] at hma
 have m0 : 0 ≤ m:=by omega
 have m1 : m < 65536:=by omega
 clear hm
 by_cases hl : l = -1
 ·subst hl
  have e : c - (-1 + 1 - 32768 + 1) = c + 32767:=by omega
  rw [e] at hma
  clear e
  go_enter Tryz.func118,Tryz.ntmps118
  go_wp2
  all_goals
   go_ret2
   exact ⟨two_eq (by
            rw [hg.out];repeat' split
            all_goals omega),rfl⟩
 ·have e : (l == -1) = false:=by simp [hl]
  have en : decide (IsNum l) = true:=qdt ⟨by omega,l1⟩
  have w1 : IntKind.i64.wrap (l + 1) = l + 1:=by rw [IntKind.wrap_i64];omega
  have w2 : IntKind.i64.wrap (l + 1 - 32768) = l + 1 - 32768:=by rw [IntKind.wrap_i64];omega
  have w3 : IntKind.i64.wrap (l + 1 - 32768 + 1) = l + 1 - 32768 + 1:=by rw [IntKind.wrap_i64];omega
  have w4 : IntKind.i64.wrap (c - (l + 1 - 32768 + 1)) = c - (l + 1 - 32768 + 1):=by rw [IntKind.wrap_i64];omega
  have w5 : IntKind.i64.wrap (l + 1 - 32768 + 1 + m) = l + 1 - 32768 + 1 + m:=by rw [IntKind.wrap_i64];omega
  go_enter Tryz.func118,Tryz.ntmps118
  go_wp2_with fail
  refine (isNumber_any l _).mono ?_
  rintro e w' ⟨rfl,rfl⟩
  rw [en]
  go_wp2
  all_goals
   go_ret2
   exact ⟨two_eq (by
            rw [hg.out];repeat' split
            all_goals omega),rfl⟩
theorem grow_3 (l c : Int) (w : World) (h : GrowOk l c 3) : Calls Tryz.prog 118 #[.int .i64 l,.int .i64 c,.int .i64 3] w (Two w (growI l c 3) 0):=by
 obtain ⟨l0,l1,hk,c0,c1⟩:=h
 have c2 : c < 16777216:=c1
 clear hk c1
 have d2 : decide (c < 0) = false:=by simp;omega
 have d3 : decide (c ≥ 16777216) = false:=by simp;omega
 obtain ⟨m,hm⟩ : ∃ m,m = (c - (l + 1 - 8388608 + 1)) % 16777216:=⟨_,rfl⟩
 have hg : Hid (growI l c 3 = if (if l + 1 - 8388608 + 1 + m < 0 then l + 1 - 8388608 + 1 + m + 16777216 else l + 1 - 8388608 + 1 + m) > 4611686018427387903 then (if l + 1 - 8388608 + 1 + m < 0 then l + 1 - 8388608 + 1 + m + 16777216 else l + 1 - 8388608 + 1 + m) - 16777216 else (if l + 1 - 8388608 + 1 + m < 0 then l + 1 - 8388608 + 1 + m + 16777216 else l + 1 - 8388608 + 1 + m)):=qhi (grow_eq l c 3 16777216 m rfl hm)
 have hma:=mask3 (c - (l + 1 - 8388608 + 1))
 rw [← hm] at hma
 have m0 : 0 ≤ m:=by omega
 have m1 : m < 16777216:=by omega
 clear hm
 by_cases hl : l = -1
 ·subst hl
  have e : c - (-1 + 1 - 8388608 + 1) = c + 8388607:=by omega
  rw [e] at hma
  clear e
  go_enter Tryz.func118,Tryz.ntmps118
  go_wp2
  all_goals
   go_ret2
   exact ⟨two_eq (by
            rw [hg.out];repeat' split
            all_goals omega),rfl⟩
 ·have e : (l == -1) = false:=by simp [hl]
  have en : decide (IsNum l) = true:=qdt ⟨by omega,l1⟩
  have w1 : IntKind.i64.wrap (l + 1) = l + 1:=by rw [IntKind.wrap_i64];omega
  have w2 : IntKind.i64.wrap (l + 1 - 8388608) = l + 1 - 8388608:=by rw [IntKind.wrap_i64];omega
  have w3 : IntKind.i64.wrap (l + 1 - 8388608 + 1) = l + 1 - 8388608 + 1:=by rw [IntKind.wrap_i64];omega
  have w4 : IntKind.i64.wrap (c - (l + 1 - 8388608 + 1)) = c - (l + 1 - 8388608 + 1):=by rw [IntKind.wrap_i64];omega
  have w5 : IntKind.i64.wrap (l + 1 - 8388608 + 1 + m) = l + 1 - 8388608 + 1 + m:=by rw [IntKind.wrap_i64];omega
  go_enter Tryz.func118,Tryz.ntmps118
  go_wp2_with fail
  refine (isNumber_any l _).mono ?_
  rintro e w' ⟨rfl,rfl⟩
  rw [en]
  go_wp2
  all_goals
   go_ret2
   exact ⟨two_eq (by
            rw [hg.out];repeat' split
            all_goals omega),rfl⟩
theorem grow_4 (l c : Int) (w : World) (h : GrowOk l c 4) : Calls Tryz.prog 118 #[.int .i64 l,.int .i64 c,.int .i64 4] w (Two w (growI l c 4) 0):=by
 obtain ⟨l0,l1,hk,c0,c1⟩:=h
 have c2 : c < 4294967296:=c1
 clear hk c1
 have d2 : decide (c < 0) = false:=by simp;omega
 have d3 : decide (c ≥ 4294967296) = false:=by simp;omega
 obtain ⟨m,hm⟩ : ∃ m,m = (c - (l + 1 - 2147483648 + 1)) % 4294967296:=⟨_,rfl⟩
 have hg : Hid (growI l c 4 = if (if l + 1 - 2147483648 + 1 + m < 0 then l + 1 - 2147483648 + 1 + m + 4294967296 else l + 1 - 2147483648 + 1 + m) > 4611686018427387903 then (if l + 1 - 2147483648 + 1 + m < 0 then l + 1 - 2147483648 + 1 + m + 4294967296 else l + 1 - 2147483648 + 1 + m) - 4294967296 else (if l + 1 - 2147483648 + 1 + m < 0 then l + 1 - 2147483648 + 1 + m + 4294967296 else l + 1 - 2147483648 + 1 + m)):=qhi (grow_eq l c 4 4294967296 m rfl hm)
 have hma:=mask4 (c - (l + 1 - 2147483648 + 1))
 rw [← hm] at hma
 have m0 : 0 ≤ m:=by omega
 have m1 : m < 4294967296:=by omega
 clear hm
 by_cases hl : l = -1
 ·subst hl
  have e : c - (-1 + 1 - 2147483648 + 1) = c + 2147483647:=by omega
  rw [e] at hma
  clear e
  go_enter Tryz.func118,Tryz.ntmps118
  go_wp2
  all_goals
   go_ret2
   exact ⟨two_eq (by
            rw [hg.out];repeat' split
            all_goals omega),rfl⟩
 ·have e : (l == -1) = false:=by simp [hl]
  have en : decide (IsNum l) = true:=qdt ⟨by omega,l1⟩
  have w1 : IntKind.i64.wrap (l + 1) = l + 1:=by rw [IntKind.wrap_i64];omega
  have w2 : IntKind.i64.wrap (l + 1 - 2147483648) = l + 1 - 2147483648:=by rw [IntKind.wrap_i64];omega
  have w3 : IntKind.i64.wrap (l + 1 - 2147483648 + 1) = l + 1 - 2147483648 + 1:=by rw [IntKind.wrap_i64];omega
  have w4 : IntKind.i64.wrap (c - (l + 1 - 2147483648 + 1)) = c - (l + 1 - 2147483648 + 1):=by rw [IntKind.wrap_i64];omega
  have w5 : IntKind.i64.wrap (l + 1 - 2147483648 + 1 + m) = l + 1 - 2147483648 + 1 + m:=by rw [IntKind.wrap_i64];omega
  go_enter Tryz.func118,Tryz.ntmps118
  go_wp2_with fail
  refine (isNumber_any l _).mono ?_
  rintro e w' ⟨rfl,rfl⟩
  rw [en]
  go_wp2
  all_goals
   go_ret2
   exact ⟨two_eq (by
            rw [hg.out];repeat' split
            all_goals omega),rfl⟩
theorem grow_bad (l c k : Int) (w : World) (h : ¬ GrowOk l c k) : Calls Tryz.prog 118 #[.int .i64 l,.int .i64 c,.int .i64 k] w (Two w 0 1):=by
 by_cases hl : l = -1
 ·subst hl
  by_cases hk : IsWid k
  ·have ek : decide (IsWid k) = true:=by simp [hk]
   by_cases c0 : c < 0
   ·have d2 : decide (c < 0) = true:=by simp [c0]
    clear h
    go_enter Tryz.func118,Tryz.ntmps118
    go_wp2_with fail
    refine (isWidth_any k _).mono ?_
    rintro e w' ⟨rfl,rfl⟩
    rw [ek]
    go_wp2
    go_ret2
    exact ⟨rfl,rfl⟩
   ·have d2 : decide (c < 0) = false:=by simp;omega
    have d3 : decide (c ≥ cnt k) = true:=by
     by_cases c1 : c < cnt k
     ·exact absurd ⟨by omega,by omega,hk,by omega,c1⟩ h
     ·simp;omega
    clear h
    go_enter Tryz.func118,Tryz.ntmps118
    go_wp2_with fail
    refine (isWidth_any k _).mono ?_
    rintro e w' ⟨rfl,rfl⟩
    rw [ek]
    go_wp2_with fail
    refine (count_any k _ hk).mono ?_
    rintro e w' ⟨rfl,rfl⟩
    go_wp2
    go_ret2
    exact ⟨rfl,rfl⟩
  ·have ek : decide (IsWid k) = false:=by simp [hk]
   clear h
   go_enter Tryz.func118,Tryz.ntmps118
   go_wp2_with fail
   refine (isWidth_any k _).mono ?_
   rintro e w' ⟨rfl,rfl⟩
   rw [ek]
   go_wp2
   go_ret2
   exact ⟨rfl,rfl⟩
 ·have e : (l == -1) = false:=by simp [hl]
  by_cases hn : IsNum l
  ·have en : decide (IsNum l) = true:=by simp [hn]
   by_cases hk : IsWid k
   ·have ek : decide (IsWid k) = true:=by simp [hk]
    by_cases c0 : c < 0
    ·have d2 : decide (c < 0) = true:=by simp [c0]
     clear h
     go_enter Tryz.func118,Tryz.ntmps118
     go_wp2_with fail
     refine (isNumber_any l _).mono ?_
     rintro e w' ⟨rfl,rfl⟩
     rw [en]
     go_wp2_with fail
     refine (isWidth_any k _).mono ?_
     rintro e w' ⟨rfl,rfl⟩
     rw [ek]
     go_wp2
     go_ret2
     exact ⟨rfl,rfl⟩
    ·have d2 : decide (c < 0) = false:=by simp;omega
     have d3 : decide (c ≥ cnt k) = true:=by
      by_cases c1 : c < cnt k
      ·exact absurd ⟨by have:=hn.1;omega,hn.2,hk,by omega,c1⟩ h
      ·simp;omega
     clear h
     go_enter Tryz.func118,Tryz.ntmps118
     go_wp2_with fail
     refine (isNumber_any l _).mono ?_
     rintro e w' ⟨rfl,rfl⟩
     rw [en]
     go_wp2_with fail
     refine (isWidth_any k _).mono ?_
     rintro e w' ⟨rfl,rfl⟩
     rw [ek]
     go_wp2_with fail
     refine (count_any k _ hk).mono ?_
     rintro e w' ⟨rfl,rfl⟩
     go_wp2
     go_ret2
     exact ⟨rfl,rfl⟩
   ·have ek : decide (IsWid k) = false:=by simp [hk]
    clear h
    go_enter Tryz.func118,Tryz.ntmps118
    go_wp2_with fail
    refine (isNumber_any l _).mono ?_
    rintro e w' ⟨rfl,rfl⟩
    rw [en]
    go_wp2_with fail
    refine (isWidth_any k _).mono ?_
    rintro e w' ⟨rfl,rfl⟩
    rw [ek]
    go_wp2
    go_ret2
    exact ⟨rfl,rfl⟩
  ·have en : decide (IsNum l) = false:=by simp [hn]
   clear h
   go_enter Tryz.func118,Tryz.ntmps118
   go_wp2_with fail
   refine (isNumber_any l _).mono ?_
   rintro e w' ⟨rfl,rfl⟩
   rw [en]
   go_wp2
   go_ret2
   exact ⟨rfl,rfl⟩
theorem grow_any3 (l c k : Int) (w : World) : Calls Tryz.prog 118 #[.int .i64 l,.int .i64 c,.int .i64 k] w (Two w (if GrowOk l c k then growI l c k else 0) (if GrowOk l c k then 0 else 1)):=by
 by_cases h : GrowOk l c k
 ·rw [if_pos h,if_pos h]
  rcases h.2.2.1.cases with rfl | rfl | rfl | rfl
  ·exact grow_1 l c w h
  ·exact grow_2 l c w h
  ·exact grow_3 l c w h
  ·exact grow_4 l c w h
 ·rw [if_neg h,if_neg h]
  exact grow_bad l c k w h
end Go.Proofs.YtmcomdmcmnbhlaaGreatDoor
