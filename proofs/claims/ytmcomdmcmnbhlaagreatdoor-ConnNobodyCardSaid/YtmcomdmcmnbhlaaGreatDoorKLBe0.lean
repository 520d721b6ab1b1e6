import Derived.Test.YtmcomdmcmnbhlaaGreatDoorKLGen0
set_option maxRecDepth 100000
set_option maxHeartbeats 25600000
set_option linter.unusedSimpArgs false
set_option linter.unusedVariables false
set_option linter.unnecessarySimpa false
namespace Go.Proofs.YtmcomdmcmnbhlaaGreatDoor
open Go.RowKit
theorem elemU8 : Elem Tryz.prog 5 .u8 1:=⟨Tryz.underlying5,info_parts (by kernel_rfl)⟩
def be (m : Nat) : Nat → List Int
 | 0 => []
 | k + 1 => be (m / 256) k ++ [((m % 256 : Nat) : Int)]
theorem be_len (m k : Nat) : (be m k).length = k:=by
 induction k generalizing m with
 | zero => rfl
 | succ k ih => simp [be,ih]
theorem be_cons (m k : Nat) : be m (k + 1) = ((m / 256 ^ k % 256 : Nat) : Int) :: be m k:=by
 induction k generalizing m with
 | zero => simp [be]
 | succ k ih => rw [be,ih,be,Nat.div_div_eq_div_mul,List.cons_append,← Nat.pow_succ']
theorem be_bts (m k : Nat) : Bts (be m k):=by
 induction k generalizing m with
 | zero => intro x hx;simp [be] at hx
 | succ k ih =>
   intro x hx
   rw [be,List.mem_append] at hx
   rcases hx with hx | hx
   ·exact ih _ x hx
   ·obtain rfl:=List.mem_singleton.1 hx;omega
theorem be_take (m W j : Nat) (h : j < W) : (be m W).take (j + 1) = (be m W).take j ++ [((m / 256 ^ (W - 1 - j) % 256 : Nat) : Int)]:=by
 induction W generalizing j with
 | zero => omega
 | succ W ih =>
   rw [be_cons]
   cases j with
   | zero => simp
   | succ j =>
     rw [List.take_succ_cons,ih j (by omega),List.take_succ_cons,List.cons_append,show W + 1 - 1 - (j + 1) = W - 1 - j by omega]
theorem be_all (m W : Nat) : (be m W).take W = be m W:=List.take_of_length_le (by rw [be_len];exact qlr _)
end Go.Proofs.YtmcomdmcmnbhlaaGreatDoor
