/- Layer 1: what is put is got (plain); the walks of VintBack and VintRow. -/
import Derived.Test.YtkalncahelnamaaDoorVintO
namespace Go.Proofs.YtkalncahelnamaaDoor
open Go.RowKit

def step256 (s b : Int) : Int := s * 256 + b
theorem be_fold (m k : Nat) (s : Int) : (be m k).foldl step256 s = s * 256 ^ k + ((m % 256 ^ k : Nat) : Int) := by
  induction k generalizing m with
  | zero => simp [be, Nat.mod_one]
  | succ k ih =>
    rw [be, List.foldl_append, ih]
    simp only [List.foldl_cons, List.foldl_nil, step256]
    rw [Nat.pow_succ', Nat.mod_mul, Int.pow_succ]
    generalize (256 : Int) ^ k = p
    have e : s * (p * 256) = s * p * 256 := by rw [Int.mul_assoc]
    rw [e]
    simp only [Int.natCast_add, Int.natCast_mul]
    omega
theorem acc_fold (L : List Int) (a : Nat) : ∀ k, a + 1 + k ≤ L.length → acc L a k = ((L.drop (a + 1)).take k).foldl step256 (L.getD a 0 % 64)
  | 0, _ => rfl
  | k + 1, h => by
    have hk : k < (L.drop (a + 1)).length := by rw [List.length_drop]; omega
    rw [acc, acc_fold L a k (by omega), List.take_succ_eq_append_getElem hk, List.foldl_append]
    simp only [List.foldl_cons, List.foldl_nil, step256, List.getElem_drop]
    simp [List.getD, List.getElem?_eq_getElem (show a + 1 + k < L.length by omega)]
theorem acc_be (xs zs : List Int) (m K : Nat) : acc (xs ++ (be m (K + 1) ++ zs)) xs.length K = ((m / 256 ^ K % 256 : Nat) : Int) % 64 * 256 ^ K + ((m % 256 ^ K : Nat) : Int) := by
  rw [acc_fold _ _ _ (by simp [be_len]; omega)]
  have e1 : (xs ++ (be m (K + 1) ++ zs)).getD xs.length 0 = ((m / 256 ^ K % 256 : Nat) : Int) := by
    simp [List.getD, be_cons]
  have e2 : ((xs ++ (be m (K + 1) ++ zs)).drop (xs.length + 1)).take K = be m K := by
    rw [be_cons, List.drop_append, List.drop_of_length_le (by omega), List.nil_append, show xs.length + 1 - xs.length = 1 by omega, List.cons_append, List.drop_succ_cons, List.drop_zero, List.take_append_of_le_length (by rw [be_len]; omega)]
    exact be_all m K
  rw [e1, e2, be_fold]
theorem head_be (xs zs : List Int) (m K : Nat) : (xs ++ (be m (K + 1) ++ zs)).getD xs.length 0 = ((m / 256 ^ K % 256 : Nat) : Int) := by
  simp [List.getD, be_cons]

/-- WHAT WAS PUT IS GOT, whatever stands ahead and behind -/
theorem getS_enc (xs zs : List Int) (n width : Int) (hw : okW width) (hf : fitsB n width = true) : getS (xs ++ (enc n width ++ zs)) xs.length = some (n, width.toNat) := by
  have hfl := fits_lt hf
  rcases hw with rfl | rfl | rfl | rfl
  all_goals
    simp only [Int.reduceMul, Int.reduceSub, Int.reduceToNat, Int.reducePow] at hfl
    obtain ⟨n0, n1⟩ := hfl
  · have ee : enc n 1 = be (bm1 n).toNat (0 + 1) := rfl
    have hh := head_be xs zs (bm1 n).toNat 0
    rw [ee]
    have hW : widN ((xs ++ (be (bm1 n).toNat (0 + 1) ++ zs)).getD xs.length 0) = 1 := by
      rw [hh]; unfold widN bm1; simp only [Nat.reducePow]; rw [if_pos (by omega)]
    unfold getS
    rw [hW, if_pos (by simp [be_len]; omega), acc_be]
    unfold bm1
    simp only [Nat.reducePow, Int.reducePow]
    congr 2
    omega
  · have ee : enc n 2 = be (bm2 n).toNat (1 + 1) := rfl
    have hh := head_be xs zs (bm2 n).toNat 1
    rw [ee]
    have hW : widN ((xs ++ (be (bm2 n).toNat (1 + 1) ++ zs)).getD xs.length 0) = 2 := by
      rw [hh]; unfold widN bm2; simp only [Nat.reducePow]; rw [if_neg (by omega), if_pos (by omega)]
    unfold getS
    rw [hW, if_pos (by simp [be_len]; omega), acc_be]
    unfold bm2
    simp only [Nat.reducePow, Int.reducePow]
    congr 2
    omega
  · have ee : enc n 4 = be (bm4 n).toNat (3 + 1) := rfl
    have hh := head_be xs zs (bm4 n).toNat 3
    rw [ee]
    have hW : widN ((xs ++ (be (bm4 n).toNat (3 + 1) ++ zs)).getD xs.length 0) = 4 := by
      rw [hh]; unfold widN bm4; simp only [Nat.reducePow]; rw [if_neg (by omega), if_neg (by omega), if_pos (by omega)]
    unfold getS
    rw [hW, if_pos (by simp [be_len]; omega), acc_be]
    unfold bm4
    simp only [Nat.reducePow, Int.reducePow]
    congr 2
    omega
  · have ee : enc n 8 = be (bm8 n).toNat (7 + 1) := rfl
    have hh := head_be xs zs (bm8 n).toNat 7
    rw [ee]
    have hW : widN ((xs ++ (be (bm8 n).toNat (7 + 1) ++ zs)).getD xs.length 0) = 8 := by
      rw [hh]; unfold widN bm8; simp only [Nat.reducePow]; rw [if_neg (by omega), if_neg (by omega), if_neg (by omega)]
    unfold getS
    rw [hW, if_pos (by simp [be_len]; omega), acc_be]
    unfold bm8
    simp only [Nat.reducePow, Int.reducePow]
    congr 2
    omega

/-- numbers' bytes, one behind the other -/
def encAll (ns : List Int) : List Int := ns.flatMap fun n => enc n (sizeI n)
theorem encAll_snoc (ns : List Int) (n : Int) : encAll (ns ++ [n]) = encAll ns ++ enc n (sizeI n) := by simp [encAll]
theorem allS_enc : ∀ (ms : List Int) (pre ys : List Int) (f : Nat), (∀ n ∈ ms, fitsB n 8 = true) → (encAll ms).length ≤ f → allS (pre ++ encAll ms) f pre.length ys = some (ys ++ ms)
  | [], pre, ys, f, _, _ => by rw [allS_end (by simp [encAll])]; simp
  | n :: ms, pre, ys, f, hm, hf => by
    have hn := sizeI_in (hm n (by simp))
    have hl := enc_len n (sizeI n) hn.1
    have e : encAll (n :: ms) = enc n (sizeI n) ++ encAll ms := by simp [encAll]
    have hpos : 0 < (sizeI n).toNat := by rcases hn.1 with h | h | h | h <;> rw [h] <;> decide
    rw [e, List.length_append] at hf
    obtain ⟨f', rfl⟩ : ∃ f', f = f' + 1 := ⟨f - 1, by omega⟩
    have hg := getS_enc pre (encAll ms) n (sizeI n) hn.1 hn.2
    rw [e, allS_some (by rw [List.length_append, List.length_append]; omega) hg]
    have ih := allS_enc ms (pre ++ enc n (sizeI n)) (ys ++ [n]) f' (fun m h => hm m (by simp [h])) (by omega)
    rw [List.append_assoc, List.length_append, hl] at ih
    rw [ih, List.append_assoc]; rfl
end Go.Proofs.YtkalncahelnamaaDoor
