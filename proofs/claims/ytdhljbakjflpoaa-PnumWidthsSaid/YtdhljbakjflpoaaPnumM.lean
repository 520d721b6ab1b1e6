/- The numbers of layer 3: how many cut numbers there are, what is cut, and what grows again. -/
import Derived.Test.YtdhljbakjflpoaaGen
import Derived.Lib.Hide
namespace Go.Proofs.Ytdhljbakjflpoaa
open Go.RowKit

theorem wrap_small (x : Int) (h0 : 0 ≤ x) (h1 : x ≤ 9223372036854775807) : IntKind.i64.wrap x = x := by
  rw [IntKind.wrap_i64]; omega

theorem and_mask (n : Int) (m k : Nat) (hk : 2 ^ k - 1 = m) (hm : m < 4294967296) :
    bits .and .i64 n (m : Int) = n % ((2 ^ k : Nat) : Int) := by
  show IntKind.i64.wrap (((BitVec.ofInt 64 n) &&& (BitVec.ofInt 64 (m : Int))).toNat : Int) = _
  have e1 : ((BitVec.ofInt 64 n) &&& (BitVec.ofInt 64 (m : Int))).toNat = (BitVec.ofInt 64 n).toNat % 2 ^ k := by
    rw [BitVec.toNat_and]
    have : (BitVec.ofInt 64 (m : Int)).toNat = 2 ^ k - 1 := by
      rw [BitVec.toNat_ofInt]; omega
    rw [this, Nat.and_two_pow_sub_one_eq_mod]
  rw [e1, BitVec.toNat_ofInt]
  have hp : 2 ^ k = m + 1 := by
    have : 0 < 2 ^ k := Nat.pow_pos (by decide)
    omega
  have hd : 2 ^ k ∣ 18446744073709551616 := by
    have : k ≤ 64 := by
      by_cases h : k ≤ 64
      · exact h
      · have : 2 ^ 64 ≤ 2 ^ k := Nat.pow_le_pow_right (by decide) (by omega)
        omega
    have e : (18446744073709551616 : Nat) = 2 ^ 64 := by decide
    rw [e]; exact Nat.pow_dvd_pow 2 this
  have hb : (n % 18446744073709551616).toNat % 2 ^ k < 2 ^ k := Nat.mod_lt _ (by omega)
  have e2 : (((n % 18446744073709551616).toNat % 2 ^ k : Nat) : Int) = n % ((2 ^ k : Nat) : Int) := by
    rw [Int.natCast_emod, Int.toNat_of_nonneg (by omega)]
    exact Int.emod_emod_of_dvd n (show ((2 ^ k : Nat) : Int) ∣ ((18446744073709551616 : Nat) : Int) from Int.natCast_dvd_natCast.mpr hd)
  show IntKind.i64.wrap (((n % 18446744073709551616).toNat % 2 ^ k : Nat) : Int) = _
  rw [wrap_small _ (by omega) (by omega), e2]

theorem mask1 (n : Int) : bits .and .i64 n 255 = n % 256 := and_mask n 255 8 (by decide) (by decide)
theorem mask2 (n : Int) : bits .and .i64 n 65535 = n % 65536 := and_mask n 65535 16 (by decide) (by decide)
theorem mask3 (n : Int) : bits .and .i64 n 16777215 = n % 16777216 := and_mask n 16777215 24 (by decide) (by decide)
theorem mask4 (n : Int) : bits .and .i64 n 4294967295 = n % 4294967296 := and_mask n 4294967295 32 (by decide) (by decide)

/-- how many cut numbers there are of so many bytes -/
def cnt (w : Int) : Int := if w = 1 then 256 else if w = 2 then 65536 else if w = 3 then 16777216 else 4294967296
/-- a number that a datagram may have -/
def IsNum (n : Int) : Prop := 0 ≤ n ∧ n ≤ 4611686018427387903
instance (n : Int) : Decidable (IsNum n) := inferInstanceAs (Decidable (_ ∧ _))
def IsWid (w : Int) : Prop := 1 ≤ w ∧ w ≤ 4
instance (n : Int) : Decidable (IsWid n) := inferInstanceAs (Decidable (_ ∧ _))
theorem IsWid.cases {w : Int} (h : IsWid w) : w = 1 ∨ w = 2 ∨ w = 3 ∨ w = 4 := by unfold IsWid at h; omega

/-- TO HOW MANY BYTES A NUMBER IS CUT: 0 where it is refused -/
def widthI (n acked : Int) : Int :=
  if ¬ IsNum n ∨ acked < -1 ∨ acked ≥ n then 0 else
  if n - acked ≤ 128 then 1 else if n - acked ≤ 32768 then 2 else if n - acked ≤ 8388608 then 3 else if n - acked ≤ 2147483648 then 4 else 0
/-- WHAT GROWS, of arguments that are none of the wrong ones -/
def growI (largest cut w : Int) : Int :=
  let k := cnt w
  let least := largest + 1 - k / 2 + 1
  let n := least + (cut - least) % k
  let n := if n < 0 then n + k else n
  if n > 4611686018427387903 then n - k else n
def GrowOk (largest cut w : Int) : Prop := -1 ≤ largest ∧ largest ≤ 4611686018427387903 ∧ IsWid w ∧ 0 ≤ cut ∧ cut < cnt w
instance (l c w : Int) : Decidable (GrowOk l c w) := inferInstanceAs (Decidable (_ ∧ _))

/-- an answer and an error's number, and nothing else is turned -/
def Two (w : World) (a c : Int) (e : Ending) (w' : World) : Prop := e = .returned (.tuple #[.int .i64 a, .int .i64 c]) ∧ w = w'
end Go.Proofs.Ytdhljbakjflpoaa
