/- The numbers of layer 11: widths, groups, a number's bytes, and what is got of bytes. -/
import Derived.Test.YtnjgnbdloeadgaaGen
import Derived.Lib.Hide
namespace Go.Proofs.Ytnjgnbdloeadgaa
open Go.RowKit

theorem wrap_small (x : Int) (h0 : 0 ≤ x) (h1 : x ≤ 9223372036854775807) : IntKind.i64.wrap x = x := by
  rw [IntKind.wrap_i64]; omega

theorem and_mask (n : Int) (m k : Nat) (hk : 2 ^ k - 1 = m) (hm : m < 4294967296) :
    bits .and .i64 n (m : Int) = n % ((2 ^ k : Nat) : Int) := by
  show IntKind.i64.wrap (((BitVec.ofInt 64 n) &&& (BitVec.ofInt 64 (m : Int))).toNat : Int) = _
  have e1 : ((BitVec.ofInt 64 n) &&& (BitVec.ofInt 64 (m : Int))).toNat = (BitVec.ofInt 64 n).toNat % 2 ^ k := by
    rw [BitVec.toNat_and]
    have : (BitVec.ofInt 64 (m : Int)).toNat = 2 ^ k - 1 := by
      rw [BitVec.toNat_ofInt]; omega
    rw [this, Nat.and_two_pow_sub_one_eq_mod]
  rw [e1, BitVec.toNat_ofInt]
  have hp : 2 ^ k = m + 1 := by
    have : 0 < 2 ^ k := Nat.pow_pos (by decide)
    omega
  have hd : 2 ^ k ∣ 18446744073709551616 := by
    have : k ≤ 64 := by
      by_cases h : k ≤ 64
      · exact h
      · have : 2 ^ 64 ≤ 2 ^ k := Nat.pow_le_pow_right (by decide) (by omega)
        omega
    have e : (18446744073709551616 : Nat) = 2 ^ 64 := by decide
    rw [e]; exact Nat.pow_dvd_pow 2 this
  have hb : (n % 18446744073709551616).toNat % 2 ^ k < 2 ^ k := Nat.mod_lt _ (by omega)
  have e2 : (((n % 18446744073709551616).toNat % 2 ^ k : Nat) : Int) = n % ((2 ^ k : Nat) : Int) := by
    rw [Int.natCast_emod, Int.toNat_of_nonneg (by omega)]
    exact Int.emod_emod_of_dvd n (show ((2 ^ k : Nat) : Int) ∣ ((18446744073709551616 : Nat) : Int) from Int.natCast_dvd_natCast.mpr hd)
  show IntKind.i64.wrap (((n % 18446744073709551616).toNat % 2 ^ k : Nat) : Int) = _
  rw [wrap_small _ (by omega) (by omega), e2]
theorem low7 (n : Int) : bits .and .i64 n 127 = n % 128 := and_mask n 127 7 (by decide) (by decide)

/-- a width -/
def IsW (w : Int) : Prop := 1 ≤ w ∧ w ≤ 8
instance (w : Int) : Decidable (IsW w) := inferInstanceAs (Decidable (_ ∧ _))
theorem IsW.cases {w : Int} (h : IsW w) : w = 1 ∨ w = 2 ∨ w = 3 ∨ w = 4 ∨ w = 5 ∨ w = 6 ∨ w = 7 ∨ w = 8 := by unfold IsW at h; omega
/-- the first number that has no room in so many bits -/
def fullI (w : Int) : Int := if w = 1 then 1 else if w = 2 then 3 else if w = 3 then 7 else if w = 4 then 15 else if w = 5 then 31 else if w = 6 then 63 else if w = 7 then 127 else 255
theorem fullI_pos (w : Int) : 1 ≤ fullI w := by unfold fullI; repeat' split <;> omega
theorem fullI_le (w : Int) : fullI w ≤ 255 := by unfold fullI; repeat' split <;> omega
theorem fullI_up {w : Int} (h : IsW w) (h' : IsW (w + 1)) : fullI w ≤ fullI (w + 1) := by
  unfold IsW at h h'; unfold fullI; repeat' split <;> omega
/-- what may be put -/
def OkP (f w n : Int) : Prop := IsW w ∧ (0 ≤ f ∧ f ≤ 255 ∧ f % (fullI w + 1) = 0) ∧ 0 ≤ n ∧ n ≤ 4611686018427387903
instance (f w n : Int) : Decidable (OkP f w n) := inferInstanceAs (Decidable (_ ∧ _))
def OkS (w n : Int) : Prop := IsW w ∧ 0 ≤ n ∧ n ≤ 4611686018427387903
instance (w n : Int) : Decidable (OkS w n) := inferInstanceAs (Decidable (_ ∧ _))
def OkF (f w : Int) : Prop := 0 ≤ f ∧ f ≤ 255 ∧ f % (fullI w + 1) = 0
instance (f w : Int) : Decidable (OkF f w) := inferInstanceAs (Decidable (_ ∧ _))
theorem okP_iff (f w n : Int) : OkP f w n ↔ OkS w n ∧ OkF f w := by unfold OkP OkS OkF; constructor <;> (intro h; obtain ⟨a, b⟩ := h; constructor <;> simp_all)

/-- the groups of a number -/
def grp (m : Nat) : List Int := if m < 128 then [(m : Int)] else ((128 + m % 128 : Nat) : Int) :: grp (m / 128)
termination_by m
decreasing_by omega
theorem grp_lt {m : Nat} (h : m < 128) : grp m = [(m : Int)] := by rw [grp, if_pos h]
theorem grp_ge {m : Nat} (h : ¬ m < 128) : grp m = ((128 + m % 128 : Nat) : Int) :: grp (m / 128) := by rw [grp, if_neg h]
theorem grp_pos (m : Nat) : 1 ≤ (grp m).length := by
  rw [grp]; split <;> simp
theorem grp_bts : ∀ m : Nat, Bts (grp m) := by
  intro m
  induction m using Nat.strongRecOn with
  | ind m ih =>
    intro x hx
    by_cases h : m < 128
    · rw [grp_lt h] at hx; simp at hx; omega
    · rw [grp_ge h] at hx
      rcases List.mem_cons.1 hx with rfl | hx
      · omega
      · exact ih _ (by omega) x hx
theorem grp_len_le : ∀ (k m : Nat), m < 128 ^ k → 1 ≤ k → (grp m).length ≤ k := by
  intro k
  induction k with
  | zero => intro m _ h; omega
  | succ k ih =>
    intro m hm _
    by_cases h : m < 128
    · rw [grp_lt h]; simp
    · rw [grp_ge h, List.length_cons]
      have : m / 128 < 128 ^ k := by rw [Nat.pow_succ] at hm; omega
      have k1 : 1 ≤ k := by
        cases k with
        | zero => simp at this; omega
        | succ k => omega
      have := ih _ this k1
      omega
theorem grp_len_ge : ∀ (k m : Nat), 128 ^ k ≤ m → k + 1 ≤ (grp m).length := by
  intro k
  induction k with
  | zero => intro m _; exact grp_pos m
  | succ k ih =>
    intro m hm
    have h128 : 128 ≤ m := by
      have : 128 ^ 1 ≤ 128 ^ (k + 1) := Nat.pow_le_pow_right (by decide) (by omega)
      omega
    rw [grp_ge (by omega), List.length_cons]
    have : 128 ^ k ≤ m / 128 := by rw [Nat.pow_succ] at hm; omega
    have := ih _ this
    omega
theorem grp_mono {a b : Nat} (h : a ≤ b) : (grp a).length ≤ (grp b).length := by
  induction b using Nat.strongRecOn generalizing a with
  | ind b ih =>
    by_cases ha : a < 128
    · rw [grp_lt ha]; exact grp_pos b
    · rw [grp_ge ha, grp_ge (show ¬ b < 128 by omega), List.length_cons, List.length_cons]
      have := ih (b / 128) (by omega) (a := a / 128) (by omega)
      omega
/-- the group at a place -/
theorem grp_get : ∀ (k m : Nat), k < (grp m).length → (grp m).getD k 0 = if m / 128 ^ k < 128 then ((m / 128 ^ k : Nat) : Int) else ((128 + m / 128 ^ k % 128 : Nat) : Int) := by
  intro k
  induction k with
  | zero =>
    intro m _
    by_cases h : m < 128
    · rw [grp_lt h]; simp [h]
    · rw [grp_ge h]; simp [h]
  | succ k ih =>
    intro m hk
    by_cases h : m < 128
    · rw [grp_lt h] at hk; simp at hk
    · rw [grp_ge h] at hk ⊢
      have := ih (m / 128) (by simpa using hk)
      rw [List.getD_cons_succ, this, Nat.div_div_eq_div_mul, ← Nat.pow_succ']
theorem grp_len9 {m : Nat} (h : m ≤ 4611686018427387903) : (grp m).length ≤ 9 := grp_len_le 9 m (by
  have : 4611686018427387903 < 128 ^ 9 := by decide
  omega) (by decide)

/-- a number's bytes -/
def encP (f w n : Int) : List Int := if n < fullI w then [f + n] else (f + fullI w) :: grp (n - fullI w).toNat
def sizeN (w n : Int) : Nat := (encP 0 w n).length
def sizeP (w n : Int) : Int := if OkS w n then (sizeN w n : Int) else 0
theorem encP_len (f w n : Int) : (encP f w n).length = sizeN w n := by unfold sizeN encP; split <;> simp
theorem sizeN_lt {w n : Int} (h : n < fullI w) : sizeN w n = 1 := by unfold sizeN encP; rw [if_pos h]; rfl
theorem sizeN_ge {w n : Int} (h : ¬ n < fullI w) : sizeN w n = 1 + (grp (n - fullI w).toNat).length := by unfold sizeN encP; rw [if_neg h, List.length_cons]; omega
theorem sizeN_pos (w n : Int) : 1 ≤ sizeN w n := by unfold sizeN encP; split <;> simp
theorem sizeN_le {w n : Int} (h : n ≤ 4611686018427387903) : sizeN w n ≤ 10 := by
  have := fullI_pos w
  by_cases h1 : n < fullI w
  · rw [sizeN_lt h1]; omega
  · rw [sizeN_ge h1]
    have := grp_len9 (m := (n - fullI w).toNat) (by omega)
    omega
theorem sizeN_mono {w n m : Int} (h : n ≤ m) : sizeN w n ≤ sizeN w m := by
  by_cases h1 : n < fullI w
  · rw [sizeN_lt h1]; exact sizeN_pos w m
  · rw [sizeN_ge h1, sizeN_ge (by omega)]
    have := grp_mono (a := (n - fullI w).toNat) (b := (m - fullI w).toNat) (by omega)
    omega
theorem sizeN_wider {w n : Int} (h : IsW w) (h' : IsW (w + 1)) : sizeN (w + 1) n ≤ sizeN w n := by
  have hf := fullI_up h h'
  by_cases h1 : n < fullI (w + 1)
  · rw [sizeN_lt h1]; exact sizeN_pos w n
  · rw [sizeN_ge h1, sizeN_ge (by omega)]
    have := grp_mono (a := (n - fullI (w + 1)).toNat) (b := (n - fullI w).toNat) (by omega)
    omega
theorem encP_bts {f w n : Int} (h : OkP f w n) : Bts (encP f w n) := by
  obtain ⟨hw, ⟨h1, h2, h3⟩, h4, h5⟩ := h
  have key : ∀ x, 0 ≤ x → x ≤ fullI w → 0 ≤ f + x ∧ f + x < 256 := by
    intro x x0 x1
    rcases hw.cases with rfl | rfl | rfl | rfl | rfl | rfl | rfl | rfl <;> simp [fullI] at h3 x1 <;> omega
  have := fullI_pos w
  intro x hx
  unfold encP at hx
  split at hx
  · obtain rfl := List.mem_singleton.1 hx; exact key n h4 (by omega)
  · rcases List.mem_cons.1 hx with rfl | hx
    · exact key _ (by omega) (by omega)
    · exact grp_bts _ x hx

/-- what groups add to a number: it, and how many there were; or the fault, and its place behind the first group -/
def addG : List Int → Nat → Int → Sum (Int × Nat) (Int × Nat)
  | [], i, _ => .inr (3, i)
  | c :: cs, i, n => if i = 9 ∨ (4611686018427387903 - n) / ((128 ^ i : Nat) : Int) < c % 128 then .inr (5, i) else
      if c < 128 then .inl (n + c % 128 * ((128 ^ i : Nat) : Int), i + 1) else addG cs (i + 1) (n + c % 128 * ((128 ^ i : Nat) : Int))
theorem addG_room {n c : Int} {i : Nat} (h : ¬ (4611686018427387903 - n) / ((128 ^ i : Nat) : Int) < c % 128) : n + c % 128 * ((128 ^ i : Nat) : Int) ≤ 4611686018427387903 := by
  have hp : (0 : Int) < ((128 ^ i : Nat) : Int) := by
    have : 0 < 128 ^ i := Nat.pow_pos (by decide)
    omega
  have h1 : c % 128 ≤ (4611686018427387903 - n) / ((128 ^ i : Nat) : Int) := by omega
  have h2 := (Int.le_ediv_iff_mul_le hp).1 h1
  omega
theorem addG_grp : ∀ (m i : Nat) (n : Int) (zs : List Int), 0 ≤ n → n + (m : Int) * ((128 ^ i : Nat) : Int) ≤ 4611686018427387903 → (i = 0 ∨ 1 ≤ m) →
    addG (grp m ++ zs) i n = .inl (n + (m : Int) * ((128 ^ i : Nat) : Int), i + (grp m).length) := by
  intro m
  induction m using Nat.strongRecOn with
  | ind m ih =>
    intro i n zs h0 h1 h2
    have hp : (0 : Int) < ((128 ^ i : Nat) : Int) := by
      have : 0 < 128 ^ i := Nat.pow_pos (by decide)
      omega
    have hi : i ≠ 9 := by
      rintro rfl
      have hm : (1 : Int) ≤ m := by omega
      have : (1 : Int) * ((128 ^ 9 : Nat) : Int) ≤ (m : Int) * ((128 ^ 9 : Nat) : Int) := Int.mul_le_mul_of_nonneg_right hm (by omega)
      have e : ((128 ^ 9 : Nat) : Int) = 9223372036854775808 := by decide
      rw [e] at this h1
      omega
    by_cases h : m < 128
    · rw [grp_lt h]
      have hc : (m : Int) % 128 = m := by omega
      have hr : ¬ (4611686018427387903 - n) / ((128 ^ i : Nat) : Int) < (m : Int) := by
        have : (m : Int) ≤ (4611686018427387903 - n) / ((128 ^ i : Nat) : Int) := (Int.le_ediv_iff_mul_le hp).2 (by omega)
        omega
      rw [List.cons_append, List.nil_append, addG, hc, if_neg (by rintro (h | h) <;> contradiction), if_pos (by omega)]
      simp
    · rw [grp_ge h]
      have hc : ((128 + m % 128 : Nat) : Int) % 128 = ((m % 128 : Nat) : Int) := by omega
      have hm : m % 128 + m / 128 * 128 = m := by omega
      have hmi : ((m % 128 : Nat) : Int) + ((m / 128 : Nat) : Int) * 128 = (m : Int) := by exact_mod_cast hm
      have hs : (m : Int) * ((128 ^ i : Nat) : Int) = ((m % 128 : Nat) : Int) * ((128 ^ i : Nat) : Int) + ((m / 128 : Nat) : Int) * ((128 ^ (i + 1) : Nat) : Int) := by
        rw [← hmi, Int.add_mul, Nat.pow_succ, Int.natCast_mul, Int.mul_assoc, Int.mul_comm (128 : Int)]; simp
      have hle : ((m % 128 : Nat) : Int) * ((128 ^ i : Nat) : Int) ≤ (m : Int) * ((128 ^ i : Nat) : Int) := Int.mul_le_mul_of_nonneg_right (by omega) (by omega)
      have hr : ¬ (4611686018427387903 - n) / ((128 ^ i : Nat) : Int) < ((m % 128 : Nat) : Int) := by
        have : ((m % 128 : Nat) : Int) ≤ (4611686018427387903 - n) / ((128 ^ i : Nat) : Int) := (Int.le_ediv_iff_mul_le hp).2 (by omega)
        omega
      have h00 : 0 ≤ ((m % 128 : Nat) : Int) * ((128 ^ i : Nat) : Int) := Int.mul_nonneg (by omega) (by omega)
      rw [List.cons_append, addG, hc, if_neg (by rintro (h | h) <;> contradiction), if_neg (by omega), ih (m / 128) (by omega) (i + 1) _ zs (by omega) (by omega) (.inr (by omega)), List.length_cons, hs]
      congr 2 <;> omega
/-- how far it grows -/
theorem addG_up : ∀ (cs : List Int) (i : Nat) (n n' : Int) (j : Nat), addG cs i n = .inl (n', j) → n ≤ 4611686018427387903 → i < j ∧ j ≤ i + cs.length ∧ n ≤ n' ∧ n' ≤ 4611686018427387903 ∧ n' - n < ((128 ^ j : Nat) : Int) - ((128 ^ i : Nat) : Int) + 1 := by
  intro cs
  induction cs with
  | nil => intro i n n' j h; simp [addG] at h
  | cons c cs ih =>
    intro i n n' j h hn
    have hp : (0 : Int) < ((128 ^ i : Nat) : Int) := by
      have : 0 < 128 ^ i := Nat.pow_pos (by decide)
      omega
    have hps : ((128 ^ (i + 1) : Nat) : Int) = ((128 ^ i : Nat) : Int) * 128 := by rw [Nat.pow_succ]; simp
    have c0 : 0 ≤ c % 128 := by omega
    have c1 : c % 128 ≤ 127 := by omega
    have m0 : 0 ≤ c % 128 * ((128 ^ i : Nat) : Int) := Int.mul_nonneg c0 (by omega)
    have m1 : c % 128 * ((128 ^ i : Nat) : Int) ≤ 127 * ((128 ^ i : Nat) : Int) := Int.mul_le_mul_of_nonneg_right c1 (by omega)
    rw [addG] at h
    split at h
    · cases h
    · rename_i hno
      have hroom := addG_room (n := n) (c := c) (i := i) (fun hh => hno (.inr hh))
      split at h
      · simp only [Sum.inl.injEq, Prod.mk.injEq] at h
        obtain ⟨rfl, rfl⟩ := h
        rw [hps]
        refine ⟨by omega, by rw [List.length_cons]; omega, by omega, hroom, by omega⟩
      · obtain ⟨a1, a2, a3, a4, a5⟩ := ih _ _ _ _ h hroom
        rw [hps] at a5
        refine ⟨by omega, by rw [List.length_cons]; omega, by omega, a4, by omega⟩

/-- WHAT Get ANSWERS: flags, number, next, and the fault -/
def getP (xs : List Int) (a w : Int) : Int × Int × Int × Int × Int :=
  if a < 0 ∨ (xs.length : Int) < a ∨ ¬ IsW w then (0, 0, 0, 1, a) else
  if a = xs.length then (0, 0, 0, 3, xs.length) else
  let c := xs.getD a.toNat 0
  let m := c % (fullI w + 1)
  if m < fullI w then (c - m, m, a + 1, 0, 0) else
  match addG (xs.drop (a.toNat + 1)) 0 m with
  | .inl (n, j) => (c - m, n, a + 1 + (j : Int), 0, 0)
  | .inr (y, j) => (0, 0, 0, y, a + 1 + (j : Int))
end Go.Proofs.Ytnjgnbdloeadgaa
