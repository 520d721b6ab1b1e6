/- Layer 14, out of layer L11's text PiM. -/
/- Layer 14, out of layer L11's text PiA. -/
/- Layer 14, out of layer L11's text PiB. -/
/- Layer 14, out of layer L11's text PiC. -/
/- Layer 14, out of layer L11's text PiD. -/
/- Layer 14, out of layer L11's text PiE. -/
/- Layer 14, out of layer L11's text PiF. -/
/- Layer 14, out of layer L11's text PiG. -/
/- Layer 14, out of layer L11's text PiH. -/
/- Layer 14, out of layer L11's text PiI. -/
/- Layer 14, out of layer L11's text PiJ. -/
/- Layer 14, out of layer L11's text PiL. -/
/- Layer 14, out of layer L11's text PiN. -/
import Derived.Test.YtbkbabaoockigaaGreatDoorPk0
import Derived.Lib.Hide
import Derived.Lib.BitFns
import Derived.Deep.RegionHeld3
import Derived.StillTailTactics
set_option maxRecDepth 100000
namespace Go.Proofs.YtbkbabaoockigaaGreatDoor
open Go.RowKit

theorem wrap_small (x : Int) (h0 : 0 ≤ x) (h1 : x ≤ 9223372036854775807) : IntKind.i64.wrap x = x := by
  rw [IntKind.wrap_i64]; omega

theorem and_mask (n : Int) (m k : Nat) (hk : 2 ^ k - 1 = m) (hm : m < 4294967296) :
    bits .and .i64 n (m : Int) = n % ((2 ^ k : Nat) : Int) := by
  show IntKind.i64.wrap (((BitVec.ofInt 64 n) &&& (BitVec.ofInt 64 (m : Int))).toNat : Int) = _
  have e1 : ((BitVec.ofInt 64 n) &&& (BitVec.ofInt 64 (m : Int))).toNat = (BitVec.ofInt 64 n).toNat % 2 ^ k := by
    rw [BitVec.toNat_and]
    have : (BitVec.ofInt 64 (m : Int)).toNat = 2 ^ k - 1 := by
      rw [BitVec.toNat_ofInt]; omega
    rw [this, Nat.and_two_pow_sub_one_eq_mod]
  rw [e1, BitVec.toNat_ofInt]
  have hp : 2 ^ k = m + 1 := by
    have : 0 < 2 ^ k := Nat.pow_pos (by decide)
    omega
  have hd : 2 ^ k ∣ 18446744073709551616 := by
    have : k ≤ 64 := by
      by_cases h : k ≤ 64
      · exact h
      · have : 2 ^ 64 ≤ 2 ^ k := Nat.pow_le_pow_right (by decide) (by omega)
        omega
    have e : (18446744073709551616 : Nat) = 2 ^ 64 := by decide
    rw [e]; exact Nat.pow_dvd_pow 2 this
  have hb : (n % 18446744073709551616).toNat % 2 ^ k < 2 ^ k := Nat.mod_lt _ (by omega)
  have e2 : (((n % 18446744073709551616).toNat % 2 ^ k : Nat) : Int) = n % ((2 ^ k : Nat) : Int) := by
    rw [Int.natCast_emod, Int.toNat_of_nonneg (by omega)]
    exact Int.emod_emod_of_dvd n (show ((2 ^ k : Nat) : Int) ∣ ((18446744073709551616 : Nat) : Int) from Int.natCast_dvd_natCast.mpr hd)
  show IntKind.i64.wrap (((n % 18446744073709551616).toNat % 2 ^ k : Nat) : Int) = _
  rw [wrap_small _ (by omega) (by omega), e2]
theorem low7 (n : Int) : bits .and .i64 n 127 = n % 128 := and_mask n 127 7 (by decide) (by decide)

/-- a width -/
def IsW (w : Int) : Prop := 1 ≤ w ∧ w ≤ 8
instance (w : Int) : Decidable (IsW w) := inferInstanceAs (Decidable (_ ∧ _))
theorem IsW.cases {w : Int} (h : IsW w) : w = 1 ∨ w = 2 ∨ w = 3 ∨ w = 4 ∨ w = 5 ∨ w = 6 ∨ w = 7 ∨ w = 8 := by unfold IsW at h; omega
/-- the first number that has no room in so many bits -/
def fullI (w : Int) : Int := if w = 1 then 1 else if w = 2 then 3 else if w = 3 then 7 else if w = 4 then 15 else if w = 5 then 31 else if w = 6 then 63 else if w = 7 then 127 else 255
theorem fullI_pos (w : Int) : 1 ≤ fullI w := by unfold fullI; repeat' split <;> omega
theorem fullI_le (w : Int) : fullI w ≤ 255 := by unfold fullI; repeat' split <;> omega
theorem fullI_up {w : Int} (h : IsW w) (h' : IsW (w + 1)) : fullI w ≤ fullI (w + 1) := by
  unfold IsW at h h'; unfold fullI; repeat' split <;> omega
/-- what may be put -/
def OkP (f w n : Int) : Prop := IsW w ∧ (0 ≤ f ∧ f ≤ 255 ∧ f % (fullI w + 1) = 0) ∧ 0 ≤ n ∧ n ≤ 4611686018427387903
instance (f w n : Int) : Decidable (OkP f w n) := inferInstanceAs (Decidable (_ ∧ _))
def OkS (w n : Int) : Prop := IsW w ∧ 0 ≤ n ∧ n ≤ 4611686018427387903
instance (w n : Int) : Decidable (OkS w n) := inferInstanceAs (Decidable (_ ∧ _))
def OkF (f w : Int) : Prop := 0 ≤ f ∧ f ≤ 255 ∧ f % (fullI w + 1) = 0
instance (f w : Int) : Decidable (OkF f w) := inferInstanceAs (Decidable (_ ∧ _))
theorem okP_iff (f w n : Int) : OkP f w n ↔ OkS w n ∧ OkF f w := by unfold OkP OkS OkF; constructor <;> (intro h; obtain ⟨a, b⟩ := h; constructor <;> simp_all)

/-- the groups of a number -/
def grp (m : Nat) : List Int := if m < 128 then [(m : Int)] else ((128 + m % 128 : Nat) : Int) :: grp (m / 128)
termination_by m
decreasing_by omega
theorem grp_lt {m : Nat} (h : m < 128) : grp m = [(m : Int)] := by rw [grp, if_pos h]
theorem grp_ge {m : Nat} (h : ¬ m < 128) : grp m = ((128 + m % 128 : Nat) : Int) :: grp (m / 128) := by rw [grp, if_neg h]
theorem grp_pos (m : Nat) : 1 ≤ (grp m).length := by
  rw [grp]; split <;> simp
theorem grp_bts : ∀ m : Nat, Bts (grp m) := by
  intro m
  induction m using Nat.strongRecOn with
  | ind m ih =>
    intro x hx
    by_cases h : m < 128
    · rw [grp_lt h] at hx; simp at hx; omega
    · rw [grp_ge h] at hx
      rcases List.mem_cons.1 hx with rfl | hx
      · omega
      · exact ih _ (by omega) x hx
theorem grp_len_le : ∀ (k m : Nat), m < 128 ^ k → 1 ≤ k → (grp m).length ≤ k := by
  intro k
  induction k with
  | zero => intro m _ h; omega
  | succ k ih =>
    intro m hm _
    by_cases h : m < 128
    · rw [grp_lt h]; simp
    · rw [grp_ge h, List.length_cons]
      have : m / 128 < 128 ^ k := by rw [Nat.pow_succ] at hm; omega
      have k1 : 1 ≤ k := by
        cases k with
        | zero => simp at this; omega
        | succ k => omega
      have := ih _ this k1
      omega
theorem grp_len_ge : ∀ (k m : Nat), 128 ^ k ≤ m → k + 1 ≤ (grp m).length := by
  intro k
  induction k with
  | zero => intro m _; exact grp_pos m
  | succ k ih =>
    intro m hm
    have h128 : 128 ≤ m := by
      have : 128 ^ 1 ≤ 128 ^ (k + 1) := Nat.pow_le_pow_right (by decide) (by omega)
      omega
    rw [grp_ge (by omega), List.length_cons]
    have : 128 ^ k ≤ m / 128 := by rw [Nat.pow_succ] at hm; omega
    have := ih _ this
    omega
theorem grp_mono {a b : Nat} (h : a ≤ b) : (grp a).length ≤ (grp b).length := by
  induction b using Nat.strongRecOn generalizing a with
  | ind b ih =>
    by_cases ha : a < 128
    · rw [grp_lt ha]; exact grp_pos b
    · rw [grp_ge ha, grp_ge (show ¬ b < 128 by omega), List.length_cons, List.length_cons]
      have := ih (b / 128) (by omega) (a := a / 128) (by omega)
      omega
/-- the group at a place -/
theorem grp_get : ∀ (k m : Nat), k < (grp m).length → (grp m).getD k 0 = if m / 128 ^ k < 128 then ((m / 128 ^ k : Nat) : Int) else ((128 + m / 128 ^ k % 128 : Nat) : Int) := by
  intro k
  induction k with
  | zero =>
    intro m _
    by_cases h : m < 128
    · rw [grp_lt h]; simp [h]
    · rw [grp_ge h]; simp [h]
  | succ k ih =>
    intro m hk
    by_cases h : m < 128
    · rw [grp_lt h] at hk; simp at hk
    · rw [grp_ge h] at hk ⊢
      have := ih (m / 128) (by simpa using hk)
      rw [List.getD_cons_succ, this, Nat.div_div_eq_div_mul, ← Nat.pow_succ']
theorem grp_len9 {m : Nat} (h : m ≤ 4611686018427387903) : (grp m).length ≤ 9 := grp_len_le 9 m (by
  have : 4611686018427387903 < 128 ^ 9 := by decide
  omega) (by decide)

/-- a number's bytes -/
def encP (f w n : Int) : List Int := if n < fullI w then [f + n] else (f + fullI w) :: grp (n - fullI w).toNat
def sizeN (w n : Int) : Nat := (encP 0 w n).length
def sizeP (w n : Int) : Int := if OkS w n then (sizeN w n : Int) else 0
theorem encP_len (f w n : Int) : (encP f w n).length = sizeN w n := by unfold sizeN encP; split <;> simp
theorem sizeN_lt {w n : Int} (h : n < fullI w) : sizeN w n = 1 := by unfold sizeN encP; rw [if_pos h]; rfl
theorem sizeN_ge {w n : Int} (h : ¬ n < fullI w) : sizeN w n = 1 + (grp (n - fullI w).toNat).length := by unfold sizeN encP; rw [if_neg h, List.length_cons]; omega
theorem sizeN_pos (w n : Int) : 1 ≤ sizeN w n := by unfold sizeN encP; split <;> simp
theorem sizeN_le {w n : Int} (h : n ≤ 4611686018427387903) : sizeN w n ≤ 10 := by
  have := fullI_pos w
  by_cases h1 : n < fullI w
  · rw [sizeN_lt h1]; omega
  · rw [sizeN_ge h1]
    have := grp_len9 (m := (n - fullI w).toNat) (by omega)
    omega
theorem sizeN_mono {w n m : Int} (h : n ≤ m) : sizeN w n ≤ sizeN w m := by
  by_cases h1 : n < fullI w
  · rw [sizeN_lt h1]; exact sizeN_pos w m
  · rw [sizeN_ge h1, sizeN_ge (by omega)]
    have := grp_mono (a := (n - fullI w).toNat) (b := (m - fullI w).toNat) (by omega)
    omega
theorem sizeN_wider {w n : Int} (h : IsW w) (h' : IsW (w + 1)) : sizeN (w + 1) n ≤ sizeN w n := by
  have hf := fullI_up h h'
  by_cases h1 : n < fullI (w + 1)
  · rw [sizeN_lt h1]; exact sizeN_pos w n
  · rw [sizeN_ge h1, sizeN_ge (by omega)]
    have := grp_mono (a := (n - fullI (w + 1)).toNat) (b := (n - fullI w).toNat) (by omega)
    omega
theorem encP_bts {f w n : Int} (h : OkP f w n) : Bts (encP f w n) := by
  obtain ⟨hw, ⟨h1, h2, h3⟩, h4, h5⟩ := h
  have key : ∀ x, 0 ≤ x → x ≤ fullI w → 0 ≤ f + x ∧ f + x < 256 := by
    intro x x0 x1
    rcases hw.cases with rfl | rfl | rfl | rfl | rfl | rfl | rfl | rfl <;> simp [fullI] at h3 x1 <;> omega
  have := fullI_pos w
  intro x hx
  unfold encP at hx
  split at hx
  · obtain rfl := List.mem_singleton.1 hx; exact key n h4 (by omega)
  · rcases List.mem_cons.1 hx with rfl | hx
    · exact key _ (by omega) (by omega)
    · exact grp_bts _ x hx

/-- what groups add to a number: it, and how many there were; or the fault, and its place behind the first group -/
def addG : List Int → Nat → Int → Sum (Int × Nat) (Int × Nat)
  | [], i, _ => .inr (3, i)
  | c :: cs, i, n => if i = 9 ∨ (4611686018427387903 - n) / ((128 ^ i : Nat) : Int) < c % 128 then .inr (5, i) else
      if c < 128 then .inl (n + c % 128 * ((128 ^ i : Nat) : Int), i + 1) else addG cs (i + 1) (n + c % 128 * ((128 ^ i : Nat) : Int))
theorem addG_room {n c : Int} {i : Nat} (h : ¬ (4611686018427387903 - n) / ((128 ^ i : Nat) : Int) < c % 128) : n + c % 128 * ((128 ^ i : Nat) : Int) ≤ 4611686018427387903 := by
  have hp : (0 : Int) < ((128 ^ i : Nat) : Int) := by
    have : 0 < 128 ^ i := Nat.pow_pos (by decide)
    omega
  have h1 : c % 128 ≤ (4611686018427387903 - n) / ((128 ^ i : Nat) : Int) := by omega
  have h2 := (Int.le_ediv_iff_mul_le hp).1 h1
  omega
theorem addG_grp : ∀ (m i : Nat) (n : Int) (zs : List Int), 0 ≤ n → n + (m : Int) * ((128 ^ i : Nat) : Int) ≤ 4611686018427387903 → (i = 0 ∨ 1 ≤ m) →
    addG (grp m ++ zs) i n = .inl (n + (m : Int) * ((128 ^ i : Nat) : Int), i + (grp m).length) := by
  intro m
  induction m using Nat.strongRecOn with
  | ind m ih =>
    intro i n zs h0 h1 h2
    have hp : (0 : Int) < ((128 ^ i : Nat) : Int) := by
      have : 0 < 128 ^ i := Nat.pow_pos (by decide)
      omega
    have hi : i ≠ 9 := by
      rintro rfl
      have hm : (1 : Int) ≤ m := by omega
      have : (1 : Int) * ((128 ^ 9 : Nat) : Int) ≤ (m : Int) * ((128 ^ 9 : Nat) : Int) := Int.mul_le_mul_of_nonneg_right hm (by omega)
      have e : ((128 ^ 9 : Nat) : Int) = 9223372036854775808 := by decide
      rw [e] at this h1
      omega
    by_cases h : m < 128
    · rw [grp_lt h]
      have hc : (m : Int) % 128 = m := by omega
      have hr : ¬ (4611686018427387903 - n) / ((128 ^ i : Nat) : Int) < (m : Int) := by
        have : (m : Int) ≤ (4611686018427387903 - n) / ((128 ^ i : Nat) : Int) := (Int.le_ediv_iff_mul_le hp).2 (by omega)
        omega
      rw [List.cons_append, List.nil_append, addG, hc, if_neg (by rintro (h | h) <;> contradiction), if_pos (by omega)]
      simp
    · rw [grp_ge h]
      have hc : ((128 + m % 128 : Nat) : Int) % 128 = ((m % 128 : Nat) : Int) := by omega
      have hm : m % 128 + m / 128 * 128 = m := by omega
      have hmi : ((m % 128 : Nat) : Int) + ((m / 128 : Nat) : Int) * 128 = (m : Int) := by exact_mod_cast hm
      have hs : (m : Int) * ((128 ^ i : Nat) : Int) = ((m % 128 : Nat) : Int) * ((128 ^ i : Nat) : Int) + ((m / 128 : Nat) : Int) * ((128 ^ (i + 1) : Nat) : Int) := by
        rw [← hmi, Int.add_mul, Nat.pow_succ, Int.natCast_mul, Int.mul_assoc, Int.mul_comm (128 : Int)]; simp
      have hle : ((m % 128 : Nat) : Int) * ((128 ^ i : Nat) : Int) ≤ (m : Int) * ((128 ^ i : Nat) : Int) := Int.mul_le_mul_of_nonneg_right (by omega) (by omega)
      have hr : ¬ (4611686018427387903 - n) / ((128 ^ i : Nat) : Int) < ((m % 128 : Nat) : Int) := by
        have : ((m % 128 : Nat) : Int) ≤ (4611686018427387903 - n) / ((128 ^ i : Nat) : Int) := (Int.le_ediv_iff_mul_le hp).2 (by omega)
        omega
      have h00 : 0 ≤ ((m % 128 : Nat) : Int) * ((128 ^ i : Nat) : Int) := Int.mul_nonneg (by omega) (by omega)
      rw [List.cons_append, addG, hc, if_neg (by rintro (h | h) <;> contradiction), if_neg (by omega), ih (m / 128) (by omega) (i + 1) _ zs (by omega) (by omega) (.inr (by omega)), List.length_cons, hs]
      congr 2 <;> omega
/-- how far it grows -/
theorem addG_up : ∀ (cs : List Int) (i : Nat) (n n' : Int) (j : Nat), addG cs i n = .inl (n', j) → n ≤ 4611686018427387903 → i < j ∧ j ≤ i + cs.length ∧ n ≤ n' ∧ n' ≤ 4611686018427387903 ∧ n' - n < ((128 ^ j : Nat) : Int) - ((128 ^ i : Nat) : Int) + 1 := by
  intro cs
  induction cs with
  | nil => intro i n n' j h; simp [addG] at h
  | cons c cs ih =>
    intro i n n' j h hn
    have hp : (0 : Int) < ((128 ^ i : Nat) : Int) := by
      have : 0 < 128 ^ i := Nat.pow_pos (by decide)
      omega
    have hps : ((128 ^ (i + 1) : Nat) : Int) = ((128 ^ i : Nat) : Int) * 128 := by rw [Nat.pow_succ]; simp
    have c0 : 0 ≤ c % 128 := by omega
    have c1 : c % 128 ≤ 127 := by omega
    have m0 : 0 ≤ c % 128 * ((128 ^ i : Nat) : Int) := Int.mul_nonneg c0 (by omega)
    have m1 : c % 128 * ((128 ^ i : Nat) : Int) ≤ 127 * ((128 ^ i : Nat) : Int) := Int.mul_le_mul_of_nonneg_right c1 (by omega)
    rw [addG] at h
    split at h
    · cases h
    · rename_i hno
      have hroom := addG_room (n := n) (c := c) (i := i) (fun hh => hno (.inr hh))
      split at h
      · simp only [Sum.inl.injEq, Prod.mk.injEq] at h
        obtain ⟨rfl, rfl⟩ := h
        rw [hps]
        refine ⟨by omega, by rw [List.length_cons]; omega, by omega, hroom, by omega⟩
      · obtain ⟨a1, a2, a3, a4, a5⟩ := ih _ _ _ _ h hroom
        rw [hps] at a5
        refine ⟨by omega, by rw [List.length_cons]; omega, by omega, a4, by omega⟩

/-- WHAT Get ANSWERS: flags, number, next, and the fault -/
def getP (xs : List Int) (a w : Int) : Int × Int × Int × Int × Int :=
  if a < 0 ∨ (xs.length : Int) < a ∨ ¬ IsW w then (0, 0, 0, 1, a) else
  if a = xs.length then (0, 0, 0, 3, xs.length) else
  let c := xs.getD a.toNat 0
  let m := c % (fullI w + 1)
  if m < fullI w then (c - m, m, a + 1, 0, 0) else
  match addG (xs.drop (a.toNat + 1)) 0 m with
  | .inl (n, j) => (c - m, n, a + 1 + (j : Int), 0, 0)
  | .inr (y, j) => (0, 0, 0, y, a + 1 + (j : Int))
end Go.Proofs.YtbkbabaoockigaaGreatDoor

set_option maxRecDepth 100000
set_option maxRecDepth 100000
namespace Go.Proofs.YtbkbabaoockigaaGreatDoor
open Go.RowKit

theorem isW_any (k : Int) (w : World) : Calls Tryz.prog 98 #[.int .i64 k] w fun e w' => e = .returned (.bool (decide (IsW k))) ∧ w = w' := by
  by_cases h0 : 1 ≤ k
  · have d0 : decide (k ≥ 1) = true := decide_eq_true h0
    by_cases h1 : k ≤ 8
    · have e : decide (IsW k) = true := by simp [IsW, h0, h1]
      have d1 : decide (k ≤ 8) = true := decide_eq_true h1
      rw [e]; clear e h0 h1
      go_enter Tryz.func98, Tryz.ntmps98
      go_wp2
      go_ret
      exact ⟨rfl, rfl⟩
    · have e : decide (IsW k) = false := by simp [IsW, h1]
      have d1 : decide (k ≤ 8) = false := decide_eq_false h1
      rw [e]; clear e h0 h1
      go_enter Tryz.func98, Tryz.ntmps98
      go_wp2
      go_ret
      exact ⟨rfl, rfl⟩
  · have e : decide (IsW k) = false := by simp [IsW, h0]
    have d0 : decide (k ≥ 1) = false := decide_eq_false h0
    rw [e]; clear e h0
    go_enter Tryz.func98, Tryz.ntmps98
    go_wp2
    go_ret
    exact ⟨rfl, rfl⟩

theorem rwidth_any (k : Int) (w : World) : Calls Tryz.prog 69 #[.int .i64 k] w fun e w' => e = .returned (.bool (decide (IsW k))) ∧ w = w' := by
  by_cases h0 : 1 ≤ k
  · have d0 : decide (k ≥ 1) = true := decide_eq_true h0
    by_cases h1 : k ≤ 8
    · have e : decide (IsW k) = true := by simp [IsW, h0, h1]
      have d1 : decide (k ≤ 8) = true := decide_eq_true h1
      rw [e]; clear e h0 h1
      go_enter Tryz.func69, Tryz.ntmps69
      go_wp2
      go_ret
      exact ⟨rfl, rfl⟩
    · have e : decide (IsW k) = false := by simp [IsW, h1]
      have d1 : decide (k ≤ 8) = false := decide_eq_false h1
      rw [e]; clear e h0 h1
      go_enter Tryz.func69, Tryz.ntmps69
      go_wp2
      go_ret
      exact ⟨rfl, rfl⟩
  · have e : decide (IsW k) = false := by simp [IsW, h0]
    have d0 : decide (k ≥ 1) = false := decide_eq_false h0
    rw [e]; clear e h0
    go_enter Tryz.func69, Tryz.ntmps69
    go_wp2
    go_ret
    exact ⟨rfl, rfl⟩

theorem ones_any11 (k : Int) (w : World) (hk : IsW k) : Calls Tryz.prog 74 #[.int .i64 k] w fun e w' => e = .returned (.int .i64 (fullI k)) ∧ w = w' := by
  rcases hk.cases with rfl | rfl | rfl | rfl | rfl | rfl | rfl | rfl
  all_goals
    go_enter Tryz.func74, Tryz.ntmps74
    go_wp2
    go_ret
    exact ⟨rfl, rfl⟩

theorem flags_and (k f : Int) (hk : IsW k) : bits .and .i64 f (fullI k) = f % (fullI k + 1) := by
  rcases hk.cases with rfl | rfl | rfl | rfl | rfl | rfl | rfl | rfl
  · exact and_mask f 1 1 (by decide) (by decide)
  · exact and_mask f 3 2 (by decide) (by decide)
  · exact and_mask f 7 3 (by decide) (by decide)
  · exact and_mask f 15 4 (by decide) (by decide)
  · exact and_mask f 31 5 (by decide) (by decide)
  · exact and_mask f 63 6 (by decide) (by decide)
  · exact and_mask f 127 7 (by decide) (by decide)
  · exact and_mask f 255 8 (by decide) (by decide)

theorem areFlags_any (f k : Int) (w : World) (hk : IsW k) : Calls Tryz.prog 73 #[.int .i64 f, .int .i64 k] w fun e w' => e = .returned (.bool (decide (OkF f k))) ∧ w = w' := by
  by_cases h0 : 0 ≤ f
  · have d0 : decide (f ≥ 0) = true := decide_eq_true h0
    by_cases h1 : f ≤ 255
    · have d1 : decide (f ≤ 255) = true := decide_eq_true h1
      have a := flags_and k f hk
      by_cases h2 : f % (fullI k + 1) = 0
      · have e : decide (OkF f k) = true := decide_eq_true ⟨h0, h1, h2⟩
        have d2 : (bits .and .i64 f (fullI k) == 0) = true := by rw [a, h2]; rfl
        rw [e]; clear e h0 h1 h2 a
        go_enter Tryz.func73, Tryz.ntmps73
        go_wp2_with (go_at_call 74; refine (ones_any11 k _ hk).mono ?_; rintro e w' ⟨rfl, rfl⟩)
        go_ret
        exact ⟨rfl, rfl⟩
      · have e : decide (OkF f k) = false := decide_eq_false fun h => h2 h.2.2
        have d2 : (bits .and .i64 f (fullI k) == 0) = false := by rw [a]; simp [h2]
        rw [e]; clear e h0 h1 h2 a
        go_enter Tryz.func73, Tryz.ntmps73
        go_wp2_with (go_at_call 74; refine (ones_any11 k _ hk).mono ?_; rintro e w' ⟨rfl, rfl⟩)
        go_ret
        exact ⟨rfl, rfl⟩
    · have e : decide (OkF f k) = false := decide_eq_false fun h => h1 h.2.1
      have d1 : decide (f ≤ 255) = false := decide_eq_false h1
      rw [e]; clear e h0 h1
      go_enter Tryz.func73, Tryz.ntmps73
      go_wp2
      go_ret
      exact ⟨rfl, rfl⟩
  · have e : decide (OkF f k) = false := decide_eq_false fun h => h0 h.1
    have d0 : decide (f ≥ 0) = false := decide_eq_false h0
    rw [e]; clear e h0
    go_enter Tryz.func73, Tryz.ntmps73
    go_wp2
    go_ret
    exact ⟨rfl, rfl⟩

theorem tab_size : Lib.len8tab.size = 256 := by decide +kernel
theorem tab_at : ∀ n : Fin 256, Lib.len8tab[n.val]!.toNat = Lib.bitLen n.val := by decide +kernel
theorem tab_le : ∀ n : Fin 256, Lib.bitLen n.val ≤ 8 := by decide +kernel
theorem tab_of (y : Int) (h0 : 0 ≤ y) (h1 : y < 256) (h : y.toNat < Lib.len8tab.size) : Lib.len8tab[y.toNat].toNat = Lib.bitLen y.toNat := by
  have := tab_at ⟨y.toNat, by omega⟩
  simp only [getElem!_pos, h] at this
  exact this
theorem bits_at (x : Int) (k : Nat) (d : Int) (hd : d = ((2 ^ k : Nat) : Int)) (hk : k = 0 ∨ d ≤ x) (h0 : 0 ≤ x) (h1 : x ≤ 18446744073709551615) (y : Int) (hy : y = x / d) (hb : y < 256) (hs : k ≤ 56) (hl : y.toNat < Lib.len8tab.size) :
    wrap64 ((k : Int) + wrap64 ((Lib.len8tab[y.toNat].toNat : Nat) : Int)) = Lib.bitLen x.toNat := by
  have hp : 0 < 2 ^ k := Nat.pow_pos (by decide)
  obtain ⟨m, rfl⟩ := Int.eq_ofNat_of_zero_le h0
  subst hd
  have e : Lib.bitLen m = k + Lib.bitLen (m / 2 ^ k) := by
    rcases hk with rfl | hk
    · simp
    · exact Lib.bitLen_shift k m (by omega) (by omega)
  rw [← Int.natCast_ediv] at hy
  subst hy
  have hb' : m / 2 ^ k < 256 := by exact_mod_cast hb
  rw [tab_of _ (Int.natCast_nonneg _) hb hl, Int.toNat_natCast, Int.toNat_natCast, e]
  have := tab_le ⟨m / 2 ^ k, hb'⟩
  simp only [wrap64] at *
  generalize Lib.bitLen (m / 2 ^ k) = q at *
  clear hb hb' hk h1 h0 e hl
  omega
theorem bits_at0 (x : Int) (h0 : 0 ≤ x) (hb : x < 256) (hl : x.toNat < Lib.len8tab.size) : wrap64 (wrap64 ((Lib.len8tab[x.toNat].toNat : Nat) : Int)) = Lib.bitLen x.toNat := by
  rw [tab_of _ h0 hb hl]
  have := tab_le ⟨x.toNat, by omega⟩
  simp only [wrap64] at *
  omega
set_option maxHeartbeats 1000000 in
theorem len64_any (x : Int) (w : World) (h0 : 0 ≤ x) (h1 : x ≤ 18446744073709551615) :
    Calls Tryz.prog 121 #[.int .u64 x] w fun e w' => e = .returned (.int .i64 (Lib.bitLen x.toNat)) ∧ w = w' := by
  go_enter Tryz.func121, Tryz.ntmps121
  go_wp2
  all_goals first
    | (exfalso; have := tab_size; omega)
    | (go_ret; refine ⟨ret_int ?_, rfl⟩)
  · exact bits_at x 56 72057594037927936 (by decide) (.inr (by omega)) h0 h1 _ (by omega) (by omega) (by decide) _
  · exact bits_at x 48 281474976710656 (by decide) (.inr (by omega)) h0 h1 _ (by omega) (by omega) (by decide) _
  · exact bits_at x 40 1099511627776 (by decide) (.inr (by omega)) h0 h1 _ (by omega) (by omega) (by decide) _
  · exact bits_at x 32 4294967296 (by decide) (.inr (by omega)) h0 h1 _ (by omega) (by omega) (by decide) _
  · exact bits_at x 24 16777216 (by decide) (.inr (by omega)) h0 h1 _ (by omega) (by omega) (by decide) _
  · exact bits_at x 16 65536 (by decide) (.inr (by omega)) h0 h1 _ (by omega) (by omega) (by decide) _
  · exact bits_at x 8 256 (by decide) (.inr (by omega)) h0 h1 _ (by omega) (by omega) (by decide) _
  · exact bits_at0 x h0 (by omega) _

theorem len_any (x : Int) (w : World) (h0 : 0 ≤ x) (h1 : x ≤ 18446744073709551615) :
    Calls Tryz.prog 99 #[.int .u64 x] w fun e w' => e = .returned (.int .i64 (Lib.bitLen x.toNat)) ∧ w = w' := by
  go_enter Tryz.func99, Tryz.ntmps99
  go_wp2_with (go_at_call 121; refine (len64_any x _ h0 h1).mono ?_; rintro e w' ⟨rfl, rfl⟩)
  go_ret
  exact ⟨rfl, rfl⟩

end Go.Proofs.YtbkbabaoockigaaGreatDoor

set_option maxRecDepth 100000
set_option maxRecDepth 100000
namespace Go.Proofs.YtbkbabaoockigaaGreatDoor
open Go.RowKit

theorem bitLen_up (m : Nat) (hm : m < 2 ^ 64) : m < 2 ^ Lib.bitLen m := by
  by_cases h : m < 2 ^ Lib.bitLen m
  · exact h
  · have hp : 0 < 2 ^ Lib.bitLen m := Nat.pow_pos (by decide)
    have h1 := Lib.bitLen_shift (Lib.bitLen m) m (by omega) hm
    have h2 : m / 2 ^ Lib.bitLen m ≠ 0 := by
      have := Nat.div_pos (show 2 ^ Lib.bitLen m ≤ m by omega) hp
      omega
    have h3 := Lib.bitLen_half (m / 2 ^ Lib.bitLen m) h2 (Nat.lt_of_le_of_lt (Nat.div_le_self _ _) hm)
    omega
theorem bitLen_low (m : Nat) (hm : m < 2 ^ 64) (h : Lib.bitLen m ≠ 0) : 2 ^ (Lib.bitLen m - 1) ≤ m := by
  by_cases h1 : m < 2 ^ (Lib.bitLen m - 1)
  · by_cases h2 : Lib.bitLen m - 1 ≤ 64
    · have := Lib.bitLen_le m (Lib.bitLen m - 1) h2 h1
      omega
    · have := Lib.bitLen_le m 64 (by decide) hm
      omega
  · omega
/-- how many groups: by how many bits -/
theorem grp_bits (m : Nat) (hm : m < 2 ^ 64) : (grp m).length = max 1 ((Lib.bitLen m + 6) / 7) := by
  have up := bitLen_up m hm
  have low := bitLen_low m hm
  generalize Lib.bitLen m = L at *
  have e : ∀ k, 128 ^ k = 2 ^ (7 * k) := fun k => by rw [show (128 : Nat) = 2 ^ 7 from rfl, ← Nat.pow_mul]
  have a : (grp m).length ≤ max 1 ((L + 6) / 7) := by
    refine grp_len_le _ m ?_ (Nat.le_max_left _ _)
    rw [e]
    exact Nat.lt_of_lt_of_le up (Nat.pow_le_pow_right (by decide) (by omega))
  by_cases h1 : (L + 6) / 7 ≤ 1
  · have := grp_pos m
    omega
  · have b := grp_len_ge ((L + 6) / 7 - 1) m (by
      rw [e]
      exact Nat.le_trans (Nat.pow_le_pow_right (by decide) (by omega)) (low (by omega)))
    omega

set_option maxHeartbeats 1000000 in
theorem size_any (k n : Int) (w : World) : Calls Tryz.prog 72 #[.int .i64 k, .int .i64 n] w fun e w' => e = .returned (.int .i64 (sizeP k n)) ∧ w = w' := by
  by_cases hk : IsW k
  · have dk : decide (IsW k) = true := decide_eq_true hk
    by_cases h0 : n < 0
    · have e : sizeP k n = 0 := if_neg fun h => by have := h.2; omega
      have d0 : decide (n < 0) = true := decide_eq_true h0
      rw [e]; clear e h0
      go_enter Tryz.func72, Tryz.ntmps72
      go_wp2_with (go_at_call 98; refine (isW_any k _).mono ?_; rintro e w' ⟨rfl, rfl⟩; rw [dk])
      go_ret
      exact ⟨rfl, rfl⟩
    · have d0 : decide (n < 0) = false := decide_eq_false h0
      by_cases h1 : n > 4611686018427387903
      · have e : sizeP k n = 0 := if_neg fun h => by have := h.2; omega
        have d1 : decide (n > 4611686018427387903) = true := decide_eq_true h1
        rw [e]; clear e h0 h1
        go_enter Tryz.func72, Tryz.ntmps72
        go_wp2_with (go_at_call 98; refine (isW_any k _).mono ?_; rintro e w' ⟨rfl, rfl⟩; rw [dk])
        go_ret
        exact ⟨rfl, rfl⟩
      · have d1 : decide (n > 4611686018427387903) = false := decide_eq_false h1
        have e : sizeP k n = (sizeN k n : Int) := if_pos ⟨hk, by omega, by omega⟩
        rw [e]; clear e
        have f0 := fullI_pos k
        have f1 := fullI_le k
        by_cases h2 : n < fullI k
        · have e : sizeN k n = 1 := sizeN_lt h2
          have d2 : decide (n < fullI k) = true := decide_eq_true h2
          rw [e]; clear e h0 h1 h2 f0 f1
          go_enter Tryz.func72, Tryz.ntmps72
          go_wp2_with (first
            | (go_at_call 98; refine (isW_any k _).mono ?_; rintro e w' ⟨rfl, rfl⟩; rw [dk])
            | (go_at_call 74; refine (ones_any11 k _ hk).mono ?_; rintro e w' ⟨rfl, rfl⟩))
          go_ret
          exact ⟨rfl, rfl⟩
        · have d2 : decide (n < fullI k) = false := decide_eq_false h2
          have hw : IntKind.i64.wrap (n - fullI k) = n - fullI k := wrap_small _ (by omega) (by omega)
          have hu : IntKind.u64.wrap (n - fullI k) = n - fullI k := by rw [IntKind.wrap_u64]; omega
          obtain ⟨L, hL⟩ : ∃ L, L = Lib.bitLen (n - fullI k).toNat := ⟨_, rfl⟩
          have hl : L ≤ 62 := by rw [hL]; exact Lib.bitLen_le _ 62 (by decide) (by omega)
          have hg := grp_bits (n - fullI k).toNat (by omega)
          have e := sizeN_ge h2
          rw [hg, ← hL] at e
          have H : Hid (∀ W : World, Calls Tryz.prog 99 #[.int .u64 (n - fullI k)] W fun e w' => e = .returned (.int .i64 L) ∧ W = w') := fun W => by
            have := len_any (n - fullI k) W (by omega) (by omega)
            rw [← hL] at this; exact this
          have e' := Lib.hid e
          clear e h0 h1 h2 f0 f1 hg hL
          go_enter Tryz.func72, Tryz.ntmps72
          go_wp2_with (first
            | (go_at_call 98; refine (isW_any k _).mono ?_; rintro e w' ⟨rfl, rfl⟩; rw [dk])
            | (go_at_call 74; refine (ones_any11 k _ hk).mono ?_; rintro e w' ⟨rfl, rfl⟩)
            | (go_at_call 99; refine (H.out _).mono ?_; rintro e w' ⟨rfl, rfl⟩))
          all_goals
            go_ret
            exact ⟨ret_int (by rw [e'.out]; omega), rfl⟩
  · have e : sizeP k n = 0 := if_neg fun h => hk h.1
    have dk : decide (IsW k) = false := decide_eq_false hk
    rw [e]; clear e
    go_enter Tryz.func72, Tryz.ntmps72
    go_wp2_with (go_at_call 98; refine (isW_any k _).mono ?_; rintro e w' ⟨rfl, rfl⟩; rw [dk])
    go_ret
    exact ⟨rfl, rfl⟩
end Go.Proofs.YtbkbabaoockigaaGreatDoor

set_option maxRecDepth 100000
set_option maxRecDepth 100000
namespace Go.Proofs.YtbkbabaoockigaaGreatDoor
open Go.RowKit

theorem or_128 : ∀ i : Fin 128, bits .or .u8 (i.val : Int) 128 = 128 + (i.val : Int) := by decide +kernel
theorem or_high (x : Int) (h0 : 0 ≤ x) (h1 : x < 128) : bits .or .u8 x 128 = 128 + x := by
  have := or_128 ⟨x.toNat, by omega⟩
  simp only [Int.toNat_of_nonneg h0] at this
  exact this

/-- what stands there behind k rounds -/
def upTo (L G : List Int) (a k : Nat) : List Int := L.take a ++ G.take k ++ L.drop (a + k)
theorem upTo_len (L G : List Int) (a k : Nat) (ha : a + k ≤ L.length) (hk : k ≤ G.length) : (upTo L G a k).length = L.length := by simp [upTo]; omega
theorem upTo_set (L G : List Int) (a k : Nat) (ha : a + k < L.length) (hk : k < G.length) : (upTo L G a k).set (a + k) (G.getD k 0) = upTo L G a (k + 1) := by
  unfold upTo
  have e : L.drop (a + k) = L.getD (a + k) 0 :: L.drop (a + (k + 1)) := by
    rw [List.drop_eq_getElem_cons ha]; simp [List.getD, List.getElem?_eq_getElem ha, Nat.add_assoc]
  rw [e, List.append_assoc, List.set_append_right _ _ (by simp; omega), List.set_append_right _ _ (by simp; omega)]
  rw [List.take_succ_eq_append_getElem hk]
  have : a + k - (L.take a).length - (G.take k).length = 0 := by simp; omega
  rw [this]
  have e2 : G.getD k 0 = G[k] := by simp [List.getD, List.getElem?_eq_getElem hk]
  rw [e2, List.set_cons_zero, List.append_assoc, List.append_assoc, List.singleton_append]

theorem putGroups_none (ad : Option Addr) (c : Nat) (rest : Int) (w : World) :
    Calls Tryz.prog 75 #[.slice ad 0 c, .int .i64 rest] w fun e w' => e = .returned (.tuple #[]) ∧ w = w' := by
  go_enter Tryz.func75, Tryz.ntmps75
  go_wp2
  refine wp_loop_rounds 1 ?_
  repeat any_goals (rw [rounds_succ]; go_wp2)
  go_end0
  exact ⟨rfl, rfl⟩

theorem grp_pow (m k : Nat) : (m : Int) / 2 ^ (7 * k) = ((m / 128 ^ k : Nat) : Int) := by
  have e : ((2 : Int) ^ (7 * k)) = ((128 ^ k : Nat) : Int) := by
    rw [Int.pow_mul]; simp
  rw [e, Int.natCast_ediv]
theorem val_high {m k : Nat} {x : Int} (hx : x = if m / 128 ^ k < 128 then ((m / 128 ^ k : Nat) : Int) else ((128 + m / 128 ^ k % 128 : Nat) : Int)) (h : 127 < (m : Int) / 2 ^ (7 * k)) :
    bits .or .u8 (bits .and .i64 ((m : Int) / 2 ^ (7 * k)) 127 % 256) 128 = x := by
  rw [grp_pow] at *
  generalize m / 128 ^ k = q at *
  rw [low7, show (q : Int) % 128 % 256 = (q : Int) % 128 by omega, or_high _ (by omega) (by omega), hx, if_neg (by omega)]
  omega
theorem val_low {m k : Nat} {x : Int} (hx : x = if m / 128 ^ k < 128 then ((m / 128 ^ k : Nat) : Int) else ((128 + m / 128 ^ k % 128 : Nat) : Int)) (h : ¬ 127 < (m : Int) / 2 ^ (7 * k)) :
    bits .and .i64 ((m : Int) / 2 ^ (7 * k)) 127 % 256 = x := by
  rw [grp_pow] at *
  generalize m / 128 ^ k = q at *
  rw [low7, hx, if_pos (by omega)]
  omega
set_option maxHeartbeats 2000000 in
theorem putGroups_any (B g a n m : Nat) (L : List Int) (w : World) (hm : m ≤ 4611686018427387903) (hown : Own .u8 5 w B (.slice (some ⟨g, 0, none⟩) n n) L) (hB : B ≤ g) (hn : L.length = a + (grp m).length) :
    Calls Tryz.prog 75 #[.slice (some ⟨g, a, none⟩) (grp m).length (grp m).length, .int .i64 m] w fun e w' => e = .returned (.tuple #[]) ∧ Own .u8 5 w' B (.slice (some ⟨g, 0, none⟩) n n) (L.take a ++ grp m) ∧ Below B w w' := by
  have hK := grp_len9 hm
  have hget := Lib.hid (fun k => grp_get k m)
  have hN := Lib.hid hn
  obtain ⟨G, hG⟩ : ∃ G, G = grp m := ⟨_, rfl⟩
  obtain ⟨K, hKe⟩ : ∃ K, K = G.length := ⟨_, rfl⟩
  rw [← hG] at hK hN hget ⊢
  rw [← hKe] at hK hN hget ⊢
  have hGL := Lib.hid hKe
  clear hKe hn hG
  have o0 : Hid (Own .u8 5 w B (.slice (some ⟨g, 0, none⟩) n n) (upTo L G a 0)) := by
    have : upTo L G a 0 = L := by simp [upTo]
    rw [this]; exact hown
  clear hown
  go_enter Tryz.func75, Tryz.ntmps75
  go_wp2_with fail
  go_loopw [8] (fun i wr => ∃ k : Nat, k ≤ K ∧ i = .int .i64 k ∧ Own .u8 5 wr B (.slice (some ⟨g, 0, none⟩) n n) (upTo L G a k) ∧ Below B w wr) (fun i _ => K - (intOf i).toNat)
  case atStart => exact ⟨0, Nat.zero_le _, rfl, o0.out, Below.refl _ _⟩
  case round =>
    obtain ⟨k, hk, rfl, ho, hb⟩ := hrel
    by_cases hlt : k < K
    · have hL1 : a + k < L.length := by rw [hN.out]; omega
      have hGk : k < G.length := by rw [← hGL.out]; exact hlt
      obtain ⟨hcell, hfr⟩ := ho.at (a + k) (by rw [upTo_len _ _ _ _ (by omega) (by omega)]; exact hL1)
      have hv := hget.out k hlt
      have hset := upTo_set L G a k hL1 hGk
      have hS : Hid ((upTo L G a k).set (a + k) (G.getD k 0) = upTo L G a (k + 1)) := hset
      have hV := Lib.hid hv
      clear hset hv hL1 hGk
      go_wp2_with fail
      · rename_i hq
        go_roundw
        case rel =>
          refine ⟨k + 1, by omega, by go_num, ?_, (hb.setCell hB _).setCell hB _⟩
          have h1 := (ho.set (a + k) (bits .and .i64 ((m : Int) / 2 ^ (7 * k)) 127 % 256)).set (a + k) (bits .or .u8 (bits .and .i64 ((m : Int) / 2 ^ (7 * k)) 127 % 256) 128)
          rw [List.set_set] at h1
          have e1 := val_high hV.out hq
          have e2 := hS.out
          rw [← e1] at e2
          rw [e2] at h1
          exact h1
        case measure => simp [intOf]; omega
      · rename_i hq
        go_roundw
        case rel =>
          refine ⟨k + 1, by omega, by go_num, ?_, hb.setCell hB _⟩
          have h1 := ho.set (a + k) (bits .and .i64 ((m : Int) / 2 ^ (7 * k)) 127 % 256)
          have e1 := val_low hV.out (by omega)
          have e2 := hS.out
          rw [← e1] at e2
          rw [e2] at h1
          exact h1
        case measure => simp [intOf]; omega
    · have hkK : k = K := by omega
      have hU : Hid (upTo L G a k = L.take a ++ G) := by
        show upTo L G a k = _
        unfold upTo
        rw [List.take_of_length_le (l := G) (by rw [← hGL.out]; omega), List.drop_of_length_le (by rw [hN.out]; omega), List.append_nil]
      subst hkK
      go_wp2_with fail
      go_end0
      exact ⟨rfl, by rw [← hU.out]; exact ho, hb⟩
end Go.Proofs.YtbkbabaoockigaaGreatDoor

set_option maxRecDepth 100000
set_option maxRecDepth 100000
namespace Go.Proofs.YtbkbabaoockigaaGreatDoor
open Go.RowKit

theorem or_flags {f k x : Int} (hk : IsW k) (hf : OkF f k) (h0 : 0 ≤ x) (h1 : x ≤ fullI k) : bits .or .i64 f x = f + x := by
  obtain ⟨f0, f1, f2⟩ := hf
  have W : ∀ n : Int, 0 ≤ n → n < 2 ^ 63 → IntKind.i64.wrap n = n := fun n a b => wrap_small n a (by omega)
  rcases hk.cases with rfl | rfl | rfl | rfl | rfl | rfl | rfl | rfl
  · exact bits_join .i64 63 (by decide) W 1 _ _ f0 (by simpa [fullI] using f2) (by omega) h0 (by simp [fullI] at h1; omega) (by simp [fullI] at h1; omega)
  · exact bits_join .i64 63 (by decide) W 2 _ _ f0 (by simpa [fullI] using f2) (by omega) h0 (by simp [fullI] at h1; omega) (by simp [fullI] at h1; omega)
  · exact bits_join .i64 63 (by decide) W 3 _ _ f0 (by simpa [fullI] using f2) (by omega) h0 (by simp [fullI] at h1; omega) (by simp [fullI] at h1; omega)
  · exact bits_join .i64 63 (by decide) W 4 _ _ f0 (by simpa [fullI] using f2) (by omega) h0 (by simp [fullI] at h1; omega) (by simp [fullI] at h1; omega)
  · exact bits_join .i64 63 (by decide) W 5 _ _ f0 (by simpa [fullI] using f2) (by omega) h0 (by simp [fullI] at h1; omega) (by simp [fullI] at h1; omega)
  · exact bits_join .i64 63 (by decide) W 6 _ _ f0 (by simpa [fullI] using f2) (by omega) h0 (by simp [fullI] at h1; omega) (by simp [fullI] at h1; omega)
  · exact bits_join .i64 63 (by decide) W 7 _ _ f0 (by simpa [fullI] using f2) (by omega) h0 (by simp [fullI] at h1; omega) (by simp [fullI] at h1; omega)
  · exact bits_join .i64 63 (by decide) W 8 _ _ f0 (by simpa [fullI] using f2) (by omega) h0 (by simp [fullI] at h1; omega) (by simp [fullI] at h1; omega)
/-- the byte in which a number begins -/
theorem first_byte {f k x : Int} (hk : IsW k) (hf : OkF f k) (h0 : 0 ≤ x) (h1 : x ≤ fullI k) : 0 ≤ f + x ∧ f + x < 256 := by
  obtain ⟨f0, f1, f2⟩ := hf
  rcases hk.cases with rfl | rfl | rfl | rfl | rfl | rfl | rfl | rfl <;> simp [fullI] at f2 h1 <;> omega

def BytesOf (w : World) (xs : List Int) (e : Ending) (w' : World) : Prop :=
  ∃ u, e = .returned (.tuple #[u, .int .i64 0]) ∧ Own .u8 5 w' w.heap.size u xs ∧ Below w.heap.size w w'

set_option maxHeartbeats 2000000 in
theorem put_small (v : Value) (xs : List Int) (f k n : Int) (w : World) (hr : Rd .u8 w v xs) (hl : xs.length ≤ 140737488351232) (hok : OkP f k n) (hs : n < fullI k) :
    Calls Tryz.prog 46 #[v, .int .i64 f, .int .i64 k, .int .i64 n] w (BytesOf w (xs ++ [f + n])) := by
  have hSz : sizeP k n = 1 := by
    have := (okP_iff f k n).1 hok
    unfold sizeP; rw [if_pos this.1, sizeN_lt hs]; rfl
  obtain ⟨hk, hf, n0, n1⟩ := hok
  have hfb := first_byte hk hf n0 (by omega)
  have hor := or_flags hk hf n0 (x := n) (by omega)
  have hF : Hid (OkF f k) := hf
  have dF : decide (OkF f k) = true := decide_eq_true hf
  have S1 : Hid (∀ W : World, Calls Tryz.prog 72 #[.int .i64 k, .int .i64 n] W fun e w' => e = .returned (.int .i64 1) ∧ W = w') := fun W => by
    have := size_any k n W; rw [hSz] at this; exact this
  have hmin : min n (fullI k) = n := by omega
  have f0 := fullI_pos k
  have f1 := fullI_le k
  have hw : IntKind.i64.wrap (n - fullI k) = n - fullI k := by rw [IntKind.wrap_i64]; omega
  have hR := Lib.hid hr
  have hrl := hr.len
  have hml : maxLen = 9223372036854775807 := rfl
  rw [hml] at hrl
  obtain ⟨va, vc, rfl⟩ := hr.isSlice
  clear hml hr hSz hf
  have hwf : (f + n) % 256 = f + n := by omega
  go_enter Tryz.func46, Tryz.ntmps46
  go_wp2_with (first
    | (go_at_call 72; refine (S1.out _).mono ?_; rintro e w' ⟨rfl, rfl⟩)
    | (go_at_call 73; refine (areFlags_any f k _ hk).mono ?_; rintro e w' ⟨rfl, rfl⟩; rw [dF])
    | (go_at_call 74; refine (ones_any11 k _ hk).mono ?_; rintro e w' ⟨rfl, rfl⟩)
    | (at_make; refine wpList_make_nums _ rfl _ _ _ rfl elemU8 Tryz.underlying38 .i64 .i64 _ _ (xs.length + 1) rfl rfl (by simp) (by simp) (by omega) (by unfold maxLen; omega) w.heap.size (Nat.le_refl _) ?_; intro w1 hown hgr; have hb1 : Below w.heap.size w w1 := (Below.refl _ _).grown hgr (Nat.le_refl _) (by simp); have hr1 := hR.out.below hb1)
    | ((with_reducible refine wpList_copy_rd _ ?_ (.tmp 30) (.tmp 31) 38 38 ?_ elemU8 Tryz.underlying38 w.heap.size (.slice (some ⟨w.heap.size, 0, none⟩) (xs.length + 1) (xs.length + 1)) (List.replicate (xs.length + 1) 0) ?_ hown (.slice va xs.length vc) xs ?_ hr1 ?_ ?_); rfl; rfl; rfl; rfl; (simp); intro w2 hown2 hgr2; have hb2 : Below w.heap.size w w2 := hb1.grown hgr2 hb1.size hown.blk; have hcell := (hown2.at xs.length (by simp)).1; have hfr := (hown2.at xs.length (by simp)).2)
    | (go_at_call 75; refine (putGroups_none _ _ _ _).mono ?_; rintro e w' ⟨rfl, rfl⟩))
  go_ret2
  refine ⟨_, rfl, ?_, hb2.setCell (by simp) _⟩
  have h1 := hown2.set xs.length (f + n)
  have e : (xs ++ List.drop xs.length (List.replicate (xs.length + 1) 0)).set xs.length (f + n) = xs ++ [f + n] := by
    rw [List.set_append_right _ _ (Nat.le_refl _)]; simp
  rw [e] at h1
  exact h1
theorem set_tail (xs : List Int) (K : Nat) (x : Int) : (xs ++ List.drop xs.length (List.replicate (xs.length + (K + 1)) 0)).set xs.length x = xs ++ x :: List.replicate K 0 := by
  rw [List.set_append_right _ _ (Nat.le_refl _), List.drop_replicate, show xs.length + (K + 1) - xs.length = K + 1 by omega, List.replicate_succ]; simp
set_option maxHeartbeats 2000000 in
theorem put_more (v : Value) (xs : List Int) (f k n : Int) (w : World) (hr : Rd .u8 w v xs) (hl : xs.length ≤ 140737488351232) (hok : OkP f k n) (hs : ¬ n < fullI k) (hq : fullI k < n) :
    Calls Tryz.prog 46 #[v, .int .i64 f, .int .i64 k, .int .i64 n] w (BytesOf w (xs ++ (f + fullI k) :: grp (n - fullI k).toNat)) := by
  have hSz : sizeP k n = (grp (n - fullI k).toNat).length + 1 := by
    have := (okP_iff f k n).1 hok
    unfold sizeP; rw [if_pos this.1, sizeN_ge hs]; omega
  obtain ⟨hk, hf, n0, n1⟩ := hok
  have hfb := first_byte hk hf (x := fullI k) (by have := fullI_pos k; omega) (by omega)
  have hor := or_flags hk hf (x := fullI k) (by have := fullI_pos k; omega) (by omega)
  obtain ⟨m, hm⟩ : ∃ m : Nat, m = (n - fullI k).toNat := ⟨_, rfl⟩
  have hme : n - fullI k = (m : Int) := by omega
  have hm9 : m ≤ 4611686018427387903 := by have := fullI_pos k; omega
  rw [← hm] at hSz ⊢
  obtain ⟨K, hKe⟩ : ∃ K, K = (grp m).length := ⟨_, rfl⟩
  have hK1 : 1 ≤ K := by rw [hKe]; exact grp_pos m
  have hK9 : K ≤ 9 := by rw [hKe]; exact grp_len9 hm9
  rw [← hKe] at hSz
  have PG := Lib.hid (fun B g a N L W h1 h2 h3 => putGroups_any B g a N m L W hm9 h1 h2 h3)
  rw [← hKe] at PG
  have HK := Lib.hid hKe
  have dz : (((K : Int) + 1) == 0) = false := by simp; omega
  clear hm hKe
  have hF : Hid (OkF f k) := hf
  have dF : decide (OkF f k) = true := decide_eq_true hf
  have S1 : Hid (∀ W : World, Calls Tryz.prog 72 #[.int .i64 k, .int .i64 n] W fun e w' => e = .returned (.int .i64 ((K : Int) + 1)) ∧ W = w') := fun W => by
    have := size_any k n W; rw [hSz] at this; exact this
  have hmin : min n (fullI k) = fullI k := by omega
  have f0 := fullI_pos k
  have f1 := fullI_le k
  have hw : IntKind.i64.wrap (n - fullI k) = (m : Int) := by rw [IntKind.wrap_i64]; omega
  have hR := Lib.hid hr
  have hrl := hr.len
  have hml : maxLen = 9223372036854775807 := rfl
  rw [hml] at hrl
  obtain ⟨va, vc, rfl⟩ := hr.isSlice
  clear hml hr hSz hf
  have hwf : (f + fullI k) % 256 = f + fullI k := by omega
  go_enter Tryz.func46, Tryz.ntmps46
  go_wp2_with (first
    | (go_at_call 72; refine (S1.out _).mono ?_; rintro e w' ⟨rfl, rfl⟩)
    | (go_at_call 73; refine (areFlags_any f k _ hk).mono ?_; rintro e w' ⟨rfl, rfl⟩; rw [dF])
    | (go_at_call 74; refine (ones_any11 k _ hk).mono ?_; rintro e w' ⟨rfl, rfl⟩)
    | (at_make; refine wpList_make_nums _ rfl _ _ _ rfl elemU8 Tryz.underlying38 .i64 .i64 _ _ (xs.length + (K + 1)) rfl rfl (by omega) (by omega) (by omega) (by unfold maxLen; omega) w.heap.size (Nat.le_refl _) ?_; intro w1 hown hgr; have hb1 : Below w.heap.size w w1 := (Below.refl _ _).grown hgr (Nat.le_refl _) (by simp); have hr1 := hR.out.below hb1)
    | ((with_reducible refine wpList_copy_rd _ ?_ (.tmp 30) (.tmp 31) 38 38 ?_ elemU8 Tryz.underlying38 w.heap.size (.slice (some ⟨w.heap.size, 0, none⟩) (xs.length + (K + 1)) (xs.length + (K + 1))) (List.replicate (xs.length + (K + 1)) 0) ?_ hown (.slice va xs.length vc) xs ?_ hr1 ?_ ?_); rfl; rfl; rfl; rfl; (simp); intro w2 hown2 hgr2; have hb2 : Below w.heap.size w w2 := hb1.grown hgr2 hb1.size hown.blk; have hcell := (hown2.at xs.length (by simp only [List.length_append, List.length_drop, List.length_replicate]; omega)).1; have hfr := (hown2.at xs.length (by simp only [List.length_append, List.length_drop, List.length_replicate]; omega)).2)
    | (go_at_call 75; have hown3 := hown2.set xs.length (f + fullI k); rw [set_tail] at hown3; refine (PG.out w.heap.size w.heap.size (xs.length + 1) (xs.length + (K + 1)) _ _ hown3 (Nat.le_refl _) (by simp; omega)).mono ?_; rintro e w3 ⟨rfl, hown4, hb3⟩))
  go_ret2
  refine ⟨_, rfl, ?_, (hb2.setCell (by simp) _).trans hb3⟩
  have e : List.take (xs.length + 1) (xs ++ (f + fullI k) :: List.replicate K 0) ++ grp m = xs ++ (f + fullI k) :: grp m := by
    rw [List.take_append, List.take_of_length_le (by omega), show xs.length + 1 - xs.length = 1 by omega]; simp
  rw [e] at hown4
  have hle : (xs ++ (f + fullI k) :: grp m).length = xs.length + (K + 1) := by rw [HK.out]; simp
  unfold Own at hown4 ⊢
  rw [hle] at hown4 ⊢
  exact hown4

set_option maxHeartbeats 2000000 in
theorem put_even (v : Value) (xs : List Int) (f k n : Int) (w : World) (hr : Rd .u8 w v xs) (hl : xs.length ≤ 140737488351232) (hok : OkP f k n) (hs : ¬ n < fullI k) (hq : ¬ fullI k < n) :
    Calls Tryz.prog 46 #[v, .int .i64 f, .int .i64 k, .int .i64 n] w (BytesOf w (xs ++ (f + fullI k) :: grp (n - fullI k).toNat)) := by
  have hSz : sizeP k n = (grp (n - fullI k).toNat).length + 1 := by
    have := (okP_iff f k n).1 hok
    unfold sizeP; rw [if_pos this.1, sizeN_ge hs]; omega
  obtain ⟨hk, hf, n0, n1⟩ := hok
  have hfb := first_byte hk hf (x := fullI k) (by have := fullI_pos k; omega) (by omega)
  have hor : bits .or .i64 f n = f + fullI k := by
    have e : n = fullI k := by omega
    rw [e]; exact or_flags hk hf (x := fullI k) (by have := fullI_pos k; omega) (by omega)
  obtain ⟨m, hm⟩ : ∃ m : Nat, m = (n - fullI k).toNat := ⟨_, rfl⟩
  have hme : n - fullI k = (m : Int) := by omega
  have hm9 : m ≤ 4611686018427387903 := by have := fullI_pos k; omega
  rw [← hm] at hSz ⊢
  obtain ⟨K, hKe⟩ : ∃ K, K = (grp m).length := ⟨_, rfl⟩
  have hK1 : 1 ≤ K := by rw [hKe]; exact grp_pos m
  have hK9 : K ≤ 9 := by rw [hKe]; exact grp_len9 hm9
  rw [← hKe] at hSz
  have PG := Lib.hid (fun B g a N L W h1 h2 h3 => putGroups_any B g a N m L W hm9 h1 h2 h3)
  rw [← hKe] at PG
  have HK := Lib.hid hKe
  have dz : (((K : Int) + 1) == 0) = false := by simp; omega
  clear hm hKe
  have hF : Hid (OkF f k) := hf
  have dF : decide (OkF f k) = true := decide_eq_true hf
  have S1 : Hid (∀ W : World, Calls Tryz.prog 72 #[.int .i64 k, .int .i64 n] W fun e w' => e = .returned (.int .i64 ((K : Int) + 1)) ∧ W = w') := fun W => by
    have := size_any k n W; rw [hSz] at this; exact this
  have hmin : min n (fullI k) = fullI k := by omega
  have f0 := fullI_pos k
  have f1 := fullI_le k
  have hw : IntKind.i64.wrap (n - fullI k) = (m : Int) := by rw [IntKind.wrap_i64]; omega
  have hR := Lib.hid hr
  have hrl := hr.len
  have hml : maxLen = 9223372036854775807 := rfl
  rw [hml] at hrl
  obtain ⟨va, vc, rfl⟩ := hr.isSlice
  clear hml hr hSz hf
  have hwf : (f + fullI k) % 256 = f + fullI k := by omega
  go_enter Tryz.func46, Tryz.ntmps46
  go_wp2_with (first
    | (go_at_call 72; refine (S1.out _).mono ?_; rintro e w' ⟨rfl, rfl⟩)
    | (go_at_call 73; refine (areFlags_any f k _ hk).mono ?_; rintro e w' ⟨rfl, rfl⟩; rw [dF])
    | (go_at_call 74; refine (ones_any11 k _ hk).mono ?_; rintro e w' ⟨rfl, rfl⟩)
    | (at_make; refine wpList_make_nums _ rfl _ _ _ rfl elemU8 Tryz.underlying38 .i64 .i64 _ _ (xs.length + (K + 1)) rfl rfl (by omega) (by omega) (by omega) (by unfold maxLen; omega) w.heap.size (Nat.le_refl _) ?_; intro w1 hown hgr; have hb1 : Below w.heap.size w w1 := (Below.refl _ _).grown hgr (Nat.le_refl _) (by simp); have hr1 := hR.out.below hb1)
    | ((with_reducible refine wpList_copy_rd _ ?_ (.tmp 30) (.tmp 31) 38 38 ?_ elemU8 Tryz.underlying38 w.heap.size (.slice (some ⟨w.heap.size, 0, none⟩) (xs.length + (K + 1)) (xs.length + (K + 1))) (List.replicate (xs.length + (K + 1)) 0) ?_ hown (.slice va xs.length vc) xs ?_ hr1 ?_ ?_); rfl; rfl; rfl; rfl; (simp); intro w2 hown2 hgr2; have hb2 : Below w.heap.size w w2 := hb1.grown hgr2 hb1.size hown.blk; have hcell := (hown2.at xs.length (by simp only [List.length_append, List.length_drop, List.length_replicate]; omega)).1; have hfr := (hown2.at xs.length (by simp only [List.length_append, List.length_drop, List.length_replicate]; omega)).2)
    | (go_at_call 75; have hown3 := hown2.set xs.length (f + fullI k); rw [set_tail] at hown3; refine (PG.out w.heap.size w.heap.size (xs.length + 1) (xs.length + (K + 1)) _ _ hown3 (Nat.le_refl _) (by simp; omega)).mono ?_; rintro e w3 ⟨rfl, hown4, hb3⟩))
  go_ret2
  refine ⟨_, rfl, ?_, (hb2.setCell (by simp) _).trans hb3⟩
  have e : List.take (xs.length + 1) (xs ++ (f + fullI k) :: List.replicate K 0) ++ grp m = xs ++ (f + fullI k) :: grp m := by
    rw [List.take_append, List.take_of_length_le (by omega), show xs.length + 1 - xs.length = 1 by omega]; simp
  rw [e] at hown4
  have hle : (xs ++ (f + fullI k) :: grp m).length = xs.length + (K + 1) := by rw [HK.out]; simp
  unfold Own at hown4 ⊢
  rw [hle] at hown4 ⊢
  exact hown4

theorem put_refused (v : Value) (f k n : Int) (w : World) (hno : ¬ OkP f k n) :
    Calls Tryz.prog 46 #[v, .int .i64 f, .int .i64 k, .int .i64 n] w fun e w' => e = .returned (.tuple #[.slice none 0 0, .int .i64 1]) ∧ w = w' := by
  by_cases hs : OkS k n
  · have hF : ¬ OkF f k := fun h => hno ((okP_iff f k n).2 ⟨hs, h⟩)
    have dF : decide (OkF f k) = false := decide_eq_false hF
    have hk := hs.1
    have hz : (sizeP k n == 0) = false := by
      unfold sizeP; rw [if_pos hs]; have := sizeN_pos k n; simp; omega
    clear hs hF hno
    go_enter Tryz.func46, Tryz.ntmps46
    go_wp2_with (first
      | (go_at_call 72; refine (size_any k n _).mono ?_; rintro e w' ⟨rfl, rfl⟩)
      | (go_at_call 73; refine (areFlags_any f k _ hk).mono ?_; rintro e w' ⟨rfl, rfl⟩; rw [dF]))
    go_ret2
    exact ⟨rfl, rfl⟩
  · have hz : sizeP k n = 0 := if_neg hs
    have S1 : Hid (∀ W : World, Calls Tryz.prog 72 #[.int .i64 k, .int .i64 n] W fun e w' => e = .returned (.int .i64 0) ∧ W = w') := fun W => by
      have := size_any k n W; rw [hz] at this; exact this
    clear hz hs hno
    go_enter Tryz.func46, Tryz.ntmps46
    go_wp2_with (go_at_call 72; refine (S1.out _).mono ?_; rintro e w' ⟨rfl, rfl⟩)
    go_ret2
    exact ⟨rfl, rfl⟩

/-- what is put, or none -/
def putO (xs : List Int) (f k n : Int) : Option (List Int) := if OkP f k n then some (xs ++ encP f k n) else none
/-- no error: the bytes; else nothing and error 1: of both texts alike -/
def PutIs (w : World) (l : Option (List Int)) (e : Ending) (w' : World) : Prop :=
  ∃ u ys c, e = .returned (.tuple #[u, .int .i64 c]) ∧ Own .u8 5 w' w.heap.size u ys ∧ Below w.heap.size w w' ∧ ((∃ zs, l = some zs ∧ ys = zs ∧ c = 0) ∨ (l = none ∧ ys = [] ∧ c = 1))
theorem PutIs.yes {w : World} {xs zs : List Int} {l : Option (List Int)} (hl : l = some zs) (hz : xs = zs) {e : Ending} {w' : World} (h : BytesOf w xs e w') : PutIs w l e w' := by
  obtain ⟨u, h1, h2, h3⟩ := h
  exact ⟨u, xs, 0, h1, h2, h3, .inl ⟨zs, hl, hz, rfl⟩⟩
theorem PutIs.no {w : World} {l : Option (List Int)} (hl : l = none) {e : Ending} {w' : World} (h : e = .returned (.tuple #[.slice none 0 0, .int .i64 1]) ∧ w = w') : PutIs w l e w' := by
  obtain ⟨h1, rfl⟩ := h
  exact ⟨_, [], 1, h1, Own.nil _ _ _ _, Below.refl _ _, .inr ⟨hl, rfl, rfl⟩⟩
theorem put_any11 (v : Value) (xs : List Int) (f k n : Int) (w : World) (hr : Rd .u8 w v xs) (hl : xs.length ≤ 140737488351232) :
    Calls Tryz.prog 46 #[v, .int .i64 f, .int .i64 k, .int .i64 n] w (PutIs w (putO xs f k n)) := by
  by_cases h : OkP f k n
  · by_cases hs : n < fullI k
    · exact (put_small v xs f k n w hr hl h hs).mono fun e w' x => PutIs.yes (if_pos h) (by unfold encP; rw [if_pos hs]) x
    · by_cases hq : fullI k < n
      · exact (put_more v xs f k n w hr hl h hs hq).mono fun e w' x => PutIs.yes (if_pos h) (by unfold encP; rw [if_neg hs]) x
      · exact (put_even v xs f k n w hr hl h hs hq).mono fun e w' x => PutIs.yes (if_pos h) (by unfold encP; rw [if_neg hs]) x
  · exact (put_refused v f k n w h).mono fun e w' x => PutIs.no (if_neg h) x
theorem PutIs.one {l : Option (List Int)} {ys ys' : List Int} {c c' : Int} (h : (∃ zs, l = some zs ∧ ys = zs ∧ c = 0) ∨ (l = none ∧ ys = [] ∧ c = 1)) (h' : (∃ zs, l = some zs ∧ ys' = zs ∧ c' = 0) ∨ (l = none ∧ ys' = [] ∧ c' = 1)) : ys' = ys ∧ c' = c := by
  rcases h with ⟨zs, rfl, rfl, rfl⟩ | ⟨rfl, rfl, rfl⟩
  · rcases h' with ⟨zs', e, rfl, rfl⟩ | ⟨e, _⟩
    · cases e; exact ⟨rfl, rfl⟩
    · cases e
  · rcases h' with ⟨zs', e, _⟩ | ⟨_, rfl, rfl⟩
    · cases e
    · exact ⟨rfl, rfl⟩
theorem PutIs.bts {xs ys : List Int} {f k n c : Int} (hx : Bts xs) (h : (∃ zs, putO xs f k n = some zs ∧ ys = zs ∧ c = 0) ∨ (putO xs f k n = none ∧ ys = [] ∧ c = 1)) : Bts ys := by
  rcases h with ⟨zs, h, rfl, _⟩ | ⟨_, rfl, _⟩
  · unfold putO at h
    split at h
    · rename_i hok
      cases h; exact hx.append (encP_bts hok)
    · cases h
  · intro x hx; simp at hx
end Go.Proofs.YtbkbabaoockigaaGreatDoor

set_option maxRecDepth 100000
set_option maxRecDepth 100000
namespace Go.Proofs.YtbkbabaoockigaaGreatDoor
open Go.RowKit

theorem and_127 : ∀ i : Fin 256, bits .and .u8 (i.val : Int) 127 = (i.val : Int) % 128 := by decide +kernel
theorem and_128 : ∀ i : Fin 256, (bits .and .u8 (i.val : Int) 128 == 0) = decide ((i.val : Int) < 128) := by decide +kernel
theorem low_u8 (x : Int) (h0 : 0 ≤ x) (h1 : x < 256) : bits .and .u8 x 127 = x % 128 := by
  have := and_127 ⟨x.toNat, by omega⟩
  simp only [Int.toNat_of_nonneg h0] at this
  exact this
theorem high_u8 (x : Int) (h0 : 0 ≤ x) (h1 : x < 256) : (bits .and .u8 x 128 == 0) = decide (x < 128) := by
  have := and_128 ⟨x.toNat, by omega⟩
  simp only [Int.toNat_of_nonneg h0] at this
  exact this
theorem two_pow7 (k : Nat) : (2 : Int) ^ (7 * k) = ((128 ^ k : Nat) : Int) := by rw [Int.pow_mul]; simp
theorem addG_end (i : Nat) (n : Int) : addG [] i n = .inr (3, i) := rfl
theorem addG_bad {c : Int} {cs : List Int} {i : Nat} {n : Int} (h : i = 9 ∨ (4611686018427387903 - n) / ((128 ^ i : Nat) : Int) < c % 128) : addG (c :: cs) i n = .inr (5, i) := by rw [addG, if_pos h]
theorem addG_last {c : Int} {cs : List Int} {i : Nat} {n : Int} (h : ¬ (i = 9 ∨ (4611686018427387903 - n) / ((128 ^ i : Nat) : Int) < c % 128)) (h1 : c < 128) : addG (c :: cs) i n = .inl (n + c % 128 * ((128 ^ i : Nat) : Int), i + 1) := by rw [addG, if_neg h, if_pos h1]
theorem addG_more {c : Int} {cs : List Int} {i : Nat} {n : Int} (h : ¬ (i = 9 ∨ (4611686018427387903 - n) / ((128 ^ i : Nat) : Int) < c % 128)) (h1 : ¬ c < 128) : addG (c :: cs) i n = addG cs (i + 1) (n + c % 128 * ((128 ^ i : Nat) : Int)) := by rw [addG, if_neg h, if_neg h1]

def fault (why at_ : Int) : Value := .agg #[.int .i64 why, .int .i64 at_]
/-- what addGroups answers -/
def addV (a : Nat) : Sum (Int × Nat) (Int × Nat) → Value
  | .inl (n, j) => .tuple #[.int .i64 n, .int .i64 ((a : Int) + j), fault 0 0]
  | .inr (y, j) => .tuple #[.int .i64 0, .int .i64 0, fault y ((a : Int) + j)]
theorem drop_at {xs : List Int} {j : Nat} (h : j < xs.length) : xs.drop j = xs.getD j 0 :: xs.drop (j + 1) := by
  rw [List.drop_eq_getElem_cons h]; simp [List.getD, List.getElem?_eq_getElem h]

set_option maxHeartbeats 2000000 in
theorem addGroups_any (v : Value) (xs : List Int) (a : Nat) (n : Int) (w : World) (hr : Rd .u8 w v xs) (hx : Bts xs) (ha : a ≤ xs.length) (h0 : 0 ≤ n) (h1 : n ≤ 4611686018427387903) :
    Calls Tryz.prog 116 #[v, .int .i64 a, .int .i64 n] w fun e w' => e = .returned (addV a (addG (xs.drop a) 0 n)) ∧ Below w.heap.size w w' := by
  have hrl := hr.len
  have hml : maxLen = 9223372036854775807 := rfl
  rw [hml] at hrl
  have hR := Lib.hid hr
  have hX := Lib.hid hx
  obtain ⟨va, vc, rfl⟩ := hr.isSlice
  clear hml hr hx
  have R := Lib.hid (rfl : addV a (addG (xs.drop a) 0 n) = addV a (addG (xs.drop a) 0 n))
  obtain ⟨ans, hans⟩ : ∃ ans, ans = addV a (addG (xs.drop a) 0 n) := ⟨_, rfl⟩
  rw [← hans]
  have A0 := Lib.hid hans
  clear hans R
  have hwd : IntKind.i64.wrap ((xs.length : Int) - a) = (xs.length : Int) - a := by rw [IntKind.wrap_i64]; omega
  go_enter Tryz.func116, Tryz.ntmps116
  go_wp2_with fail
  go_loop [2, 16] (fun m i => ∃ (k : Nat) (nk : Int), k ≤ 9 ∧ a + k ≤ xs.length ∧ 0 ≤ nk ∧ nk ≤ 4611686018427387903 ∧ m = .int .i64 nk ∧ i = .int .i64 k ∧ Hid (ans = addV a (addG (xs.drop (a + k)) k nk))) (fun _ i => xs.length - (intOf i).toNat)
  case atStart => exact ⟨0, n, by omega, by omega, h0, h1, rfl, rfl, A0⟩
  case round =>
    obtain ⟨k, nk, hk9, hk, n0, n1, rfl, rfl, A⟩ := hrel
    clear A0
    by_cases hlt : a + k < xs.length
    · have hc : ∃ c, c = xs.getD (a + k) 0 := ⟨_, rfl⟩
      obtain ⟨c, hc⟩ := hc
      have hcb := getD_bts hX.out (a + k)
      rw [← hc] at hcb
      have hcell : ∃ b o, va = some ⟨b, o, none⟩ ∧ b < w.heap.size ∧ w.cell? ⟨b, o + (a + k), none⟩ = some (.int .u8 c) := by
        rcases hR.out with ⟨rfl, _⟩ | ⟨_, b, o, cp, he, h2, h3, h4, h5⟩
        · simp at hlt
        · simp only [Value.slice.injEq] at he
          exact ⟨b, o, he.1, h4, by rw [hc]; exact h5 _ hlt⟩
      obtain ⟨b, o, rfl, hb, hcell⟩ := hcell
      have hD := drop_at hlt
      rw [← hc] at hD
      have hA := A.out
      rw [hD] at hA
      have b1 := low_u8 c hcb.1 hcb.2
      have b2 := high_u8 c hcb.1 hcb.2
      clear hD A hc
      have HA := Lib.hid hA
      clear hA
      by_cases h9 : k = 9
      · subst h9
        have AA : Hid (ans = .tuple #[.int .i64 0, .int .i64 0, fault 5 ((a : Int) + 9)]) := HA.out.trans (congrArg (addV a) (addG_bad (.inl rfl)))
        clear HA
        go_wp2_with fail
        refine bodyPost_ret (v := .tuple #[.int .i64 0, .int .i64 0, fault 5 ((a : Int) + 9)]) (by simp [results, Tryz.results116, go_sem, fault]) rfl ⟨by rw [AA.out], ?_⟩
        go_grown
      · have e9 : ((k : Int) == 9) = false := by simp; omega
        have hP : (0 : Int) < 2 ^ (7 * k) := by rw [two_pow7]; have : 0 < 128 ^ k := Nat.pow_pos (by decide); omega
        have hsub : IntKind.i64.wrap (4611686018427387903 - nk) = 4611686018427387903 - nk := by rw [IntKind.wrap_i64]; omega
        by_cases hg : (4611686018427387903 - nk) / 2 ^ (7 * k) < c % 128
        · have d1 : decide (c % 128 > (4611686018427387903 - nk) / 2 ^ (7 * k)) = true := decide_eq_true hg
          have AA : Hid (ans = .tuple #[.int .i64 0, .int .i64 0, fault 5 ((a : Int) + k)]) := HA.out.trans (congrArg (addV a) (addG_bad (.inr (by rw [← two_pow7]; exact hg))))
          clear HA hg
          go_wp2_with fail
          refine bodyPost_ret (v := .tuple #[.int .i64 0, .int .i64 0, fault 5 ((a : Int) + k)]) (by simp [results, Tryz.results116, go_sem, fault]) rfl ⟨by rw [AA.out], ?_⟩
          go_grown
        · have d1 : decide (c % 128 > (4611686018427387903 - nk) / 2 ^ (7 * k)) = false := decide_eq_false hg
          have hno : ¬ (k = 9 ∨ (4611686018427387903 - nk) / ((128 ^ k : Nat) : Int) < c % 128) := by rw [← two_pow7]; rintro (h | h) <;> contradiction
          have hroom := addG_room (n := nk) (c := c) (i := k) (fun h => hno (.inr h))
          have hm0 : 0 ≤ c % 128 * ((128 ^ k : Nat) : Int) := Int.mul_nonneg (by omega) (Int.natCast_nonneg _)
          rw [← two_pow7] at hroom hm0
          have hsh : IntKind.i64.wrap (c % 128 * 2 ^ (7 * k)) = c % 128 * 2 ^ (7 * k) := by
            generalize c % 128 * (2 : Int) ^ (7 * k) = q at hroom hm0 ⊢
            rw [IntKind.wrap_i64]; omega
          have hsum : IntKind.i64.wrap (nk + c % 128 * 2 ^ (7 * k)) = nk + c % 128 * 2 ^ (7 * k) := by
            generalize c % 128 * (2 : Int) ^ (7 * k) = q at hroom hm0 ⊢
            rw [IntKind.wrap_i64]; omega
          by_cases hl : c < 128
          · have AA : Hid (ans = .tuple #[.int .i64 (nk + c % 128 * 2 ^ (7 * k)), .int .i64 ((a : Int) + k + 1), fault 0 0]) := by
              refine HA.out.trans ?_
              rw [addG_last hno hl, two_pow7]
              simp only [addV]
              rw [Int.natCast_add, Int.add_assoc]; rfl
            have d2 : (bits .and .u8 c 128 == 0) = true := by rw [b2]; exact decide_eq_true hl
            clear HA hg hno b2 hl
            go_wp2_with fail
            refine bodyPost_ret (v := .tuple #[.int .i64 (nk + c % 128 * 2 ^ (7 * k)), .int .i64 ((a : Int) + k + 1), fault 0 0]) (by simp [results, Tryz.results116, go_sem, fault]) rfl ⟨by rw [AA.out], ?_⟩
            go_grown
          · have AA : Hid (ans = addV a (addG (xs.drop (a + (k + 1))) (k + 1) (nk + c % 128 * 2 ^ (7 * k)))) := by
              refine HA.out.trans ?_
              rw [addG_more hno hl, two_pow7, Nat.add_assoc]
            have d2 : (bits .and .u8 c 128 == 0) = false := by rw [b2]; exact decide_eq_false hl
            clear HA hg hno b2 hl
            go_wp2_with fail
            go_round
            case rel => exact ⟨k + 1, _, by omega, by omega, Int.add_nonneg n0 hm0, hroom, rfl, by go_num, AA⟩
            case measure => simp [intOf]; omega
    · have hend : a + k = xs.length := by omega
      have AA : Hid (ans = .tuple #[.int .i64 0, .int .i64 0, fault 3 xs.length]) := by
        refine A.out.trans ?_
        rw [hend, List.drop_length, addG_end]
        simp only [addV]
        rw [← hend]; simp
      have hk' : (k : Int) = (xs.length : Int) - a := by omega
      have dl : decide ((k : Int) < (xs.length : Int) - a) = false := decide_eq_false (by omega)
      clear A hk' hend
      go_wp2_with fail
      refine bodyPost_ret (v := .tuple #[.int .i64 0, .int .i64 0, fault 3 xs.length]) (by simp [results, Tryz.results116, go_sem, fault]) rfl ⟨by rw [AA.out], ?_⟩
      go_grown
end Go.Proofs.YtbkbabaoockigaaGreatDoor

set_option maxRecDepth 100000
set_option maxRecDepth 100000
namespace Go.Proofs.YtbkbabaoockigaaGreatDoor
open Go.RowKit

theorem not_1 : ∀ i : Fin 256, bits .andNot .i64 (i.val : Int) 1 = (i.val : Int) - (i.val : Int) % 2 := by decide +kernel
theorem not_2 : ∀ i : Fin 256, bits .andNot .i64 (i.val : Int) 3 = (i.val : Int) - (i.val : Int) % 4 := by decide +kernel
theorem not_3 : ∀ i : Fin 256, bits .andNot .i64 (i.val : Int) 7 = (i.val : Int) - (i.val : Int) % 8 := by decide +kernel
theorem not_4 : ∀ i : Fin 256, bits .andNot .i64 (i.val : Int) 15 = (i.val : Int) - (i.val : Int) % 16 := by decide +kernel
theorem not_5 : ∀ i : Fin 256, bits .andNot .i64 (i.val : Int) 31 = (i.val : Int) - (i.val : Int) % 32 := by decide +kernel
theorem not_6 : ∀ i : Fin 256, bits .andNot .i64 (i.val : Int) 63 = (i.val : Int) - (i.val : Int) % 64 := by decide +kernel
theorem not_7 : ∀ i : Fin 256, bits .andNot .i64 (i.val : Int) 127 = (i.val : Int) - (i.val : Int) % 128 := by decide +kernel
theorem not_8 : ∀ i : Fin 256, bits .andNot .i64 (i.val : Int) 255 = (i.val : Int) - (i.val : Int) % 256 := by decide +kernel
theorem flags_of {k c : Int} (hk : IsW k) (h0 : 0 ≤ c) (h1 : c < 256) : bits .andNot .i64 c (fullI k) = c - c % (fullI k + 1) := by
  obtain ⟨n, rfl⟩ := Int.eq_ofNat_of_zero_le h0
  rcases hk.cases with rfl | rfl | rfl | rfl | rfl | rfl | rfl | rfl
  · exact not_1 ⟨n, by omega⟩
  · exact not_2 ⟨n, by omega⟩
  · exact not_3 ⟨n, by omega⟩
  · exact not_4 ⟨n, by omega⟩
  · exact not_5 ⟨n, by omega⟩
  · exact not_6 ⟨n, by omega⟩
  · exact not_7 ⟨n, by omega⟩
  · exact not_8 ⟨n, by omega⟩

/-- a block that holds two numbers -/
def Held2 (b : Nat) (y z : Int) (W : World) : Prop := ∃ T, W.heap[b]? = some (.cells #[.int .i64 y, .int .i64 z] T (0, 0))
theorem held2_last (y z : Int) (T : TypeId) (w : World) : Held2 w.heap.size y z (w.alloc (.cells #[.int .i64 y, .int .i64 z] T)) := ⟨T, by show (w.heap.push _)[w.heap.size]? = _; simp⟩
theorem Held2.lt {b : Nat} {y z : Int} {W : World} (H : Held2 b y z W) : b < W.heap.size := by
  obtain ⟨T, e⟩ := H
  exact (Array.getElem?_eq_some_iff.1 e).1
theorem Held2.below {b : Nat} {y z : Int} {W W' : World} (H : Held2 b y z W) (hb : Below W.heap.size W W') : Held2 b y z W' := by
  have k := H.lt
  obtain ⟨T, e⟩ := H
  exact ⟨T, by rw [hb.block b k]; exact e⟩
theorem Held2.facts {b : Nat} {y z : Int} {W : World} (H : Held2 b y z W) : W.cell? ⟨b, 0, none⟩ = some (.int .i64 y) ∧ W.cell? ⟨b, 1, none⟩ = some (.int .i64 z) := by
  obtain ⟨T, e⟩ := H
  simp [World.cell?, e]
theorem Held2.free {b : Nat} {y z : Int} {W : World} (H : Held2 b y z W) : W.frozen? ⟨b, 0, none⟩ = false ∧ W.frozen? ⟨b, 1, none⟩ = false := by
  obtain ⟨T, e⟩ := H
  simp [World.frozen?, e]
theorem Held2.zeros {b : Nat} {y z : Int} {W : World} (H : Held2 b y z W) : Held2 b 0 0 ((W.setCell ⟨b, 0, none⟩ (.int .i64 0)).setCell ⟨b, 1, none⟩ (.int .i64 0)) := by
  obtain ⟨T, e⟩ := H
  exact ⟨T, by simp [World.setCell, Array.getElem?_modify, e]⟩
theorem Held2.kept {b : Nat} {y z : Int} {W W' : World} {row : Option Nat} (H : Held2 b y z W) (hg : W.grownBy W' row) (hne : row ≠ some b) : Held2 b y z W' := by
  obtain ⟨T, e⟩ := H
  exact ⟨T, (hg.block b (Array.getElem?_eq_some_iff.1 e).1 (fun h => hne h.symm)).trans e⟩

def getV (r : Int × Int × Int × Int × Int) : Value := .tuple #[.int .i64 r.1, .int .i64 r.2.1, .int .i64 r.2.2.1, fault r.2.2.2.1 r.2.2.2.2]
def GetIs (w : World) (r : Int × Int × Int × Int × Int) (e : Ending) (w' : World) : Prop := e = .returned (getV r) ∧ Below w.heap.size w w'

theorem get_low (v : Value) (a k : Int) (w : World) (h : a < 0) :
    Calls Tryz.prog 92 #[v, .int .i64 a, .int .i64 k] w (GetIs w (0, 0, 0, 1, a)) := by
  have h1 : decide (a < 0) = true := decide_eq_true h
  clear h
  go_enter Tryz.func92, Tryz.ntmps92
  go_wp2
  refine bodyPost_ret (v := getV (0, 0, 0, 1, a)) (by simp [results, Tryz.results92, go_sem, fault, getV]) rfl ⟨rfl, ?_⟩
  go_grown
theorem get_high (v : Value) (xs : List Int) (a k : Int) (w : World) (hr : Rd .u8 w v xs) (h0 : ¬ a < 0) (h : (xs.length : Int) < a) :
    Calls Tryz.prog 92 #[v, .int .i64 a, .int .i64 k] w (GetIs w (0, 0, 0, 1, a)) := by
  obtain ⟨p, c, rfl⟩ := hr.isSlice
  have h1 : decide (a < 0) = false := decide_eq_false h0
  have h2 : decide (a > (xs.length : Int)) = true := decide_eq_true h
  clear hr h h0
  go_enter Tryz.func92, Tryz.ntmps92
  go_wp2
  refine bodyPost_ret (v := getV (0, 0, 0, 1, a)) (by simp [results, Tryz.results92, go_sem, fault, getV]) rfl ⟨rfl, ?_⟩
  go_grown
theorem get_wide (v : Value) (xs : List Int) (a k : Int) (w : World) (hr : Rd .u8 w v xs) (h0 : ¬ a < 0) (h : ¬ (xs.length : Int) < a) (hk : ¬ IsW k) :
    Calls Tryz.prog 92 #[v, .int .i64 a, .int .i64 k] w (GetIs w (0, 0, 0, 1, a)) := by
  obtain ⟨p, c, rfl⟩ := hr.isSlice
  have h1 : decide (a < 0) = false := decide_eq_false h0
  have h2 : decide (a > (xs.length : Int)) = false := decide_eq_false h
  have h3 : decide (IsW k) = false := decide_eq_false hk
  clear hr h h0 hk
  go_enter Tryz.func92, Tryz.ntmps92
  go_wp2_with (go_at_call 98; refine (isW_any k _).mono ?_; rintro e w' ⟨rfl, rfl⟩; rw [h3])
  refine bodyPost_ret (v := getV (0, 0, 0, 1, a)) (by simp [results, Tryz.results92, go_sem, fault, getV]) rfl ⟨rfl, ?_⟩
  go_grown
theorem get_end (v : Value) (xs : List Int) (k : Int) (w : World) (hr : Rd .u8 w v xs) (hk : IsW k) :
    Calls Tryz.prog 92 #[v, .int .i64 xs.length, .int .i64 k] w (GetIs w (0, 0, 0, 3, xs.length)) := by
  obtain ⟨p, c, rfl⟩ := hr.isSlice
  have h3 : decide (IsW k) = true := decide_eq_true hk
  clear hr hk
  go_enter Tryz.func92, Tryz.ntmps92
  go_wp2_with (go_at_call 98; refine (isW_any k _).mono ?_; rintro e w' ⟨rfl, rfl⟩; rw [h3])
  refine bodyPost_ret (v := getV (0, 0, 0, 3, xs.length)) (by simp [results, Tryz.results92, go_sem, fault, getV]) rfl ⟨rfl, ?_⟩
  go_grown

theorem addG_why : ∀ (cs : List Int) (i : Nat) (n y : Int) (j : Nat), addG cs i n = .inr (y, j) → y = 3 ∨ y = 5 := by
  intro cs
  induction cs with
  | nil => intro i n y j h; simp [addG] at h; omega
  | cons c cs ih =>
    intro i n y j h
    rw [addG] at h
    split at h
    · simp at h; omega
    · split at h
      · cases h
      · exact ih _ _ _ _ h

set_option maxHeartbeats 2000000 in
theorem get_in (v : Value) (xs : List Int) (a : Nat) (k : Int) (w : World) (hr : Rd .u8 w v xs) (hx : Bts xs) (ha : a < xs.length) (hk : IsW k) :
    Calls Tryz.prog 92 #[v, .int .i64 a, .int .i64 k] w (GetIs w (getP xs a k)) := by
  have hrl := hr.len
  have hml : maxLen = 9223372036854775807 := rfl
  rw [hml] at hrl
  obtain ⟨c, hc⟩ : ∃ c, c = xs.getD a 0 := ⟨_, rfl⟩
  have hcb := getD_bts hx a
  rw [← hc] at hcb
  obtain ⟨r, hrr⟩ : ∃ r, r = getP xs a k := ⟨_, rfl⟩
  have hg : r = if c % (fullI k + 1) < fullI k then (c - c % (fullI k + 1), c % (fullI k + 1), (a : Int) + 1, 0, 0) else
      match addG (xs.drop (a + 1)) 0 (c % (fullI k + 1)) with
      | .inl (n, j) => (c - c % (fullI k + 1), n, (a : Int) + 1 + (j : Int), 0, 0)
      | .inr (y, j) => (0, 0, 0, y, (a : Int) + 1 + (j : Int)) := by
    rw [hrr]; unfold getP
    rw [if_neg (by rintro (h | h | h) <;> first | omega | exact h hk), if_neg (by omega)]
    simp only [Int.toNat_natCast, ← hc]
    try rfl
  rw [← hrr]
  clear hrr
  have f0 := fullI_pos k
  have f1 := fullI_le k
  have m0 : 0 ≤ c % (fullI k + 1) := Int.emod_nonneg _ (by omega)
  have m1 : c % (fullI k + 1) < fullI k + 1 := Int.emod_lt_of_pos _ (by omega)
  have b1 := flags_of hk hcb.1 hcb.2
  have b2 := flags_and k c hk
  have dk : decide (IsW k) = true := decide_eq_true hk
  have AG : Hid (∀ W, Rd .u8 W v xs → Calls Tryz.prog 116 #[v, .int .i64 ((a : Int) + 1), .int .i64 (c % (fullI k + 1))] W fun e w' => e = .returned (addV (a + 1) (addG (xs.drop (a + 1)) 0 (c % (fullI k + 1)))) ∧ Below W.heap.size W w') := fun W hR => by
    have := addGroups_any v xs (a + 1) (c % (fullI k + 1)) W hR hx (by omega) m0 (by omega)
    simpa using this
  obtain ⟨m, hm⟩ : ∃ m, m = c % (fullI k + 1) := ⟨_, rfl⟩
  obtain ⟨q, hq⟩ : ∃ q, q = c - m := ⟨_, rfl⟩
  rw [← hm] at b1 b2 AG m0 m1 hg
  rw [← hq] at b1 hg
  have hR := Lib.hid hr
  obtain ⟨va, vc, rfl⟩ := hr.isSlice
  have hcell : ∃ b o, va = some ⟨b, o, none⟩ ∧ b < w.heap.size ∧ w.cell? ⟨b, o + a, none⟩ = some (.int .u8 c) := by
    rcases hr with ⟨rfl, _⟩ | ⟨_, b, o, cp, he, h2, h3, h4, h5⟩
    · simp at ha
    · simp only [Value.slice.injEq] at he
      exact ⟨b, o, he.1, h4, by rw [hc]; exact h5 _ ha⟩
  obtain ⟨b, o, rfl, hb, hcell⟩ := hcell
  have hs0 : decide ((a : Int) < 0) = false := decide_eq_false (by omega)
  have hs1 : decide ((a : Int) > (xs.length : Int)) = false := decide_eq_false (by omega)
  have hs2 : ((a : Int) == (xs.length : Int)) = false := by simp; omega
  have hM := Lib.hid hm
  have hQ := Lib.hid hq
  have hG := Lib.hid hg
  clear hm hq hg hr hx hc
  by_cases hlt : m < fullI k
  · have dl : decide (m < fullI k) = true := decide_eq_true hlt
    have HG : Hid (getV r = getV (q, m, (a : Int) + 1, 0, 0)) := by
      have := hG.out; rw [if_pos hlt] at this; exact congrArg getV this
    clear hG hlt
    go_enter Tryz.func92, Tryz.ntmps92
    go_wp2_with (first
      | (go_at_call 98; refine (isW_any k _).mono ?_; rintro e w' ⟨rfl, rfl⟩; rw [dk])
      | (go_at_call 74; refine (ones_any11 k _ hk).mono ?_; rintro e w' ⟨rfl, rfl⟩))
    go_quiet (fail)
    go_wp2_with fail
    refine bodyPost_ret (v := getV (q, m, (a : Int) + 1, 0, 0)) (by simp [results, Tryz.results92, go_sem, fault, getV]) rfl ⟨by rw [HG.out], ((below_drewN ((Below.refl _ _).alloc (Nat.le_refl _) _) _).setCell (Nat.le_refl _) _).setCell (Nat.le_refl _) _⟩
  · have dl : decide (m < fullI k) = false := decide_eq_false hlt
    have hG2 := hG.out
    rw [if_neg hlt] at hG2
    obtain ⟨S, hS⟩ : ∃ S, S = addG (xs.drop (a + 1)) 0 m := ⟨_, rfl⟩
    have hW : ∀ y j, S = .inr (y, j) → y = 3 ∨ y = 5 := fun y j h => addG_why _ _ _ _ _ (hS.symm.trans h)
    rw [← hS] at hG2 AG
    clear hS hG hlt
    rcases S with ⟨n, j⟩ | ⟨y, j⟩
    · have HG : Hid (getV r = getV (q, n, (a : Int) + 1 + (j : Int), 0, 0)) := congrArg getV hG2
      have AG' : Hid (∀ W, Rd .u8 W (.slice (some ⟨b, o, none⟩) xs.length vc) xs → Calls Tryz.prog 116 #[.slice (some ⟨b, o, none⟩) xs.length vc, .int .i64 ((a : Int) + 1), .int .i64 m] W fun e w' => e = .returned (.tuple #[.int .i64 n, .int .i64 ((a : Int) + 1 + (j : Int)), .agg #[.int .i64 0, .int .i64 0]]) ∧ Below W.heap.size W w') := fun W h => by
        have := AG.out W h
        simpa only [addV, fault, Int.natCast_add, Int.natCast_one] using this
      clear hG2 AG
      go_enter Tryz.func92, Tryz.ntmps92
      go_wp2_with (first
        | (go_at_call 98; refine (isW_any k _).mono ?_; rintro e w' ⟨rfl, rfl⟩; rw [dk])
        | (go_at_call 74; refine (ones_any11 k _ hk).mono ?_; rintro e w' ⟨rfl, rfl⟩))
      go_quiet (fail)
      have bW : Below w.heap.size w ((w.alloc (.cells #[.int .i64 0, .int .i64 0] 42)).drewN nq) := below_drewN ((Below.refl _ _).alloc (Nat.le_refl _) _) _
      have zW : w.heap.size < ((w.alloc (.cells #[.int .i64 0, .int .i64 0] 42)).drewN nq).heap.size := by simp [World.drewN]
      have H1 : Held2 w.heap.size 0 0 ((w.alloc (.cells #[.int .i64 0, .int .i64 0] 42)).drewN nq) := held2_last _ _ _ _
      go_wp2_with fail
      generalize ((w.alloc (.cells #[.int .i64 0, .int .i64 0] 42)).drewN nq) = W1 at *
      refine (AG'.out W1 (hR.out.below bW)).mono ?_
      rintro e w2 ⟨rfl, bb⟩
      have bz := bb.size
      have b3 : Below w.heap.size w w2 := bW.trans (bb.mono (by omega))
      have H2 := Lib.hid (H1.below bb)
      obtain ⟨g0', g1'⟩ := H2.out.free
      obtain ⟨c0', c1'⟩ := H2.out.facts
      obtain ⟨f0', f1'⟩ := (H2.out.below ((Below.refl _ _).alloc (Nat.le_refl _) (.cells #[.int .i64 0, .int .i64 0] 42))).free
      have z2 : w.heap.size < w2.heap.size := H2.out.lt
      have n2 : w.heap.size ≠ w2.heap.size := by omega
      have n3 : w2.heap.size ≠ w.heap.size := by omega
      clear H1
      go_wp2_with fail
      refine bodyPost_ret (v := getV (q, n, (a : Int) + 1 + (j : Int), 0, 0)) (by simp [results, Tryz.results92, go_sem, fault, getV, c0', c1', z2]) rfl ⟨by rw [HG.out], ?_⟩
      exact ((b3.setCell (Nat.le_refl _) _).setCell (Nat.le_refl _) _).alloc (by simp; omega) _
    · have HG : Hid (getV r = getV (0, 0, 0, y, (a : Int) + 1 + (j : Int))) := congrArg getV hG2
      have AG' : Hid (∀ W, Rd .u8 W (.slice (some ⟨b, o, none⟩) xs.length vc) xs → Calls Tryz.prog 116 #[.slice (some ⟨b, o, none⟩) xs.length vc, .int .i64 ((a : Int) + 1), .int .i64 m] W fun e w' => e = .returned (.tuple #[.int .i64 0, .int .i64 0, .agg #[.int .i64 y, .int .i64 ((a : Int) + 1 + (j : Int))]]) ∧ Below W.heap.size W w') := fun W h => by
        have := AG.out W h
        simpa only [addV, fault, Int.natCast_add, Int.natCast_one] using this
      have hy : (y != 0) = true := by rcases hW y j rfl with rfl | rfl <;> rfl
      clear hG2 AG hW
      go_enter Tryz.func92, Tryz.ntmps92
      go_wp2_with (first
        | (go_at_call 98; refine (isW_any k _).mono ?_; rintro e w' ⟨rfl, rfl⟩; rw [dk])
        | (go_at_call 74; refine (ones_any11 k _ hk).mono ?_; rintro e w' ⟨rfl, rfl⟩))
      go_quiet (fail)
      have bW : Below w.heap.size w ((w.alloc (.cells #[.int .i64 0, .int .i64 0] 42)).drewN nq) := below_drewN ((Below.refl _ _).alloc (Nat.le_refl _) _) _
      have zW : w.heap.size < ((w.alloc (.cells #[.int .i64 0, .int .i64 0] 42)).drewN nq).heap.size := by simp [World.drewN]
      have H1 : Held2 w.heap.size 0 0 ((w.alloc (.cells #[.int .i64 0, .int .i64 0] 42)).drewN nq) := held2_last _ _ _ _
      go_wp2_with fail
      generalize ((w.alloc (.cells #[.int .i64 0, .int .i64 0] 42)).drewN nq) = W1 at *
      refine (AG'.out W1 (hR.out.below bW)).mono ?_
      rintro e w2 ⟨rfl, bb⟩
      have bz := bb.size
      have b3 : Below w.heap.size w w2 := bW.trans (bb.mono (by omega))
      have H2 := Lib.hid (H1.below bb)
      obtain ⟨g0', g1'⟩ := H2.out.free
      obtain ⟨c0', c1'⟩ := H2.out.facts
      obtain ⟨f0', f1'⟩ := (H2.out.below ((Below.refl _ _).alloc (Nat.le_refl _) (.cells #[.int .i64 y, .int .i64 ((a : Int) + 1 + (j : Int))] 42))).free
      have z2 : w.heap.size < w2.heap.size := H2.out.lt
      have n2 : w.heap.size ≠ w2.heap.size := by omega
      have n3 : w2.heap.size ≠ w.heap.size := by omega
      clear H1
      go_wp2_with fail
      go_region
      all_goals (go_wp2_with fail)
      all_goals
        refine bodyPost_ret (v := getV (0, 0, 0, y, (a : Int) + 1 + (j : Int))) (by simp [results, Tryz.results92, go_sem, fault, getV, c0', c1', z2]) rfl ⟨by rw [HG.out], ?_⟩
        exact (((b3.setCell (Nat.le_refl _) _).setCell (Nat.le_refl _) _).alloc (by simp; omega) _).drew

theorem get_any11 (v : Value) (xs : List Int) (a k : Int) (w : World) (hr : Rd .u8 w v xs) (hx : Bts xs) :
    Calls Tryz.prog 92 #[v, .int .i64 a, .int .i64 k] w (GetIs w (getP xs a k)) := by
  by_cases h0 : a < 0
  · have e : getP xs a k = (0, 0, 0, 1, a) := by unfold getP; rw [if_pos (.inl h0)]
    rw [e]; exact get_low v a k w h0
  by_cases h1 : (xs.length : Int) < a
  · have e : getP xs a k = (0, 0, 0, 1, a) := by unfold getP; rw [if_pos (.inr (.inl h1))]
    rw [e]; exact get_high v xs a k w hr h0 h1
  by_cases hk : IsW k
  · obtain ⟨i, rfl⟩ := Int.eq_ofNat_of_zero_le (show 0 ≤ a by omega)
    by_cases h2 : i = xs.length
    · have e : getP xs i k = (0, 0, 0, 3, (xs.length : Int)) := by
        unfold getP
        rw [if_neg (by rintro (h | h | h) <;> first | omega | exact h hk), if_pos (by omega)]
      rw [e, h2]; exact get_end v xs k w hr hk
    · exact get_in v xs i k w hr hx (by omega) hk
  · have e : getP xs a k = (0, 0, 0, 1, a) := by unfold getP; rw [if_pos (.inr (.inr hk))]
    rw [e]; exact get_wide v xs a k w hr h0 h1 hk

end Go.Proofs.YtbkbabaoockigaaGreatDoor

set_option maxRecDepth 100000
set_option maxRecDepth 100000
namespace Go.Proofs.YtbkbabaoockigaaGreatDoor
open Go.RowKit

theorem IsW.both {k F : Int} (h : IsW k) (hF : F = fullI k) : (k = 1 ∧ F = 1) ∨ (k = 2 ∧ F = 3) ∨ (k = 3 ∧ F = 7) ∨ (k = 4 ∧ F = 15) ∨ (k = 5 ∧ F = 31) ∨ (k = 6 ∧ F = 63) ∨ (k = 7 ∧ F = 127) ∨ (k = 8 ∧ F = 255) := by
  rcases h.cases with rfl | rfl | rfl | rfl | rfl | rfl | rfl | rfl <;> (subst hF; decide)
def NoIs (w : World) (e : Ending) (w' : World) : Prop := e = .returned (.tuple #[.slice none 0 0, .int .i64 1]) ∧ w = w'

theorem rput_1 (v : Value) (f k n : Int) (w : World) (hk : ¬ IsW k) : Calls Tryz.prog 43 #[v, .int .i64 f, .int .i64 k, .int .i64 n] w (NoIs w) := by
  have dk : decide (IsW k) = false := decide_eq_false hk
  go_enter Tryz.func43, Tryz.ntmps43
  go_wp2_with (go_at_call 69; refine (rwidth_any k _).mono ?_; rintro e w' ⟨rfl, rfl⟩; rw [dk])
  go_ret2
  exact ⟨rfl, rfl⟩
theorem rput_2 (v : Value) (f k n : Int) (w : World) (hk : IsW k) (h : f < 0) : Calls Tryz.prog 43 #[v, .int .i64 f, .int .i64 k, .int .i64 n] w (NoIs w) := by
  have dk : decide (IsW k) = true := decide_eq_true hk
  have d1 : decide (f < 0) = true := decide_eq_true h
  clear h
  go_enter Tryz.func43, Tryz.ntmps43
  go_wp2_with (go_at_call 69; refine (rwidth_any k _).mono ?_; rintro e w' ⟨rfl, rfl⟩; rw [dk])
  go_ret2
  exact ⟨rfl, rfl⟩
theorem rput_3 (v : Value) (f k n : Int) (w : World) (hk : IsW k) (h : 255 < f) : Calls Tryz.prog 43 #[v, .int .i64 f, .int .i64 k, .int .i64 n] w (NoIs w) := by
  have dk : decide (IsW k) = true := decide_eq_true hk
  have d1 : decide (f < 0) = false := decide_eq_false (by omega)
  have d2 : decide (f > 255) = true := decide_eq_true h
  clear h
  go_enter Tryz.func43, Tryz.ntmps43
  go_wp2_with (go_at_call 69; refine (rwidth_any k _).mono ?_; rintro e w' ⟨rfl, rfl⟩; rw [dk])
  go_ret2
  exact ⟨rfl, rfl⟩
set_option maxHeartbeats 2000000 in
theorem rput_4 (v : Value) (f k n : Int) (w : World) (hk : IsW k) (h0 : 0 ≤ f) (h1 : f ≤ 255) (h : f % (fullI k + 1) ≠ 0) : Calls Tryz.prog 43 #[v, .int .i64 f, .int .i64 k, .int .i64 n] w (NoIs w) := by
  have dk : decide (IsW k) = true := decide_eq_true hk
  have d1 : decide (f < 0) = false := decide_eq_false (by omega)
  have d2 : decide (f > 255) = false := decide_eq_false (by omega)
  have dm : (f % (fullI k + 1) != 0) = true := by simp [h]
  have dt : f.tmod (fullI k + 1) = f % (fullI k + 1) := Int.tmod_eq_emod_of_nonneg h0
  clear h h1
  rcases hk.cases with rfl | rfl | rfl | rfl | rfl | rfl | rfl | rfl
  all_goals
    simp only [fullI] at dm dt
    simp only [Int.reduceAdd, Int.reduceEq, ↓reduceIte] at dm dt
    go_enter Tryz.func43, Tryz.ntmps43
    go_wp2_with (go_at_call 69; refine (rwidth_any _ _).mono ?_; rintro e w' ⟨rfl, rfl⟩; rw [dk])
    go_ret2
    exact ⟨rfl, rfl⟩

set_option maxHeartbeats 2000000 in
theorem rput_5 (v : Value) (f k n : Int) (w : World) (hk : IsW k) (hf : OkF f k) (h : n < 0) : Calls Tryz.prog 43 #[v, .int .i64 f, .int .i64 k, .int .i64 n] w (NoIs w) := by
  obtain ⟨h0, h1, h2⟩ := hf
  have dk : decide (IsW k) = true := decide_eq_true hk
  have d1 : decide (f < 0) = false := decide_eq_false (by omega)
  have d2 : decide (f > 255) = false := decide_eq_false (by omega)
  have dm : f % (fullI k + 1) = 0 := h2
  have dt : f.tmod (fullI k + 1) = 0 := by rw [Int.tmod_eq_emod_of_nonneg h0]; exact h2
  have d3 : decide (n < 0) = true := decide_eq_true h
  clear h h1 h2
  rcases hk.cases with rfl | rfl | rfl | rfl | rfl | rfl | rfl | rfl
  all_goals
    simp only [fullI] at dm dt
    simp only [Int.reduceAdd, Int.reduceEq, ↓reduceIte] at dm dt
    go_enter Tryz.func43, Tryz.ntmps43
    go_wp2_with (go_at_call 69; refine (rwidth_any _ _).mono ?_; rintro e w' ⟨rfl, rfl⟩; rw [dk])
    go_ret2
    exact ⟨rfl, rfl⟩

set_option maxHeartbeats 2000000 in
theorem rput_6 (v : Value) (f k n : Int) (w : World) (hk : IsW k) (hf : OkF f k) (h : 4611686018427387903 < n) : Calls Tryz.prog 43 #[v, .int .i64 f, .int .i64 k, .int .i64 n] w (NoIs w) := by
  obtain ⟨h0, h1, h2⟩ := hf
  have dk : decide (IsW k) = true := decide_eq_true hk
  have d1 : decide (f < 0) = false := decide_eq_false (by omega)
  have d2 : decide (f > 255) = false := decide_eq_false (by omega)
  have dm : f % (fullI k + 1) = 0 := h2
  have dt : f.tmod (fullI k + 1) = 0 := by rw [Int.tmod_eq_emod_of_nonneg h0]; exact h2
  have d3 : decide (n < 0) = false := decide_eq_false (by omega)
  have d4 : decide (n > 4611686018427387903) = true := decide_eq_true h
  clear h h1 h2
  rcases hk.cases with rfl | rfl | rfl | rfl | rfl | rfl | rfl | rfl
  all_goals
    simp only [fullI] at dm dt
    simp only [Int.reduceAdd, Int.reduceEq, ↓reduceIte] at dm dt
    go_enter Tryz.func43, Tryz.ntmps43
    go_wp2_with (go_at_call 69; refine (rwidth_any _ _).mono ?_; rintro e w' ⟨rfl, rfl⟩; rw [dk])
    go_ret2
    exact ⟨rfl, rfl⟩

end Go.Proofs.YtbkbabaoockigaaGreatDoor

set_option maxRecDepth 100000
set_option maxRecDepth 100000
namespace Go.Proofs.YtbkbabaoockigaaGreatDoor
open Go.RowKit

set_option maxHeartbeats 4000000 in
theorem rput_small (v : Value) (xs : List Int) (f k n : Int) (w : World) (hr : Rd .u8 w v xs) (hl : xs.length ≤ 140737488351232) (hok : OkP f k n) (hs : n < fullI k) :
    Calls Tryz.prog 43 #[v, .int .i64 f, .int .i64 k, .int .i64 n] w (BytesOf w (xs ++ [f + n])) := by
  obtain ⟨hk, hf, n0, n1⟩ := hok
  have hfb := first_byte hk hf n0 (by omega)
  obtain ⟨h0, h1, h2⟩ := hf
  have dk : decide (IsW k) = true := decide_eq_true hk
  have d1 : decide (f < 0) = false := decide_eq_false (by omega)
  have d2 : decide (f > 255) = false := decide_eq_false (by omega)
  have d3 : decide (n < 0) = false := decide_eq_false (by omega)
  have d4 : decide (n > 4611686018427387903) = false := decide_eq_false (by omega)
  have d5 : decide (n < fullI k) = true := decide_eq_true hs
  have dm : f % (fullI k + 1) = 0 := h2
  have dt : f.tmod (fullI k + 1) = 0 := by rw [Int.tmod_eq_emod_of_nonneg h0]; exact h2
  have hw : (f + n) % 256 = f + n := by omega
  have hrl := hr.len
  have hml : maxLen = 9223372036854775807 := rfl
  rw [hml] at hrl
  have hR := Lib.hid hr
  obtain ⟨va, vc, rfl⟩ := hr.isSlice
  clear hml hr h2 hs
  rcases hk.cases with rfl | rfl | rfl | rfl | rfl | rfl | rfl | rfl
  all_goals
    simp only [fullI] at dm dt d5
    simp only [Int.reduceAdd, Int.reduceEq, ↓reduceIte] at dm dt d5
    go_enter Tryz.func43, Tryz.ntmps43
    go_wp2_with (first
      | (go_at_call 69; refine (rwidth_any _ _).mono ?_; rintro e w' ⟨rfl, rfl⟩; rw [dk])
      | (at_builtin; ((with_reducible refine wpList_append_rd _ ?_ (.const (.slice none 0 0)) (.tmp 38) 38 ?_ elemU8 Tryz.underlying38 w.heap.size (.slice none 0 0) [] ?_ (Own.nil _ _ _ _) (.slice va xs.length vc) xs ?_ hR.out ?_ ?_ ?_ ?_)); rfl; rfl; rfl; rfl; (simp; omega); (simp; unfold maxLen; omega); (exact Nat.le_refl _); intro v2 w2 o2 g2; have b2 : Below w.heap.size w w2 := (Below.refl _ _).grown g2 (Nat.le_refl _) (by simp [Value.ownBlock]); have z2 := b2.size; rw [List.nil_append] at o2)
      | (at_builtin; ((with_reducible refine wpList_append_rd _ ?_ (.tmp 46) (.tmp 51) 38 ?_ elemU8 Tryz.underlying38 w.heap.size v2 xs ?_ (o2.alloc _) (.slice (some ⟨w2.heap.size, 0, none⟩) 1 1) [f + n] ?_ (Rd.one .u8 5 w2 (f + n)) ?_ ?_ ?_ ?_)); rfl; rfl; rfl; rfl; (simp; omega); (simp; unfold maxLen; omega); (simp; omega); intro v3 w3 o3 g3; have b3 : Below w.heap.size w w3 := (b2.alloc z2 _).grown g3 (by simp; omega) o2.blk))
    go_ret2
    exact ⟨_, rfl, o3, b3⟩

set_option maxHeartbeats 4000000 in
theorem rput_large (v : Value) (xs : List Int) (f k n : Int) (w : World) (hr : Rd .u8 w v xs) (hl : xs.length ≤ 140737488351232) (hok : OkP f k n) (hs : ¬ n < fullI k) :
    Calls Tryz.prog 43 #[v, .int .i64 f, .int .i64 k, .int .i64 n] w (BytesOf w (xs ++ (f + fullI k) :: grp (n - fullI k).toNat)) := by
  obtain ⟨hk, hf, n0, n1⟩ := hok
  have hfb := first_byte hk hf (x := fullI k) (by have := fullI_pos k; omega) (by omega)
  obtain ⟨h0, h1, h2⟩ := hf
  have dk : decide (IsW k) = true := decide_eq_true hk
  have d1 : decide (f < 0) = false := decide_eq_false (by omega)
  have d2 : decide (f > 255) = false := decide_eq_false (by omega)
  have d3 : decide (n < 0) = false := decide_eq_false (by omega)
  have d4 : decide (n > 4611686018427387903) = false := decide_eq_false (by omega)
  have d5 : decide (n < fullI k) = false := decide_eq_false hs
  have dm : f % (fullI k + 1) = 0 := h2
  have dt : f.tmod (fullI k + 1) = 0 := by rw [Int.tmod_eq_emod_of_nonneg h0]; exact h2
  have hw : (f + fullI k) % 256 = f + fullI k := by omega
  have F1 := fullI_pos k
  have hsub : IntKind.i64.wrap (n - fullI k) = n - fullI k := wrap_small _ (by omega) (by omega)
  obtain ⟨m, hm⟩ : ∃ m : Nat, m = (n - fullI k).toNat := ⟨_, rfl⟩
  have hme : n - fullI k = (m : Int) := by omega
  have hm9 : m ≤ 4611686018427387903 := by omega
  obtain ⟨T, hT⟩ : ∃ T, T = xs ++ (f + fullI k) :: grp m := ⟨_, rfl⟩
  have hTl : T.length ≤ xs.length + 10 := by
    have := grp_len9 hm9
    rw [hT]; simp; omega
  have HT : Hid (xs ++ [f + fullI k] ++ grp m = T) := by
    show _ = T
    rw [hT]; simp
  rw [← hm, ← hT]
  have HM := Lib.hid hme
  clear hm hT hme
  have hrl := hr.len
  have hml : maxLen = 9223372036854775807 := rfl
  rw [hml] at hrl
  have hR := Lib.hid hr
  obtain ⟨va, vc, rfl⟩ := hr.isSlice
  clear hml hr h2 hs
  have HTl := Lib.hid hTl
  clear hTl
  rcases hk.cases with rfl | rfl | rfl | rfl | rfl | rfl | rfl | rfl
  all_goals
    simp only [fullI] at dm dt d5 hw hsub HT hfb HM
    simp only [Int.reduceAdd, Int.reduceEq, ↓reduceIte] at dm dt d5 hw hsub HT hfb HM
    go_enter Tryz.func43, Tryz.ntmps43
    go_wp2_with (first
      | (go_at_call 69; refine (rwidth_any _ _).mono ?_; rintro e w' ⟨rfl, rfl⟩; rw [dk])
      | (at_builtin; ((with_reducible refine wpList_append_rd _ ?_ (.const (.slice none 0 0)) (.tmp 38) 38 ?_ elemU8 Tryz.underlying38 w.heap.size (.slice none 0 0) [] ?_ (Own.nil _ _ _ _) (.slice va xs.length vc) xs ?_ hR.out ?_ ?_ ?_ ?_)); rfl; rfl; rfl; rfl; (simp; omega); (simp; unfold maxLen; omega); (exact Nat.le_refl _); intro v2 w2 o2 g2; have b2 : Below w.heap.size w w2 := (Below.refl _ _).grown g2 (Nat.le_refl _) (by simp [Value.ownBlock]); have z2 := b2.size; rw [List.nil_append] at o2)
      | (at_builtin; ((with_reducible refine wpList_append_rd _ ?_ (.tmp 53) (.tmp 58) 38 ?_ elemU8 Tryz.underlying38 w.heap.size v2 xs ?_ (o2.alloc _) (.slice (some ⟨w2.heap.size, 0, none⟩) 1 1) [_] ?_ (Rd.one .u8 5 w2 _) ?_ ?_ ?_ ?_)); rfl; rfl; rfl; rfl; (simp; omega); (simp; unfold maxLen; omega); (simp; omega); intro v3 w3 o3 g3; have b3 : Below w.heap.size w w3 := (b2.alloc z2 _).grown g3 (by simp; omega) o2.blk))
    go_loopw [3, 10] (fun i u wr => ∃ (m' : Nat) (L : List Int), m' ≤ 4611686018427387903 ∧ i = .int .i64 m' ∧ Own .u8 5 wr w.heap.size u L ∧ Below w.heap.size w wr ∧ Hid (L ++ grp m' = T)) (fun i _ _ => (intOf i).toNat)
    case atStart => exact ⟨m, _, hm9, congrArg (Value.int IntKind.i64) HM.out, o3, b3, HT⟩
    case round =>
      obtain ⟨m', L, hm', rfl, ho, hb, hL⟩ := hrel
      have hll : L.length + (grp m').length ≤ xs.length + 10 := by
        have := congrArg List.length hL.out
        rw [List.length_append] at this
        have := HTl.out
        omega
      have hgp := grp_pos m'
      have hbz := hb.size
      clear b3 o3 b2 o2
      by_cases h128 : m' < 128
      · have d6 : decide ((m' : Int) ≥ 128) = false := decide_eq_false (by omega)
        have hv : (m' : Int) % 256 = m' := by omega
        have hG : Hid (L ++ [(m' : Int)] = T) := by
          have := hL.out; rw [grp_lt h128] at this; exact this
        clear hL h128
        go_wp2_with (at_builtin; ((with_reducible refine wpList_append_rd _ ?_ (.tmp 74) (.tmp 77) 38 ?_ elemU8 Tryz.underlying38 w.heap.size _ L ?_ (ho.alloc _) (.slice (some ⟨wr.heap.size, 0, none⟩) 1 1) [_] ?_ (Rd.one .u8 5 wr _) ?_ ?_ ?_ ?_)); rfl; rfl; rfl; rfl; (simp; omega); (simp; unfold maxLen; omega); (simp; omega); intro v4 w4 o4 g4; have b4 : Below w.heap.size w w4 := (hb.alloc hbz _).grown g4 (by simp; omega) ho.blk)
        go_ret2
        exact ⟨_, rfl, by rw [← hG.out]; exact o4, b4⟩
      · have d6 : decide ((m' : Int) ≥ 128) = true := decide_eq_true (by omega)
        have hv : (128 + (m' : Int) % 128) % 256 = 128 + (m' : Int) % 128 := by omega
        have hG : Hid (L ++ [128 + (m' : Int) % 128] ++ grp (m' / 128) = T) := by
          have := hL.out; rw [grp_ge h128] at this; show _ = T; rw [← this]; simp
        have hq : m' / 128 ≤ 4611686018427387903 := by omega
        have hlt : m' / 128 < m' := by omega
        have hL1 : L.length ≤ xs.length + 9 := by omega
        clear hL h128
        go_wp2_with (at_builtin; ((with_reducible refine wpList_append_rd _ ?_ (.tmp 65) (.tmp 70) 38 ?_ elemU8 Tryz.underlying38 w.heap.size _ L ?_ (ho.alloc _) (.slice (some ⟨wr.heap.size, 0, none⟩) 1 1) [_] ?_ (Rd.one .u8 5 wr _) ?_ ?_ ?_ ?_)); rfl; rfl; rfl; rfl; (simp; omega); (simp; unfold maxLen; omega); (simp; omega); intro v4 w4 o4 g4; have b4 : Below w.heap.size w w4 := (hb.alloc hbz _).grown g4 (by simp; omega) ho.blk)
        go_roundw
        case rel => exact ⟨m' / 128, _, hq, by simp, o4, b4, hG⟩
        case measure => simp [intOf]; omega

theorem rput_any (v : Value) (xs : List Int) (f k n : Int) (w : World) (hr : Rd .u8 w v xs) (hl : xs.length ≤ 140737488351232) :
    Calls Tryz.prog 43 #[v, .int .i64 f, .int .i64 k, .int .i64 n] w (PutIs w (putO xs f k n)) := by
  by_cases hk : IsW k
  · by_cases hf : OkF f k
    · by_cases h5 : n < 0
      · exact (rput_5 v f k n w hk hf h5).mono fun e w' x => PutIs.no (if_neg fun h => by have := h.2.2.1; omega) x
      · by_cases h6 : 4611686018427387903 < n
        · exact (rput_6 v f k n w hk hf h6).mono fun e w' x => PutIs.no (if_neg fun h => by have := h.2.2.2; omega) x
        · have h : OkP f k n := ⟨hk, hf, by omega, by omega⟩
          by_cases hs : n < fullI k
          · exact (rput_small v xs f k n w hr hl h hs).mono fun e w' x => PutIs.yes (if_pos h) (by unfold encP; rw [if_pos hs]) x
          · exact (rput_large v xs f k n w hr hl h hs).mono fun e w' x => PutIs.yes (if_pos h) (by unfold encP; rw [if_neg hs]) x
    · by_cases h2 : f < 0
      · exact (rput_2 v f k n w hk h2).mono fun e w' x => PutIs.no (if_neg fun h => hf h.2.1) x
      · by_cases h3 : 255 < f
        · exact (rput_3 v f k n w hk h3).mono fun e w' x => PutIs.no (if_neg fun h => hf h.2.1) x
        · exact (rput_4 v f k n w hk (by omega) (by omega) (fun h => hf ⟨by omega, by omega, h⟩)).mono fun e w' x => PutIs.no (if_neg fun h => hf h.2.1) x
  · exact (rput_1 v f k n w hk).mono fun e w' x => PutIs.no (if_neg fun h => hk h.1) x

theorem okF_0 (k : Int) (hk : IsW k) : OkF 0 k := by
  rcases hk.cases with rfl | rfl | rfl | rfl | rfl | rfl | rfl | rfl <;> decide
end Go.Proofs.YtbkbabaoockigaaGreatDoor

set_option maxRecDepth 100000
set_option maxRecDepth 100000
namespace Go.Proofs.YtbkbabaoockigaaGreatDoor
open Go.RowKit

theorem PutIs.bytes {w : World} {l : Option (List Int)} {zs : List Int} (hl : l = some zs) {e : Ending} {w' : World} (h : PutIs w l e w') : BytesOf w zs e w' := by
  obtain ⟨u, ys, c, rfl, o, b, hd⟩ := h
  rcases hd with ⟨z, h, rfl, rfl⟩ | ⟨h, _, _⟩
  · rw [hl] at h; cases h; exact ⟨u, rfl, o, b⟩
  · rw [hl] at h; cases h
theorem enc_one : encP 224 5 1337 = [255, 154, 10] := by
  unfold encP
  rw [if_neg (by decide)]
  show (224 + 31 : Int) :: grp 1306 = _
  rw [grp_ge (by decide), grp_lt (by decide)]; rfl
theorem get_one : getP [255, 154, 10] 0 5 = (224, 1337, 3, 0, 0) := by decide +kernel
theorem size_one : sizeP 5 10 = 1 := by
  unfold sizeP
  rw [if_pos (by decide), sizeN_lt (by decide)]; rfl

theorem get_at (v : Value) (xs : List Int) (a k : Int) (w : World) (hr : Rd .u8 w v xs) (hx : Bts xs) {f n x y z : Int} (h : getP xs a k = (f, n, x, y, z)) :
    Calls Tryz.prog 92 #[v, .int .i64 a, .int .i64 k] w fun e w' => e = .returned (.tuple #[.int .i64 f, .int .i64 n, .int .i64 x, .agg #[.int .i64 y, .int .i64 z]]) ∧ Below w.heap.size w w' := by
  have := get_any11 v xs a k w hr hx
  rw [h] at this
  exact this

end Go.Proofs.YtbkbabaoockigaaGreatDoor

set_option maxRecDepth 100000
set_option maxRecDepth 100000
namespace Go.Proofs.YtbkbabaoockigaaGreatDoor
open Go.RowKit

/-- a block that holds three numbers -/
def Held3 (b : Nat) (x y z : Int) (W : World) : Prop := ∃ T, W.heap[b]? = some (.cells #[.int .i64 x, .int .i64 y, .int .i64 z] T (0, 0))
theorem held3_last (x y z : Int) (T : TypeId) (w : World) : Held3 w.heap.size x y z (w.alloc (.cells #[.int .i64 x, .int .i64 y, .int .i64 z] T)) := ⟨T, by show (w.heap.push _)[w.heap.size]? = _; simp⟩
theorem Held3.lt {b : Nat} {x y z : Int} {W : World} (H : Held3 b x y z W) : b < W.heap.size := by
  obtain ⟨T, e⟩ := H
  exact (Array.getElem?_eq_some_iff.1 e).1
theorem Held3.below {b : Nat} {x y z : Int} {W W' : World} (H : Held3 b x y z W) (hb : Below W.heap.size W W') : Held3 b x y z W' := by
  have k := H.lt
  obtain ⟨T, e⟩ := H
  exact ⟨T, by rw [hb.block b k]; exact e⟩
theorem Held3.facts {b : Nat} {x y z : Int} {W : World} (H : Held3 b x y z W) : W.cell? ⟨b, 0, none⟩ = some (.int .i64 x) ∧ W.cell? ⟨b, 1, none⟩ = some (.int .i64 y) ∧ W.cell? ⟨b, 2, none⟩ = some (.int .i64 z) := by
  obtain ⟨T, e⟩ := H
  simp [World.cell?, e]

end Go.Proofs.YtbkbabaoockigaaGreatDoor

set_option maxRecDepth 100000
set_option maxRecDepth 100000
namespace Go.Proofs.YtbkbabaoockigaaGreatDoor
open Go.RowKit

theorem flags_ok {k c : Int} (hk : IsW k) (h0 : 0 ≤ c) (h1 : c < 256) : OkF (c - c % (fullI k + 1)) k := by
  unfold OkF
  rcases hk.cases with rfl | rfl | rfl | rfl | rfl | rfl | rfl | rfl <;> simp only [fullI, Int.reduceAdd, Int.reduceEq, ↓reduceIte] <;> omega

/-- what is got: a fault, or what may be put in no more bytes -/
theorem getP_ways (xs : List Int) (a k : Int) (hx : Bts xs) :
    (∃ y z, getP xs a k = (0, 0, 0, y, z) ∧ y ≠ 0) ∨
    (∃ f n x, getP xs a k = (f, n, x, 0, 0) ∧ OkP f k n ∧ (sizeN k n : Int) ≤ x - a ∧ 0 ≤ a ∧ x ≤ xs.length) := by
  unfold getP
  split
  · exact .inl ⟨_, _, rfl, by decide⟩
  · rename_i hno
    have ha0 : 0 ≤ a := by omega
    have ha1 : a ≤ xs.length := by omega
    have hk : IsW k := Classical.byContradiction fun h => hno (.inr (.inr h))
    split
    · exact .inl ⟨_, _, rfl, by decide⟩
    · rename_i hne
      have hc := getD_bts hx a.toNat
      generalize xs.getD a.toNat 0 = c at hc
      have f0 := fullI_pos k
      have f1 := fullI_le k
      have m0 : 0 ≤ c % (fullI k + 1) := Int.emod_nonneg _ (by omega)
      have m1 : c % (fullI k + 1) < fullI k + 1 := Int.emod_lt_of_pos _ (by omega)
      have hf := flags_ok hk hc.1 hc.2
      simp only
      split
      · rename_i hlt
        refine .inr ⟨_, _, _, rfl, ⟨hk, hf, m0, by omega⟩, ?_, ha0, by omega⟩
        rw [sizeN_lt hlt]; omega
      · rename_i hge
        split
        · rename_i n j hg
          have hup := addG_up _ _ _ _ _ hg (by omega)
          obtain ⟨j1, j2, n1, n2, n3⟩ := hup
          rw [List.length_drop] at j2
          have hd : (n - fullI k).toNat < 128 ^ j := by
            have e : ((128 ^ 0 : Nat) : Int) = 1 := rfl
            rw [e] at n3
            omega
          refine .inr ⟨_, _, _, rfl, ⟨hk, hf, by omega, n2⟩, ?_, ha0, by omega⟩
          rw [sizeN_ge (by omega)]
          have := grp_len_le j _ hd (by omega)
          omega
        · rename_i y j hg
          refine .inl ⟨_, _, rfl, ?_⟩
          rcases addG_why _ _ _ _ _ hg with rfl | rfl <;> decide

end Go.Proofs.YtbkbabaoockigaaGreatDoor

set_option maxRecDepth 100000
set_option maxRecDepth 100000
namespace Go.Proofs.YtbkbabaoockigaaGreatDoor
open Go.RowKit

theorem drop_mid (xs ys zs : List Int) : (xs ++ ys ++ zs).drop xs.length = ys ++ zs := by rw [List.append_assoc, List.drop_append, List.drop_of_length_le (Nat.le_refl _)]; simp
theorem flags_back {k f x : Int} (hk : IsW k) (hf : OkF f k) (h0 : 0 ≤ x) (h1 : x ≤ fullI k) : (f + x) % (fullI k + 1) = x := by
  obtain ⟨f0, f1, f2⟩ := hf
  rcases hk.cases with rfl | rfl | rfl | rfl | rfl | rfl | rfl | rfl <;> simp only [fullI, Int.reduceAdd, Int.reduceEq, ↓reduceIte] at * <;> omega
/-- WHAT WAS PUT IS GOT -/
theorem get_enc (xs zs : List Int) (f k n : Int) (hok : OkP f k n) : getP (xs ++ encP f k n ++ zs) xs.length k = (f, n, (xs.length : Int) + sizeN k n, 0, 0) := by
  obtain ⟨hk, hf, n0, n1⟩ := hok
  have f0 := fullI_pos k
  have hel := encP_len f k n
  have hsp := sizeN_pos k n
  unfold getP
  rw [if_neg (by rintro (h | h | h); · omega
                 · simp only [List.length_append] at h; omega
                 · exact h hk), if_neg (by simp only [List.length_append]; omega)]
  simp only [Int.toNat_natCast]
  by_cases hs : n < fullI k
  · have he : encP f k n = [f + n] := by unfold encP; rw [if_pos hs]
    have hh : (xs ++ encP f k n ++ zs).getD xs.length 0 = f + n := by rw [he]; simp [List.getD]
    rw [hh, flags_back hk hf n0 (by omega), if_pos hs, sizeN_lt hs]
    simp
  · have he : encP f k n = (f + fullI k) :: grp (n - fullI k).toNat := by unfold encP; rw [if_neg hs]
    have hh : (xs ++ encP f k n ++ zs).getD xs.length 0 = f + fullI k := by rw [he]; simp [List.getD]
    have hd : (xs ++ encP f k n ++ zs).drop (xs.length + 1) = grp (n - fullI k).toNat ++ zs := by
      rw [he, List.append_assoc, List.drop_append, List.drop_of_length_le (by omega), show xs.length + 1 - xs.length = 1 by omega]; simp
    rw [hh, flags_back hk hf (by omega) (Int.le_refl _), if_neg (by omega), hd]
    have hg := addG_grp (n - fullI k).toNat 0 (fullI k) zs (by omega) (by
      have e : ((128 ^ 0 : Nat) : Int) = 1 := rfl
      rw [e]; omega) (.inl rfl)
    have e : fullI k + ((n - fullI k).toNat : Int) * ((128 ^ 0 : Nat) : Int) = n := by
      have e : ((128 ^ 0 : Nat) : Int) = 1 := rfl
      rw [e]; omega
    rw [hg, e, sizeN_ge hs]
    simp
    omega

theorem below_of_grown {w w' : World} {row : Option Nat} (h : w.grownBy w' row) (hr : ∀ k, row = some k → w.heap.size ≤ k) : Below w.heap.size w w' := (Below.refl _ _).grown h (Nat.le_refl _) hr

theorem below_zeros {B b : Nat} {y z : Int} {w W : World} (h : Below B w W) (_ : Held2 b y z W) (hb : B ≤ b) : Below B w ((W.setCell ⟨b, 0, none⟩ (.int .i64 0)).setCell ⟨b, 1, none⟩ (.int .i64 0)) := (h.setCell hb _).setCell hb _

theorem below_undrew {B : Nat} {w w' : World} (h : Below B w.drew w') : Below B w w' := ⟨h.os, h.tape, h.output, h.size, h.block⟩

end Go.Proofs.YtbkbabaoockigaaGreatDoor
