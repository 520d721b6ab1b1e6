/- The mathematics of layer 16: dates and their numbers. -/
import Derived.Test.YtgefnndegjpcpaaDoorGen
set_option linter.unusedSimpArgs false
set_option linter.unusedVariables false
namespace Go.Proofs.YtgefnndegjpcpaaDoor
open Go.RowKit

/-- a year with a leap day -/
def leapB (y : Int) : Bool := decide (y % 4 = 0) && (decide (y % 100 ≠ 0) || decide (y % 400 = 0))
theorem leap_iff {y : Int} : leapB y = true ↔ y % 4 = 0 ∧ (y % 100 ≠ 0 ∨ y % 400 = 0) := by simp [leapB]
/-- how many days a month has -/
def dim (y m : Int) : Int := if m = 2 then (if leapB y then 29 else 28) else if m = 4 ∨ m = 6 ∨ m = 9 ∨ m = 11 then 30 else 31
/-- how many days lie ahead of a year -/
def toYear (y : Int) : Int := y * 365 + ((y + 3) / 4 - (y + 99) / 100 + (y + 399) / 400)
/-- how many days of a year lie ahead of the month behind k others -/
def toMon (y : Int) : Nat → Int
  | 0 => 0
  | k + 1 => toMon y k + dim y (k + 1)

structure Dt where
  y : Int
  m : Int
  d : Int
  h : Int
  i : Int
  s : Int
  deriving DecidableEq

def clockB (t : Dt) : Bool := decide (0 ≤ t.h ∧ t.h < 24 ∧ 0 ≤ t.i ∧ t.i < 60 ∧ 0 ≤ t.s ∧ t.s < 60)
def dayB (t : Dt) : Bool := decide (0 ≤ t.y ∧ t.y ≤ 9999 ∧ 1 ≤ t.m ∧ t.m ≤ 12 ∧ 1 ≤ t.d ∧ t.d ≤ dim t.y t.m)
def rightB (t : Dt) : Bool := dayB t && clockB t
/-- a date's number -/
def dayI (t : Dt) : Int := toYear t.y + toMon t.y (t.m - 1).toNat + (t.d - 1)
def secI (t : Dt) : Int := t.h * 3600 + t.i * 60 + t.s
def numI (t : Dt) : Int := dayI t * 86400 + secI t - 62167219200
def numE (t : Dt) : Int × Int := if rightB t then (numI t, 0) else (0, 1)
def inB (n : Int) : Bool := decide (-62167219200 ≤ n) && decide (n ≤ 253402300799)
/-- the day of the week -/
def weekI (n : Int) : Int := if inB n then ((n + 62167219200) / 86400 + 5) % 7 else 0

theorem right_iff {t : Dt} : rightB t = true ↔ (0 ≤ t.y ∧ t.y ≤ 9999 ∧ 1 ≤ t.m ∧ t.m ≤ 12 ∧ 1 ≤ t.d ∧ t.d ≤ dim t.y t.m) ∧ (0 ≤ t.h ∧ t.h < 24 ∧ 0 ≤ t.i ∧ t.i < 60 ∧ 0 ≤ t.s ∧ t.s < 60) := by
  simp only [rightB, dayB, clockB, Bool.and_eq_true, decide_eq_true_eq]
theorem in_iff {n : Int} : inB n = true ↔ -62167219200 ≤ n ∧ n ≤ 253402300799 := by simp [inB]

theorem dim_bound (y m : Int) : 28 ≤ dim y m ∧ dim y m ≤ 31 := by
  unfold dim
  split
  · split <;> omega
  · split <;> omega
theorem year_step (y : Int) : toYear (y + 1) = toYear y + 365 + (if leapB y then 1 else 0) := by
  unfold toYear
  split <;> rename_i h
  · rw [leap_iff] at h; omega
  · rw [leap_iff] at h; omega
theorem mon_step (y : Int) (m : Int) (hm : 1 ≤ m) : toMon y m.toNat = toMon y (m - 1).toNat + dim y m := by
  obtain ⟨k, rfl⟩ : ∃ k : Nat, m = k + 1 := ⟨(m - 1).toNat, by omega⟩
  rw [show ((k : Int) + 1).toNat = k + 1 by omega, show ((k : Int) + 1 - 1).toNat = k by omega]
  rfl
theorem mon_all (y : Int) : toMon y 12 = 365 + (if leapB y then 1 else 0) := by
  simp only [toMon, dim]
  cases leapB y <;> simp
theorem mon_mono (y : Int) {j k : Nat} (h : j ≤ k) : toMon y j ≤ toMon y k := by
  induction k with
  | zero => rw [show j = 0 by omega]; exact Int.le_refl _
  | succ k ih =>
    by_cases e : j = k + 1
    · rw [e]; exact Int.le_refl _
    · have := ih (by omega)
      have := dim_bound y (k + 1)
      simp only [toMon]; omega
theorem year_next (y : Int) : toYear (y + 1) = toYear y + toMon y 12 := by rw [year_step, mon_all]; omega
theorem year_mono_n (y : Int) (k : Nat) : toYear y ≤ toYear (y + k) := by
  induction k with
  | zero => simp
  | succ k ih =>
    have := year_step (y + k)
    rw [show y + ((k + 1 : Nat) : Int) = y + k + 1 by omega, this]
    split <;> omega
theorem year_mono {x y : Int} (h : x ≤ y) : toYear x ≤ toYear y := by
  have := year_mono_n x (y - x).toNat
  rwa [show x + ((y - x).toNat : Int) = y by omega] at this
theorem mon_nonneg (y : Int) (k : Nat) : 0 ≤ toMon y k := mon_mono y (Nat.zero_le k)
theorem mon_le (y : Int) {k : Nat} (h : k ≤ 12) : toMon y k ≤ 366 := by
  have := mon_mono y h
  rw [mon_all] at this
  split at this <;> omega
theorem year_bounds {y : Int} (h0 : 0 ≤ y) (h1 : y ≤ 9999) : 0 ≤ toYear y ∧ toYear y ≤ 3652060 := by unfold toYear; omega

/-- the day within its year -/
theorem day_in {t : Dt} (h : rightB t = true) : 0 ≤ toMon t.y (t.m - 1).toNat ∧ toMon t.y (t.m - 1).toNat + t.d ≤ toMon t.y t.m.toNat ∧ toMon t.y t.m.toNat ≤ toMon t.y 12 ∧ toMon t.y 12 ≤ 366 := by
  have ⟨⟨_, _, m1, m2, d1, d2⟩, _⟩ := right_iff.1 h
  have := mon_step t.y t.m m1
  exact ⟨mon_nonneg _ _, by omega, mon_mono _ (by omega), mon_le _ (Nat.le_refl _)⟩
theorem sec_in {t : Dt} (h : rightB t = true) : 0 ≤ secI t ∧ secI t < 86400 := by
  have ⟨_, _⟩ := right_iff.1 h
  unfold secI; omega
theorem day_bounds {t : Dt} (h : rightB t = true) : 0 ≤ dayI t ∧ dayI t < 3652425 := by
  have ⟨⟨y1, y2, m1, m2, d1, d2⟩, _⟩ := right_iff.1 h
  have ⟨a, b, c, _⟩ := day_in h
  have := year_bounds y1 y2
  have e := year_next t.y
  have : toYear (t.y + 1) ≤ toYear 10000 := year_mono (by omega)
  have e2 : toYear 10000 = 3652425 := by decide
  unfold dayI; omega
theorem num_in {t : Dt} (h : rightB t = true) : inB (numI t) = true := by
  have := sec_in h
  have := day_bounds h
  rw [in_iff]; unfold numI; omega

/-- the order of dates -/
def ltD (a b : Dt) : Prop := a.y < b.y ∨ a.y = b.y ∧ (a.m < b.m ∨ a.m = b.m ∧ (a.d < b.d ∨ a.d = b.d ∧ (a.h < b.h ∨ a.h = b.h ∧ (a.i < b.i ∨ a.i = b.i ∧ a.s < b.s))))
theorem num_lt {a b : Dt} (ha : rightB a = true) (hb : rightB b = true) (h : ltD a b) : numI a < numI b := by
  have ⟨⟨ay1, ay2, am1, am2, ad1, ad2⟩, _⟩ := right_iff.1 ha
  have ⟨⟨by1, by2, bm1, bm2, bd1, bd2⟩, _⟩ := right_iff.1 hb
  have ⟨a1, a2, a3, _⟩ := day_in ha
  have ⟨b1, b2, b3, _⟩ := day_in hb
  have sa := sec_in ha
  have sb := sec_in hb
  have days : dayI a < dayI b ∨ dayI a = dayI b ∧ secI a < secI b := by
    rcases h with h | ⟨e, h⟩
    · have e := year_next a.y
      have : toYear (a.y + 1) ≤ toYear b.y := year_mono (by omega)
      unfold dayI; omega
    · rcases h with h | ⟨e2, h⟩
      · have : toMon a.y a.m.toNat ≤ toMon b.y (b.m - 1).toNat := by rw [e]; exact mon_mono _ (by omega)
        have e' : toYear a.y = toYear b.y := by rw [e]
        unfold dayI; omega
      · have e' : toYear a.y = toYear b.y := by rw [e]
        have e2' : toMon a.y (a.m - 1).toNat = toMon b.y (b.m - 1).toNat := by rw [e, e2]
        rcases h with h | ⟨e3, h⟩
        · unfold dayI; omega
        · right
          refine ⟨by unfold dayI; omega, ?_⟩
          unfold secI; omega
  unfold numI; omega
theorem lt_total {a b : Dt} (hne : a ≠ b) : ltD a b ∨ ltD b a := by
  obtain ⟨y, m, d, h, i, s⟩ := a
  obtain ⟨y', m', d', h', i', s'⟩ := b
  simp only [ltD]
  simp only [ne_eq, Dt.mk.injEq] at hne
  omega
theorem num_inj {a b : Dt} (ha : rightB a = true) (hb : rightB b = true) (e : numI a = numI b) : a = b := by
  by_cases h : a = b
  · exact h
  · rcases lt_total h with h | h
    · have := num_lt ha hb h; omega
    · have := num_lt hb ha h; omega

/-- each day has its year -/
theorem year_ex (d : Int) (h0 : 0 ≤ d) (k : Nat) : d < toYear k → ∃ y : Int, 0 ≤ y ∧ y < k ∧ toYear y ≤ d ∧ d < toYear (y + 1) := by
  induction k with
  | zero =>
    intro h
    have : toYear ((0 : Nat) : Int) = 0 := by decide
    omega
  | succ k ih =>
    intro h
    by_cases h1 : d < toYear k
    · obtain ⟨y, a, b, c⟩ := ih h1
      exact ⟨y, a, by omega, c⟩
    · exact ⟨k, by omega, by omega, by omega, by rwa [show ((k + 1 : Nat) : Int) = (k : Int) + 1 by omega] at h⟩
theorem mon_ex (y r : Int) (h0 : 0 ≤ r) : ∀ k : Nat, r < toMon y k → ∃ m : Int, 1 ≤ m ∧ m ≤ k ∧ toMon y (m - 1).toNat ≤ r ∧ r < toMon y m.toNat
  | 0, h => by simp only [toMon] at h; omega
  | k + 1, h => by
    by_cases h1 : r < toMon y k
    · obtain ⟨m, a, b, c⟩ := mon_ex y r h0 k h1
      exact ⟨m, a, by omega, c⟩
    · exact ⟨k + 1, by omega, by omega, by rw [show ((k : Int) + 1 - 1).toNat = k by omega]; omega, by rw [show ((k : Int) + 1).toNat = k + 1 by omega]; exact h⟩
/-- each number has its date -/
theorem date_ex {n : Int} (h : inB n = true) : ∃ t, rightB t = true ∧ numI t = n := by
  rw [in_iff] at h
  obtain ⟨y, y0, y1, ya, yb⟩ := year_ex ((n + 62167219200) / 86400) (by omega) 10000 (by rw [show toYear ((10000 : Nat) : Int) = 3652425 by decide]; omega)
  rw [year_next] at yb
  obtain ⟨m, m0, m1, ma, mb⟩ := mon_ex y ((n + 62167219200) / 86400 - toYear y) (by omega) 12 (by omega)
  have st := mon_step y m m0
  refine ⟨⟨y, m, (n + 62167219200) / 86400 - toYear y - toMon y (m - 1).toNat + 1, (n + 62167219200) % 86400 / 3600, (n + 62167219200) % 86400 / 60 % 60, (n + 62167219200) % 86400 % 60⟩, ?_, ?_⟩
  · rw [right_iff]; simp only; omega
  · simp only [numI, dayI, secI]; omega

/-- the next day -/
def nextD (t : Dt) : Dt :=
  if t.d < dim t.y t.m then ⟨t.y, t.m, t.d + 1, t.h, t.i, t.s⟩ else if t.m < 12 then ⟨t.y, t.m + 1, 1, t.h, t.i, t.s⟩ else ⟨t.y + 1, 1, 1, t.h, t.i, t.s⟩
theorem next_num {t : Dt} (h : rightB t = true) : numI (nextD t) = numI t + 86400 := by
  have ⟨⟨y1, y2, m1, m2, d1, d2⟩, _⟩ := right_iff.1 h
  have st := mon_step t.y t.m m1
  unfold nextD
  split
  · simp only [numI, dayI, secI]; omega
  · split
    · simp only [numI, dayI, secI]
      rw [show (t.m + 1 - 1).toNat = t.m.toNat by omega]
      omega
    · have e : t.m = 12 := by omega
      have := year_next t.y
      have dm : dim t.y t.m = dim t.y 12 := by rw [e]
      simp only [numI, dayI, secI]
      rw [e] at st ⊢
      rw [show ((12 : Int)).toNat = 12 from rfl] at st
      rw [show ((1 : Int) - 1).toNat = 0 from rfl, show toMon (t.y + 1) 0 = 0 from rfl]
      omega
theorem next_right {t : Dt} (h : rightB t = true) (hn : numI t ≤ 253402300799 - 86400) : rightB (nextD t) = true := by
  have ⟨⟨y1, y2, m1, m2, d1, d2⟩, _, _, _, _, _, _⟩ := right_iff.1 h
  have hd := dim_bound t.y (t.m + 1)
  have hd1 := dim_bound (t.y + 1) 1
  rw [right_iff]
  unfold nextD
  split
  · simp only; omega
  · split
    · simp only; omega
    · have e : t.m = 12 := by omega
      have : t.y ≠ 9999 := by
        intro e2
        have st := mon_step t.y t.m m1
        have hs := sec_in h
        have e3 : toYear 9999 = 3652060 := by decide
        have e4 : toMon 9999 12 = 365 := by decide
        rw [e, e2, show ((12 : Int)).toNat = 12 from rfl] at st
        simp only [numI, dayI] at hn
        rw [e, e2] at hn
        have hdd : ¬ t.d < dim 9999 12 := by rw [← e2, ← e]; assumption
        omega
      simp only; omega
theorem week_next {n : Int} (h0 : inB n = true) (h1 : inB (n + 86400) = true) : weekI (n + 86400) = (weekI n + 1) % 7 := by
  simp only [weekI, h0, h1, if_true]
  rw [in_iff] at h0
  omega
theorem week_bounds (n : Int) : 0 ≤ weekI n ∧ weekI n < 7 := by
  unfold weekI
  split <;> omega
end Go.Proofs.YtgefnndegjpcpaaDoor
