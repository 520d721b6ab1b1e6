/- The mathematics of layer 7: windows. -/
import Derived.Test.YtiglhdiclfknhaaGen
namespace Go.Proofs.Ytiglhdiclfknhaa
open Go.RowKit

/-- a number from one to another -/
def inB (n a b : Int) : Bool := decide (a ≤ n) && decide (n ≤ b)
theorem in_iff {n a b : Int} : inB n a b = true ↔ a ≤ n ∧ n ≤ b := by simp [inB]
theorem in_not {n a b : Int} : inB n a b = false ↔ ¬ (a ≤ n ∧ n ≤ b) := by rw [← in_iff]; simp
def gramB (n : Int) : Bool := inB n 1 1200
def timeB (n : Int) : Bool := inB n 0 1099511627776

/-- a window -/
structure St where
  z : Int
  t : Int
  f : Int
  s : Int
  p : Int

def nul : St := ⟨0, 0, 0, 0, 0⟩
def fresh : St := ⟨12000, 0, 0, -1, 0⟩
def sameB (x y : St) : Bool := x.z == y.z && (x.t == y.t && (x.f == y.f && (x.s == y.s && x.p == y.p)))
theorem same_iff {x y : St} : sameB x y = true ↔ x = y := by
  obtain ⟨a, b, c, d, e⟩ := x
  obtain ⟨a', b', c', d', e'⟩ := y
  simp [sameB]
theorem same_self (x : St) : sameB x x = true := same_iff.2 rfl

def rightB (q : St) : Bool := inB q.z 2400 1073741824 && ((decide (q.t = 0) || inB q.t 2400 1073741824) && (inB q.f 0 1099511627776 && (inB q.s (-1) 1099511627776 && inB q.p 0 (q.z - 1))))
theorem right_iff {q : St} : rightB q = true ↔ (2400 ≤ q.z ∧ q.z ≤ 1073741824) ∧ (q.t = 0 ∨ 2400 ≤ q.t ∧ q.t ≤ 1073741824) ∧ (0 ≤ q.f ∧ q.f ≤ 1099511627776) ∧ (-1 ≤ q.s ∧ q.s ≤ 1099511627776) ∧ (0 ≤ q.p ∧ q.p < q.z) := by
  unfold rightB
  simp only [Bool.and_eq_true, Bool.or_eq_true, decide_eq_true_eq, in_iff]
  constructor
  · rintro ⟨h1, h2, h3, h4, h5⟩; exact ⟨h1, h2, h3, h4, by omega⟩
  · rintro ⟨h1, h2, h3, h4, h5⟩; exact ⟨h1, h2, h3, h4, by omega⟩

def roomI (q : St) : Int := if rightB q = true then (if q.f < q.z then q.z - q.f else 0) else 0
def capI (a : Int) : Int := if 1073741824 < a then 1073741824 else a
def halfI (a : Int) : Int := if a.tdiv 2 < 2400 then 2400 else a.tdiv 2
def nextI (a : Int) : Int := if 1099511627776 < a + 1 then 1099511627776 else a + 1
def moreQ (q : St) (n : Int) : St := ⟨q.z, q.t, q.f + n, q.s, q.p⟩
def lessQ (q : St) (n : Int) : St := ⟨q.z, q.t, q.f - n, q.s, q.p⟩
def grownQ (q : St) (n : Int) : St :=
  if q.t = 0 ∨ q.z < q.t then ⟨capI (q.z + n), q.t, q.f, q.s, 0⟩
  else if q.z ≤ q.p + n then ⟨capI (q.z + 1200), q.t, q.f, q.s, q.p + n - q.z⟩ else ⟨q.z, q.t, q.f, q.s, q.p + n⟩
def fallenQ (q : St) (now : Int) : St := ⟨halfI q.z, halfI q.z, q.f, nextI now, 0⟩
def heardQ (q : St) (n a : Int) : St := if a < q.s then lessQ q n else grownQ (lessQ q n) n
def lostQ (q : St) (n a now : Int) : St := if a < q.s then lessQ q n else fallenQ (lessQ q n) now

def sentE (q : St) (n : Int) : St × Int := if (rightB q && gramB n) = true then (if roomI q < n then (nul, 7) else (moreQ q n, 0)) else (nul, 1)
def goneE (q : St) (n : Int) : St × Int := if (rightB q && gramB n) = true then (if q.f < n then (nul, 7) else (lessQ q n, 0)) else (nul, 1)
def ackedE (q : St) (n a : Int) : St × Int := if (rightB q && gramB n) = true then (if timeB a = true then (if q.f < n then (nul, 7) else (heardQ q n a, 0)) else (nul, 1)) else (nul, 1)
def lostE (q : St) (n a now : Int) : St × Int := if (rightB q && gramB n) = true then (if (timeB a && timeB now) = true then (if q.f < n then (nul, 7) else (lostQ q n a now, 0)) else (nul, 1)) else (nul, 1)

theorem room_le {q : St} {n : Int} (hr : rightB q = true) (hn : ¬ roomI q < n) (h1 : 1 ≤ n) : q.f + n ≤ q.z := by
  rw [roomI, if_pos hr] at hn
  split at hn <;> omega
theorem less_right {q : St} {n : Int} (hr : rightB q = true) (h1 : 1 ≤ n) (hn : n ≤ q.f) : rightB (lessQ q n) = true := by
  obtain ⟨hz, ht, hf, hs, hp⟩ := right_iff.1 hr
  exact right_iff.2 ⟨hz, ht, by simp only [lessQ]; omega, hs, hp⟩
theorem more_right {q : St} {n : Int} (hr : rightB q = true) (h1 : 1 ≤ n) (hn : q.f + n ≤ q.z) : rightB (moreQ q n) = true := by
  obtain ⟨hz, ht, hf, hs, hp⟩ := right_iff.1 hr
  exact right_iff.2 ⟨hz, ht, by simp only [moreQ]; omega, hs, hp⟩
theorem grown_right {q : St} {n : Int} (hr : rightB q = true) (hn : gramB n = true) : rightB (grownQ q n) = true := by
  obtain ⟨hz, ht, hf, hs, hp⟩ := right_iff.1 hr
  obtain ⟨h1, h2⟩ := in_iff.1 hn
  unfold grownQ capI
  split
  · refine right_iff.2 ⟨?_, ht, hf, hs, ?_⟩ <;> (simp only; split <;> omega)
  · split
    · refine right_iff.2 ⟨?_, ht, hf, hs, ?_⟩ <;> (simp only; split <;> omega)
    · refine right_iff.2 ⟨hz, ht, hf, hs, ?_⟩; simp only; omega
theorem half_in {a : Int} (h : 2400 ≤ a ∧ a ≤ 1073741824) : 2400 ≤ halfI a ∧ halfI a ≤ 1073741824 := by
  unfold halfI
  rw [Int.tdiv_eq_ediv_of_nonneg (by omega)]
  split <;> omega
theorem next_in {a : Int} (h : timeB a = true) : 0 ≤ nextI a ∧ nextI a ≤ 1099511627776 := by
  obtain ⟨h1, h2⟩ := in_iff.1 h
  unfold nextI
  split <;> omega
theorem fallen_right {q : St} {now : Int} (hr : rightB q = true) (hn : timeB now = true) : rightB (fallenQ q now) = true := by
  obtain ⟨hz, ht, hf, hs, hp⟩ := right_iff.1 hr
  have h1 := half_in hz
  have h2 := next_in hn
  exact right_iff.2 ⟨h1, .inr h1, hf, ⟨by simp only [fallenQ]; omega, h2.2⟩, by simp only [fallenQ]; omega⟩
end Go.Proofs.Ytiglhdiclfknhaa
