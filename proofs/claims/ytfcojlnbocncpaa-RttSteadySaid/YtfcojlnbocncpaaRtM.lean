/- The mathematics of layer 6: ticks, estimates, waits. -/
import Derived.Test.YtfcojlnbocncpaaGen
namespace Go.Proofs.Ytfcojlnbocncpaa
open Go.RowKit

/-- a number of ticks -/
def tickB (n : Int) : Bool := decide (0 ≤ n) && decide (n ≤ 1099511627776)
theorem tick_iff {n : Int} : tickB n = true ↔ 0 ≤ n ∧ n ≤ 1099511627776 := by simp [tickB]

/-- an estimate -/
structure St where
  h : Bool
  l : Int
  s : Int
  v : Int
  t : Int

def nul : St := ⟨false, 0, 0, 0, 0⟩
def sameB (p q : St) : Bool := p.h == q.h && (p.l == q.l && (p.s == q.s && (p.v == q.v && p.t == q.t)))
theorem same_iff {p q : St} : sameB p q = true ↔ p = q := by
  obtain ⟨a, b, c, d, e⟩ := p
  obtain ⟨a', b', c', d', e'⟩ := q
  simp [sameB]
theorem same_self (p : St) : sameB p p = true := same_iff.2 rfl

def rightB (q : St) : Bool := if q.h then [q.l, q.s, q.v, q.t].all tickB && decide (q.l ≤ q.t) else sameB q nul
theorem right_has {q : St} (h : rightB q = true) (hh : q.h = true) : (0 ≤ q.l ∧ q.l ≤ 1099511627776) ∧ (0 ≤ q.s ∧ q.s ≤ 1099511627776) ∧ (0 ≤ q.v ∧ q.v ≤ 1099511627776) ∧ (0 ≤ q.t ∧ q.t ≤ 1099511627776) ∧ q.l ≤ q.t := by
  rw [rightB, if_pos hh] at h
  simpa [tick_iff, and_assoc] using h
theorem right_mk {l s v t : Int} (h1 : 0 ≤ l ∧ l ≤ 1099511627776) (h2 : 0 ≤ s ∧ s ≤ 1099511627776) (h3 : 0 ≤ v ∧ v ≤ 1099511627776) (h4 : 0 ≤ t ∧ t ≤ 1099511627776) (h5 : l ≤ t) : rightB ⟨true, l, s, v, t⟩ = true := by
  simp [rightB, tick_iff, h1, h2, h3, h4, h5]
theorem right_nul : rightB nul = true := by decide
theorem right_not {q : St} (h : rightB q = true) (hh : q.h = false) : q = nul := by
  rw [rightB, hh] at h
  exact same_iff.1 (by simpa using h)

def lowI (a b : Int) : Int := if b < a then b else a
def highI (a b : Int) : Int := if a < b then b else a
/-- the sample less the delay -/
def cutI (n d : Int) : Int := if 25 < d then n - 25 else n - d
/-- the adjusted one -/
def adjI (n d l : Int) : Int := if cutI n d < l then n else cutI n d
def apartI (a b : Int) : Int := if a < b then b - a else a - b

def moreI (q : St) (n d : Int) : St := ⟨true, lowI q.l n, (7 * q.s + adjI n d (lowI q.l n)).tdiv 8, (3 * q.v + apartI q.s (adjI n d (lowI q.l n))).tdiv 4, n⟩
def sampleE (q : St) (n d : Int) : St × Int :=
  if rightB q = true then (if (tickB n && tickB d) = true then (if q.h then (moreI q n d, 0) else (⟨true, n, n, n.tdiv 2, n⟩, 0)) else (nul, 1)) else (nul, 1)

/-- doubled so many times, until it is great enough -/
def dbl : Nat → Int → Int
  | 0, n => n
  | k + 1, n => if n < 1048576 then dbl k (n * 2) else n
def startI (q : St) : Int := if q.h then q.s + (if 4 * q.v < 1 then 1 else 4 * q.v) + 25 else 125
def probeI (q : St) (k : Int) : Int := lowI (dbl k.toNat (startI q)) 1048576
def probeE (q : St) (k : Int) : Int × Int := if rightB q = true then (if k < 0 then (0, 1) else (probeI q k, 0)) else (0, 1)
def lossI (q : St) : Int := if q.h then highI ((9 * highI q.s q.t).tdiv 8) 1 else 112
def lossE (q : St) : Int × Int := if rightB q = true then (lossI q, 0) else (0, 1)
end Go.Proofs.Ytfcojlnbocncpaa
