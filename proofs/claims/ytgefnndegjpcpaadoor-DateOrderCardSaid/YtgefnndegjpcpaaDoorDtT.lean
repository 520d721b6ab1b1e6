/- The mathematics of layer 16: dates' texts. -/
import Derived.Test.YtgefnndegjpcpaaDoorDtM
set_option linter.unusedSimpArgs false
set_option linter.unusedVariables false
set_option maxRecDepth 100000
namespace Go.Proofs.YtgefnndegjpcpaaDoor
open Go.RowKit

def dgI (n : Int) : UInt8 := UInt8.ofNat (48 + (n % 10).toNat)
def two (n : Int) : List UInt8 := [dgI (n / 10), dgI n]
def four (n : Int) : List UInt8 := [dgI (n / 1000), dgI (n / 100), dgI (n / 10), dgI n]
def wNames : List UInt8 := [77, 111, 110, 84, 117, 101, 87, 101, 100, 84, 104, 117, 70, 114, 105, 83, 97, 116, 83, 117, 110]
def mNames : List UInt8 := [74, 97, 110, 70, 101, 98, 77, 97, 114, 65, 112, 114, 77, 97, 121, 74, 117, 110, 74, 117, 108, 65, 117, 103, 83, 101, 112, 79, 99, 116, 78, 111, 118, 68, 101, 99]
def sub (l : List UInt8) (a b : Nat) : List UInt8 := (l.drop a).take (b - a)
def wName (w : Int) : List UInt8 := sub wNames (3 * w.toNat) (3 * w.toNat + 3)
def mName (m : Int) : List UInt8 := sub mNames (3 * (m.toNat - 1)) (3 * (m.toNat - 1) + 3)
/-- the text of a date whose day of the week is w -/
def fmtW (w : Int) (t : Dt) : List UInt8 :=
  wName w ++ [44, 32] ++ two t.d ++ [32] ++ mName t.m ++ [32] ++ four t.y ++ [32] ++ two t.h ++ [58] ++ two t.i ++ [58] ++ two t.s ++ [32, 71, 77, 84]
def fmtL (t : Dt) : List UInt8 := fmtW (weekI (numI t)) t

/-- the number of some digits -/
def valN : List UInt8 → Int → Int
  | [], n => n
  | b :: l, n => valN l (n * 10 + (b.toNat : Int) - 48)
def valL (l : List UInt8) : Int := valN l 0
/-- the same, where they are digits alone -/
def numN : List UInt8 → Int → Int
  | [], n => n
  | b :: l, n => if b < 48 ∨ 57 < b then 0 else numN l (n * 10 + ((b.toNat : Int) - 48))
def numL (l : List UInt8) : Int := numN l 0
def monL (l : List UInt8) : Int :=
  if l = mName 1 then 1 else if l = mName 2 then 2 else if l = mName 3 then 3 else if l = mName 4 then 4 else if l = mName 5 then 5 else if l = mName 6 then 6 else
  if l = mName 7 then 7 else if l = mName 8 then 8 else if l = mName 9 then 9 else if l = mName 10 then 10 else if l = mName 11 then 11 else if l = mName 12 then 12 else 0
def readD (v : List UInt8 → Int) (s : List UInt8) : Dt := ⟨v (sub s 12 16), monL (sub s 8 11), v (sub s 5 7), v (sub s 17 19), v (sub s 20 22), v (sub s 23 25)⟩
def parseV (v : List UInt8 → Int) (s : List UInt8) : Int × Int :=
  if s.length = 29 then (if rightB (readD v s) then (if fmtL (readD v s) = s then (numI (readD v s), 0) else (0, 15)) else (0, 15)) else (0, 15)
def parseE (s : List UInt8) : Int × Int := parseV valL s

theorem week_fin : ∀ w : Fin 7, (wName ((w.val : Nat) : Int)).length = 3 := by decide +kernel
theorem mon_fin : ∀ m : Fin 12, (mName ((m.val + 1 : Nat) : Int)).length = 3 ∧ monL (mName ((m.val + 1 : Nat) : Int)) = ((m.val + 1 : Nat) : Int) := by decide +kernel
theorem two_fin : ∀ n : Fin 100, valL (two ((n.val : Nat) : Int)) = ((n.val : Nat) : Int) ∧ numL (two ((n.val : Nat) : Int)) = ((n.val : Nat) : Int) := by decide +kernel
theorem dg_fin : ∀ n : Fin 10, (dgI ((n.val : Nat) : Int)).toNat = 48 + n.val ∧ ¬ (dgI ((n.val : Nat) : Int) < 48 ∨ 57 < dgI ((n.val : Nat) : Int)) := by decide +kernel
theorem dg_mod (n : Int) : dgI (n % 10) = dgI n := by
  unfold dgI
  rw [Int.emod_emod_of_dvd n (by decide)]
theorem dg_val (n : Int) : ((dgI n).toNat : Int) = 48 + n % 10 ∧ ¬ (dgI n < 48 ∨ 57 < dgI n) := by
  have h := dg_fin ⟨(n % 10).toNat, by omega⟩
  simp only at h
  rw [show (((n % 10).toNat : Nat) : Int) = n % 10 by omega, dg_mod] at h
  exact ⟨by omega, h.2⟩
theorem week_len {w : Int} (h0 : 0 ≤ w) (h1 : w < 7) : (wName w).length = 3 := by
  have := week_fin ⟨w.toNat, by omega⟩
  simp only at this
  rwa [show ((w.toNat : Nat) : Int) = w by omega] at this
theorem mon_ok {m : Int} (h0 : 1 ≤ m) (h1 : m ≤ 12) : (mName m).length = 3 ∧ monL (mName m) = m := by
  have := mon_fin ⟨(m - 1).toNat, by omega⟩
  simp only at this
  rwa [show (((m - 1).toNat + 1 : Nat) : Int) = m by omega] at this
theorem two_val {n : Int} (h0 : 0 ≤ n) (h1 : n < 100) : valL (two n) = n ∧ numL (two n) = n := by
  have := two_fin ⟨n.toNat, by omega⟩
  simp only at this
  rwa [show ((n.toNat : Nat) : Int) = n by omega] at this
theorem four_val {n : Int} (h0 : 0 ≤ n) (h1 : n < 10000) : valL (four n) = n ∧ numL (four n) = n := by
  have a := dg_val (n / 1000)
  have b := dg_val (n / 100)
  have c := dg_val (n / 10)
  have d := dg_val n
  constructor
  · simp only [valL, four, valN]; omega
  · simp only [numL, four, numN, if_neg a.2, if_neg b.2, if_neg c.2, if_neg d.2]; omega

theorem three {l : List UInt8} (h : l.length = 3) : ∃ a b c, l = [a, b, c] := by
  match l, h with
  | [a, b, c], _ => exact ⟨a, b, c, rfl⟩
theorem fmtW_len {w : Int} {t : Dt} (h0 : 0 ≤ w) (h1 : w < 7) (m0 : 1 ≤ t.m) (m1 : t.m ≤ 12) : (fmtW w t).length = 29 := by
  simp only [fmtW, List.length_append, week_len h0 h1, (mon_ok m0 m1).1, two, four, List.length_cons, List.length_nil]
theorem fmt_len {t : Dt} (h : rightB t = true) : (fmtL t).length = 29 := by
  have ⟨⟨_, _, m1, m2, _, _⟩, _⟩ := right_iff.1 h
  exact fmtW_len (week_bounds _).1 (week_bounds _).2 m1 m2
theorem read_fmt {v : List UInt8 → Int} (h2 : ∀ n, 0 ≤ n → n < 100 → v (two n) = n) (h4 : ∀ n, 0 ≤ n → n < 10000 → v (four n) = n) {t : Dt} (h : rightB t = true) : readD v (fmtL t) = t := by
  have ⟨⟨y1, y2, m1, m2, d1, d2⟩, _, _, _, _, _, _⟩ := right_iff.1 h
  have hd := dim_bound t.y t.m
  obtain ⟨a, b, c, e1⟩ := three (week_len (week_bounds (numI t)).1 (week_bounds (numI t)).2)
  obtain ⟨d, e, f, e2⟩ := three (mon_ok m1 m2).1
  have s1 : sub (fmtL t) 12 16 = four t.y := by simp [sub, fmtL, fmtW, e1, e2, two, four]
  have s2 : sub (fmtL t) 8 11 = mName t.m := by simp [sub, fmtL, fmtW, e1, e2, two, four]
  have s3 : sub (fmtL t) 5 7 = two t.d := by simp [sub, fmtL, fmtW, e1, e2, two, four]
  have s4 : sub (fmtL t) 17 19 = two t.h := by simp [sub, fmtL, fmtW, e1, e2, two, four]
  have s5 : sub (fmtL t) 20 22 = two t.i := by simp [sub, fmtL, fmtW, e1, e2, two, four]
  have s6 : sub (fmtL t) 23 25 = two t.s := by simp [sub, fmtL, fmtW, e1, e2, two, four]
  rw [readD, s1, s2, s3, s4, s5, s6, h4 _ y1 (by omega), (mon_ok m1 m2).2, h2 _ (by omega) (by omega), h2 _ (by omega) (by omega), h2 _ (by omega) (by omega), h2 _ (by omega) (by omega)]
theorem read_val {t : Dt} (h : rightB t = true) : readD valL (fmtL t) = t := read_fmt (fun n a b => (two_val a b).1) (fun n a b => (four_val a b).1) h
theorem read_num {t : Dt} (h : rightB t = true) : readD numL (fmtL t) = t := read_fmt (fun n a b => (two_val a b).2) (fun n a b => (four_val a b).2) h
theorem parse_fmt {t : Dt} (h : rightB t = true) : parseE (fmtL t) = (numI t, 0) := by
  simp only [parseE, parseV, fmt_len h, read_val h, h, if_true]
theorem parse_ok {v : List UInt8 → Int} {s : List UInt8} {n : Int} (h : parseV v s = (n, 0)) : ∃ t, rightB t = true ∧ numI t = n ∧ fmtL t = s := by
  unfold parseV at h
  split at h
  · split at h
    · split at h
      · rename_i _ hr hf
        exact ⟨_, hr, congrArg Prod.fst h, hf⟩
      · cases h
    · cases h
  · cases h
theorem parse_two (v : List UInt8 → Int) (s : List UInt8) : (∃ n, parseV v s = (n, 0)) ∨ parseV v s = (0, 15) := by
  unfold parseV
  split
  · split
    · split
      · exact .inl ⟨_, rfl⟩
      · exact .inr rfl
    · exact .inr rfl
  · exact .inr rfl
theorem parse_num (s : List UInt8) : parseV numL s = parseE s := by
  have g : ∀ t, rightB t = true → parseV numL (fmtL t) = parseE (fmtL t) := fun t h => by
    simp only [parseE, parseV, fmt_len h, read_val h, read_num h, h, if_true]
  rcases parse_two numL s with ⟨n, h⟩ | h
  · obtain ⟨t, ht, _, rfl⟩ := parse_ok h
    exact g t ht
  · rcases parse_two valL s with ⟨n, h2⟩ | h2
    · obtain ⟨t, ht, _, rfl⟩ := parse_ok h2
      exact g t ht
    · rw [h]; exact h2.symm
/-- one text, one date -/
theorem fmt_inj {t u : Dt} (ht : rightB t = true) (hu : rightB u = true) (h : fmtL t = fmtL u) : t = u := by
  rw [← read_val ht, ← read_val hu, h]
end Go.Proofs.YtgefnndegjpcpaaDoor
