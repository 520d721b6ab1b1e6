/- Layer 13: the mathematics of tables of fields. -/
import Derived.Test.YtfacpncbcplocaaDoorKeep
set_option linter.unusedSimpArgs false
set_option linter.unusedVariables false
namespace Go.Proofs.YtfacpncbcplocaaDoor
open Go.RowKit

/-- a field: its name, its value -/
structure Fd where
  n : ByteArray
  v : ByteArray
theorem Fd.eq_iff {a b : Fd} : a = b ↔ a.n = b.n ∧ a.v = b.v := by
  cases a; cases b; simp
instance (a b : Fd) : Decidable (a = b) := decidable_of_iff (a.n = b.n ∧ a.v = b.v) Fd.eq_iff.symm
def noFd : Fd := ⟨⟨#[]⟩, ⟨#[]⟩⟩
def roomF (f : Fd) : Nat := f.n.size + f.v.size + 32
def rooms : List Fd → Nat
  | [] => 0
  | f :: l => roomF f + rooms l
theorem rooms_append (a b : List Fd) : rooms (a ++ b) = rooms a + rooms b := by
  induction a with
  | nil => simp [rooms]
  | cons f a ih => simp only [List.cons_append, rooms, ih]; omega
theorem rooms_len (l : List Fd) : l.length * 32 ≤ rooms l := by
  induction l with
  | nil => simp [rooms]
  | cons f l ih => simp only [List.length_cons, rooms, roomF]; omega
theorem rooms_drop (l : List Fd) (k : Nat) (hk : k < l.length) : rooms (l.drop k) = roomF l[k] + rooms (l.drop (k + 1)) := by
  rw [List.drop_eq_getElem_cons hk]; rfl
theorem rooms_take (l : List Fd) (k : Nat) (hk : k < l.length) : rooms (l.take (k + 1)) = rooms (l.take k) + roomF l[k] := by
  rw [List.take_succ_eq_append_getElem hk, rooms_append]; simp [rooms]
theorem rooms_split (l : List Fd) (k : Nat) : rooms (l.take k) + rooms (l.drop k) = rooms l := by
  rw [← rooms_append, List.take_append_drop]
theorem rooms_drop_le (l : List Fd) (k : Nat) : rooms (l.drop k) ≤ rooms l := by
  have := rooms_split l k; omega

/-- how many go, until the others have at most so much room -/
def goneN (room : Nat) : List Fd → Nat
  | [] => 0
  | f :: l => if room < rooms (f :: l) then goneN room l + 1 else 0
theorem goneN_le (room : Nat) (l : List Fd) : goneN room l ≤ l.length := by
  induction l with
  | nil => simp [goneN]
  | cons f l ih => simp only [goneN]; split <;> simp <;> omega
theorem goneN_fits (room : Nat) (l : List Fd) : rooms (l.drop (goneN room l)) ≤ room := by
  induction l with
  | nil => simp [goneN, rooms]
  | cons f l ih =>
    simp only [goneN]
    split
    · simpa using ih
    · simp only [List.drop_zero]; omega
theorem goneN_wants (room : Nat) (l : List Fd) : ∀ k, k < goneN room l → room < rooms (l.drop k) := by
  induction l with
  | nil => simp [goneN]
  | cons f l ih =>
    intro k hk
    simp only [goneN] at hk
    split at hk
    · cases k with
      | zero => simpa
      | succ k => simpa using ih k (by omega)
    · omega
/-- a place below which all have too much room, and from which on they have not, is it -/
theorem goneN_is (room : Nat) (l : List Fd) (k : Nat) (h1 : ∀ j, j < k → room < rooms (l.drop j)) (h2 : rooms (l.drop k) ≤ room) : goneN room l = k := by
  have a := goneN_wants room l
  have b := goneN_fits room l
  rcases Nat.lt_trichotomy (goneN room l) k with h | h | h
  · have := h1 _ h; omega
  · exact h
  · have := a _ h; omega

/-- a table: what it was made for, its capacity, the number of the first field, the fields -/
structure TQ where
  most : Nat
  cap : Nat
  first : Nat
  l : List Fd
structure TOk (q : TQ) : Prop where
  most : q.most ≤ 4096
  cap : q.cap ≤ q.most
  used : rooms q.l ≤ q.cap
theorem TOk.many {q : TQ} (h : TOk q) : q.l.length ≤ 128 := by
  have := rooms_len q.l; have := h.most; have := h.cap; have := h.used; omega
def newT (most : Nat) : TQ := ⟨most, 0, 0, []⟩
theorem newT_ok (most : Nat) (h : most ≤ 4096) : TOk (newT most) := ⟨h, Nat.zero_le _, by simp [newT, rooms]⟩
def shrinkE (room : Nat) (q : TQ) : TQ := { q with first := q.first + goneN room q.l, l := q.l.drop (goneN room q.l) }
def countN (q : TQ) : Nat := q.first + q.l.length
theorem shrink_count (room : Nat) (q : TQ) : countN (shrinkE room q) = countN q := by
  have := goneN_le room q.l
  simp only [countN, shrinkE, List.length_drop]; omega
def setCapE (q : TQ) (n : Int) : TQ × Int := if n < 0 ∨ (q.most : Int) < n then (q, 1) else (shrinkE n.toNat { q with cap := n.toNat }, 0)
theorem setCap_ok {q : TQ} (h : TOk q) (n : Int) : TOk (setCapE q n).1 := by
  unfold setCapE
  split
  · exact h
  · refine ⟨h.most, ?_, ?_⟩
    · simp only [shrinkE]; omega
    · exact goneN_fits _ _
def insertE (q : TQ) (f : Fd) : TQ × Int × Int :=
  if 64 < f.n.size ∨ 512 < f.v.size then (q, 0, 13)
  else if q.cap < roomF f then (q, 0, 6)
  else ({ shrinkE (q.cap - roomF f) q with l := (shrinkE (q.cap - roomF f) q).l ++ [f] }, ((countN q : Nat) : Int), 0)
theorem insert_ok {q : TQ} (h : TOk q) (f : Fd) : TOk (insertE q f).1 := by
  unfold insertE
  split
  · exact h
  · split
    · exact h
    · rename_i h1 h2
      refine ⟨h.most, h.cap, ?_⟩
      have := goneN_fits (q.cap - roomF f) q.l
      show rooms (q.l.drop (goneN (q.cap - roomF f) q.l) ++ [f]) ≤ q.cap
      rw [rooms_append]; simp only [rooms]; omega
def getE (q : TQ) (n : Int) : Fd × Int := if n < q.first ∨ ((countN q : Nat) : Int) ≤ n then (noFd, 11) else (q.l.getD (n.toNat - q.first) noFd, 0)

/-- the last one of the first k of which p is told: its number, from first on -/
def lastN (p : Fd → Bool) (first : Nat) (l : List Fd) : Nat → Int
  | 0 => -1
  | k + 1 => if p (l.getD k noFd) then ((first + k : Nat) : Int) else lastN p first l k
/-- the first one -/
def firstG (p : Fd → Bool) : List Fd → Nat → Int
  | [], _ => -1
  | f :: l, o => if p f then (o : Int) else firstG p l (o + 1)
def isF (f x : Fd) : Bool := decide (x = f)
def namedF (f x : Fd) : Bool := decide (x.n = f.n)
def findE (q : TQ) (f : Fd) : Int × Int := (lastN (isF f) q.first q.l q.l.length, lastN (namedF f) q.first q.l q.l.length)
theorem firstG_ge (p : Fd → Bool) (l : List Fd) (o : Nat) : firstG p l o = -1 ∨ (o : Int) ≤ firstG p l o := by
  induction l generalizing o with
  | nil => exact .inl rfl
  | cons f l ih =>
    simp only [firstG]
    split
    · exact .inr (Int.le_refl _)
    · rcases ih (o + 1) with h | h
      · exact .inl h
      · exact .inr (by omega)
theorem firstG_append (p : Fd → Bool) (a : List Fd) (x : Fd) (o : Nat) : firstG p (a ++ [x]) o = if firstG p a o = -1 then (if p x then ((o + a.length : Nat) : Int) else -1) else firstG p a o := by
  induction a generalizing o with
  | nil => simp [firstG]
  | cons f a ih =>
    simp only [List.cons_append, firstG]
    by_cases h : p f = true
    · simp only [h, if_true]; rw [if_neg (by omega)]
    · simp only [h, Bool.false_eq_true, if_false]
      rw [ih, List.length_cons, show o + 1 + a.length = o + (a.length + 1) by omega]
/-- where no two serve, the last one is the first one -/
theorem last_first (p : Fd → Bool) (l : List Fd) (h1 : ∀ i j, i < l.length → j < l.length → p (l.getD i noFd) = true → p (l.getD j noFd) = true → i = j) (k : Nat) (hk : k ≤ l.length) : lastN p 0 l k = firstG p (l.take k) 0 := by
  have none : ∀ k, k ≤ l.length → (∀ i, i < k → p (l.getD i noFd) = false) → firstG p (l.take k) 0 = -1 := by
    intro k
    induction k with
    | zero => intro _ _; rfl
    | succ k ih =>
      intro hk hn
      rw [List.take_succ_eq_append_getElem (by omega), firstG_append, ih (by omega) (fun i hi => hn i (by omega)), if_pos rfl, if_neg]
      have := hn k (by omega)
      simp only [List.getD, List.getElem?_eq_getElem (show k < l.length by omega), Option.getD_some] at this
      simp [this]
  induction k with
  | zero => rfl
  | succ k ih =>
    have hg : l.getD k noFd = l[k] := by simp [List.getD, List.getElem?_eq_getElem (show k < l.length by omega)]
    simp only [lastN]
    rw [List.take_succ_eq_append_getElem (by omega), firstG_append]
    by_cases hp : p (l.getD k noFd) = true
    · rw [if_pos hp, none k (by omega) (fun i hi => by
        cases hq : p (l.getD i noFd) with
        | false => rfl
        | true => have := h1 i k (by omega) (by omega) hq hp; omega), if_pos rfl, if_pos (by rw [← hg]; exact hp)]
      simp; omega
    · rw [if_neg hp, ih (by omega)]
      split
      · rename_i h; rw [if_neg (by rw [← hg]; exact hp)]; exact h
      · rfl
theorem firstG_drop (p : Fd → Bool) (l : List Fd) (k : Nat) (hk : k < l.length) : firstG p (l.drop k) k = if p (l.getD k noFd) then (k : Int) else firstG p (l.drop (k + 1)) (k + 1) := by
  rw [List.drop_eq_getElem_cons hk]
  simp [firstG, List.getD, List.getElem?_eq_getElem hk]
theorem lastN_last (p : Fd → Bool) (first : Nat) (l : List Fd) (x : Fd) (hp : p x = true) : lastN p first (l ++ [x]) (l ++ [x]).length = ((first + l.length : Nat) : Int) := by
  rw [List.length_append, List.length_singleton]
  simp only [lastN]
  have : (l ++ [x]).getD l.length noFd = x := by simp [List.getD]
  rw [this, if_pos hp]
theorem lastN_ge (p : Fd → Bool) (first : Nat) (l : List Fd) (k : Nat) : lastN p first l k = -1 ∨ (0 ≤ lastN p first l k ∧ lastN p first l k < ((first + k : Nat) : Int)) := by
  induction k with
  | zero => exact .inl rfl
  | succ k ih =>
    simp only [lastN]
    split
    · exact .inr ⟨by omega, by omega⟩
    · rcases ih with h | h
      · exact .inl h
      · exact .inr ⟨h.1, by omega⟩

/-- the cells of fields -/
def fdCell (f : Fd) : List Value := [.string f.n, .string f.v]
def fdC (l : List Fd) : List Value := l.flatMap fdCell
theorem fdC_len (l : List Fd) : (fdC l).length = l.length * 2 := flat_len fdCell 2 (fun _ => rfl) l
theorem fdC_get (l : List Fd) (i j : Nat) (hi : i < l.length) (hj : j < 2) : (fdC l)[i * 2 + j]? = (fdCell l[i])[j]? := flat_get fdCell 2 (fun _ => rfl) l i j hi hj
theorem fdC_append (a b : List Fd) : fdC (a ++ b) = fdC a ++ fdC b := by simp [fdC]
theorem fdC_one (f : Fd) : fdC [f] = fdCell f := by simp [fdC]
theorem fdC_oneCell (l : List Fd) : ∀ u ∈ fdC l, u.oneCell' = true := by
  intro u hu
  obtain ⟨f, _, hf⟩ := List.mem_flatMap.1 hu
  simp only [fdCell, List.mem_cons, List.not_mem_nil, or_false] at hf
  rcases hf with rfl | rfl <;> rfl
theorem fdC_cons (f : Fd) (l : List Fd) : fdC (f :: l) = .string f.n :: .string f.v :: fdC l := rfl
theorem fdC_drop (l : List Fd) (k : Nat) : fdC (l.drop k) = (fdC l).drop (k * 2) := by
  induction k generalizing l with
  | zero => simp
  | succ k ih =>
    cases l with
    | nil => simp [fdC]
    | cons f l => rw [List.drop_succ_cons, ih, fdC_cons, show (k + 1) * 2 = k * 2 + 1 + 1 by omega, List.drop_succ_cons, List.drop_succ_cons]
theorem fdC_take (l : List Fd) (k : Nat) : fdC (l.take k) = (fdC l).take (k * 2) := by
  induction k generalizing l with
  | zero => simp [fdC]
  | succ k ih =>
    cases l with
    | nil => simp [fdC]
    | cons f l => rw [List.take_succ_cons, fdC_cons, ih, fdC_cons, show (k + 1) * 2 = k * 2 + 1 + 1 by omega, List.take_succ_cons, List.take_succ_cons]
end Go.Proofs.YtfacpncbcplocaaDoor
