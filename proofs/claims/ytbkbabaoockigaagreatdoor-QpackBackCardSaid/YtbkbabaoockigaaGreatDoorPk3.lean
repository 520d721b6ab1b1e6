/- Layer 14, out of layer L13's text QtM. -/
/- Layer 14, out of layer L13's text QtA. -/
/- Layer 14, out of layer L13's text QtB. -/
/- Layer 14, out of layer L13's text QtC. -/
/- Layer 14, out of layer L13's text QtD. -/
/- Layer 14, out of layer L13's text QtE. -/
/- Layer 14, out of layer L13's text QtF. -/
/- Layer 14, out of layer L13's text QtG. -/
/- Layer 14, out of layer L13's text QtH. -/
/- Layer 14, out of layer L13's text QtI. -/
/- Layer 14, out of layer L13's text QtJ. -/
/- Layer 14, out of layer L13's text QtK. -/
/- Layer 14, out of layer L13's text QtO. -/
/- Layer 14, out of layer L13's text QtQ. -/
/- Layer 14, out of layer L13's text QtN. -/
/- Layer 14, out of layer L13's text QtP. -/
/- Layer 14, out of layer L13's text QtR. -/
/- Layer 14, out of layer L13's text QtL. -/
/- Layer 14, out of layer L13's text QtT. -/
import Derived.Test.YtbkbabaoockigaaGreatDoorPk0
import Derived.BigQuiet
import Derived.Laws.Cover3
import Derived.Laws.StructEq
import Derived.Laws.CopyRow
import Derived.Deep.RegionHeld3
import Derived.Deep.RegionLaw
import Derived.StillTailTactics
import Derived.WalkLawsBesides
import Derived.Maps.AppendAt
import Derived.Lib.Strings
import Derived.Lib.Walk
import Derived.Lib.BufferWrite
import Derived.Lib.UnsafeStr
import Derived.Laws.MakeOwn
import Derived.Laws.Rows
import Derived.Deep.Slices
import Derived.Lib.LaidTab
import Derived.MakeChecks
import Derived.FnData
set_option maxRecDepth 100000
set_option linter.unusedSimpArgs false
set_option linter.unusedVariables false
namespace Go.Proofs.YtbkbabaoockigaaGreatDoor
open Go.RowKit

/-- a field: its name, its value -/
structure Fd where
  n : ByteArray
  v : ByteArray
theorem Fd.eq_iff {a b : Fd} : a = b ↔ a.n = b.n ∧ a.v = b.v := by
  cases a; cases b; simp
instance (a b : Fd) : Decidable (a = b) := decidable_of_iff (a.n = b.n ∧ a.v = b.v) Fd.eq_iff.symm
def noFd : Fd := ⟨⟨#[]⟩, ⟨#[]⟩⟩
def roomF (f : Fd) : Nat := f.n.size + f.v.size + 32
def rooms : List Fd → Nat
  | [] => 0
  | f :: l => roomF f + rooms l
theorem rooms_append (a b : List Fd) : rooms (a ++ b) = rooms a + rooms b := by
  induction a with
  | nil => simp [rooms]
  | cons f a ih => simp only [List.cons_append, rooms, ih]; omega
theorem rooms_len (l : List Fd) : l.length * 32 ≤ rooms l := by
  induction l with
  | nil => simp [rooms]
  | cons f l ih => simp only [List.length_cons, rooms, roomF]; omega
theorem rooms_drop (l : List Fd) (k : Nat) (hk : k < l.length) : rooms (l.drop k) = roomF l[k] + rooms (l.drop (k + 1)) := by
  rw [List.drop_eq_getElem_cons hk]; rfl
theorem rooms_take (l : List Fd) (k : Nat) (hk : k < l.length) : rooms (l.take (k + 1)) = rooms (l.take k) + roomF l[k] := by
  rw [List.take_succ_eq_append_getElem hk, rooms_append]; simp [rooms]
theorem rooms_split (l : List Fd) (k : Nat) : rooms (l.take k) + rooms (l.drop k) = rooms l := by
  rw [← rooms_append, List.take_append_drop]
theorem rooms_drop_le (l : List Fd) (k : Nat) : rooms (l.drop k) ≤ rooms l := by
  have := rooms_split l k; omega

/-- how many go, until the others have at most so much room -/
def goneN (room : Nat) : List Fd → Nat
  | [] => 0
  | f :: l => if room < rooms (f :: l) then goneN room l + 1 else 0
theorem goneN_le (room : Nat) (l : List Fd) : goneN room l ≤ l.length := by
  induction l with
  | nil => simp [goneN]
  | cons f l ih => simp only [goneN]; split <;> simp <;> omega
theorem goneN_fits (room : Nat) (l : List Fd) : rooms (l.drop (goneN room l)) ≤ room := by
  induction l with
  | nil => simp [goneN, rooms]
  | cons f l ih =>
    simp only [goneN]
    split
    · simpa using ih
    · simp only [List.drop_zero]; omega
theorem goneN_wants (room : Nat) (l : List Fd) : ∀ k, k < goneN room l → room < rooms (l.drop k) := by
  induction l with
  | nil => simp [goneN]
  | cons f l ih =>
    intro k hk
    simp only [goneN] at hk
    split at hk
    · cases k with
      | zero => simpa
      | succ k => simpa using ih k (by omega)
    · omega
/-- a place below which all have too much room, and from which on they have not, is it -/
theorem goneN_is (room : Nat) (l : List Fd) (k : Nat) (h1 : ∀ j, j < k → room < rooms (l.drop j)) (h2 : rooms (l.drop k) ≤ room) : goneN room l = k := by
  have a := goneN_wants room l
  have b := goneN_fits room l
  rcases Nat.lt_trichotomy (goneN room l) k with h | h | h
  · have := h1 _ h; omega
  · exact h
  · have := a _ h; omega

/-- a table: what it was made for, its capacity, the number of the first field, the fields -/
structure TQ where
  most : Nat
  cap : Nat
  first : Nat
  l : List Fd
structure TOk (q : TQ) : Prop where
  most : q.most ≤ 4096
  cap : q.cap ≤ q.most
  used : rooms q.l ≤ q.cap
theorem TOk.many {q : TQ} (h : TOk q) : q.l.length ≤ 128 := by
  have := rooms_len q.l; have := h.most; have := h.cap; have := h.used; omega
def newT (most : Nat) : TQ := ⟨most, 0, 0, []⟩
theorem newT_ok (most : Nat) (h : most ≤ 4096) : TOk (newT most) := ⟨h, Nat.zero_le _, by simp [newT, rooms]⟩
def shrinkE (room : Nat) (q : TQ) : TQ := { q with first := q.first + goneN room q.l, l := q.l.drop (goneN room q.l) }
def countN (q : TQ) : Nat := q.first + q.l.length
theorem shrink_count (room : Nat) (q : TQ) : countN (shrinkE room q) = countN q := by
  have := goneN_le room q.l
  simp only [countN, shrinkE, List.length_drop]; omega
def setCapE (q : TQ) (n : Int) : TQ × Int := if n < 0 ∨ (q.most : Int) < n then (q, 1) else (shrinkE n.toNat { q with cap := n.toNat }, 0)
theorem setCap_ok {q : TQ} (h : TOk q) (n : Int) : TOk (setCapE q n).1 := by
  unfold setCapE
  split
  · exact h
  · refine ⟨h.most, ?_, ?_⟩
    · simp only [shrinkE]; omega
    · exact goneN_fits _ _
def insertE (q : TQ) (f : Fd) : TQ × Int × Int :=
  if 64 < f.n.size ∨ 512 < f.v.size then (q, 0, 13)
  else if q.cap < roomF f then (q, 0, 6)
  else ({ shrinkE (q.cap - roomF f) q with l := (shrinkE (q.cap - roomF f) q).l ++ [f] }, ((countN q : Nat) : Int), 0)
theorem insert_ok {q : TQ} (h : TOk q) (f : Fd) : TOk (insertE q f).1 := by
  unfold insertE
  split
  · exact h
  · split
    · exact h
    · rename_i h1 h2
      refine ⟨h.most, h.cap, ?_⟩
      have := goneN_fits (q.cap - roomF f) q.l
      show rooms (q.l.drop (goneN (q.cap - roomF f) q.l) ++ [f]) ≤ q.cap
      rw [rooms_append]; simp only [rooms]; omega
def getE (q : TQ) (n : Int) : Fd × Int := if n < q.first ∨ ((countN q : Nat) : Int) ≤ n then (noFd, 11) else (q.l.getD (n.toNat - q.first) noFd, 0)

/-- the last one of the first k of which p is told: its number, from first on -/
def lastN (p : Fd → Bool) (first : Nat) (l : List Fd) : Nat → Int
  | 0 => -1
  | k + 1 => if p (l.getD k noFd) then ((first + k : Nat) : Int) else lastN p first l k
/-- the first one -/
def firstG (p : Fd → Bool) : List Fd → Nat → Int
  | [], _ => -1
  | f :: l, o => if p f then (o : Int) else firstG p l (o + 1)
def isF (f x : Fd) : Bool := decide (x = f)
def namedF (f x : Fd) : Bool := decide (x.n = f.n)
def findE (q : TQ) (f : Fd) : Int × Int := (lastN (isF f) q.first q.l q.l.length, lastN (namedF f) q.first q.l q.l.length)
theorem firstG_ge (p : Fd → Bool) (l : List Fd) (o : Nat) : firstG p l o = -1 ∨ (o : Int) ≤ firstG p l o := by
  induction l generalizing o with
  | nil => exact .inl rfl
  | cons f l ih =>
    simp only [firstG]
    split
    · exact .inr (Int.le_refl _)
    · rcases ih (o + 1) with h | h
      · exact .inl h
      · exact .inr (by omega)
theorem firstG_append (p : Fd → Bool) (a : List Fd) (x : Fd) (o : Nat) : firstG p (a ++ [x]) o = if firstG p a o = -1 then (if p x then ((o + a.length : Nat) : Int) else -1) else firstG p a o := by
  induction a generalizing o with
  | nil => simp [firstG]
  | cons f a ih =>
    simp only [List.cons_append, firstG]
    by_cases h : p f = true
    · simp only [h, if_true]; rw [if_neg (by omega)]
    · simp only [h, Bool.false_eq_true, if_false]
      rw [ih, List.length_cons, show o + 1 + a.length = o + (a.length + 1) by omega]
/-- where no two serve, the last one is the first one -/
theorem last_first (p : Fd → Bool) (l : List Fd) (h1 : ∀ i j, i < l.length → j < l.length → p (l.getD i noFd) = true → p (l.getD j noFd) = true → i = j) (k : Nat) (hk : k ≤ l.length) : lastN p 0 l k = firstG p (l.take k) 0 := by
  have none : ∀ k, k ≤ l.length → (∀ i, i < k → p (l.getD i noFd) = false) → firstG p (l.take k) 0 = -1 := by
    intro k
    induction k with
    | zero => intro _ _; rfl
    | succ k ih =>
      intro hk hn
      rw [List.take_succ_eq_append_getElem (by omega), firstG_append, ih (by omega) (fun i hi => hn i (by omega)), if_pos rfl, if_neg]
      have := hn k (by omega)
      simp only [List.getD, List.getElem?_eq_getElem (show k < l.length by omega), Option.getD_some] at this
      simp [this]
  induction k with
  | zero => rfl
  | succ k ih =>
    have hg : l.getD k noFd = l[k] := by simp [List.getD, List.getElem?_eq_getElem (show k < l.length by omega)]
    simp only [lastN]
    rw [List.take_succ_eq_append_getElem (by omega), firstG_append]
    by_cases hp : p (l.getD k noFd) = true
    · rw [if_pos hp, none k (by omega) (fun i hi => by
        cases hq : p (l.getD i noFd) with
        | false => rfl
        | true => have := h1 i k (by omega) (by omega) hq hp; omega), if_pos rfl, if_pos (by rw [← hg]; exact hp)]
      simp; omega
    · rw [if_neg hp, ih (by omega)]
      split
      · rename_i h; rw [if_neg (by rw [← hg]; exact hp)]; exact h
      · rfl
theorem firstG_drop (p : Fd → Bool) (l : List Fd) (k : Nat) (hk : k < l.length) : firstG p (l.drop k) k = if p (l.getD k noFd) then (k : Int) else firstG p (l.drop (k + 1)) (k + 1) := by
  rw [List.drop_eq_getElem_cons hk]
  simp [firstG, List.getD, List.getElem?_eq_getElem hk]
theorem lastN_last (p : Fd → Bool) (first : Nat) (l : List Fd) (x : Fd) (hp : p x = true) : lastN p first (l ++ [x]) (l ++ [x]).length = ((first + l.length : Nat) : Int) := by
  rw [List.length_append, List.length_singleton]
  simp only [lastN]
  have : (l ++ [x]).getD l.length noFd = x := by simp [List.getD]
  rw [this, if_pos hp]
theorem lastN_ge (p : Fd → Bool) (first : Nat) (l : List Fd) (k : Nat) : lastN p first l k = -1 ∨ (0 ≤ lastN p first l k ∧ lastN p first l k < ((first + k : Nat) : Int)) := by
  induction k with
  | zero => exact .inl rfl
  | succ k ih =>
    simp only [lastN]
    split
    · exact .inr ⟨by omega, by omega⟩
    · rcases ih with h | h
      · exact .inl h
      · exact .inr ⟨h.1, by omega⟩

/-- the cells of fields -/
def fdCell (f : Fd) : List Value := [.string f.n, .string f.v]
def fdC (l : List Fd) : List Value := l.flatMap fdCell
theorem fdC_len (l : List Fd) : (fdC l).length = l.length * 2 := flat_len fdCell 2 (fun _ => rfl) l
theorem fdC_get (l : List Fd) (i j : Nat) (hi : i < l.length) (hj : j < 2) : (fdC l)[i * 2 + j]? = (fdCell l[i])[j]? := flat_get fdCell 2 (fun _ => rfl) l i j hi hj
theorem fdC_append (a b : List Fd) : fdC (a ++ b) = fdC a ++ fdC b := by simp [fdC]
theorem fdC_one (f : Fd) : fdC [f] = fdCell f := by simp [fdC]
theorem fdC_oneCell (l : List Fd) : ∀ u ∈ fdC l, u.oneCell' = true := by
  intro u hu
  obtain ⟨f, _, hf⟩ := List.mem_flatMap.1 hu
  simp only [fdCell, List.mem_cons, List.not_mem_nil, or_false] at hf
  rcases hf with rfl | rfl <;> rfl
theorem fdC_cons (f : Fd) (l : List Fd) : fdC (f :: l) = .string f.n :: .string f.v :: fdC l := rfl
theorem fdC_drop (l : List Fd) (k : Nat) : fdC (l.drop k) = (fdC l).drop (k * 2) := by
  induction k generalizing l with
  | zero => simp
  | succ k ih =>
    cases l with
    | nil => simp [fdC]
    | cons f l => rw [List.drop_succ_cons, ih, fdC_cons, show (k + 1) * 2 = k * 2 + 1 + 1 by omega, List.drop_succ_cons, List.drop_succ_cons]
theorem fdC_take (l : List Fd) (k : Nat) : fdC (l.take k) = (fdC l).take (k * 2) := by
  induction k generalizing l with
  | zero => simp [fdC]
  | succ k ih =>
    cases l with
    | nil => simp [fdC]
    | cons f l => rw [List.take_succ_cons, fdC_cons, ih, fdC_cons, show (k + 1) * 2 = k * 2 + 1 + 1 by omega, List.take_succ_cons, List.take_succ_cons]
end Go.Proofs.YtbkbabaoockigaaGreatDoor

set_option maxRecDepth 100000
set_option maxRecDepth 100000
set_option linter.unusedSimpArgs false
set_option linter.unusedVariables false
namespace Go.Proofs.YtbkbabaoockigaaGreatDoor
open Go.RowKit

theorem wraps_i64' (n : Int) (h₀ : -9223372036854775808 ≤ n) (h₁ : n < 9223372036854775808) : IntKind.i64.wrap n = n := by rw [IntKind.wrap_i64]; omega
theorem below1 (w : World) (o : Obj) : Below w.heap.size w (w.alloc o) := (Below.refl _ w).alloc (Nat.le_refl _) _

/-- block b holds a table: sl is the slice of its fields, which is its own -/
structure Tbl (b : Nat) (sl : Value) (q : TQ) (w : World) : Prop where
  fields : Cs w b [.bool true, .int .i64 (q.most : Int), .int .i64 (q.cap : Int), .int .i64 (rooms q.l : Int), .int .i64 (q.first : Int), sl]
  row : w.ownsRow 0 74 2 sl q.l.length (fdC q.l)
  ne : ∀ j, sl.ownBlock = some j → j ≠ b
def TS (b : Nat) (sl : Value) : List Nat := b :: sl.ownBlock.toList
theorem mem_TS {b : Nat} {sl : Value} {i : Nat} : i ∈ TS b sl ↔ i = b ∨ sl.ownBlock = some i := by
  unfold TS
  cases sl.ownBlock with
  | none => simp
  | some j => simp [eq_comm]
theorem owns_blt {B e m n : Nat} {w : World} {v : Value} {fl : List Value} (h : w.ownsRow B e m v n fl) : ∀ j, v.ownBlock = some j → j < w.heap.size := fun j hj => (World.ownsRow.lt h j hj).2
theorem owns_keep {S : List Nat} {B e m n : Nat} {w w' : World} {v : Value} {fl : List Value} (h : w.ownsRow B e m v n fl) (k : Keep S w w') (hn : ∀ j, v.ownBlock = some j → j ∉ S) : w'.ownsRow B e m v n fl := by
  obtain ⟨h1, h2⟩ := h
  refine ⟨h1, ?_⟩
  rcases h2 with h2 | ⟨g, cap, cur, rfl, a2, a3, a4⟩
  · exact .inl h2
  · exact .inr ⟨g, cap, cur, rfl, a2, by rw [k.block g (Array.getElem?_eq_some_iff.1 a3).1 (hn g rfl)]; exact a3, a4⟩
theorem Tbl.keep {S : List Nat} {b : Nat} {sl : Value} {q : TQ} {w w' : World} (h : Tbl b sl q w) (k : Keep S w w') (hb : b ∉ S) (hn : ∀ j, sl.ownBlock = some j → j ∉ S) : Tbl b sl q w' :=
  ⟨h.fields.keep k hb, owns_keep h.row k hn, h.ne⟩
theorem Tbl.below {b : Nat} {sl : Value} {q : TQ} {w w' : World} (h : Tbl b sl q w) (k : Below w.heap.size w w') : Tbl b sl q w' := h.keep (Keep.of_below (S := []) k) (by simp) (by simp)
theorem Tbl.drewN {b : Nat} {sl : Value} {q : TQ} {w : World} (h : Tbl b sl q w) (n : Nat) : Tbl b sl q (w.drewN n) := h.below (below_drewN (Below.refl _ w) n)
theorem Tbl.lt {b : Nat} {sl : Value} {q : TQ} {w : World} (h : Tbl b sl q w) : b < w.heap.size := h.fields.lt
theorem Tbl.slt {b : Nat} {sl : Value} {q : TQ} {w : World} (h : Tbl b sl q w) : ∀ j, sl.ownBlock = some j → j < w.heap.size := owns_blt h.row
theorem Tbl.shape {b : Nat} {sl : Value} {q : TQ} {w : World} (h : Tbl b sl q w) : ∃ a c, sl = .slice a q.l.length c ∧ q.l.length ≤ c ∧ c ≤ maxLen := (RdC.of_owns h.row).isSlice
theorem Tbl.facts {b : Nat} {sl : Value} {q : TQ} {w : World} (h : Tbl b sl q w) :
    w.cell? ⟨b, 0, none⟩ = some (.bool true) ∧ w.cell? ⟨b, 1, none⟩ = some (.int .i64 (q.most : Int)) ∧ w.cell? ⟨b, 2, none⟩ = some (.int .i64 (q.cap : Int)) ∧ w.cell? ⟨b, 3, none⟩ = some (.int .i64 (rooms q.l : Int)) ∧ w.cell? ⟨b, 4, none⟩ = some (.int .i64 (q.first : Int)) ∧ w.cell? ⟨b, 5, none⟩ = some sl :=
  ⟨h.fields.get 0 _ rfl, h.fields.get 1 _ rfl, h.fields.get 2 _ rfl, h.fields.get 3 _ rfl, h.fields.get 4 _ rfl, h.fields.get 5 _ rfl⟩
theorem Tbl.free {b : Nat} {sl : Value} {q : TQ} {w : World} (h : Tbl b sl q w) (j : Nat) : w.frozen? ⟨b, j, none⟩ = false := h.fields.free j

theorem given_any {b : Nat} {sl : Value} {q : TQ} (w : World) (h : Tbl b sl q w) : Calls Tryz.prog 44 #[.pointer (some ⟨b, 0, none⟩)] w fun e w' => e = .returned (.bool true) ∧ w' = w := by
  obtain ⟨c0, _⟩ := h.facts
  clear h
  go_enter Tryz.func44, Tryz.ntmps44
  go_wp2
  go_ret
  exact ⟨rfl, rfl⟩
theorem cap_any {b : Nat} {sl : Value} {q : TQ} (w : World) (h : Tbl b sl q w) : Calls Tryz.prog 106 #[.pointer (some ⟨b, 0, none⟩)] w fun e w' => e = .returned (.int .i64 (q.cap : Int)) ∧ w' = w := by
  have HM := Lib.hid (given_any w h)
  obtain ⟨_, _, c2, _⟩ := h.facts
  clear h
  go_enter Tryz.func106, Tryz.ntmps106
  go_wp2_with (go_at_call 44; refine HM.out.mono ?_; rintro e w2 ⟨rfl, rfl⟩)
  go_ret
  exact ⟨rfl, rfl⟩
theorem used_any {b : Nat} {sl : Value} {q : TQ} (w : World) (h : Tbl b sl q w) : Calls Tryz.prog 107 #[.pointer (some ⟨b, 0, none⟩)] w fun e w' => e = .returned (.int .i64 (rooms q.l : Int)) ∧ w' = w := by
  have HM := Lib.hid (given_any w h)
  obtain ⟨_, _, _, c2, _⟩ := h.facts
  clear h
  go_enter Tryz.func107, Tryz.ntmps107
  go_wp2_with (go_at_call 44; refine HM.out.mono ?_; rintro e w2 ⟨rfl, rfl⟩)
  go_ret
  exact ⟨rfl, rfl⟩
theorem first_any {b : Nat} {sl : Value} {q : TQ} (w : World) (h : Tbl b sl q w) : Calls Tryz.prog 108 #[.pointer (some ⟨b, 0, none⟩)] w fun e w' => e = .returned (.int .i64 (q.first : Int)) ∧ w' = w := by
  have HM := Lib.hid (given_any w h)
  obtain ⟨_, _, _, _, c2, _⟩ := h.facts
  clear h
  go_enter Tryz.func108, Tryz.ntmps108
  go_wp2_with (go_at_call 44; refine HM.out.mono ?_; rintro e w2 ⟨rfl, rfl⟩)
  go_ret
  exact ⟨rfl, rfl⟩
theorem count_any {b : Nat} {sl : Value} {q : TQ} (w : World) (h : Tbl b sl q w) (hq : countN q ≤ 4611686018427387904) : Calls Tryz.prog 42 #[.pointer (some ⟨b, 0, none⟩)] w fun e w' => e = .returned (.int .i64 (countN q : Int)) ∧ ∃ n, w' = w.drewN n := by
  have HM := Lib.hid (given_any w h)
  obtain ⟨_, _, _, _, c4, c5⟩ := h.facts
  obtain ⟨a, c, rfl, _, _⟩ := h.shape
  unfold countN at hq ⊢
  clear h
  have hw : IntKind.i64.wrap ((q.first : Int) + (q.l.length : Int)) = ((q.first + q.l.length : Nat) : Int) := by
    rw [wraps_i64' _ (by omega) (by omega)]; omega
  go_enter Tryz.func42, Tryz.ntmps42
  go_wp2_with (go_at_call 44; refine HM.out.mono ?_; rintro e w2 ⟨rfl, h⟩; obtain rfl : w = w2 := h.symm)
  go_quiet (fail)
  go_wp2
  go_ret
  exact ⟨rfl, _, rfl⟩

/-- a field whose texts are not greater than any that come in -/
def SzF (f : Fd) : Prop := f.n.size ≤ 281474976710656 ∧ f.v.size ≤ 281474976710656
theorem room_any13 (f : Fd) (w : World) (h : SzF f) : Calls Tryz.prog 70 #[.agg #[.string f.n, .string f.v]] w fun e w' => e = .returned (.int .i64 (roomF f : Int)) ∧ Below w.heap.size w w' := by
  obtain ⟨h1, h2⟩ := h
  obtain ⟨n, v⟩ := f
  simp only [roomF] at h1 h2 ⊢
  have q1 : IntKind.i64.wrap ((n.size : Int) + (v.size : Int)) = (n.size : Int) + (v.size : Int) := wraps_i64' _ (by omega) (by omega)
  have q2 : IntKind.i64.wrap ((n.size : Int) + (v.size : Int) + 32) = ((n.size + v.size + 32 : Nat) : Int) := by rw [wraps_i64' _ (by omega) (by omega)]; omega
  have q3 : ((n.size + v.size + 32 : Nat) : Int) = (n.size : Int) + (v.size : Int) + 32 := by omega
  clear h1 h2
  go_enter Tryz.func70, Tryz.ntmps70
  go_wp2
  go_ret
  exact ⟨by first | rfl | (rw [q3]), below1 w _⟩
theorem rroom_any (f : Fd) (w : World) (h : SzF f) : Calls Tryz.prog 104 #[.agg #[.string f.n, .string f.v]] w fun e w' => e = .returned (.int .i64 (roomF f : Int)) ∧ Below w.heap.size w w' := by
  obtain ⟨h1, h2⟩ := h
  obtain ⟨n, v⟩ := f
  simp only [roomF] at h1 h2 ⊢
  have q1 : IntKind.i64.wrap ((n.size : Int) + (v.size : Int)) = (n.size : Int) + (v.size : Int) := wraps_i64' _ (by omega) (by omega)
  have q2 : IntKind.i64.wrap ((n.size : Int) + (v.size : Int) + 32) = ((n.size + v.size + 32 : Nat) : Int) := by rw [wraps_i64' _ (by omega) (by omega)]; omega
  have q3 : ((n.size + v.size + 32 : Nat) : Int) = (n.size : Int) + (v.size : Int) + 32 := by omega
  clear h1 h2
  go_enter Tryz.func104, Tryz.ntmps104
  go_wp2
  go_ret
  exact ⟨by first | rfl | (rw [q3]), below1 w _⟩

/-- '==' of fields -/
theorem str_beq (a b : ByteArray) : (a.toList == b.toList) = decide (a = b) := by
  rw [← beq_toListBytes, Bool.eq_iff_iff, Go.MapKept.bytes_beq, decide_eq_true_iff]
theorem eqF_any (f g : Fd) (w : World) : (Op.equalIn 10000 74 (.agg #[.string f.n, .string f.v]) (.agg #[.string g.n, .string g.v])).run Tryz.prog w = .ok (decide (f = g)) w := by
  obtain ⟨a, b⟩ := f
  obtain ⟨c, d⟩ := g
  have u3 := Tryz.underlying9
  have a3 := Tryz.isAgg9
  have z3 := Tryz.sizeOf9
  have hS : Tryz.prog.underlying 74 = some (.struct (Tryz.prog.fieldsOf 74)) := by kernel_rfl
  have hp : Tryz.prog.stoodInHeld 74 = false := by kernel_rfl
  rw [show (10000 : Nat) = 9999 + 1 from rfl, run_equalIn_agg w 9999 74 _ _ hS hp]
  simp only [Program.fieldsOf, Tryz.underlying74]
  go_simp
  have tl : ∀ x y : ByteArray, (x.toList = y.toList) = (x = y) := fun x y => by
    have := str_beq x y
    rw [Bool.eq_iff_iff, beq_iff_eq, decide_eq_true_iff] at this
    exact propext this
  simp only [tl]
  by_cases h1 : a = c <;> by_cases h2 : b = d <;> simp [h1, h2]
theorem guardF : Tryz.prog.eqGuardType Tryz.prog.depth 74 = false := by kernel_rfl
end Go.Proofs.YtbkbabaoockigaaGreatDoor

set_option maxRecDepth 100000
set_option maxRecDepth 100000
set_option linter.unusedSimpArgs false
set_option linter.unusedVariables false
set_option linter.unnecessarySimpa false
namespace Go.Proofs.YtbkbabaoockigaaGreatDoor
open Go.RowKit

theorem elemFd : ElemC Tryz.prog 74 2 32 (.agg #[.string ⟨#[]⟩, .string ⟨#[]⟩]) := ⟨info_parts (by kernel_rfl), rfl, by decide⟩
/-- v IS A ROW THAT HOLDS THE FIELDS l -/
def OwnF (w : World) (v : Value) (l : List Fd) : Prop := w.ownsRow 0 74 2 v l.length (fdC l)
theorem OwnF.form {w : World} {v : Value} {l : List Fd} (h : OwnF w v l) (h0 : l ≠ []) : ∃ g c, v = .slice (some ⟨g, 0, none⟩) l.length c ∧ g < w.heap.size ∧ l.length ≤ c ∧ c ≤ maxLen := by
  rcases h.2 with ⟨_, q⟩ | ⟨g, cap, cur, rfl, a2, a3, a4, a5, _⟩
  · exact absurd (List.length_eq_zero_iff.1 q) h0
  · exact ⟨g, cap, rfl, (Array.getElem?_eq_some_iff.1 a3).1, a4, a5⟩
theorem OwnF.slice {w : World} {v : Value} {l : List Fd} (h : OwnF w v l) : ∃ a c, v = .slice a l.length c ∧ l.length ≤ c ∧ c ≤ maxLen := RdC.isSlice (RdC.of_owns h)
theorem heap_set {w : World} {g j : Nat} {cs : Array Value} {e : Nat} {u : Value} (h : w.heap[g]? = some (.cells cs e (0, 0))) : (w.setCell ⟨g, j, none⟩ u).heap[g]? = some (.cells (cs.set! j u) e (0, 0)) := by
  simp [World.setCell, Array.getElem?_modify, h]
/-- append of elements onto a row, as one step of a region that draws: the row lies where it lay, or in a new block -/
theorem step_append_at {P : Program} {ops : Array Oper} {w : World} {o : Oper} {a : Act} {K : Act → World → Prop} {Q : Exit → Act → World → Prop} {E : Prop} (hgd : o.guard = none) (s x : Operand) (t : TypeId)
    (ho : o.op = .call { callee := .builtin .append, args := #[s, x], argTypes := #[t, t] }) {e : TypeId} {m bytes : Nat} {z : Value} (hE : ElemC P e m bytes z) (ht : P.underlying t = some (.slice e))
    (B : Nat) (v : Value) (n : Nat) (fl : List Value) (hs : a.eval s = v) (hown : w.ownsRow B e m v n fl) (u : Value) (k : Nat) (gl : List Value) (hx : a.eval x = u) (hr : RdC m w u k gl) (hk : 0 < k) (hone : ∀ u ∈ gl, u.oneCell' = true)
    (hby : (n + k) * bytes ≤ 140737488355328) (h63 : n + k ≤ maxLen) (hB : B ≤ w.heap.size)
    (h : ∀ v' w', w'.ownsRow B e m v' (n + k) (fl ++ gl) → w.grownBy w' v.ownBlock → (v'.ownBlock = v.ownBlock ∨ v'.ownBlock = some w.heap.size) → K (a.put o.dst v') w') : if Region.wanted o (yielded ops a.tmps) = true then Oper.wp P o a w K Q else E := by
  rw [if_pos (by simp [Region.wanted, hgd])]
  obtain ⟨i, hi, hz, hsz, hbs⟩ := hE.info
  obtain ⟨hlen, ⟨rfl, _⟩ | ⟨h0, b, off, c, rfl, h2, h3, h4, h5⟩⟩ := hr
  · omega
  · obtain ⟨v', w', hrun, q2, q3, _, q5⟩ := run_append_own_at (P := P) w B t o.type e i z m bytes ht hi hz hsz hbs hE.size hE.pos v n _ hown ⟨b, off, none⟩ k c gl hlen (fun j u hu => by rw [Addr.add_lit]; exact h5 j u hu) hone h63 hby hB
    unfold Oper.wp execOp
    simp only [ho, resolve, invoke, builtin, Sem.run_bind, Sem.run_pure, Result.andThen_ok, List.map_toArray, List.map_cons, List.map_nil, hs, hx, hrun]
    exact h v' w' q2 q3 q5
theorem splice_one {α : Type} (L : List α) (o : Nat) (x : α) (r : List α) (h : o < L.length) : splice (L.set o x) (o + 1) r = splice L o (x :: r) := by
  unfold splice
  have h1 : (L.set o x).take (o + 1) = L.take o ++ [x] := by
    rw [List.take_succ_eq_append_getElem (by simpa using h), List.take_set_of_le (Nat.le_refl o)]
    simp
  have h2 : (L.set o x).drop (o + 1 + r.length) = L.drop (o + (r.length + 1)) := by
    rw [List.drop_set_of_lt (by omega), show o + 1 + r.length = o + (r.length + 1) by omega]
  rw [h1, h2]
  simp
theorem heap_setCells (g : Nat) (T : TypeId) : ∀ (vs : List Value) (o : Nat) (w : World) (cs : List Value), w.heap[g]? = some (.cells cs.toArray T (0, 0)) → o + vs.length ≤ cs.length → (w.setCells g o vs).heap[g]? = some (.cells (splice cs o vs).toArray T (0, 0))
  | [], o, w, cs, h, _ => by
    simp only [World.setCells]
    rw [h]
    simp [splice]
  | v :: r, o, w, cs, h, hl => by
    simp only [List.length_cons] at hl
    have h1 : (w.setCell ⟨g, o, none⟩ v).heap[g]? = some (.cells (cs.set o v).toArray T (0, 0)) := by
      rw [heap_set h]; simp
    have := heap_setCells g T r (o + 1) (w.setCell ⟨g, o, none⟩ v) (cs.set o v) h1 (by simp; omega)
    rw [splice_one _ _ _ _ (by omega)] at this
    exact this
theorem grown_setCells (g : Nat) : ∀ (vs : List Value) (o : Nat) (w : World), w.grownBy (w.setCells g o vs) (some g)
  | [], _, w => World.grownBy.refl w _
  | v :: r, o, w => grownBy_trans (grown_set g o w v) (grown_setCells g r (o + 1) _)

/-- clear(s), s of elements of m cells, in block g from off on -/
theorem run_clear_rows {P : Program} (w : World) (t e ty : TypeId) (z : Value) (ht : P.underlying t = some (.slice e)) (hv : ∀ w, (zeroValue e).run P w = .ok z w) (h1 : ∀ v ∈ z.cells.toList, v.oneCell' = true) (g o n c m : Nat) (hm : z.cells.size = m) (hn : 0 < n)
    (T : TypeId) (cur : List Value) (hg : w.heap[g]? = some (.cells cur.toArray T (0, 0))) (hfit : o + n * m ≤ cur.length) :
    ∃ vs : List Value, vs.length = n * m ∧ (Builtin.clear_ #[t] ty #[.slice (some ⟨g, o, none⟩) n c]).run P w = .ok (.tuple #[]) (w.setRow g (splice cur o vs).toArray) := by
  refine ⟨(Builtin.zeroCells z.cells n).toList, by simp [Builtin.zeroCells, hm], ?_⟩
  have hz1 : ∀ v ∈ (Builtin.zeroCells z.cells n).toList, v.oneCell' = true := by
    intro v hv'
    simp only [Builtin.zeroCells, Array.toList_map, Array.toList_range, List.mem_map, List.mem_range] at hv'
    obtain ⟨i, hi, rfl⟩ := hv'
    have hpos : 0 < z.cells.size := by
      rcases Nat.eq_zero_or_pos z.cells.size with h0 | h0
      · rw [h0] at hi; simp at hi
      · exact h0
    have hlt : i % z.cells.size < z.cells.size := Nat.mod_lt _ hpos
    rw [getElem!_pos z.cells _ hlt]
    exact h1 _ (by simp)
  have hst := run_storeCells_at P g o T (Builtin.zeroCells z.cells n).toList 0 cur.toArray w hg (by simp [Builtin.zeroCells, hm]; omega) hz1
  have e : (cur.toArray.toList.take (o + 0) ++ (Builtin.zeroCells z.cells n).toList ++ cur.toArray.toList.drop (o + 0 + (Builtin.zeroCells z.cells n).toList.length)).toArray = (splice cur o (Builtin.zeroCells z.cells n).toList).toArray := by simp [splice]
  rw [e] at hst
  obtain ⟨k, rfl⟩ : ∃ k, n = k + 1 := ⟨n - 1, by omega⟩
  simp [Builtin.clear_, run_underlying ht, hv, hst]
theorem wpList_clear_rows {P : Program} (w : World) {ops : Array Oper} {rest : List Oper} {o : Oper} {a : Act} {Q : Exit → Act → World → Prop} (hgd : o.guard = none) (s : Operand) (t : TypeId)
    (ho : o.op = .call { callee := .builtin .clear, args := #[s], argTypes := #[t] }) (e : TypeId) (z : Value) (ht : P.underlying t = some (.slice e)) (hv : ∀ w, (zeroValue e).run P w = .ok z w) (h1 : ∀ v ∈ z.cells.toList, v.oneCell' = true)
    (g off n c m : Nat) (hm : z.cells.size = m) (hs : a.eval s = .slice (some ⟨g, off, none⟩) n c) (hn : 0 < n) (T : TypeId) (cur : List Value) (hg : w.heap[g]? = some (.cells cur.toArray T (0, 0))) (hfit : off + n * m ≤ cur.length)
    (h : ∀ w' vs, Hid (w'.heap[g]? = some (.cells (splice cur off vs).toArray T (0, 0)) ∧ vs.length = n * m) → w.grownBy w' (some g) → wpList P ops Q rest (a.put o.dst (.tuple #[])) w') : wpList P ops Q (o :: rest) a w := by
  refine wpList_plain hgd fun K hK => ?_
  obtain ⟨vs, hvs, hrun⟩ := run_clear_rows w t e o.type z ht hv h1 g off n c m hm hn T cur hg hfit
  unfold Oper.wp
  simp only [execOp, ho, resolve, invoke, builtin, Sem.run_bind, Sem.run_pure, Result.andThen_ok, List.map_toArray, List.map_cons, List.map_nil, hs, hrun]
  exact hK _ _ (h _ vs ⟨setRow_heap w g _ _ T _ hg, hvs⟩ (grown_setRow w g _))

/-- the block of a row, and all of its cells -/
theorem OwnF.open {w : World} {g n c : Nat} {l : List Fd} (h : OwnF w (.slice (some ⟨g, 0, none⟩) n c) l) : ∃ cur : List Value, w.heap[g]? = some (.cells cur.toArray 74 (0, 0)) ∧ cur.length = c * 2 ∧ cur.take (l.length * 2) = fdC l ∧ n = l.length ∧ l.length ≤ c ∧ c ≤ maxLen := by
  obtain ⟨h1, h2⟩ := h
  rcases h2 with ⟨q, _⟩ | ⟨g', cap, cur, q, _, a3, a4, a5, a6, a7⟩
  · cases q
  · simp only [Value.slice.injEq, Option.some.injEq, Addr.mk.injEq, and_true] at q
    obtain ⟨rfl, rfl, rfl⟩ := q
    exact ⟨cur.toList, by simpa using a3, by simpa using a6, a7, rfl, a4, a5⟩
theorem OwnF.shut {w : World} {g c : Nat} {l : List Fd} {cur : List Value} (hg : w.heap[g]? = some (.cells cur.toArray 74 (0, 0))) (hc : cur.length = c * 2) (ht : cur.take (l.length * 2) = fdC l) (hn : l.length ≤ c) (hm : c ≤ maxLen) : OwnF w (.slice (some ⟨g, 0, none⟩) l.length c) l :=
  ⟨fdC_len l, .inr ⟨g, c, cur.toArray, rfl, Nat.zero_le _, hg, hn, hm, by simpa using hc, by simpa using ht⟩⟩
theorem infoFd : Tryz.prog.info? 74 = some ((Tryz.prog.info? 74).getD default) ∧ ((Tryz.prog.info? 74).getD default).size = 2 := by
  obtain ⟨i, hi, _, hs, _⟩ := elemFd.info
  rw [hi]; exact ⟨rfl, hs⟩
theorem splice_eq {α : Type} (L : List α) (o : Nat) (cs : List α) : splice L o cs = L.take o ++ (cs ++ L.drop (o + cs.length)) := by unfold splice; simp
theorem cut_splice (cur N vs : List Value) (a : Nat) (ha : a + N.length ≤ cur.length) : (splice (splice cur a N) (a + N.length) vs).take (a + N.length) = cur.take a ++ N := by
  have hl : (cur.take a ++ N).length = a + N.length := by rw [List.length_append, List.length_take]; omega
  have h1 : (splice cur a N).take (a + N.length) = cur.take a ++ N := by
    rw [splice_eq, ← List.append_assoc, ← hl, List.take_left']
    rfl
  rw [splice_eq (splice cur a N), h1, ← hl, List.take_left']
  rfl
theorem splice_len (cur N : List Value) (a : Nat) (ha : a + N.length ≤ cur.length) : (splice cur a N).length = cur.length := by
  unfold splice
  rw [List.length_append, List.length_append, List.length_take, List.length_drop]; omega
theorem zeroFd : ∀ w : World, (zeroValue 74).run Tryz.prog w = .ok (.agg #[.string ⟨#[]⟩, .string ⟨#[]⟩]) w := Tryz.zeroValue74
set_option maxHeartbeats 6400000 in
theorem delete_any (v : Value) (l : List Fd) (i j : Nat) (w : World) (h : OwnF w v l) (hij : i ≤ j) (hj : j ≤ l.length) (hl : l.length ≤ 4096) :
    Calls Tryz.prog 71 #[v, .int .i64 i, .int .i64 j] w fun r w' => ∃ v', r = .returned v' ∧ OwnF w' v' (l.take i ++ l.drop j) ∧ v'.ownBlock = v.ownBlock ∧ w.grownBy w' v.ownBlock := by
  have i1 : (0 : Int) ≤ (i : Int) := by omega
  have i2 : (i : Int) ≤ (j : Int) := by omega
  have i3 : (j : Int) ≤ (l.length : Int) := by omega
  have i4 : (i : Int) ≤ (l.length : Int) := by omega
  by_cases he : i = j
  · subst he
    rw [List.take_append_drop]
    have HO := Lib.hid h
    obtain ⟨va, vc, rfl, hvc, _⟩ := h.slice
    have i5 : (l.length : Int) ≤ (vc : Int) := by omega
    by_cases hvn : va = none
    · subst hvn
      have hz : l.length = 0 ∧ vc = 0 := by
        rcases h.2 with ⟨q, h0⟩ | ⟨g, cap, cur, q, _⟩
        · simp only [Value.slice.injEq, true_and] at q; exact ⟨h0, q.2⟩
        · simp at q
      obtain ⟨hz1, hz2⟩ := hz
      subst hz2
      rw [hz1] at HO i3 i4 ⊢
      obtain rfl : i = 0 := by omega
      clear h hl
      go_enter Tryz.func71, Tryz.ntmps71
      go_wp2
      go_ret
      exact ⟨_, rfl, HO.out, rfl, World.grownBy.refl _ _⟩
    · obtain ⟨a, rfl⟩ : ∃ a, va = some a := by cases va with | none => exact absurd rfl hvn | some a => exact ⟨a, rfl⟩
      clear h hl
      by_cases hil : i = l.length
      · subst hil
        go_enter Tryz.func71, Tryz.ntmps71
        go_wp2
        go_ret
        exact ⟨_, rfl, HO.out, rfl, World.grownBy.refl _ _⟩
      · have hil' : i < l.length := by omega
        go_enter Tryz.func71, Tryz.ntmps71
        go_wp2
        go_ret
        exact ⟨_, rfl, HO.out, rfl, World.grownBy.refl _ _⟩
  · obtain ⟨g, cc, rfl, hg, hcap, hmx⟩ := h.form (by intro e0; rw [e0] at hj; simp at hj; omega)
    obtain ⟨cur, hcur, hcl, hct, _, _, _⟩ := h.open
    have e1 : ((i : Int) == (j : Int)) = false := by simp; omega
    have i5 : (l.length : Int) ≤ (cc : Int) := by omega
    have i6 : (j : Int) ≤ (cc : Int) := by omega
    have i7 : (i : Int) ≤ (cc : Int) := by omega
    have HC := Lib.hid hcur
    have HL := Lib.hid hcl
    have HT := Lib.hid hct
    have hij' : i < j := by omega
    have hdl : (fdC (l.drop j)).length = (l.length - j) * 2 := by rw [fdC_len, List.length_drop]
    have hsrc : ∀ (p : Nat) (u : Value), (fdC (l.drop j))[p]? = some u → w.cell? ⟨g, j * 2 + p, none⟩ = some u := fun p u hu => by
      have h1 : (fdC l)[j * 2 + p]? = some u := by rw [fdC_drop, List.getElem?_drop] at hu; exact hu
      have h2 : cur[j * 2 + p]? = some u := by
        rw [← hct, List.getElem?_take] at h1
        split at h1
        · exact h1
        · cases h1
      simp only [World.cell?, hcur, Option.bind_some]
      simpa using h2
    have hspare : ∀ p, p < (fdC (l.drop j)).length → (w.cell? ⟨g, 0 + i * 2 + p, none⟩).isSome = true ∧ w.frozen? ⟨g, 0 + i * 2 + p, none⟩ = false := fun p hp => by
      refine ⟨?_, ?_⟩
      · simp only [World.cell?, hcur, Option.bind_some]
        have : 0 + i * 2 + p < cur.length := by rw [hdl] at hp; rw [hcl]; omega
        rw [List.getElem?_toArray, List.getElem?_eq_getElem this]; rfl
      · simp [World.frozen?, hcur]
    have hnew : (w.drew.setCells g (0 + i * 2) (fdC (l.drop j))).heap[g]? = some (.cells (splice cur (0 + i * 2) (fdC (l.drop j))).toArray 74 (0, 0)) :=
      heap_setCells g _ _ _ w.drew cur hcur (by rw [hdl, hcl]; omega)
    have hsl : (splice cur (0 + i * 2) (fdC (l.drop j))).length = cc * 2 := by
      rw [splice_len _ _ _ (by rw [hdl, hcl]; omega), hcl]
    have HN := Lib.hid hnew
    have HSL := Lib.hid hsl
    have HSR := Lib.hid hsrc
    have HSP := Lib.hid hspare
    have HDL := Lib.hid hdl
    have hfin : ∀ vs : List Value, (splice (splice cur (0 + i * 2) (fdC (l.drop j))) ((i + (l.length - j)) * 2) vs).take ((l.take i ++ l.drop j).length * 2) = fdC (l.take i ++ l.drop j) := fun vs => by
      have hll : (l.take i ++ l.drop j).length = i + (l.length - j) := by rw [List.length_append, List.length_take, List.length_drop]; omega
      have hm : (i + (l.length - j)) * 2 = i * 2 + (fdC (l.drop j)).length := by rw [hdl, Nat.add_mul]
      rw [hll, hm, Nat.zero_add, cut_splice cur _ vs (i * 2) (by rw [hdl, hcl]; omega), fdC_append, fdC_take]
      congr 1
      rw [← hct, List.take_take, Nat.min_eq_left (by omega)]
    have HF := Lib.hid hfin
    clear h hcur hcl hct he hsrc hspare hnew hsl hdl hfin
    have infoFd := Lib.hid infoFd
    go_enter Tryz.func71, Tryz.ntmps71
    go_wp2_with fail
    by_cases hjc : j = cc
    · have hj0 : l.length - j = 0 := by omega
      have hnl : fdC (l.drop j) = [] := by rw [List.drop_eq_nil_of_le (by omega)]; rfl
      have HNL := Lib.hid hnl
      have HJ0 := Lib.hid hj0
      have hjl : j = l.length := by omega
      have hcl : cc = l.length := by omega
      subst hjc
      clear hj0 hnl hcl
      subst hjl
      go_region_law (refine step_append_room rfl (.tmp 22) (.tmp 25) 27 rfl 74 _ 2 Tryz.underlying27 infoFd.out.1 infoFd.out.2 g 0 i l.length rfl ⟨g, 0, none⟩ 0 0 (fdC []) rfl rfl (fun p u hu => by cases hu) (fdC_oneCell _) (by omega) (fun p hp => by cases hp) ?_)
      simp only [Nat.zero_add, List.drop_length] at HN HSL HF ⊢
      have HG1 : Hid (w.grownBy (w.drew.setCells g (i * 2) (fdC [])) (some g)) := (grownBy_trans (grownBy_of_below (below_drewN (Below.refl _ w) 1)) (grown_setCells g _ _ w.drew) : w.grownBy (w.drew.setCells g (i * 2) (fdC [])) (some g))
      generalize w.drew.setCells g (i * 2) (fdC []) = w2 at HN HG1 ⊢
      have hm : i + (l.length - l.length) = i := by omega
      have j1 : (i : Int) ≤ (l.length : Int) := by omega
      have j5 : (0 : Int) ≤ (i : Int) := by omega
      have j3 : ¬ l.length = i := by omega
      have hz := zeroFd
      obtain ⟨vs, hvs, hrun⟩ := run_clear_rows w2 27 74 0 (.agg #[.string ⟨#[]⟩, .string ⟨#[]⟩]) Tryz.underlying27 hz (by intro v hv; simp [Value.cells] at hv; rcases hv with rfl | rfl <;> rfl) g (i * 2) (l.length - i) (l.length - i) 2 rfl (by omega) 74 _ HN.out (by rw [HSL.out]; omega)
      have HZ := Lib.hid (setRow_heap w2 g _ (splice (splice cur (i * 2) (fdC [])) (i * 2) vs).toArray _ _ HN.out)
      have HG2 := Lib.hid (grown_setRow w2 g (splice (splice cur (i * 2) (fdC [])) (i * 2) vs).toArray)
      rw [hm] at HF
      have HVS := Lib.hid hvs
      have HM := Lib.hid hm
      clear hvs hm hz
      go_wp2_with fail
      go_ret
      have hll : (l.take i ++ []).length = i := by have := HM.out; rw [List.length_append, List.length_take, List.length_nil]; omega
      refine ⟨.slice (some ⟨g, 0, none⟩) i l.length, rfl, ?_, rfl, grownBy_trans HG1.out HG2.out⟩
      have hmc : i ≤ l.length := by omega
      have := OwnF.shut (w := w2.setRow g (splice (splice cur (i * 2) (fdC [])) (i * 2) vs).toArray) (l := l.take i ++ []) (c := l.length) HZ.out (by rw [splice_len _ _ _ (by rw [HVS.out, HSL.out]; omega), HSL.out]) (HF.out vs) (by rw [hll]; exact hmc) hmx
      rw [hll] at this
      try rw [List.drop_length]
      exact this
    · have hjc' : ¬ cc = j := fun x => hjc x.symm
      go_region_law (refine step_append_room rfl (.tmp 22) (.tmp 25) 27 rfl 74 _ 2 Tryz.underlying27 infoFd.out.1 infoFd.out.2 g 0 i cc rfl ⟨g, j * 2, none⟩ (l.length - j) (cc - j) (fdC (l.drop j)) rfl HDL.out (fun p u hu => by rw [Addr.add_lit]; exact HSR.out p u hu) (fdC_oneCell _) (by omega) HSP.out ?_)
      simp only [Nat.zero_add] at HN HSL HF ⊢
      have HG1 : Hid (w.grownBy (w.drew.setCells g (i * 2) (fdC (l.drop j))) (some g)) := (grownBy_trans (grownBy_of_below (below_drewN (Below.refl _ w) 1)) (grown_setCells g _ _ w.drew) : w.grownBy (w.drew.setCells g (i * 2) (fdC (l.drop j))) (some g))
      generalize w.drew.setCells g (i * 2) (fdC (l.drop j)) = w2 at HN HG1 ⊢
      obtain ⟨m, hm⟩ : ∃ m, i + (l.length - j) = m := ⟨_, rfl⟩
      have j0 : (i : Int) + ((l.length - j : Nat) : Int) = (m : Int) := by omega
      have j1 : (m : Int) ≤ (l.length : Int) := by omega
      have j5 : (0 : Int) ≤ (m : Int) := by omega
      have j3 : ¬ cc = m := by omega
      have hz := zeroFd
      obtain ⟨vs, hvs, hrun⟩ := run_clear_rows w2 27 74 0 (.agg #[.string ⟨#[]⟩, .string ⟨#[]⟩]) Tryz.underlying27 hz (by intro v hv; simp [Value.cells] at hv; rcases hv with rfl | rfl <;> rfl) g (m * 2) (l.length - m) (cc - m) 2 rfl (by omega) 74 _ HN.out (by rw [HSL.out]; omega)
      have HZ := Lib.hid (setRow_heap w2 g _ (splice (splice cur (i * 2) (fdC (l.drop j))) (m * 2) vs).toArray _ _ HN.out)
      have HG2 := Lib.hid (grown_setRow w2 g (splice (splice cur (i * 2) (fdC (l.drop j))) (m * 2) vs).toArray)
      rw [hm] at HF ⊢
      have HVS := Lib.hid hvs
      have HM := Lib.hid hm
      clear hvs hm hz
      go_wp2_with fail
      go_ret
      have hll : (l.take i ++ l.drop j).length = m := by have := HM.out; rw [List.length_append, List.length_take, List.length_drop]; omega
      refine ⟨.slice (some ⟨g, 0, none⟩) m cc, rfl, ?_, rfl, grownBy_trans HG1.out HG2.out⟩
      have hmc : m ≤ cc := by omega
      have := OwnF.shut (w := w2.setRow g (splice (splice cur (i * 2) (fdC (l.drop j))) (m * 2) vs).toArray) (l := l.take i ++ l.drop j) (c := cc) HZ.out (by rw [splice_len _ _ _ (by rw [HVS.out, HSL.out]; omega), HSL.out]) (HF.out vs) (by rw [hll]; exact hmc) hmx
      rw [hll] at this
      exact this
end Go.Proofs.YtbkbabaoockigaaGreatDoor

set_option maxRecDepth 100000
set_option maxRecDepth 100000
set_option linter.unusedSimpArgs false
set_option linter.unusedVariables false
set_option linter.unnecessarySimpa false
namespace Go.Proofs.YtbkbabaoockigaaGreatDoor
open Go.RowKit

/-- block b holds a table's cells -/
def TbC (b : Nat) (most cap used first : Int) (sl : Value) (w : World) : Prop := Cs w b [.bool true, .int .i64 most, .int .i64 cap, .int .i64 used, .int .i64 first, sl]
theorem TbC.facts {b : Nat} {most cap used first : Int} {sl : Value} {w : World} (h : TbC b most cap used first sl w) :
    w.cell? ⟨b, 0, none⟩ = some (.bool true) ∧ w.cell? ⟨b, 1, none⟩ = some (.int .i64 most) ∧ w.cell? ⟨b, 2, none⟩ = some (.int .i64 cap) ∧ w.cell? ⟨b, 3, none⟩ = some (.int .i64 used) ∧ w.cell? ⟨b, 4, none⟩ = some (.int .i64 first) ∧ w.cell? ⟨b, 5, none⟩ = some sl :=
  ⟨Cs.get h 0 _ rfl, Cs.get h 1 _ rfl, Cs.get h 2 _ rfl, Cs.get h 3 _ rfl, Cs.get h 4 _ rfl, Cs.get h 5 _ rfl⟩
theorem TbC.free {b : Nat} {most cap used first : Int} {sl : Value} {w : World} (h : TbC b most cap used first sl w) (j : Nat) : w.frozen? ⟨b, j, none⟩ = false := Cs.free h j
theorem TbC.below {b : Nat} {most cap used first : Int} {sl : Value} {w w' : World} (h : TbC b most cap used first sl w) (k : Below w.heap.size w w') : TbC b most cap used first sl w' := Cs.below h k
theorem TbC.keep {S : List Nat} {b : Nat} {most cap used first : Int} {sl : Value} {w w' : World} (h : TbC b most cap used first sl w) (k : Keep S w w') (hb : b ∉ S) : TbC b most cap used first sl w' := Cs.keep h k hb
theorem TbC.setUsed {b : Nat} {most cap used first : Int} {sl : Value} {w : World} (h : TbC b most cap used first sl w) (x : Int) : TbC b most cap x first sl (w.setCell ⟨b, 3, none⟩ (.int .i64 x)) := Cs.set h 3 _
theorem TbC.setCap {b : Nat} {most cap used first : Int} {sl : Value} {w : World} (h : TbC b most cap used first sl w) (x : Int) : TbC b most x used first sl (w.setCell ⟨b, 2, none⟩ (.int .i64 x)) := Cs.set h 2 _
theorem TbC.setFirst {b : Nat} {most cap used first : Int} {sl : Value} {w : World} (h : TbC b most cap used first sl w) (x : Int) : TbC b most cap used x sl (w.setCell ⟨b, 4, none⟩ (.int .i64 x)) := Cs.set h 4 _
theorem TbC.setRow {b : Nat} {most cap used first : Int} {sl : Value} {w : World} (h : TbC b most cap used first sl w) (x : Value) : TbC b most cap used first x (w.setCell ⟨b, 5, none⟩ x) := Cs.set h 5 _
theorem own_set {w : World} {v : Value} {l : List Fd} (h : OwnF w v l) (b j : Nat) (x : Value) (hn : ∀ g, v.ownBlock = some g → g ≠ b) : OwnF (w.setCell ⟨b, j, none⟩ x) v l :=
  owns_keep h (keep_set b j w x) (fun g hg => by have := hn g hg; simpa using this)
theorem OwnF.below {w w' : World} {v : Value} {l : List Fd} (h : OwnF w v l) (hb : Below w.heap.size w w') : OwnF w' v l := owns_keep h (Keep.of_below (S := []) hb) (by simp)
/-- a field in a row -/
theorem OwnF.at {w : World} {g n c : Nat} {l : List Fd} (h : OwnF w (.slice (some ⟨g, 0, none⟩) n c) l) (k : Nat) (hk : k < l.length) :
    w.cell? ⟨g, k * 2, none⟩ = some (.string l[k].n) ∧ w.cell? ⟨g, k * 2 + 1, none⟩ = some (.string l[k].v) := by
  have hn : n = l.length := by obtain ⟨_, _, e, _⟩ := h.slice; simp only [Value.slice.injEq] at e; exact e.2.1
  subst hn
  have cell : ∀ j u, j < 2 → (fdCell l[k])[j]? = some u → w.cell? ⟨g, k * 2 + j, none⟩ = some u := fun j u hj hu =>
    RdC.cell (RdC.of_owns h) (k * 2 + j) u ((fdC_get l k j hk hj).trans hu) _ (by omega)
  exact ⟨cell 0 _ (by omega) rfl, cell 1 _ (by omega) rfl⟩
theorem room_le13 {l : List Fd} {k m : Nat} (hk : k < l.length) (h : rooms l ≤ m) : roomF l[k] ≤ m := by
  have h1 := rooms_drop l k hk
  have h2 := rooms_drop_le l k
  omega
theorem szF_of {f : Fd} (h : roomF f ≤ 4096) : SzF f := by
  unfold roomF at h
  exact ⟨by omega, by omega⟩

set_option maxHeartbeats 3200000 in
theorem shrink_any {b : Nat} {sl : Value} {q : TQ} (w : World) (room : Nat) (h : Tbl b sl q w) (hr : rooms q.l ≤ 4096) (hc : countN q ≤ 4611686018427387904) :
    Calls Tryz.prog 45 #[.pointer (some ⟨b, 0, none⟩), .int .i64 (room : Int)] w fun e w' => e = .returned (.tuple #[]) ∧ ∃ sl', Tbl b sl' (shrinkE room q) w' ∧ sl'.ownBlock = sl.ownBlock ∧ Keep (TS b sl) w w' := by
  obtain ⟨most, cap, first, l⟩ := q
  simp only [countN] at hr hc
  obtain ⟨sa, sc, hsl, _, _⟩ := h.shape
  simp only at hsl
  have HF0 := Lib.hid (show TbC b most cap (rooms (l.drop 0)) first sl w from h.fields)
  have HR0 := Lib.hid (show OwnF w sl l from h.row)
  have HNE := Lib.hid h.ne
  have HRM := Lib.hid hr
  have HC := Lib.hid hc
  have HSL := Lib.hid hsl
  clear h hr hc hsl
  go_enter Tryz.func45, Tryz.ntmps45
  go_wp2_with fail
  go_loopw [4] (fun i wr => ∃ k : Nat, i = .int .i64 k ∧ k ≤ l.length ∧ (∀ j, j < k → room < rooms (l.drop j)) ∧ TbC b most cap (rooms (l.drop k)) first sl wr ∧ OwnF wr sl l ∧ Keep [b] w wr) (fun i _ => l.length - (intOf i).toNat)
  case atStart => exact ⟨0, rfl, Nat.zero_le _, fun j hj => by omega, HF0.out, HR0.out, Keep.refl _ _⟩
  case round =>
    obtain ⟨k, rfl, hk, hwant, hF, hO, hK⟩ := hrel
    have WANT := Lib.hid hwant
    have F := Lib.hid hF
    have O := Lib.hid hO
    have K := Lib.hid hK
    clear hwant hK
    obtain ⟨u, hu⟩ : ∃ u, u = rooms (l.drop k) := ⟨_, rfl⟩
    rw [← hu] at hF F
    have HU := Lib.hid hu
    clear hu
    by_cases hlt : room < u
    · have hkl : k < l.length := by
        rcases Nat.lt_or_ge k l.length with h | h
        · exact h
        · have := HU.out; rw [List.drop_eq_nil_of_le h] at this; simp [rooms] at this; omega
      obtain ⟨g, gc, hsl2, hg, hgc, hgm⟩ := hO.form (fun e => by rw [e] at hkl; simp at hkl)
      subst hsl2
      have HRO := Lib.hid (rooms_drop l k hkl)
      have hsz : roomF l[k] ≤ 4096 := room_le13 hkl HRM.out
      have HRC := Lib.hid (fun V => room_any13 l[k] V (szF_of hsz))
      have hb3 : u = roomF l[k] + rooms (l.drop (k + 1)) := HU.out.trans HRO.out
      have hul : u ≤ 4096 := by rw [HU.out]; exact Nat.le_trans (rooms_drop_le l k) HRM.out
      obtain ⟨c0, c1⟩ := hO.at k hkl
      obtain ⟨fd, hfd⟩ : ∃ fd, fd = l[k] := ⟨_, rfl⟩
      rw [← hfd] at HRC hb3 hsz c0 c1
      clear hfd
      obtain ⟨rf, hrf⟩ : ∃ rf, rf = roomF fd := ⟨_, rfl⟩
      obtain ⟨un, hun⟩ : ∃ un, un = rooms (l.drop (k + 1)) := ⟨_, rfl⟩
      rw [← hrf] at HRC hb3
      rw [← hun] at hb3
      have HUN := Lib.hid hun
      clear hrf hun hsz
      have hw2 : IntKind.i64.wrap ((u : Int) - (rf : Int)) = (un : Int) := by rw [wraps_i64' _ (by omega) (by omega)]; omega
      have hw3 : IntKind.i64.wrap ((k : Int) + 1) = ((k + 1 : Nat) : Int) := by rw [wraps_i64' _ (by omega) (by have := HC.out; omega)]; omega
      have hi1 : (room : Int) < (u : Int) := by omega
      have hi2 : (k : Int) < (l.length : Int) := by omega
      have hi3 : (0 : Int) ≤ (k : Int) := by omega
      have hblt : b < wr.heap.size := Cs.lt hF
      obtain ⟨_, _, _, f3, _, f5⟩ := hF.facts
      have x0 : wr.drew.cell? ⟨g, k * 2, none⟩ = some (.string fd.n) := c0
      have x1 : wr.drew.cell? ⟨g, k * 2 + 1, none⟩ = some (.string fd.v) := c1
      have x3 : wr.drew.cell? ⟨b, 3, none⟩ = some (.int .i64 (u : Int)) := f3
      have x5 : wr.drew.cell? ⟨b, 5, none⟩ = some (.slice (some ⟨g, 0, none⟩) l.length gc) := f5
      have HBN := Lib.hid hb3
      have HLT := Lib.hid hlt
      have HKL := Lib.hid hkl
      clear HRO hF hO hb3 hlt hkl hul hgc hgm c0 c1
      go_upto_region 2 with fail
      go_region_law (first
        | (go_simp; go_at_call 70; refine (HRC.out _).mono ?_; rintro x w3 ⟨rfl, b3⟩
           have F3 := Lib.hid ((F.out.below (below_drewN (Below.refl _ wr) 1)).below b3)
           have u3 := F3.out.facts.2.2.2.1
           have v3 := F3.out.free 3))
      all_goals clear x0 x1 x3 x5 u3 v3
      all_goals
        generalize hW5 : w3.setCell ⟨b, 3, none⟩ (.int .i64 (un : Int)) = W5
        have e5 : Hid (W5 = w3.setCell ⟨b, 3, none⟩ (.int .i64 (un : Int))) := hW5.symm
        clear hW5
      all_goals go_wp2_with fail
      all_goals
        have bz := (below_drewN (Below.refl wr.heap.size wr) 1).trans b3
        have hkl := HKL.out
        refine ⟨⟨k + 1, rfl, hkl, ?_, ?_, ?_, ?_⟩, by simp [intOf]; omega⟩
        · intro j hj
          by_cases hjk : j < k
          · exact WANT.out j hjk
          · obtain rfl : j = k := by omega
            rw [← HU.out]; exact HLT.out
        · rw [e5.out, ← HUN.out]; exact F3.out.setUsed _
        · rw [e5.out]; exact own_set (O.out.below bz) b 3 _ HNE.out
        · rw [e5.out]; exact (K.out.then_below bz).trans (keep_set b 3 w3 _) (fun i hi => .inl hi)
    · have hi1 : ¬ (room : Int) < (u : Int) := by omega
      have hk4 : l.length ≤ 4096 := by have := rooms_len l; have := HRM.out; omega
      have hgone : goneN room l = k := goneN_is room l k WANT.out (by rw [← HU.out]; omega)
      have HG := Lib.hid hgone
      have hd := delete_any sl l 0 k wr O.out (Nat.zero_le _) hk hk4
      have hd' : Calls Tryz.prog 71 #[sl, .int .i64 0, .int .i64 (k : Int)] wr fun r w' => ∃ v', r = .returned v' ∧ OwnF w' v' (l.drop k) ∧ v'.ownBlock = sl.ownBlock ∧ wr.grownBy w' sl.ownBlock := by
        simpa using hd
      have HD := Lib.hid hd'
      have hw1 : IntKind.i64.wrap ((first : Int) + (k : Int)) = ((first + k : Nat) : Int) := by rw [wraps_i64' _ (by omega) (by have := HC.out; omega)]; omega
      obtain ⟨_, _, _, f3, _, f5⟩ := hF.facts
      have HKL := Lib.hid hk
      clear hF hO hlt hk4 hgone hd hd' hk
      go_wp2_with (go_at_call 71; refine HD.out.mono ?_; rintro x w3 ⟨v', rfl, hO3, hv3, hg3⟩
                   have F3 : Hid (TbC b most cap u first sl w3) := Cs.grown F.out hg3 (fun e => HNE.out b e.symm rfl)
                   obtain ⟨va, vc, hvs, _, _⟩ := hO3.slice
                   subst hvs
                   have O3 := Lib.hid hO3
                   have V3 := Lib.hid hv3
                   have G3 := Lib.hid hg3
                   have y3 := F3.out.free 5
                   have y4 := F3.out.free 4
                   have y5 := F3.out.facts.2.2.2.2.1
                   have y6 := F3.out.facts.2.2.2.2.2
                   clear hO3 hv3 hg3 f3 f5)
      go_end0
      have hll : (l.drop k).length = l.length - k := List.length_drop
      have hcc : ((first + k : Nat) : Int) = (first : Int) + (k : Int) := by omega
      rw [hll] at O3 V3
      have hne3 : ∀ j, Value.ownBlock (.slice va (l.length - k) vc) = some j → j ≠ b := by rw [V3.out]; exact HNE.out
      have hS : shrinkE room ⟨most, cap, first, l⟩ = ⟨most, cap, first + k, l.drop k⟩ := by simp only [shrinkE, HG.out]
      refine ⟨rfl, .slice va (l.length - k) vc, ?_, V3.out, ?_⟩
      · rw [hS]
        refine ⟨?_, own_set (own_set O3.out b 5 _ hne3) b 4 _ hne3, hne3⟩
        have := (F3.out.setRow (.slice va (l.length - k) vc)).setFirst ((first + k : Nat) : Int)
        rw [HU.out, hcc] at this
        show Cs _ _ [.bool true, .int .i64 (most : Int), .int .i64 (cap : Int), .int .i64 (rooms (l.drop k) : Int), .int .i64 ((first + k : Nat) : Int), _]
        rw [hcc]
        exact this
      · have k0 : Keep (TS b sl) wr w3 := Keep.of_grown G3.out (fun j hj => .inl (mem_TS.2 (.inr hj)))
        have k1 : Keep (TS b sl) w wr := (Keep.refl (TS b sl) w).trans K.out (fun i hi => .inl (by simp at hi; subst hi; exact mem_TS.2 (.inl rfl)))
        have k2 : Keep (TS b sl) w w3 := k1.trans k0 (fun i hi => .inl hi)
        have hb : ∀ i ∈ [b], i ∈ TS b sl ∨ w.heap.size ≤ i := fun i hi => .inl (by simp at hi; subst hi; exact mem_TS.2 (.inl rfl))
        exact (k2.trans (keep_set b 5 w3 _) hb).trans (keep_set b 4 _ _) hb
end Go.Proofs.YtbkbabaoockigaaGreatDoor

set_option maxRecDepth 100000
set_option maxRecDepth 100000
set_option linter.unusedSimpArgs false
set_option linter.unusedVariables false
set_option linter.unnecessarySimpa false
namespace Go.Proofs.YtbkbabaoockigaaGreatDoor
open Go.RowKit

/-- what a table's call leaves -/
def Did (b : Nat) (sl : Value) (q' : TQ) (w w' : World) : Prop := ∃ sl', Tbl b sl' q' w' ∧ (∀ j, sl'.ownBlock = some j → sl.ownBlock = some j ∨ w.heap.size ≤ j) ∧ Keep (TS b sl) w w'
theorem did_same {b : Nat} {sl : Value} {q : TQ} {w w' : World} (h : Tbl b sl q w) (hb : Below w.heap.size w w') : Did b sl q w w' := ⟨sl, h.below hb, fun j hj => .inl hj, Keep.of_below hb⟩

theorem setCap_any {b : Nat} {sl : Value} {q : TQ} (n : Int) (w : World) (ho : TOk q) (h : Tbl b sl q w) (hc : countN q ≤ 4611686018427387904) :
    Calls Tryz.prog 27 #[.pointer (some ⟨b, 0, none⟩), .int .i64 n] w fun e w' => e = .returned (.int .i64 (setCapE q n).2) ∧ Did b sl (setCapE q n).1 w w' := by
  have HG := Lib.hid (given_any w h)
  have HT := Lib.hid h
  obtain ⟨_, c1, c2, _⟩ := h.facts
  have z2 := h.free 2
  by_cases h1 : n < 0
  · have hE : setCapE q n = (q, 1) := by unfold setCapE; rw [if_pos (.inl h1)]
    rw [hE]
    have H1 := Lib.hid h1
    clear h ho hE hc
    go_enter Tryz.func27, Tryz.ntmps27
    go_wp2_with (go_at_call 44; refine HG.out.mono ?_; rintro e w2 ⟨rfl, h⟩; obtain rfl : w = w2 := h.symm)
    go_ret
    exact ⟨rfl, did_same HT.out (Below.refl _ _)⟩
  · by_cases h2 : (q.most : Int) < n
    · have hE : setCapE q n = (q, 1) := by unfold setCapE; rw [if_pos (.inr h2)]
      rw [hE]
      clear h ho hE hc
      go_enter Tryz.func27, Tryz.ntmps27
      go_wp2_with (go_at_call 44; refine HG.out.mono ?_; rintro e w2 ⟨rfl, h⟩; obtain rfl : w = w2 := h.symm)
      go_ret
      exact ⟨rfl, did_same HT.out (Below.refl _ _)⟩
    · have hE : setCapE q n = (shrinkE n.toNat { q with cap := n.toNat }, 0) := by unfold setCapE; rw [if_neg (by omega)]
      rw [hE]
      obtain ⟨k, rfl⟩ : ∃ k : Nat, n = (k : Int) := ⟨n.toNat, by omega⟩
      have hr : rooms q.l ≤ 4096 := Nat.le_trans ho.used (Nat.le_trans ho.cap ho.most)
      have hT : Tbl b sl { q with cap := k } (w.setCell ⟨b, 2, none⟩ (.int .i64 (k : Int))) := ⟨Cs.set h.fields 2 _, own_set h.row b 2 _ h.ne, h.ne⟩
      have hs := shrink_any (w.setCell ⟨b, 2, none⟩ (.int .i64 (k : Int))) k hT hr hc
      have HS := Lib.hid hs
      have h2' : ¬ (q.most : Int) < (k : Int) := h2
      simp only [Int.toNat_natCast]
      clear h ho hE hc hr hT hs h1 h2
      have hi0 : (0 : Int) ≤ (k : Int) := by omega
      go_enter Tryz.func27, Tryz.ntmps27
      go_wp2_with (first
        | (go_at_call 44; refine HG.out.mono ?_; rintro e w2 ⟨rfl, h⟩; obtain rfl : w = w2 := h.symm)
        | (go_at_call 45; refine HS.out.mono ?_; rintro e w2 ⟨rfl, sl', hT', hv, hK⟩
           have HT' := Lib.hid hT'
           have HV := Lib.hid hv
           have HK := Lib.hid hK
           clear hT' hv hK))
      go_ret
      refine ⟨rfl, sl', HT'.out, fun j hj => .inl (by rw [← HV.out]; exact hj), ?_⟩
      have hk1 : Keep (TS b sl) w (w.setCell ⟨b, 2, none⟩ (.int .i64 (k : Int))) := (Keep.refl (TS b sl) w).trans (keep_set b 2 w _) (fun i hi => .inl (by simp at hi; subst hi; exact mem_TS.2 (.inl rfl)))
      exact hk1.trans HK.out (fun i hi => .inl hi)

/-- what New hands back -/
def NewIs (n : Int) (w : World) (e : Ending) (w' : World) : Prop :=
  ((n < 0 ∨ 4096 < n) ∧ e = .returned (.tuple #[.pointer none, .int .i64 1]) ∧ w' = w) ∨
  ((0 ≤ n ∧ n ≤ 4096) ∧ ∃ b, e = .returned (.tuple #[.pointer (some ⟨b, 0, none⟩), .int .i64 0]) ∧ Tbl b (.slice none 0 0) (newT n.toNat) w' ∧ w.heap.size ≤ b ∧ Below w.heap.size w w')
theorem new_any (n : Int) (w : World) : Calls Tryz.prog 24 #[.int .i64 n] w (NewIs n w) := by
  by_cases h1 : n < 0
  · have H := Lib.hid h1
    go_enter Tryz.func24, Tryz.ntmps24
    go_wp2
    go_ret2
    exact .inl ⟨.inl H.out, rfl, rfl⟩
  · by_cases h2 : 4096 < n
    · have H := Lib.hid h2
      have h1' : decide (n < 0) = false := decide_eq_false h1
      go_enter Tryz.func24, Tryz.ntmps24
      go_wp2
      go_ret2
      exact .inl ⟨.inr H.out, rfl, rfl⟩
    · obtain ⟨k, rfl⟩ : ∃ k : Nat, n = (k : Int) := ⟨n.toNat, by omega⟩
      have hk : k ≤ 4096 := by omega
      have HK := Lib.hid hk
      have h2' : ¬ 4096 < (k : Int) := h2
      have hi0 : (0 : Int) ≤ (k : Int) := by omega
      have hT : Tbl w.heap.size (.slice none 0 0) (newT k) (w.alloc (.cells #[.bool true, .int .i64 (k : Int), .int .i64 0, .int .i64 0, .int .i64 0, .slice none 0 0] 107)) :=
        ⟨Cs.made w _ _, World.ownsRow_nil _ _ _ _, fun j hj => by cases hj⟩
      have HT := Lib.hid hT
      clear h1 h2 hT hk
      go_enter Tryz.func24, Tryz.ntmps24
      go_wp2
      go_ret2
      exact .inr ⟨⟨by omega, by have := HK.out; omega⟩, _, rfl, by simpa using HT.out, Nat.le_refl _, below1 w _⟩
end Go.Proofs.YtbkbabaoockigaaGreatDoor

set_option maxRecDepth 100000
set_option maxRecDepth 100000
set_option linter.unusedSimpArgs false
set_option linter.unusedVariables false
set_option linter.unnecessarySimpa false
namespace Go.Proofs.YtbkbabaoockigaaGreatDoor
open Go.RowKit

theorem zeroFv : ∀ w : World, (zeroValue 74).run Tryz.prog w = .ok (.agg #[.string ⟨#[]⟩, .string ⟨#[]⟩]) w := Tryz.zeroValue74
theorem getD_of13 {l : List Fd} {k : Nat} (h : k < l.length) : l.getD k noFd = l[k] := by simp [List.getD, List.getElem?_eq_getElem h]
theorem get_results {W : World} {tmps : Array Value} {A : Nat} {v0 v1 x : Value} (h4 : tmps[4]?.getD undef = .pointer (some ⟨A, 0, none⟩)) (h5 : tmps[5]?.getD undef = x)
    (c0 : W.cell? ⟨A, 0, none⟩ = some v0) (c1 : W.cell? ⟨A, 1, none⟩ = some v1) : (results Tryz.f109 tmps).run Tryz.prog W = .ok (.tuple #[.agg #[v0, v1], x]) W := by
  have hr : Tryz.f109.results = #[.cell 4 74, .tmp 5] := rfl
  simp only [results, hr]
  go_simp
/-- the result's block, made and written -/
theorem made_set (w : World) (a b : Value) (W : World) (hb : Below (w.heap.size + 1) (w.alloc (.cells #[.string ⟨#[]⟩, .string ⟨#[]⟩] 74)) W) :
    ((W.setCell ⟨w.heap.size, 0, none⟩ a).setCell ⟨w.heap.size, 1, none⟩ b).cell? ⟨w.heap.size, 0, none⟩ = some a ∧ ((W.setCell ⟨w.heap.size, 0, none⟩ a).setCell ⟨w.heap.size, 1, none⟩ b).cell? ⟨w.heap.size, 1, none⟩ = some b ∧
    Below w.heap.size w ((W.setCell ⟨w.heap.size, 0, none⟩ a).setCell ⟨w.heap.size, 1, none⟩ b) := by
  have h0 : Cs (w.alloc (.cells #[.string ⟨#[]⟩, .string ⟨#[]⟩] 74)) w.heap.size [.string ⟨#[]⟩, .string ⟨#[]⟩] := Cs.made w _ _
  have h1 : Cs W w.heap.size [.string ⟨#[]⟩, .string ⟨#[]⟩] := h0.below (by simpa using hb)
  have h2 := (h1.set 0 a).set 1 b
  refine ⟨h2.get 0 _ rfl, h2.get 1 _ rfl, ?_⟩
  exact (((below1 w _).trans (hb.mono (Nat.le_succ _))).setCell (Nat.le_refl _) _).setCell (Nat.le_refl _) _

theorem get_any13 {b : Nat} {sl : Value} {q : TQ} (n : Int) (w : World) (h : Tbl b sl q w) (hc : countN q ≤ 4611686018427387904) :
    Calls Tryz.prog 109 #[.pointer (some ⟨b, 0, none⟩), .int .i64 n] w fun e w' => e = .returned (.tuple #[.agg #[.string (getE q n).1.n, .string (getE q n).1.v], .int .i64 (getE q n).2]) ∧ Below w.heap.size w w' := by
  have hz := zeroFv
  have hb := h.lt
  have hT1 := h.below (below1 w (.cells #[.string ⟨#[]⟩, .string ⟨#[]⟩] 74))
  have HG := Lib.hid (given_any _ hT1)
  have HCN := Lib.hid (count_any _ hT1 hc)
  obtain ⟨_, _, _, _, c4, c5⟩ := hT1.facts
  have r0 : (w.alloc (.cells #[.string ⟨#[]⟩, .string ⟨#[]⟩] 74)).cell? ⟨w.heap.size, 0, none⟩ = some (.string ⟨#[]⟩) := (Cs.made w _ _).get 0 _ rfl
  have r1 : (w.alloc (.cells #[.string ⟨#[]⟩, .string ⟨#[]⟩] 74)).cell? ⟨w.heap.size, 1, none⟩ = some (.string ⟨#[]⟩) := (Cs.made w _ _).get 1 _ rfl
  have g0 : (w.alloc (.cells #[.string ⟨#[]⟩, .string ⟨#[]⟩] 74)).frozen? ⟨w.heap.size, 0, none⟩ = false := (Cs.made w _ _).free 0
  have g1 : (w.alloc (.cells #[.string ⟨#[]⟩, .string ⟨#[]⟩] 74)).frozen? ⟨w.heap.size, 1, none⟩ = false := (Cs.made w _ _).free 1
  have MS := Lib.hid (fun a b W h => made_set w a b W h)
  by_cases h1 : n < (q.first : Int)
  · have hE : getE q n = (noFd, 11) := by unfold getE; rw [if_pos (.inl h1)]
    rw [hE]
    simp only [noFd]
    clear h hE hc hT1
    go_enter Tryz.func109, Tryz.ntmps109
    go_wp2_with (go_at_call 44; refine HG.out.mono ?_; rintro e w2 ⟨rfl, h⟩; obtain rfl := h)
    exact bodyPost_ret (get_results rfl rfl r0 r1) rfl ⟨rfl, below1 w _⟩
  · have hi0 : (0 : Int) ≤ n := by omega
    obtain ⟨k, rfl⟩ : ∃ k : Nat, n = (k : Int) := ⟨n.toNat, by omega⟩
    by_cases h2 : ((countN q : Nat) : Int) ≤ (k : Int)
    · have hE : getE q (k : Int) = (noFd, 11) := by unfold getE; rw [if_pos (.inr h2)]
      rw [hE]
      simp only [noFd]
      have h1' : decide ((k : Int) < (q.first : Int)) = false := decide_eq_false h1
      have h1n : decide (k < q.first) = false := decide_eq_false (by omega)
      clear h hE hc hT1
      go_enter Tryz.func109, Tryz.ntmps109
      go_wp2_with (first
        | (go_at_call 44; refine HG.out.mono ?_; rintro e w2 ⟨rfl, h⟩; obtain rfl := h)
        | (go_at_call 42; refine HCN.out.mono ?_; rintro e w2 ⟨rfl, nd, h⟩; obtain rfl := h))
      obtain ⟨m0, m1, m2⟩ := MS.out (.string ⟨#[]⟩) (.string ⟨#[]⟩) _ (below_drewN (Below.refl _ _) nd)
      exact bodyPost_ret (get_results rfl rfl m0 m1) rfl ⟨rfl, m2⟩
    · have hk : k - q.first < q.l.length := by unfold countN at h2; omega
      have hE : getE q (k : Int) = (q.l[k - q.first], 0) := by
        unfold getE; rw [if_neg (by omega), Int.toNat_natCast, getD_of13 hk]
      rw [hE]
      obtain ⟨a, c, rfl, hac, hcm⟩ := hT1.shape
      obtain ⟨g, gc, hsl, hg, hgc, hgm⟩ := OwnF.form (show OwnF _ _ _ from hT1.row) (fun e => by rw [e] at hk; simp at hk)
      simp only [Value.slice.injEq, true_and] at hsl
      obtain ⟨rfl, rfl⟩ := hsl
      obtain ⟨e0, e1⟩ := OwnF.at (show OwnF _ _ _ from hT1.row) (k - q.first) hk
      obtain ⟨fd, hfd⟩ : ∃ fd, fd = q.l[k - q.first] := ⟨_, rfl⟩
      rw [← hfd] at e0 e1 ⊢
      clear hfd
      have h1' : decide ((k : Int) < (q.first : Int)) = false := decide_eq_false h1
      obtain ⟨m, hm⟩ : ∃ m, m = k - q.first := ⟨_, rfl⟩
      rw [← hm] at hk e0 e1
      have hw1 : IntKind.i64.wrap ((k : Int) - (q.first : Int)) = (m : Int) := by rw [wraps_i64' _ (by unfold countN at hc; omega) (by unfold countN at h2 hc; omega)]; omega
      have hi2 : (m : Int) < (q.l.length : Int) := by omega
      have hi3 : (0 : Int) ≤ (m : Int) := by omega
      have hlt : g < w.heap.size := h.slt g rfl
      have hne : ¬ g = w.heap.size := by omega
      have hne2 : ¬ b = w.heap.size := by omega
      have h1n : decide (k < q.first) = false := decide_eq_false (by omega)
      have h2n : decide (countN q ≤ k) = false := decide_eq_false (by omega)
      have h2i : decide ((countN q : Int) ≤ (k : Int)) = false := decide_eq_false h2
      clear h hE hc hT1 hm hac hcm hgc hgm h1 h2
      go_enter Tryz.func109, Tryz.ntmps109
      go_upto_region 5 with (first
        | (go_at_call 44; refine HG.out.mono ?_; rintro e w2 ⟨rfl, h⟩; obtain rfl := h)
        | (go_at_call 42; refine HCN.out.mono ?_; rintro e w3 ⟨rfl, nd, h⟩
           have B3 : Hid (Below (w.heap.size + 1) (w.alloc (.cells #[.string ⟨#[]⟩, .string ⟨#[]⟩] 74)) w3.drew) := by subst h; exact below_drewN (below_drewN (Below.refl _ _) nd) 1
           have y0 : w3.drew.cell? ⟨g, m * 2, none⟩ = some (.string fd.n) := by subst h; exact e0
           have y1 : w3.drew.cell? ⟨g, m * 2 + 1, none⟩ = some (.string fd.v) := by subst h; exact e1
           have y4 : w3.drew.cell? ⟨b, 4, none⟩ = some (.int .i64 (q.first : Int)) := by subst h; exact c4
           have y5 : w3.drew.cell? ⟨b, 5, none⟩ = some (.slice (some ⟨g, 0, none⟩) q.l.length c) := by subst h; exact c5
           have s0 : w3.cell? ⟨w.heap.size, 0, none⟩ = some (.string ⟨#[]⟩) := by subst h; exact r0
           have s1 : w3.cell? ⟨w.heap.size, 1, none⟩ = some (.string ⟨#[]⟩) := by subst h; exact r1
           have t0 : w3.frozen? ⟨w.heap.size, 0, none⟩ = false := by subst h; exact g0
           have t1 : w3.frozen? ⟨w.heap.size, 1, none⟩ = false := by subst h; exact g1
           clear h))
      clear r0 r1 g0 g1 e0 e1 c4 c5
      go_still_tail 12, (by kernel_rfl)
      change wpList _ _ _ _ _ w3.drew
      go_wp2
      obtain ⟨m0, m1, m2⟩ := MS.out (.string fd.n) (.string fd.v) w3.drew B3.out
      exact bodyPost_ret (get_results rfl rfl m0 m1) rfl ⟨rfl, m2⟩
end Go.Proofs.YtbkbabaoockigaaGreatDoor

set_option maxRecDepth 100000
set_option maxRecDepth 100000
set_option linter.unusedSimpArgs false
set_option linter.unusedVariables false
set_option linter.unnecessarySimpa false
namespace Go.Proofs.YtbkbabaoockigaaGreatDoor
open Go.RowKit

theorem lastN_step (p : Fd → Bool) (first : Nat) (l : List Fd) (k : Nat) (h : k < l.length) : lastN p first l (k + 1) = if p l[k] then ((first + k : Nat) : Int) else lastN p first l k := by
  simp only [lastN]; rw [getD_of13 h]
theorem tl_ne {x y : ByteArray} (h : ¬ x = y) : ¬ x.toList = y.toList := fun e => h (by
  have := str_beq x y
  rw [e] at this
  simpa using this)

set_option maxHeartbeats 1600000 in
theorem find_any {b : Nat} {sl : Value} {q : TQ} (f : Fd) (w : World) (h : Tbl b sl q w) (hc : countN q ≤ 4611686018427387904) :
    Calls Tryz.prog 81 #[.pointer (some ⟨b, 0, none⟩), .agg #[.string f.n, .string f.v]] w fun e w' => e = .returned (.tuple #[.int .i64 (findE q f).1, .int .i64 (findE q f).2]) ∧ Below w.heap.size w w' := by
  obtain ⟨fn, fv⟩ := f
  unfold findE
  simp only
  have hb1 := below1 w (.cells #[.string fn, .string fv] 74)
  have hT := h.below hb1
  have HG := Lib.hid (given_any _ hT)
  have BX : Hid (Cs (w.alloc (.cells #[.string fn, .string fv] 74)) w.heap.size [.string fn, .string fv]) := Cs.made w _ _
  obtain ⟨sa, sc, hsl, hsc, hsm⟩ := hT.shape
  subst hsl
  have HT := Lib.hid hT
  have HB := Lib.hid hb1
  have HC := Lib.hid hc
  obtain ⟨_, _, _, _, c4, c5⟩ := hT.facts
  have hlt := h.lt
  clear h hb1 hT hc
  go_enter Tryz.func81, Tryz.ntmps81
  go_wp2_with (go_at_call 44; refine HG.out.mono ?_; rintro e w2 ⟨rfl, h⟩; obtain rfl := h)
  go_loopw [6, 7, 20] (fun i6 i7 i20 wr => ∃ k : Nat, i6 = .int .i64 (lastN (isF ⟨fn, fv⟩) q.first q.l k) ∧ i7 = .int .i64 (lastN (namedF ⟨fn, fv⟩) q.first q.l k) ∧ i20 = .int .i64 k ∧ k ≤ q.l.length ∧ Below (w.heap.size + 1) (w.alloc (.cells #[.string fn, .string fv] 74)) wr) (fun _ _ i _ => q.l.length - (intOf i).toNat)
  case atStart => exact ⟨0, rfl, rfl, rfl, Nat.zero_le _, Below.refl _ _⟩
  case round =>
    obtain ⟨k, rfl, rfl, rfl, hk, hbel⟩ := hrel
    obtain ⟨wh, hwh⟩ : ∃ x, x = lastN (isF ⟨fn, fv⟩) q.first q.l k := ⟨_, rfl⟩
    obtain ⟨nm, hnm⟩ : ∃ x, x = lastN (namedF ⟨fn, fv⟩) q.first q.l k := ⟨_, rfl⟩
    rw [← hwh, ← hnm]
    have HWH := Lib.hid hwh
    have HNM := Lib.hid hnm
    clear hwh hnm
    have BW : Hid (Below (w.alloc (.cells #[.string fn, .string fv] 74)).heap.size (w.alloc (.cells #[.string fn, .string fv] 74)) wr) := (by simpa using hbel : Below _ _ _)
    have HTr := Lib.hid (HT.out.below BW.out)
    have hX := BX.out.below BW.out
    have x0 : wr.cell? ⟨w.heap.size, 0, none⟩ = some (.string fn) := hX.get 0 _ rfl
    have x1 : wr.cell? ⟨w.heap.size, 1, none⟩ = some (.string fv) := hX.get 1 _ rfl
    have z0 : w.heap.size < wr.heap.size := hX.lt
    have zb : b < wr.heap.size := by omega
    obtain ⟨_, _, _, _, y4, y5⟩ := HTr.out.facts
    by_cases hkl : k < q.l.length
    · obtain ⟨g, gc, hs2, hg, hgc, hgm⟩ := OwnF.form (show OwnF wr _ _ from HTr.out.row) (fun e => by rw [e] at hkl; simp at hkl)
      simp only [Value.slice.injEq, true_and] at hs2
      obtain ⟨rfl, rfl⟩ := hs2
      obtain ⟨e0, e1⟩ := OwnF.at (show OwnF wr _ _ from HTr.out.row) k hkl
      have s1 := lastN_step (isF ⟨fn, fv⟩) q.first q.l k hkl
      have s2 := lastN_step (namedF ⟨fn, fv⟩) q.first q.l k hkl
      obtain ⟨⟨x, v⟩, hfd⟩ : ∃ fd, fd = q.l[k] := ⟨_, rfl⟩
      rw [← hfd] at e0 e1 s1 s2
      rw [← HWH.out] at s1
      rw [← HNM.out] at s2
      simp only at e0 e1
      clear hfd
      have hi1 : (k : Int) < (q.l.length : Int) := by omega
      have hi2 : (0 : Int) ≤ (k : Int) := by omega
      have hw1 : IntKind.i64.wrap ((k : Int) + 1) = ((k + 1 : Nat) : Int) := by rw [wraps_i64' _ (by omega) (by have := HC.out; unfold countN at this; omega)]; omega
      have hw2 : IntKind.i64.wrap ((q.first : Int) + (k : Int)) = ((q.first + k : Nat) : Int) := by rw [wraps_i64' _ (by omega) (by have := HC.out; unfold countN at this; omega)]; omega
      have HKL := Lib.hid hkl
      have fin : ∀ W, Below wr.heap.size wr W → Below (w.heap.size + 1) (w.alloc (.cells #[.string fn, .string fv] 74)) W := fun W hW => hbel.trans (hW.mono (by omega))
      have FIN := Lib.hid fin
      have hgd := guardF
      by_cases h1 : x = fn
      · subst h1
        have n1 : namedF ⟨x, fv⟩ ⟨x, v⟩ = true := by simp [namedF]
        rw [if_pos n1] at s2
        by_cases h2 : v = fv
        · subst h2
          have m1 : isF ⟨x, v⟩ ⟨x, v⟩ = true := by simp [isF]
          rw [if_pos m1] at s1
          have qe : ∀ W, (Op.equalIn 10000 74 (.agg #[.string x, .string v]) (.agg #[.string x, .string v])).run Tryz.prog W = .ok true W := fun W => by rw [eqF_any ⟨x, v⟩ ⟨x, v⟩, decide_eq_true rfl]
          have S1 := Lib.hid s1
          have S2 := Lib.hid s2
          clear s1 s2 n1 m1 hbel hX hkl hgc hgm hk fin
          go_wp2
          refine ⟨⟨k + 1, by rw [S1.out]; first | rfl | simp, by rw [S2.out]; first | rfl | simp, by first | rfl | simp, HKL.out, FIN.out _ (below1 _ _)⟩, by simp [intOf]; have := HKL.out; omega⟩
        · have m1 : ¬ isF ⟨x, fv⟩ ⟨x, v⟩ = true := by simp [isF, h2]
          rw [if_neg m1] at s1
          have qe : ∀ W, (Op.equalIn 10000 74 (.agg #[.string x, .string v]) (.agg #[.string x, .string fv])).run Tryz.prog W = .ok false W := fun W => by rw [eqF_any ⟨x, v⟩ ⟨x, fv⟩, decide_eq_false (by simp [h2])]
          have H2 := Lib.hid h2
          clear h2
          have S1 := Lib.hid s1
          have S2 := Lib.hid s2
          clear s1 s2 n1 m1 hbel hX hkl hgc hgm hk fin
          go_wp2
          refine ⟨⟨k + 1, by rw [S1.out], by rw [S2.out]; first | rfl | simp, by first | rfl | simp, HKL.out, FIN.out _ (below1 _ _)⟩, by simp [intOf]; have := HKL.out; omega⟩
      · have n1 : ¬ namedF ⟨fn, fv⟩ ⟨x, v⟩ = true := by simp [namedF, h1]
        have m1 : ¬ isF ⟨fn, fv⟩ ⟨x, v⟩ = true := by simp [isF, h1]
        rw [if_neg m1] at s1
        rw [if_neg n1] at s2
        have qe : ∀ W, (Op.equalIn 10000 74 (.agg #[.string x, .string v]) (.agg #[.string fn, .string fv])).run Tryz.prog W = .ok false W := fun W => by rw [eqF_any ⟨x, v⟩ ⟨fn, fv⟩, decide_eq_false (by simp [h1])]
        have tn : (x.toList == fn.toList) = false := by rw [str_beq]; exact decide_eq_false h1
        have H1 := Lib.hid h1
        clear h1
        have S1 := Lib.hid s1
        have S2 := Lib.hid s2
        clear s1 s2 n1 m1 hbel hX hkl hgc hgm hk fin
        go_wp2
        refine ⟨⟨k + 1, by rw [S1.out], by rw [S2.out], by first | rfl | simp, HKL.out, FIN.out _ (below1 _ _)⟩, by simp [intOf]; have := HKL.out; omega⟩
    · obtain rfl : k = q.l.length := by omega
      have hi1 : ¬ ((q.l.length : Int) < (q.l.length : Int)) := by omega
      have hb := hbel.mono (Nat.le_succ w.heap.size)
      have H := Lib.hid (HB.out.trans hb)
      clear hbel hX hb
      go_wp2
      go_ret2
      exact ⟨by rw [← HWH.out, ← HNM.out]; rfl, H.out⟩
end Go.Proofs.YtbkbabaoockigaaGreatDoor

set_option maxRecDepth 100000
set_option maxRecDepth 100000
set_option linter.unusedSimpArgs false
set_option linter.unusedVariables false
set_option linter.unnecessarySimpa false
namespace Go.Proofs.YtbkbabaoockigaaGreatDoor
open Go.RowKit

set_option maxHeartbeats 4000000 in
theorem sclone_any (s : ByteArray) (w : World) (hlim : s.size ≤ 281474976710656) :
    Calls Tryz.prog 130 #[.string s] w fun e w' => e = .returned (.string s) ∧ Below w.heap.size w w' := by
  by_cases h0 : s.size = 0
  · have hs : s = ⟨#[]⟩ := by
      apply ByteArray.ext
      exact Array.eq_empty_of_size_eq_zero h0
    subst hs
    go_enter Tryz.func130, Tryz.ntmps130
    go_wp2
    go_ret
    exact ⟨rfl, Below.refl _ _⟩
  · obtain ⟨i0, hi, hz0, hz1, hz2⟩ : ∃ i, Tryz.prog.info? 5 = some i ∧ i.zero = some (.int .u8 0) ∧ i.size = 1 ∧ i.bytes = 1 := info_parts (by kernel_rfl)
    have hinfo : (Tryz.prog.info? 5).map (·.size) = some 1 := by rw [hi]; simp [hz1]
    have hco : Tryz.prog.cellsOf 5 = 1 := by simp [Program.cellsOf, hi, hz1]
    obtain ⟨M, hM⟩ : ∃ M, M = madeCells (Value.int .u8 0).cells (((s.size : Nat) : Int).toNat * i0.size) := ⟨_, rfl⟩
    have hMs : M.size = s.size := by rw [hM, size_madeCells, hz1]; simp
    have hmk : ∀ W : World, (Instr.makeSlice 38 (.int .i64 (s.size : Int)) (.int .i64 (s.size : Int))).run Tryz.prog W = .ok (.slice (some ⟨W.heap.size, 0, none⟩) s.size s.size) (W.alloc (.cells M 5)) := fun W => by
      have h := run_make (P := Tryz.prog) W 38 5 i0 (.int .u8 0) Tryz.underlying38 hi hz0 .i64 .i64 (s.size : Int) (s.size : Int) (by omega) (by omega) (by rw [hz2]; omega) (by omega)
      rw [← hM] at h
      simpa using h
    clear hM
    have hcp := Lib.run_copy_row_string (P := Tryz.prog) (w.alloc (.cells M 5)) 38 9 3 5 w.heap.size 0 s.size s.size s M 5 Tryz.underlying38 hinfo (heap_alloc_new w _) (Nat.le_refl _) (by omega)
    obtain ⟨Y, hY⟩ : ∃ Y, Y = (M.toList.take 0 ++ Lib.byteCells s.data.toList ++ M.toList.drop (0 + s.size)).toArray := ⟨_, rfl⟩
    rw [← hY] at hcp
    have hYl : Y.toList = Lib.byteCells s.data.toList := by
      rw [hY, List.toList_toArray, List.take_zero, List.nil_append, List.drop_of_length_le (by rw [Array.length_toList]; omega), List.append_nil]
    have hYs : Y.size = s.size := by rw [← Array.length_toList, hYl, Lib.byteCells_length, ← Lib.size_eq]
    have hgY : ((w.alloc (.cells M 5)).setRow w.heap.size Y).heap[w.heap.size]? = some (.cells Y 5 (0, 0)) := setRow_heap _ _ M _ 5 (0, 0) (heap_alloc_new w _)
    have hne : s.data.toList ≠ [] := fun e => h0 (by rw [Lib.size_eq, e]; rfl)
    have hUS := Lib.run_unsafeString_row (P := Tryz.prog) ((w.alloc (.cells M 5)).setRow w.heap.size Y) 211 3 9 5 Tryz.underlying211 hco w.heap.size Y.size (by unfold World.shape?; rw [hgY]) s.data.toList hne (by rw [← Lib.size_eq]; omega) (by rw [← Lib.size_eq]; omega)
      (fun j x hx => Lib.cells_of_row hgY Y.size j _ (by rw [List.take_of_length_le (by rw [Array.length_toList]; exact Nat.le_refl _), hYl]; simp [Lib.byteCells, hx]))
    rw [← Lib.size_eq] at hUS
    clear hY
    go_enter Tryz.func130, Tryz.ntmps130
    go_wp2
    go_ret
    have hb1 : Below w.heap.size w (w.alloc (.cells M 5)) := (Below.refl _ w).alloc (Nat.le_refl _) _
    have hb2 : Below w.heap.size (w.alloc (.cells M 5)) ((w.alloc (.cells M 5)).setRow w.heap.size Y) := ⟨rfl, rfl, rfl, by simp, fun k hk => setRow_other _ _ _ _ (by omega)⟩
    exact ⟨rfl, Lib.below_freeze (hb1.trans hb2) (p := ⟨w.heap.size, 0, none⟩) (Nat.le_refl _) _⟩
theorem clone_any (s : ByteArray) (w : World) (hlim : s.size ≤ 281474976710656) :
    Calls Tryz.prog 115 #[.string s] w fun e w' => e = .returned (.string s) ∧ Below w.heap.size w w' := by
  have H := Lib.hid (sclone_any s w hlim)
  go_enter Tryz.func115, Tryz.ntmps115
  go_wp2_with (go_at_call 130; refine H.out.mono ?_; rintro e w2 ⟨rfl, hb⟩)
  go_ret
  exact ⟨rfl, hb⟩
end Go.Proofs.YtbkbabaoockigaaGreatDoor

set_option maxRecDepth 100000
set_option maxRecDepth 100000
set_option linter.unusedSimpArgs false
set_option linter.unusedVariables false
set_option linter.unnecessarySimpa false
namespace Go.Proofs.YtbkbabaoockigaaGreatDoor
open Go.RowKit

theorem insert_long {b : Nat} {sl : Value} {q : TQ} (f : Fd) (w : World) (h : Tbl b sl q w) (hl : 64 < f.n.size ∨ 512 < f.v.size) :
    Calls Tryz.prog 91 #[.pointer (some ⟨b, 0, none⟩), .agg #[.string f.n, .string f.v]] w fun e w' => e = .returned (.tuple #[.int .i64 0, .int .i64 13]) ∧ Below w.heap.size w w' := by
  obtain ⟨fn, fv⟩ := f
  simp only at hl ⊢
  have hb1 := below1 w (.cells #[.string fn, .string fv] 74)
  have HG := Lib.hid (given_any _ (h.below hb1))
  have HB := Lib.hid hb1
  clear h hb1
  by_cases h1 : 64 < fn.size
  · have h1' : (64 : Int) < (fn.size : Int) := by omega
    clear hl
    go_enter Tryz.func91, Tryz.ntmps91
    go_wp2_with (go_at_call 44; refine HG.out.mono ?_; rintro e w2 ⟨rfl, h⟩; obtain rfl := h)
    go_ret2
    exact ⟨rfl, HB.out⟩
  · have h2 : 512 < fv.size := by omega
    have h1' : ¬ (64 : Int) < (fn.size : Int) := by omega
    have h2' : (512 : Int) < (fv.size : Int) := by omega
    have h1n : decide (64 < fn.size) = false := decide_eq_false h1
    have h1i : decide ((64 : Int) < (fn.size : Int)) = false := decide_eq_false h1'
    clear hl
    go_enter Tryz.func91, Tryz.ntmps91
    go_wp2_with (go_at_call 44; refine HG.out.mono ?_; rintro e w2 ⟨rfl, h⟩; obtain rfl := h)
    go_ret2
    exact ⟨rfl, HB.out⟩
theorem insert_wide {b : Nat} {sl : Value} {q : TQ} (f : Fd) (w : World) (h : Tbl b sl q w) (hl : ¬ (64 < f.n.size ∨ 512 < f.v.size)) (hr : q.cap < roomF f) :
    Calls Tryz.prog 91 #[.pointer (some ⟨b, 0, none⟩), .agg #[.string f.n, .string f.v]] w fun e w' => e = .returned (.tuple #[.int .i64 0, .int .i64 6]) ∧ Below w.heap.size w w' := by
  have HRM := Lib.hid (fun V => room_any13 f V ⟨by omega, by omega⟩)
  obtain ⟨fn, fv⟩ := f
  simp only at hl HRM ⊢
  have hb1 := below1 w (.cells #[.string fn, .string fv] 74)
  have hT := h.below hb1
  have HT := Lib.hid hT
  have HG := Lib.hid (given_any _ hT)
  have HB := Lib.hid hb1
  have hblt := h.lt
  have h1' : ¬ (64 : Int) < (fn.size : Int) := by omega
  have h2' : ¬ (512 : Int) < (fv.size : Int) := by omega
  have h1n : decide (64 < fn.size) = false := decide_eq_false (by omega)
  have h1i : decide ((64 : Int) < (fn.size : Int)) = false := decide_eq_false h1'
  have h2n : decide (512 < fv.size) = false := decide_eq_false (by omega)
  have h2i : decide ((512 : Int) < (fv.size : Int)) = false := decide_eq_false h2'
  obtain ⟨rf, hrf⟩ : ∃ rf, rf = roomF ⟨fn, fv⟩ := ⟨_, rfl⟩
  rw [← hrf] at HRM hr
  have hri : (q.cap : Int) < (rf : Int) := by omega
  clear h hb1 hT hl hrf h1' h2' hr
  go_enter Tryz.func91, Tryz.ntmps91
  go_wp2_with (first
    | (go_at_call 44; refine HG.out.mono ?_; rintro e w2 ⟨rfl, h⟩; obtain rfl := h)
    | (go_at_call 70; refine (HRM.out _).mono ?_; rintro e w2 ⟨rfl, b2⟩
       have B2 := Lib.hid b2
       have c2 := (HT.out.below b2).facts.2.2.1
       clear b2))
  go_ret2
  exact ⟨rfl, HB.out.trans (B2.out.mono (by simp))⟩

set_option maxHeartbeats 6400000 in
theorem insert_fits {b : Nat} {sl : Value} {q : TQ} (f : Fd) (w : World) (h : Tbl b sl q w) (ho : TOk q) (hc : countN q ≤ 4611686018427387000) (hl : ¬ (64 < f.n.size ∨ 512 < f.v.size)) (hr : ¬ q.cap < roomF f) :
    Calls Tryz.prog 91 #[.pointer (some ⟨b, 0, none⟩), .agg #[.string f.n, .string f.v]] w fun e w' => e = .returned (.tuple #[.int .i64 (countN q : Int), .int .i64 0]) ∧
      Did b sl { shrinkE (q.cap - roomF f) q with l := (shrinkE (q.cap - roomF f) q).l ++ [f] } w w' := by
  have HRM := Lib.hid (fun V => room_any13 f V ⟨by omega, by omega⟩)
  have HC1 := Lib.hid (fun V => clone_any f.n V (by omega))
  have HC2 := Lib.hid (fun V => clone_any f.v V (by omega))
  obtain ⟨fn, fv⟩ := f
  simp only at hl HRM HC1 HC2 ⊢
  have hb1 := below1 w (.cells #[.string fn, .string fv] 74)
  have hT := h.below hb1
  have HT := Lib.hid hT
  have HG := Lib.hid (given_any _ hT)
  have HB := Lib.hid hb1
  have HX : Hid (Cs (w.alloc (.cells #[.string fn, .string fv] 74)) w.heap.size [.string fn, .string fv]) := Cs.made w _ _
  have hblt := h.lt
  have HSLT := Lib.hid h.slt
  have h1n : decide (64 < fn.size) = false := decide_eq_false (by omega)
  have h1i : decide ((64 : Int) < (fn.size : Int)) = false := decide_eq_false (by omega)
  have h2n : decide (512 < fv.size) = false := decide_eq_false (by omega)
  have h2i : decide ((512 : Int) < (fv.size : Int)) = false := decide_eq_false (by omega)
  obtain ⟨rf, hrf⟩ : ∃ rf, rf = roomF ⟨fn, fv⟩ := ⟨_, rfl⟩
  rw [← hrf] at HRM hr ⊢
  have hri : ¬ (q.cap : Int) < (rf : Int) := by omega
  have hcap : q.cap ≤ 4096 := Nat.le_trans ho.cap ho.most
  have hrm : rooms q.l ≤ 4096 := Nat.le_trans ho.used hcap
  have hw1 : IntKind.i64.wrap ((q.cap : Int) - (rf : Int)) = ((q.cap - rf : Nat) : Int) := by rw [wraps_i64' _ (by omega) (by omega)]; omega
  have HSH := Lib.hid (fun V (hV : Tbl b sl q V) => shrink_any V (q.cap - rf) hV hrm (by omega))
  have HRF := Lib.hid hrf
  have HCN := Lib.hid hc
  have HRR := Lib.hid hr
  have HOK := Lib.hid ho
  obtain ⟨sr, hsr⟩ : ∃ sr, sr = q.cap - rf := ⟨_, rfl⟩
  rw [← hsr] at HSH hw1 ⊢
  have HSR := Lib.hid hsr
  clear h hb1 hT hl hrf hr hcap hrm hc ho hsr
  go_enter Tryz.func91, Tryz.ntmps91
  go_upto_region 9 with (first
    | (go_at_call 44; refine HG.out.mono ?_; rintro e w2 ⟨rfl, h⟩; obtain rfl := h)
    | (go_at_call 70; refine (HRM.out _).mono ?_; rintro e w2 ⟨rfl, b2⟩
       have B2 := Lib.hid b2
       have T2 := Lib.hid (HT.out.below b2)
       have X2 := Lib.hid (HX.out.below b2)
       have c2 := T2.out.facts.2.2.1
       clear b2)
    | (go_at_call 45; refine (HSH.out _ T2.out).mono ?_; rintro e w3 ⟨rfl, sl', t3, v3, k3⟩
       have T3 := Lib.hid t3
       have V3 := Lib.hid v3
       have K3 := Lib.hid k3
       clear t3 v3 k3 c2))
  have hKw : Keep (TS b sl) w w3 := (Keep.of_below (HB.out.trans (B2.out.mono (by simp)))).trans K3.out (fun i hi => .inl hi)
  have KW := Lib.hid hKw
  have hXn : w.heap.size ∉ TS b sl := fun hm => by
    rcases mem_TS.1 hm with h | h
    · omega
    · have := HSLT.out _ h; omega
  have X3 := Lib.hid (X2.out.keep K3.out hXn)
  have CNT := Lib.hid (shrink_count sr q)
  have FIT : Hid (rooms (shrinkE sr q).l ≤ sr) := goneN_fits sr q.l
  obtain ⟨q', hq'⟩ : ∃ q', q' = shrinkE sr q := ⟨_, rfl⟩
  rw [← hq'] at T3 CNT FIT
  have HQ := Lib.hid hq'
  clear hq' hKw hXn
  obtain ⟨most, cap, first, l⟩ := q'
  obtain ⟨sa, sc, hsl, hsc, hsm⟩ := T3.out.shape
  simp only at hsl hsc
  subst hsl
  have hl128 : l.length ≤ 128 := by
    have h1 := rooms_len l
    have h2 := FIT.out
    have h3 := HOK.out.cap
    have h4 := HOK.out.most
    have h5 := HSR.out
    simp only at h2
    omega
  obtain ⟨L, hL⟩ : ∃ L, L = l.length := ⟨_, rfl⟩
  have HROW : Hid (OwnF w3 (.slice sa L sc) l) := (by rw [hL]; exact T3.out.row : OwnF _ _ _)
  have HF3 : Hid (TbC b most cap (rooms l) first (.slice sa L sc) w3) := (by rw [hL]; exact T3.out.fields : TbC _ _ _ _ _ _ _)
  have HNE : Hid (∀ j, Value.ownBlock (.slice sa L sc) = some j → j ≠ b) := (by rw [hL]; exact T3.out.ne : ∀ j, Value.ownBlock (.slice sa L sc) = some j → j ≠ b)
  have V3' : Hid (Value.ownBlock (.slice sa L sc) = sl.ownBlock) := (by rw [hL]; exact V3.out : Value.ownBlock (.slice sa L sc) = sl.ownBlock)
  have HROW2 : Hid (w3.ownsRow 0 74 2 (.slice sa L sc) L (fdC l)) := (by rw [hL]; exact T3.out.row : w3.ownsRow 0 74 2 (.slice sa L sc) L (fdC l))
  rw [← hL] at hl128
  have HL := Lib.hid hL
  clear hL T3 V3 hsc hsm
  have f5 := HF3.out.facts.2.2.2.2.2
  have x0 := X3.out.get 0 _ rfl
  have x1 := X3.out.get 1 _ rfl
  have y5 : w3.drew.cell? ⟨b, 5, none⟩ = some (.slice sa L sc) := f5
  have y0 : w3.drew.cell? ⟨w.heap.size, 0, none⟩ = some (.string fn) := x0
  have y1 : w3.drew.cell? ⟨w.heap.size, 1, none⟩ = some (.string fv) := x1
  clear f5 x0 x1 h1n h1i h2n h2i
  have tok1 : True := trivial
  go_region_law (first
    | (refine step_append_at rfl (.tmp 40) (.tmp 48) 27 rfl elemFd Tryz.underlying27 0 (.slice sa L sc) L (fdC l) rfl (World.ownsRow.alloc RB.out _) (.slice (some ⟨wB.heap.size, 0, none⟩) 1 1) 1 _ rfl (RdC.built 2 wB _ _ rfl) ?_ ?_ ?_ ?_ ?_ ?_
       (omega); (intro u hu; simp at hu; rcases hu with rfl | rfl <;> rfl); (omega); (unfold maxLen; omega); (omega)
       intro v7 w7 o7 g7 b7
       obtain ⟨a7, c7, hv7, _, _⟩ := (RdC.of_owns o7).isSlice
       subst hv7
       have F7 : Hid (TbC b most cap (rooms l) first (.slice sa L sc) w7) := Cs.grown (Cs.below FB.out (below1 wB _)) g7 (fun e => HNE.out b e.symm rfl)
       have O7 := Lib.hid o7
       have G7 := Lib.hid g7
       have B7 := Lib.hid b7
       have y7 := F7.out.facts.2.2.2.2.2
       have z7 := F7.out.free 5
       clear o7 g7 b7)
    | (go_simp; go_at_call 115; have _t := tok1; refine (HC1.out _).mono ?_; rintro x wA ⟨rfl, bA⟩; clear tok1
       have FA := Lib.hid ((HF3.out.below (below_drewN (Below.refl _ w3) 1)).below bA)
       have XA := Lib.hid ((X3.out.below (below_drewN (Below.refl _ w3) 1)).below bA)
       have BA : Hid (Below w3.heap.size w3 wA) := (below_drewN (Below.refl _ w3) 1).trans bA
       have yA5 := FA.out.facts.2.2.2.2.2
       have yA1 := XA.out.get 1 _ rfl
       clear bA)
    | (go_simp; go_at_call 115; refine (HC2.out _).mono ?_; rintro x wB ⟨rfl, bB⟩
       have FB := Lib.hid (FA.out.below bB)
       have BB : Hid (Below w3.heap.size w3 wB) := BA.out.trans (bB.mono BA.out.size)
       have yB5 := FB.out.facts.2.2.2.2.2
       have zb : b < wB.heap.size := Cs.lt FB.out
       have RB := Lib.hid (owns_keep HROW2.out (Keep.of_below (S := []) BB.out) (by simp))
       clear bB))
  all_goals clear y5 y0 y1 yA5 yA1 yB5 y7 z7
  all_goals
    have B7w : Hid (Below w3.heap.size w3 (wB.alloc (.cells #[.string fn, .string fv] 74))) := BB.out.alloc BB.out.size _
    have N7 : Hid (∀ j, Value.ownBlock (.slice a7 (L + 1) c7) = some j → sl.ownBlock = some j ∨ w.heap.size ≤ j) := fun j hj => by
      rcases B7.out with h | h
      · exact .inl (by rw [← V3'.out, ← h]; exact hj)
      · rw [hj] at h
        simp only [Option.some.injEq, World.size_alloc] at h
        have h1 := KW.out.size
        have h2 := BB.out.size
        exact .inr (by omega)
    have K7 : Hid (Keep (TS b sl) w w7) := (KW.out.then_below B7w.out).trans (Keep.of_grown (S := TS b sl) G7.out (fun j hj => .inl (mem_TS.2 (.inr (by rw [← V3'.out]; exact hj))))) (fun i hi => .inl hi)
    clear B7w G7 B7 FA XA BA FB BB RB zb HF3 HROW HROW2 HC1 HC2 HRM HSH X2 X3 T2 B2 HG HT HX HB
  all_goals
    have T8 : Hid (TbC b most cap (rooms l) first (.slice a7 (L + 1) c7) (w7.setCell ⟨b, 5, none⟩ (.slice a7 (L + 1) c7))) := F7.out.setRow _
    have O8 : Hid ((w7.setCell ⟨b, 5, none⟩ (.slice a7 (L + 1) c7)).ownsRow 0 74 2 (.slice a7 (L + 1) c7) (L + 1) (fdC l ++ [.string fn, .string fv])) :=
      owns_keep O7.out (keep_set b 5 w7 _) (fun g hg => by
        have := N7.out g hg
        intro hm; simp at hm; subst hm
        rcases this with h | h
        · exact HNE.out _ (by rw [V3'.out]; exact h) rfl
        · omega)
    have K8 : Hid (Keep (TS b sl) w (w7.setCell ⟨b, 5, none⟩ (.slice a7 (L + 1) c7))) := K7.out.trans (keep_set b 5 w7 _) (fun i hi => .inl (by simp at hi; subst hi; exact mem_TS.2 (.inl rfl)))
    clear F7 O7 K7
    generalize w7.setCell ⟨b, 5, none⟩ (.slice a7 (L + 1) c7) = W8 at T8 O8 K8 ⊢
  all_goals
    have hfit : rooms l + rf ≤ 4096 := by
      have h2 := FIT.out
      have h3 := HOK.out.cap
      have h4 := HOK.out.most
      have h5 := HSR.out
      have h6 := HRR.out
      simp only at h2
      omega
    have hcnt : first + L ≤ 4611686018427387000 := by
      have h1 := CNT.out
      have h2 := HCN.out
      have h3 := HL.out
      simp only [countN] at h1 h2
      omega
    have hrA : rooms (l ++ [(⟨fn, fv⟩ : Fd)]) = rooms l + rf := by rw [rooms_append, HRF.out]; simp [rooms]
    obtain ⟨us, hus⟩ : ∃ us, us = rooms l := ⟨_, rfl⟩
    rw [← hus] at T8 hfit hrA
    have hwu : IntKind.i64.wrap ((us : Int) + (rf : Int)) = (us : Int) + (rf : Int) := wraps_i64' _ (by omega) (by omega)
    have hT9 : Tbl b (.slice a7 (L + 1) c7) ⟨most, cap, first, l ++ [⟨fn, fv⟩]⟩ (W8.setCell ⟨b, 3, none⟩ (.int .i64 ((us : Int) + (rf : Int)))) := by
      refine ⟨?_, ?_, ?_⟩
      · have := T8.out.setUsed ((us : Int) + (rf : Int))
        show Cs _ _ [_, _, _, .int .i64 ((rooms (l ++ [(⟨fn, fv⟩ : Fd)]) : Nat) : Int), _, _]
        rw [hrA, Int.natCast_add]
        exact this
      · have := own_set (l := l ++ [(⟨fn, fv⟩ : Fd)]) (v := .slice a7 (L + 1) c7) (w := W8) (by
          show W8.ownsRow 0 _ 2 _ (l ++ [(⟨fn, fv⟩ : Fd)]).length _
          rw [List.length_append, List.length_singleton, ← HL.out, fdC_append, fdC_one]; exact O8.out) b 3 (.int .i64 ((us : Int) + (rf : Int))) (fun g hg => by
            rcases N7.out g hg with h | h
            · exact HNE.out _ (by rw [V3'.out]; exact h)
            · omega)
        exact this
      · intro g hg
        rcases N7.out g hg with h | h
        · exact HNE.out _ (by rw [V3'.out]; exact h)
        · omega
    have HT9 := Lib.hid hT9
    have hcn := count_any _ hT9 (by simp only [countN, List.length_append, List.length_singleton]; have := HL.out; omega)
    have hce : countN (⟨most, cap, first, l ++ [(⟨fn, fv⟩ : Fd)]⟩ : TQ) = first + L + 1 := by simp only [countN, List.length_append, List.length_singleton]; have := HL.out; omega
    rw [hce] at hcn
    have HCT := Lib.hid hcn
    have hwc : IntKind.i64.wrap ((first : Int) + (L : Int) + 1 - 1) = (first : Int) + (L : Int) := by rw [wraps_i64' _ (by omega) (by omega)]; omega
    have hwc' : IntKind.i64.wrap ((first : Int) + (L : Int)) = (first : Int) + (L : Int) := by rw [wraps_i64' _ (by omega) (by omega)]
    obtain ⟨_, _, _, y3, _⟩ := T8.out.facts
    have z3 := T8.out.free 3
    have K9 : Hid (Keep (TS b sl) w (W8.setCell ⟨b, 3, none⟩ (.int .i64 ((us : Int) + (rf : Int))))) := K8.out.trans (keep_set b 3 W8 _) (fun i hi => .inl (by simp at hi; subst hi; exact mem_TS.2 (.inl rfl)))
    have HE : Hid ((first : Int) + (L : Int) = (countN q : Int)) := (by
      have h1 := CNT.out
      have h3 := HL.out
      simp only [countN] at h1 ⊢
      omega : (first : Int) + (L : Int) = (countN q : Int))
    clear hT9 hcn hce hrA hfit hcnt hus hl128
  all_goals go_wp2_with (go_at_call 42; refine HCT.out.mono ?_; rintro e w10 ⟨rfl, nd, rfl⟩)
  all_goals go_ret2
  all_goals
    refine ⟨by rw [← HE.out]; rfl, .slice a7 (L + 1) c7, ?_, N7.out, K9.out.drewN nd⟩
    rw [← HQ.out]
    exact HT9.out.drewN nd
theorem insert_any {b : Nat} {sl : Value} {q : TQ} (f : Fd) (w : World) (h : Tbl b sl q w) (ho : TOk q) (hc : countN q ≤ 4611686018427387000) :
    Calls Tryz.prog 91 #[.pointer (some ⟨b, 0, none⟩), .agg #[.string f.n, .string f.v]] w fun e w' => e = .returned (.tuple #[.int .i64 (insertE q f).2.1, .int .i64 (insertE q f).2.2]) ∧ Did b sl (insertE q f).1 w w' := by
  unfold insertE
  by_cases h1 : 64 < f.n.size ∨ 512 < f.v.size
  · rw [if_pos h1]
    exact (insert_long f w h h1).mono fun e w' ⟨he, hb⟩ => ⟨he, did_same h hb⟩
  · rw [if_neg h1]
    by_cases h2 : q.cap < roomF f
    · rw [if_pos h2]
      exact (insert_wide f w h h1 h2).mono fun e w' ⟨he, hb⟩ => ⟨he, did_same h hb⟩
    · rw [if_neg h2]
      exact insert_fits f w h ho hc h1 h2
end Go.Proofs.YtbkbabaoockigaaGreatDoor

set_option maxRecDepth 100000
set_option maxRecDepth 100000
set_option linter.unusedSimpArgs false
set_option linter.unusedVariables false
set_option linter.unnecessarySimpa false
namespace Go.Proofs.YtbkbabaoockigaaGreatDoor
open Go.RowKit

/-- block b holds a table of the document's: v is its list, which reads as the fields l -/
structure RTb (b : Nat) (v : Value) (q : TQ) (w : World) : Prop where
  fields : Cs w b [.int .i64 (q.most : Int), .int .i64 (q.cap : Int), .int .i64 (q.first : Int), v]
  row : RdC 2 w v q.l.length (fdC q.l)
  ne : q.l ≠ [] → ∀ j, v.ownBlock = some j → j ≠ b
theorem RTb.facts {b : Nat} {v : Value} {q : TQ} {w : World} (h : RTb b v q w) :
    w.cell? ⟨b, 0, none⟩ = some (.int .i64 (q.most : Int)) ∧ w.cell? ⟨b, 1, none⟩ = some (.int .i64 (q.cap : Int)) ∧ w.cell? ⟨b, 2, none⟩ = some (.int .i64 (q.first : Int)) ∧ w.cell? ⟨b, 3, none⟩ = some v :=
  ⟨h.fields.get 0 _ rfl, h.fields.get 1 _ rfl, h.fields.get 2 _ rfl, h.fields.get 3 _ rfl⟩
theorem RTb.free {b : Nat} {v : Value} {q : TQ} {w : World} (h : RTb b v q w) (j : Nat) : w.frozen? ⟨b, j, none⟩ = false := h.fields.free j
theorem rdC_keep {m n : Nat} {S : List Nat} {w w' : World} {v : Value} {fl : List Value} (h : RdC m w v n fl) (hk : Keep S w w') (hn : 0 < n → ∀ j, v.ownBlock = some j → j ∉ S) : RdC m w' v n fl := by
  obtain ⟨h0, h | ⟨h1, b, o, c, rfl, h2, h3, h4, h5⟩⟩ := h
  · exact ⟨h0, .inl h⟩
  · exact ⟨h0, .inr ⟨h1, b, o, c, rfl, h2, h3, Nat.lt_of_lt_of_le h4 hk.size, fun j u hu => hk.cell (h5 j u hu) (hn h1 b rfl)⟩⟩
theorem pos_of_ne {l : List Fd} (h : 0 < l.length) : l ≠ [] := fun e => by rw [e] at h; simp at h
theorem RTb.keep {S : List Nat} {b : Nat} {v : Value} {q : TQ} {w w' : World} (h : RTb b v q w) (k : Keep S w w') (hb : b ∉ S) (hn : q.l ≠ [] → ∀ j, v.ownBlock = some j → j ∉ S) : RTb b v q w' :=
  ⟨h.fields.keep k hb, rdC_keep h.row k (fun h0 => hn (pos_of_ne h0)), h.ne⟩
theorem RTb.below {b : Nat} {v : Value} {q : TQ} {w w' : World} (h : RTb b v q w) (k : Below w.heap.size w w') : RTb b v q w' := h.keep (Keep.of_below (S := []) k) (by simp) (by simp)
theorem RTb.drewN {b : Nat} {v : Value} {q : TQ} {w : World} (h : RTb b v q w) (n : Nat) : RTb b v q (w.drewN n) := h.below (below_drewN (Below.refl _ w) n)
theorem RTb.lt {b : Nat} {v : Value} {q : TQ} {w : World} (h : RTb b v q w) : b < w.heap.size := h.fields.lt
theorem RTb.shape {b : Nat} {v : Value} {q : TQ} {w : World} (h : RTb b v q w) : ∃ a c, v = .slice a q.l.length c ∧ q.l.length ≤ c ∧ c ≤ maxLen := h.row.isSlice
theorem RTb.vlt {b : Nat} {v : Value} {q : TQ} {w : World} (h : RTb b v q w) (h0 : q.l ≠ []) : ∀ j, v.ownBlock = some j → j < w.heap.size := h.row.blt (by cases hl : q.l with | nil => exact absurd hl h0 | cons a b => simp)
/-- a field of such a list -/
theorem fd_at {w : World} {g o n c : Nat} {l : List Fd} (h : RdC 2 w (.slice (some ⟨g, o, none⟩) n c) l.length (fdC l)) (k : Nat) (hk : k < l.length) (i : Nat) (hi : i = o + k * 2) :
    w.cell? ⟨g, i, none⟩ = some (.string l[k].n) ∧ w.cell? ⟨g, i + 1, none⟩ = some (.string l[k].v) := by
  subst hi
  have hn : n = l.length := by obtain ⟨_, _, e, _⟩ := h.isSlice; simp only [Value.slice.injEq] at e; exact e.2.1
  subst hn
  have cell : ∀ j u, j < 2 → (fdCell l[k])[j]? = some u → w.cell? ⟨g, o + k * 2 + j, none⟩ = some u := fun j u hj hu =>
    RdC.cell h (k * 2 + j) u ((fdC_get l k j hk hj).trans hu) _ (by omega)
  exact ⟨cell 0 _ (by omega) rfl, cell 1 _ (by omega) rfl⟩
theorem rd_form {m n : Nat} {w : World} {v : Value} {fl : List Value} (h : RdC m w v n fl) (hn : 0 < n) : ∃ b o c, v = .slice (some ⟨b, o, none⟩) n c ∧ n ≤ c ∧ c ≤ maxLen ∧ b < w.heap.size := by
  obtain ⟨_, ⟨h0, _⟩ | ⟨_, b, o, c, rfl, h2, h3, h4, _⟩⟩ := h
  · omega
  · exact ⟨b, o, c, rfl, h2, h3, h4⟩

theorem rcount_any {b : Nat} {v : Value} {q : TQ} (w : World) (h : RTb b v q w) (hq : countN q ≤ 4611686018427387904) : Calls Tryz.prog 34 #[.pointer (some ⟨b, 0, none⟩)] w fun e w' => e = .returned (.int .i64 (countN q : Int)) ∧ ∃ n, w' = w.drewN n := by
  obtain ⟨_, _, c4, c5⟩ := h.facts
  obtain ⟨a, c, rfl, _, _⟩ := h.shape
  unfold countN at hq ⊢
  clear h
  have hw : IntKind.i64.wrap ((q.first : Int) + (q.l.length : Int)) = ((q.first + q.l.length : Nat) : Int) := by
    rw [wraps_i64' _ (by omega) (by omega)]; omega
  go_enter Tryz.func34, Tryz.ntmps34
  go_wp2_with fail
  go_quiet (fail)
  go_wp2
  go_ret
  exact ⟨rfl, _, rfl⟩

set_option maxHeartbeats 1600000 in
theorem rused_any {b : Nat} {v : Value} {q : TQ} (w : World) (h : RTb b v q w) (hr : rooms q.l ≤ 8192) : Calls Tryz.prog 105 #[.pointer (some ⟨b, 0, none⟩)] w fun e w' => e = .returned (.int .i64 (rooms q.l : Int)) ∧ Below w.heap.size w w' := by
  have HT := Lib.hid h
  have HR := Lib.hid hr
  clear h hr
  go_enter Tryz.func105, Tryz.ntmps105
  go_wp2_with fail
  go_loopw [3, 4] (fun s i wr => ∃ k : Nat, s = .int .i64 (rooms (q.l.take k) : Int) ∧ i = .int .i64 k ∧ k ≤ q.l.length ∧ Below w.heap.size w wr) (fun _ i _ => q.l.length - (intOf i).toNat)
  case atStart => exact ⟨0, by simp [rooms], rfl, Nat.zero_le _, Below.refl _ _⟩
  case round =>
    obtain ⟨k, rfl, rfl, hk, hbel⟩ := hrel
    have HB := Lib.hid hbel
    have HTr := Lib.hid (HT.out.below hbel)
    clear hbel
    obtain ⟨u, hu⟩ : ∃ u, u = rooms (q.l.take k) := ⟨_, rfl⟩
    rw [← hu]
    have HU := Lib.hid hu
    clear hu
    obtain ⟨_, _, _, c3⟩ := HTr.out.facts
    have hlen : q.l.length ≤ 256 := by have := rooms_len q.l; have := HR.out; omega
    obtain ⟨a, c, hv, _, _⟩ := HTr.out.shape
    subst hv
    by_cases hkl : k < q.l.length
    · obtain ⟨g, o, c', hs2, hgc, hgm, hg⟩ := rd_form HTr.out.row (by omega)
      simp only [Value.slice.injEq, true_and] at hs2
      obtain ⟨rfl, rfl⟩ := hs2
      obtain ⟨e0, e1⟩ := fd_at HTr.out.row k hkl _ rfl
      have hst := rooms_take q.l k hkl
      have hle : rooms (q.l.take (k + 1)) ≤ 8192 := by have := rooms_split q.l (k + 1); have := HR.out; omega
      obtain ⟨fd, hfd⟩ : ∃ fd, fd = q.l[k] := ⟨_, rfl⟩
      rw [← hfd] at e0 e1 hst
      rw [← HU.out] at hst
      have hrf : roomF fd ≤ 8192 := by omega
      have HRM := Lib.hid (fun V => rroom_any fd V ⟨by unfold roomF at hrf; omega, by unfold roomF at hrf; omega⟩)
      obtain ⟨rf, hrf2⟩ : ∃ rf, rf = roomF fd := ⟨_, rfl⟩
      rw [← hrf2] at HRM hst
      have hi1 : (k : Int) < (q.l.length : Int) := by omega
      have hi2 : (0 : Int) ≤ (k : Int) := by omega
      have hw1 : IntKind.i64.wrap ((k : Int) + 1) = ((k + 1 : Nat) : Int) := by rw [wraps_i64' _ (by omega) (by omega)]; omega
      have hw2 : IntKind.i64.wrap ((u : Int) + (rf : Int)) = (u : Int) + (rf : Int) := wraps_i64' _ (by omega) (by omega)
      have HST := Lib.hid hst
      have HKL := Lib.hid hkl
      clear hst hle hfd hrf hrf2 hkl hk hgc hgm hlen
      go_wp2_with (go_at_call 104; refine (HRM.out _).mono ?_; rintro x w3 ⟨rfl, b3⟩)
      exact ⟨⟨k + 1, by rw [HST.out]; simp, by simp, HKL.out, HB.out.trans (b3.mono HB.out.size)⟩, by simp [intOf]; have := HKL.out; omega⟩
    · obtain rfl : k = q.l.length := by omega
      rw [List.take_length] at HU
      have hi1 : ¬ ((q.l.length : Int) < (q.l.length : Int)) := by omega
      clear hk
      go_wp2
      go_ret
      exact ⟨by rw [HU.out]; rfl, HB.out⟩
end Go.Proofs.YtbkbabaoockigaaGreatDoor

set_option maxRecDepth 100000
set_option maxRecDepth 100000
set_option linter.unusedSimpArgs false
set_option linter.unusedVariables false
set_option linter.unnecessarySimpa false
namespace Go.Proofs.YtbkbabaoockigaaGreatDoor
open Go.RowKit

/-- all but the first one -/
theorem rd_tail {w : World} {g o n c : Nat} {l : List Fd} (h : RdC 2 w (.slice (some ⟨g, o, none⟩) n c) l.length (fdC l)) (h0 : 0 < l.length) :
    RdC 2 w (.slice (some ⟨g, o + 2, none⟩) (n - 1) (c - 1)) (l.drop 1).length (fdC (l.drop 1)) ∧ n = l.length ∧ n ≤ c ∧ c ≤ maxLen := by
  obtain ⟨h1, ⟨h2, _⟩ | ⟨_, g', o', c', e, h3, h4, h5, h6⟩⟩ := h
  · omega
  · simp only [Value.slice.injEq, Option.some.injEq, Addr.mk.injEq, and_true] at e
    obtain ⟨⟨rfl, rfl⟩, rfl, rfl⟩ := e
    refine ⟨⟨fdC_len _, ?_⟩, rfl, h3, h4⟩
    have hl : (l.drop 1).length = l.length - 1 := List.length_drop
    by_cases hz : l.length = 1
    · exact .inl ⟨by omega, some ⟨g, o + 2, none⟩, c - 1, by rw [hz], by omega, by simp⟩
    · refine .inr ⟨by omega, g, o + 2, c - 1, by rw [hl], by omega, by omega, h5, fun j u hu => ?_⟩
      rw [fdC_drop, List.getElem?_drop] at hu
      have := h6 _ u hu
      rw [show o + 2 + j = o + (1 * 2 + j) by omega]
      exact this
def lenAt (b : Nat) (w : World) : Nat := match w.cell? ⟨b, 3, none⟩ with | some (.slice _ n _) => n | _ => 0
theorem lenAt_is {b : Nat} {w : World} {a : Option Addr} {n c : Nat} (h : w.cell? ⟨b, 3, none⟩ = some (.slice a n c)) : lenAt b w = n := by unfold lenAt; rw [h]
theorem drop_first (l : List Fd) (k : Nat) : (l.drop k).drop 1 = l.drop (k + 1) := by rw [List.drop_drop]

set_option maxHeartbeats 3200000 in
theorem rshrink_any {b : Nat} {v : Value} {q : TQ} (room : Nat) (w : World) (h : RTb b v q w) (hr : rooms q.l ≤ 8192) (hc : countN q ≤ 4611686018427387904) :
    Calls Tryz.prog 80 #[.pointer (some ⟨b, 0, none⟩), .int .i64 (room : Int)] w fun e w' => e = .returned (.tuple #[]) ∧ ∃ v', RTb b v' (shrinkE room q) w' ∧ ((shrinkE room q).l ≠ [] → v'.ownBlock = v.ownBlock) ∧ Keep [b] w w' := by
  obtain ⟨most, cap, first, l⟩ := q
  simp only [countN] at hr hc
  have HT := Lib.hid h
  have HR := Lib.hid hr
  have HC := Lib.hid hc
  clear h hr hc
  go_enter Tryz.func80, Tryz.ntmps80
  go_wp2_with fail
  go_loopw [] (fun wr => ∃ (k : Nat) (vk : Value), k ≤ l.length ∧ (∀ j, j < k → room < rooms (l.drop j)) ∧ RTb b vk ⟨most, cap, first + k, l.drop k⟩ wr ∧ (l.drop k ≠ [] → vk.ownBlock = v.ownBlock) ∧ Keep [b] w wr) (fun wr => lenAt b wr)
  case atStart => exact ⟨0, v, Nat.zero_le _, fun j hj => by omega, HT.out, fun _ => rfl, Keep.refl _ _⟩
  case round =>
    obtain ⟨k, vk, hk, hwant, hT, hv, hK⟩ := hrel
    have WANT := Lib.hid hwant
    have T := Lib.hid hT
    have VV := Lib.hid hv
    have K := Lib.hid hK
    have hlen : l.length ≤ 256 := by have := rooms_len l; have := HR.out; omega
    have hru := rused_any wr hT (by simp only; exact Nat.le_trans (rooms_drop_le l k) HR.out)
    simp only at hru
    obtain ⟨u, hu⟩ : ∃ u, u = rooms (l.drop k) := ⟨_, rfl⟩
    rw [← hu] at hru
    have HRU := Lib.hid hru
    have HU := Lib.hid hu
    clear hu hru hwant hv hK
    by_cases hlt : room < u
    · have hkl : k < l.length := by
        rcases Nat.lt_or_ge k l.length with h | h
        · exact h
        · have := HU.out; rw [List.drop_eq_nil_of_le h] at this; simp [rooms] at this; omega
      have hne : l.drop k ≠ [] := fun e => by have := congrArg List.length e; simp at this; omega
      have hvo := VV.out hne
      obtain ⟨g, o, c, hvk, hgc, hgm, hg⟩ := rd_form hT.row (by simp only [List.length_drop]; omega)
      simp only [List.length_drop] at hvk
      subst hvk
      obtain ⟨htl, _, hnc, _⟩ := rd_tail hT.row (by simp only [List.length_drop]; omega)
      simp only at htl
      rw [drop_first] at htl
      have HTL := Lib.hid htl
      have hbg : g ≠ b := hT.ne hne g rfl
      have HBG := Lib.hid hbg
      have hi1 : (room : Int) < (u : Int) := by omega
      have hw1 : IntKind.i64.wrap (((first + k : Nat) : Int) + 1) = ((first + (k + 1) : Nat) : Int) := by rw [wraps_i64' _ (by omega) (by have := HC.out; omega)]; omega
      have hw1' : IntKind.i64.wrap ((first : Int) + (k : Int) + 1) = ((first + (k + 1) : Nat) : Int) := by rw [wraps_i64' _ (by omega) (by have := HC.out; omega)]; omega
      have hn1 : (1 : Int) ≤ ((l.length - k : Nat) : Int) := by omega
      have hn2 : ((l.length - k : Nat) : Int) ≤ (c : Int) := by omega
      have hn3 : (1 : Int) ≤ (c : Int) := by omega
      have HLT := Lib.hid hlt
      have HKL := Lib.hid hkl
      have hmeas := lenAt_is hT.facts.2.2.2
      have HM := Lib.hid hmeas
      have HVO := Lib.hid hvo
      clear hT hlt hk htl hmeas hne hvo VV
      go_upto_region 1 with (first
        | (go_at_call 105; refine HRU.out.mono ?_; rintro x w3 ⟨rfl, b3⟩
           have T3 := Lib.hid (T.out.below b3)
           have K3 := Lib.hid (K.out.then_below b3)
           have TL3 := Lib.hid (HTL.out.below b3)
           have y3 := T3.out.facts.2.2.2
           have y2 := T3.out.facts.2.2.1
           have z3 := T3.out.free 3
           have z2 := T3.out.free 2
           simp only at y3 y2
           clear b3))
      by_cases hc1 : c = 1
      · subst hc1
        have hk1 : l.length - k = 1 := by omega
        have HK1 := Lib.hid hk1
        rw [hk1] at y3 hn1 hn2
        clear hk1 hnc
        go_wp2_with fail
        have TLX : Hid (RdC 2 w3 (.slice (some ⟨g, o, none⟩) 0 0) (l.drop (k + 1)).length (fdC (l.drop (k + 1)))) := (by
          have hz : (l.drop (k + 1)).length = 0 := by rw [List.length_drop]; have := HK1.out; omega
          have hz2 : l.drop (k + 1) = [] := List.eq_nil_of_length_eq_zero hz
          rw [hz2]
          exact ⟨rfl, .inl ⟨rfl, _, 0, rfl, by simp, fun h => by cases h⟩⟩ : RdC 2 w3 _ _ _)
        refine ⟨⟨k + 1, .slice (some ⟨g, o, none⟩) 0 0, HKL.out, ?_, ?_, ?_, ?_⟩, ?_⟩
        · intro j hj
          by_cases hjk : j < k
          · exact WANT.out j hjk
          · obtain rfl : j = k := by omega
            rw [← HU.out]; exact HLT.out
        · refine ⟨?_, rdC_keep (rdC_keep TLX.out (keep_set b 3 w3 _) (fun _ j hj => by simp only [Value.ownBlock, Option.some.injEq] at hj; subst hj; simpa using HBG.out)) (keep_set b 2 _ _) (fun _ j hj => by simp only [Value.ownBlock, Option.some.injEq] at hj; subst hj; simpa using HBG.out), fun _ j hj => by simp only [Value.ownBlock, Option.some.injEq] at hj; subst hj; exact HBG.out⟩
          exact (T3.out.fields.set 3 _).set 2 _
        · intro _; rw [← HVO.out]; rfl
        · exact (K3.out.trans (keep_set b 3 w3 _) (fun i hi => .inl hi)).trans (keep_set b 2 _ _) (fun i hi => .inl hi)
        · rw [lenAt_is (((T3.out.fields.set 3 (.slice (some ⟨g, o, none⟩) 0 0)).set 2 _).get 3 _ rfl), HM.out]
          have := HKL.out
          omega
      · have hc1' : ¬ c = 1 := hc1
        have HBL : Hid (1 ≤ l.length - k) := (by omega : 1 ≤ l.length - k)
        obtain ⟨m, hm⟩ : ∃ m, m = l.length - k := ⟨_, rfl⟩
        rw [← hm] at y3 hn1 hn2 TL3 HVO hnc HM HBL T T3
        have HMM := Lib.hid hm
        clear hm
        go_wp2_with fail
        have TLX := TL3
        refine ⟨⟨k + 1, .slice (some ⟨g, o + 2, none⟩) (m - 1) (c - 1), HKL.out, ?_, ?_, ?_, ?_⟩, ?_⟩
        · intro j hj
          by_cases hjk : j < k
          · exact WANT.out j hjk
          · obtain rfl : j = k := by omega
            rw [← HU.out]; exact HLT.out
        · refine ⟨?_, rdC_keep (rdC_keep TLX.out (keep_set b 3 w3 _) (fun _ j hj => by simp only [Value.ownBlock, Option.some.injEq] at hj; subst hj; simpa using HBG.out)) (keep_set b 2 _ _) (fun _ j hj => by simp only [Value.ownBlock, Option.some.injEq] at hj; subst hj; simpa using HBG.out), fun _ j hj => by simp only [Value.ownBlock, Option.some.injEq] at hj; subst hj; exact HBG.out⟩
          exact (T3.out.fields.set 3 _).set 2 _
        · intro _; rw [← HVO.out]; rfl
        · exact (K3.out.trans (keep_set b 3 w3 _) (fun i hi => .inl hi)).trans (keep_set b 2 _ _) (fun i hi => .inl hi)
        · rw [lenAt_is (((T3.out.fields.set 3 (.slice (some ⟨g, o + 2, none⟩) (m - 1) (c - 1))).set 2 _).get 3 _ rfl), HM.out]
          have := HKL.out
          have := HMM.out
          omega
    · have hi1 : ¬ (room : Int) < (u : Int) := by omega
      have HG := Lib.hid (goneN_is room l k WANT.out (by rw [← HU.out]; omega))
      clear hT hlt hk
      go_wp2_with (go_at_call 105; refine HRU.out.mono ?_; rintro x w3 ⟨rfl, b3⟩)
      go_end0
      refine ⟨rfl, vk, ?_, ?_, K.out.then_below b3⟩
      · unfold shrinkE
        simp only
        rw [HG.out]
        exact T.out.below b3
      · unfold shrinkE
        simp only
        rw [HG.out]
        exact VV.out
end Go.Proofs.YtbkbabaoockigaaGreatDoor

set_option maxRecDepth 100000
set_option maxRecDepth 100000
set_option linter.unusedSimpArgs false
set_option linter.unusedVariables false
set_option linter.unnecessarySimpa false
namespace Go.Proofs.YtbkbabaoockigaaGreatDoor
open Go.RowKit

/-- what a call of the document's table leaves -/
def RDid (b : Nat) (v : Value) (q q' : TQ) (w w' : World) : Prop := ∃ v', RTb b v' q' w' ∧ (q'.l ≠ [] → ∀ j, v'.ownBlock = some j → (q.l ≠ [] ∧ v.ownBlock = some j) ∨ w.heap.size ≤ j) ∧ Keep [b] w w'
theorem rdid_same {b : Nat} {v : Value} {q : TQ} {w w' : World} (h : RTb b v q w) (hb : Below w.heap.size w w') : RDid b v q q w w' := ⟨v, h.below hb, fun h0 j hj => .inl ⟨h0, hj⟩, Keep.of_below hb⟩
theorem rsetCap_any {b : Nat} {v : Value} {q : TQ} (n : Int) (w : World) (hr : rooms q.l ≤ 8192) (h : RTb b v q w) (hc : countN q ≤ 4611686018427387904) :
    Calls Tryz.prog 50 #[.pointer (some ⟨b, 0, none⟩), .int .i64 n] w fun e w' => e = .returned (.int .i64 (setCapE q n).2) ∧ RDid b v q (setCapE q n).1 w w' := by
  have HT := Lib.hid h
  obtain ⟨c1, c2, _⟩ := h.facts
  have z2 := h.free 1
  by_cases h1 : n < 0
  · have hE : setCapE q n = (q, 1) := by unfold setCapE; rw [if_pos (.inl h1)]
    rw [hE]
    clear h hE hc
    go_enter Tryz.func50, Tryz.ntmps50
    go_wp2_with fail
    go_ret
    exact ⟨rfl, rdid_same HT.out (Below.refl _ _)⟩
  · by_cases h2 : (q.most : Int) < n
    · have hE : setCapE q n = (q, 1) := by unfold setCapE; rw [if_pos (.inr h2)]
      rw [hE]
      clear h hE hc
      go_enter Tryz.func50, Tryz.ntmps50
      go_wp2_with fail
      go_ret
      exact ⟨rfl, rdid_same HT.out (Below.refl _ _)⟩
    · have hE : setCapE q n = (shrinkE n.toNat { q with cap := n.toNat }, 0) := by unfold setCapE; rw [if_neg (by omega)]
      rw [hE]
      obtain ⟨k, rfl⟩ : ∃ k : Nat, n = (k : Int) := ⟨n.toNat, by omega⟩
      have hT : RTb b v { q with cap := k } (w.setCell ⟨b, 1, none⟩ (.int .i64 (k : Int))) := ⟨Cs.set h.fields 1 _, rdC_keep h.row (keep_set b 1 w _) (fun h0 j hj => by have := h.ne (pos_of_ne h0) j hj; simpa using this), h.ne⟩
      have hs := rshrink_any k (w.setCell ⟨b, 1, none⟩ (.int .i64 (k : Int))) hT hr hc
      have HS := Lib.hid hs
      have h2' : ¬ (q.most : Int) < (k : Int) := h2
      simp only [Int.toNat_natCast]
      clear h hE hc hr hT hs h1 h2
      have hi0 : (0 : Int) ≤ (k : Int) := by omega
      go_enter Tryz.func50, Tryz.ntmps50
      go_wp2_with (first
        | (go_at_call 80; refine HS.out.mono ?_; rintro e w2 ⟨rfl, v', hT', hv, hK⟩
           have HT' := Lib.hid hT'
           have HV := Lib.hid hv
           have HK := Lib.hid hK
           clear hT' hv hK))
      go_ret
      refine ⟨rfl, v', HT'.out, fun h0 j hj => .inl ⟨fun e => h0 (by simp [shrinkE, e]), by rw [← HV.out h0]; exact hj⟩, ?_⟩
      exact (keep_set b 1 w _).trans HK.out (fun i hi => .inl hi)

theorem zeroTv : ∀ w : World, (zeroValue 29).run Tryz.prog w = .ok (.agg #[.int .i64 0, .int .i64 0, .int .i64 0, .slice none 0 0]) w := Tryz.zeroValue29
theorem rnew_results {W : World} {tmps : Array Value} {A : Nat} {v0 v1 v2 v3 x : Value} (h4 : tmps[2]?.getD undef = .pointer (some ⟨A, 0, none⟩)) (h5 : tmps[3]?.getD undef = x)
    (c0 : W.cell? ⟨A, 0, none⟩ = some v0) (c1 : W.cell? ⟨A, 1, none⟩ = some v1) (c2 : W.cell? ⟨A, 2, none⟩ = some v2) (c3 : W.cell? ⟨A, 3, none⟩ = some v3) : (results Tryz.f25 tmps).run Tryz.prog W = .ok (.tuple #[.agg #[v0, v1, v2, v3], x]) W := by
  have hr : Tryz.f25.results = #[.cell 2 29, .tmp 3] := rfl
  simp only [results, hr]
  go_simp
theorem rnew_any (n : Int) (w : World) : Calls Tryz.prog 25 #[.int .i64 n] w fun e w' => e = .returned (.tuple #[.agg #[.int .i64 (if n < 0 ∨ 4096 < n then 0 else n), .int .i64 0, .int .i64 0, .slice none 0 0], .int .i64 (if n < 0 ∨ 4096 < n then 1 else 0)]) ∧ Below w.heap.size w w' := by
  have hz := zeroTv
  have MS : Hid (∀ x : Nat, Cs ((w.alloc (.cells #[.int .i64 0, .int .i64 0, .int .i64 0, .slice none 0 0] 29))) w.heap.size [.int .i64 0, .int .i64 0, .int .i64 0, .slice none 0 0]) := fun _ => Cs.made w _ _
  have c0 := Cs.get (MS.out 0) 0 _ rfl
  have c1 := Cs.get (MS.out 0) 1 _ rfl
  have c2 := Cs.get (MS.out 0) 2 _ rfl
  have c3 := Cs.get (MS.out 0) 3 _ rfl
  by_cases h1 : n < 0
  · rw [if_pos (.inl h1), if_pos (.inl h1)]
    go_enter Tryz.func25, Tryz.ntmps25
    go_wp2
    exact bodyPost_ret (rnew_results rfl rfl c0 c1 c2 c3) rfl ⟨rfl, below1 w _⟩
  · by_cases h2 : 4096 < n
    · rw [if_pos (.inr h2), if_pos (.inr h2)]
      go_enter Tryz.func25, Tryz.ntmps25
      go_wp2
      exact bodyPost_ret (rnew_results rfl rfl c0 c1 c2 c3) rfl ⟨rfl, below1 w _⟩
    · rw [if_neg (by omega), if_neg (by omega)]
      clear c0 c1 c2 c3
      have d1 : Cs ((w.alloc (.cells #[.int .i64 n, .int .i64 0, .int .i64 0, .slice none 0 0] 29))) w.heap.size [.int .i64 n, .int .i64 0, .int .i64 0, .slice none 0 0] := Cs.made w _ _
      have D := Lib.hid d1
      clear d1
      go_enter Tryz.func25, Tryz.ntmps25
      go_wp2
      exact bodyPost_ret (rnew_results rfl rfl (D.out.get 0 _ rfl) (D.out.get 1 _ rfl) (D.out.get 2 _ rfl) (D.out.get 3 _ rfl)) rfl ⟨rfl, below1 w _⟩

theorem rget_results {W : World} {tmps : Array Value} {A : Nat} {v0 v1 x : Value} (h4 : tmps[4]?.getD undef = .pointer (some ⟨A, 0, none⟩)) (h5 : tmps[5]?.getD undef = x)
    (c0 : W.cell? ⟨A, 0, none⟩ = some v0) (c1 : W.cell? ⟨A, 1, none⟩ = some v1) : (results Tryz.f51 tmps).run Tryz.prog W = .ok (.tuple #[.agg #[v0, v1], x]) W := by
  have hr : Tryz.f51.results = #[.cell 4 74, .tmp 5] := rfl
  simp only [results, hr]
  go_simp
theorem rget_any {b : Nat} {v : Value} {q : TQ} (n : Int) (w : World) (h : RTb b v q w) (hc : countN q ≤ 4611686018427387904) :
    Calls Tryz.prog 51 #[.pointer (some ⟨b, 0, none⟩), .int .i64 n] w fun e w' => e = .returned (.tuple #[.agg #[.string (getE q n).1.n, .string (getE q n).1.v], .int .i64 (getE q n).2]) ∧ Below w.heap.size w w' := by
  have hz := zeroFv
  have hb := h.lt
  have hT1 := h.below (below1 w (.cells #[.string ⟨#[]⟩, .string ⟨#[]⟩] 74))
  have HCN := Lib.hid (rcount_any _ hT1 hc)
  obtain ⟨_, _, c4, c5⟩ := hT1.facts
  have r0 : (w.alloc (.cells #[.string ⟨#[]⟩, .string ⟨#[]⟩] 74)).cell? ⟨w.heap.size, 0, none⟩ = some (.string ⟨#[]⟩) := (Cs.made w _ _).get 0 _ rfl
  have r1 : (w.alloc (.cells #[.string ⟨#[]⟩, .string ⟨#[]⟩] 74)).cell? ⟨w.heap.size, 1, none⟩ = some (.string ⟨#[]⟩) := (Cs.made w _ _).get 1 _ rfl
  have g0 : (w.alloc (.cells #[.string ⟨#[]⟩, .string ⟨#[]⟩] 74)).frozen? ⟨w.heap.size, 0, none⟩ = false := (Cs.made w _ _).free 0
  have g1 : (w.alloc (.cells #[.string ⟨#[]⟩, .string ⟨#[]⟩] 74)).frozen? ⟨w.heap.size, 1, none⟩ = false := (Cs.made w _ _).free 1
  have MS := Lib.hid (fun a b W h => made_set w a b W h)
  by_cases h1 : n < (q.first : Int)
  · have hE : getE q n = (noFd, 11) := by unfold getE; rw [if_pos (.inl h1)]
    rw [hE]
    simp only [noFd]
    clear h hE hc hT1
    go_enter Tryz.func51, Tryz.ntmps51
    go_wp2_with fail
    exact bodyPost_ret (rget_results rfl rfl r0 r1) rfl ⟨rfl, below1 w _⟩
  · have hi0 : (0 : Int) ≤ n := by omega
    obtain ⟨k, rfl⟩ : ∃ k : Nat, n = (k : Int) := ⟨n.toNat, by omega⟩
    by_cases h2 : ((countN q : Nat) : Int) ≤ (k : Int)
    · have hE : getE q (k : Int) = (noFd, 11) := by unfold getE; rw [if_pos (.inr h2)]
      rw [hE]
      simp only [noFd]
      have h1' : decide ((k : Int) < (q.first : Int)) = false := decide_eq_false h1
      have h1n : decide (k < q.first) = false := decide_eq_false (by omega)
      clear h hE hc hT1
      go_enter Tryz.func51, Tryz.ntmps51
      go_wp2_with (go_at_call 34; refine HCN.out.mono ?_; rintro e w2 ⟨rfl, nd, h⟩; obtain rfl := h)
      obtain ⟨m0, m1, m2⟩ := MS.out (.string ⟨#[]⟩) (.string ⟨#[]⟩) _ (below_drewN (Below.refl _ _) nd)
      exact bodyPost_ret (rget_results rfl rfl m0 m1) rfl ⟨rfl, m2⟩
    · have hk : k - q.first < q.l.length := by unfold countN at h2; omega
      have hE : getE q (k : Int) = (q.l[k - q.first], 0) := by
        unfold getE; rw [if_neg (by omega), Int.toNat_natCast, getD_of13 hk]
      rw [hE]
      obtain ⟨a, c, rfl, hac, hcm⟩ := hT1.shape
      obtain ⟨g, o, gc, hsl, hgc, hgm, hg⟩ := rd_form hT1.row (by omega)
      simp only [Value.slice.injEq, true_and] at hsl
      obtain ⟨rfl, rfl⟩ := hsl
      obtain ⟨e0, e1⟩ := fd_at hT1.row (k - q.first) hk _ rfl
      obtain ⟨fd, hfd⟩ : ∃ fd, fd = q.l[k - q.first] := ⟨_, rfl⟩
      rw [← hfd] at e0 e1 ⊢
      clear hfd
      have h1' : decide ((k : Int) < (q.first : Int)) = false := decide_eq_false h1
      have hlt : g < w.heap.size := h.vlt (pos_of_ne (by omega)) g rfl
      obtain ⟨m, hm⟩ : ∃ m, m = k - q.first := ⟨_, rfl⟩
      rw [← hm] at hk e0 e1
      have hw1 : IntKind.i64.wrap ((k : Int) - (q.first : Int)) = (m : Int) := by rw [wraps_i64' _ (by unfold countN at hc; omega) (by unfold countN at h2 hc; omega)]; omega
      have hi2 : (m : Int) < (q.l.length : Int) := by omega
      have hi3 : (0 : Int) ≤ (m : Int) := by omega
      have hne : ¬ g = w.heap.size := by omega
      have hne2 : ¬ b = w.heap.size := by omega
      have h1n : decide (k < q.first) = false := decide_eq_false (by omega)
      have h2n : decide (countN q ≤ k) = false := decide_eq_false (by omega)
      have h2i : decide ((countN q : Int) ≤ (k : Int)) = false := decide_eq_false h2
      clear h hE hc hT1 hm hac hcm hgc hgm h1 h2
      go_enter Tryz.func51, Tryz.ntmps51
      go_upto_region 3 with (first
        | (go_at_call 34; refine HCN.out.mono ?_; rintro e w3 ⟨rfl, nd, h⟩
           have B3 : Hid (Below (w.heap.size + 1) (w.alloc (.cells #[.string ⟨#[]⟩, .string ⟨#[]⟩] 74)) w3.drew) := by subst h; exact below_drewN (below_drewN (Below.refl _ _) nd) 1
           have y0 : w3.drew.cell? ⟨g, o + m * 2, none⟩ = some (.string fd.n) := by subst h; exact e0
           have y1 : w3.drew.cell? ⟨g, o + m * 2 + 1, none⟩ = some (.string fd.v) := by subst h; exact e1
           have y4 : w3.drew.cell? ⟨b, 2, none⟩ = some (.int .i64 (q.first : Int)) := by subst h; exact c4
           have y5 : w3.drew.cell? ⟨b, 3, none⟩ = some (.slice (some ⟨g, o, none⟩) q.l.length c) := by subst h; exact c5
           have s0 : w3.cell? ⟨w.heap.size, 0, none⟩ = some (.string ⟨#[]⟩) := by subst h; exact r0
           have s1 : w3.cell? ⟨w.heap.size, 1, none⟩ = some (.string ⟨#[]⟩) := by subst h; exact r1
           have t0 : w3.frozen? ⟨w.heap.size, 0, none⟩ = false := by subst h; exact g0
           have t1 : w3.frozen? ⟨w.heap.size, 1, none⟩ = false := by subst h; exact g1
           clear h))
      clear r0 r1 g0 g1 e0 e1 c4 c5
      go_still_tail 12, (by kernel_rfl)
      change wpList _ _ _ _ _ w3.drew
      go_wp2
      obtain ⟨m0, m1, m2⟩ := MS.out (.string fd.n) (.string fd.v) w3.drew B3.out
      exact bodyPost_ret (rget_results rfl rfl m0 m1) rfl ⟨rfl, m2⟩
end Go.Proofs.YtbkbabaoockigaaGreatDoor

set_option maxRecDepth 100000
set_option maxRecDepth 100000
set_option linter.unusedSimpArgs false
set_option linter.unusedVariables false
set_option linter.unnecessarySimpa false
namespace Go.Proofs.YtbkbabaoockigaaGreatDoor
open Go.RowKit

def fixedL : List Fd := [⟨⟨#[58, 97, 117, 116, 104, 111, 114, 105, 116, 121]⟩, ⟨#[]⟩⟩,
  ⟨⟨#[58, 112, 97, 116, 104]⟩, ⟨#[47]⟩⟩,
  ⟨⟨#[58, 109, 101, 116, 104, 111, 100]⟩, ⟨#[71, 69, 84]⟩⟩,
  ⟨⟨#[58, 109, 101, 116, 104, 111, 100]⟩, ⟨#[72, 69, 65, 68]⟩⟩,
  ⟨⟨#[58, 109, 101, 116, 104, 111, 100]⟩, ⟨#[80, 79, 83, 84]⟩⟩,
  ⟨⟨#[58, 109, 101, 116, 104, 111, 100]⟩, ⟨#[80, 85, 84]⟩⟩,
  ⟨⟨#[58, 109, 101, 116, 104, 111, 100]⟩, ⟨#[68, 69, 76, 69, 84, 69]⟩⟩,
  ⟨⟨#[58, 115, 99, 104, 101, 109, 101]⟩, ⟨#[104, 116, 116, 112, 115]⟩⟩,
  ⟨⟨#[58, 115, 99, 104, 101, 109, 101]⟩, ⟨#[104, 116, 116, 112]⟩⟩,
  ⟨⟨#[58, 115, 116, 97, 116, 117, 115]⟩, ⟨#[50, 48, 48]⟩⟩,
  ⟨⟨#[58, 115, 116, 97, 116, 117, 115]⟩, ⟨#[51, 48, 52]⟩⟩,
  ⟨⟨#[58, 115, 116, 97, 116, 117, 115]⟩, ⟨#[52, 48, 52]⟩⟩,
  ⟨⟨#[58, 115, 116, 97, 116, 117, 115]⟩, ⟨#[50, 48, 54]⟩⟩,
  ⟨⟨#[58, 115, 116, 97, 116, 117, 115]⟩, ⟨#[53, 48, 52]⟩⟩,
  ⟨⟨#[97, 103, 101]⟩, ⟨#[48]⟩⟩,
  ⟨⟨#[99, 97, 99, 104, 101, 45, 99, 111, 110, 116, 114, 111, 108]⟩, ⟨#[110, 111, 45, 99, 97, 99, 104, 101]⟩⟩,
  ⟨⟨#[99, 97, 99, 104, 101, 45, 99, 111, 110, 116, 114, 111, 108]⟩, ⟨#[109, 97, 120, 45, 97, 103, 101, 61, 54, 48]⟩⟩,
  ⟨⟨#[99, 111, 110, 116, 101, 110, 116, 45, 108, 101, 110, 103, 116, 104]⟩, ⟨#[48]⟩⟩,
  ⟨⟨#[100, 97, 116, 101]⟩, ⟨#[]⟩⟩,
  ⟨⟨#[101, 116, 97, 103]⟩, ⟨#[]⟩⟩,
  ⟨⟨#[105, 102, 45, 110, 111, 110, 101, 45, 109, 97, 116, 99, 104]⟩, ⟨#[]⟩⟩,
  ⟨⟨#[108, 97, 115, 116, 45, 109, 111, 100, 105, 102, 105, 101, 100]⟩, ⟨#[]⟩⟩,
  ⟨⟨#[114, 97, 110, 103, 101]⟩, ⟨#[98, 121, 116, 101, 115, 61, 48, 45]⟩⟩,
  ⟨⟨#[118, 97, 114, 121]⟩, ⟨#[97, 99, 99, 101, 112, 116, 45, 101, 110, 99, 111, 100, 105, 110, 103]⟩⟩]
theorem fixed_len : fixedL.length = 24 := rfl
/-- the program's variable holds the fixed table -/
def Fix (w : World) : Prop := ∃ T fr, w.heap[0]? = some (.cells (fdC fixedL).toArray T fr)
theorem Fix.pos {w : World} (h : Fix w) : 0 < w.heap.size := by
  obtain ⟨T, fr, e⟩ := h
  exact (Array.getElem?_eq_some_iff.1 e).1
theorem Fix.below {w w' : World} {B : Nat} (h : Fix w) (hb : Below B w w') (hB : 0 < B) : Fix w' := by
  obtain ⟨T, fr, e⟩ := h
  exact ⟨T, fr, (hb.block _ hB).trans e⟩
theorem Fix.keep {w w' : World} {S : List Nat} (h : Fix w) (hk : Keep S w w') (hS : 0 ∉ S) : Fix w' := by
  have := h.pos
  obtain ⟨T, fr, e⟩ := h
  exact ⟨T, fr, (hk.block _ this hS).trans e⟩
theorem Fix.cell {w : World} (h : Fix w) (k : Nat) (hk : k < fixedL.length) : w.cell? ⟨0, k * 2, none⟩ = some (.string fixedL[k].n) ∧ w.cell? ⟨0, k * 2 + 1, none⟩ = some (.string fixedL[k].v) := by
  obtain ⟨T, fr, e⟩ := h
  have cell : ∀ j u, j < 2 → (fdCell fixedL[k])[j]? = some u → w.cell? ⟨0, k * 2 + j, none⟩ = some u := fun j u hj hu => by
    have := (fdC_get fixedL k j hk hj).trans hu
    rw [cell_of_row w _ _ _ _ _ e, List.getElem?_toArray]
    exact this
  exact ⟨cell 0 _ (by omega) rfl, cell 1 _ (by omega) rfl⟩

theorem fixed_results {W : World} {tmps : Array Value} {A : Nat} {v0 v1 x : Value} (h4 : tmps[2]?.getD undef = .pointer (some ⟨A, 0, none⟩)) (h5 : tmps[3]?.getD undef = x)
    (c0 : W.cell? ⟨A, 0, none⟩ = some v0) (c1 : W.cell? ⟨A, 1, none⟩ = some v1) : (results Tryz.f113 tmps).run Tryz.prog W = .ok (.tuple #[.agg #[v0, v1], x]) W := by
  have hr : Tryz.f113.results = #[.cell 2 74, .tmp 3] := rfl
  simp only [results, hr]
  go_simp
theorem rfixed_results {W : World} {tmps : Array Value} {A : Nat} {v0 v1 x : Value} (h4 : tmps[2]?.getD undef = .pointer (some ⟨A, 0, none⟩)) (h5 : tmps[3]?.getD undef = x)
    (c0 : W.cell? ⟨A, 0, none⟩ = some v0) (c1 : W.cell? ⟨A, 1, none⟩ = some v1) : (results Tryz.f78 tmps).run Tryz.prog W = .ok (.tuple #[.agg #[v0, v1], x]) W := by
  have hr : Tryz.f78.results = #[.cell 2 74, .tmp 3] := rfl
  simp only [results, hr]
  go_simp
def fixedE (n : Int) : Fd × Int := if n < 0 ∨ 24 ≤ n then (noFd, 11) else (fixedL.getD n.toNat noFd, 0)
theorem fixed_any (n : Int) (w : World) (h : Fix w) :
    Calls Tryz.prog 113 #[.int .i64 n] w fun e w' => e = .returned (.tuple #[.agg #[.string (fixedE n).1.n, .string (fixedE n).1.v], .int .i64 (fixedE n).2]) ∧ Below w.heap.size w w' := by
  have hz := zeroFv
  have r0 : (w.alloc (.cells #[.string ⟨#[]⟩, .string ⟨#[]⟩] 74)).cell? ⟨w.heap.size, 0, none⟩ = some (.string ⟨#[]⟩) := (Cs.made w _ _).get 0 _ rfl
  have r1 : (w.alloc (.cells #[.string ⟨#[]⟩, .string ⟨#[]⟩] 74)).cell? ⟨w.heap.size, 1, none⟩ = some (.string ⟨#[]⟩) := (Cs.made w _ _).get 1 _ rfl
  by_cases h1 : n < 0
  · have hE : fixedE n = (noFd, 11) := by unfold fixedE; rw [if_pos (.inl h1)]
    rw [hE]
    simp only [noFd]
    clear h hE
    go_enter Tryz.func113, Tryz.ntmps113
    go_wp2_with fail
    exact bodyPost_ret (fixed_results rfl rfl r0 r1) rfl ⟨rfl, below1 w _⟩
  · obtain ⟨k, rfl⟩ : ∃ k : Nat, n = (k : Int) := ⟨n.toNat, by omega⟩
    have hi0 : (0 : Int) ≤ (k : Int) := by omega
    by_cases h2 : (24 : Int) ≤ (k : Int)
    · have hE : fixedE (k : Int) = (noFd, 11) := by unfold fixedE; rw [if_pos (.inr h2)]
      rw [hE]
      simp only [noFd]
      clear h hE
      go_enter Tryz.func113, Tryz.ntmps113
      go_wp2_with fail
      exact bodyPost_ret (fixed_results rfl rfl r0 r1) rfl ⟨rfl, below1 w _⟩
    · have hk : k < fixedL.length := by rw [fixed_len]; omega
      have hE : fixedE (k : Int) = (fixedL[k], 0) := by
        unfold fixedE; rw [if_neg (by omega), Int.toNat_natCast, getD_of13 hk]
      rw [hE]
      have hF := h.below (below1 w (.cells #[.string ⟨#[]⟩, .string ⟨#[]⟩] 74)) h.pos
      obtain ⟨e0, e1⟩ := hF.cell k hk
      obtain ⟨fd, hfd⟩ : ∃ fd, fd = fixedL[k] := ⟨_, rfl⟩
      rw [← hfd] at e0 e1 ⊢
      have hpos := h.pos
      have hi2 : (k : Int) < 24 := by omega
      have hi3 : k < 24 := by omega
      clear h hE hF hfd hk h1 h2 r0 r1
      go_enter Tryz.func113, Tryz.ntmps113
      go_wp2_with fail
      have M := Cs.made w #[.string fd.n, .string fd.v] 74
      exact bodyPost_ret (fixed_results rfl rfl (M.get 0 _ rfl) (M.get 1 _ rfl)) rfl ⟨rfl, below1 w _⟩

set_option maxHeartbeats 3200000 in
theorem all_any (w : World) : Calls Tryz.prog 103 #[] w fun e w' => e = .returned (.slice (some ⟨w.heap.size, 0, none⟩) 24 24) ∧ RdC 2 w' (.slice (some ⟨w.heap.size, 0, none⟩) 24 24) fixedL.length (fdC fixedL) ∧ Below w.heap.size w w' := by
  go_enter Tryz.func103, Tryz.ntmps103
  go_wp2
  go_ret
  refine ⟨rfl, ?_, below1 w _⟩
  refine ⟨fdC_len _, .inr ⟨by rw [fixed_len]; omega, w.heap.size, 0, 24, rfl, Nat.le_refl _, by simp [maxLen], by simp, fun j u hu => ?_⟩⟩
  rw [World.cell?_alloc_at _ _ _ _ rfl, Nat.zero_add]
  rw [← Array.getElem?_toList]
  exact hu

set_option maxHeartbeats 1600000 in
theorem rfixed_any (n : Int) (w : World) :
    Calls Tryz.prog 78 #[.int .i64 n] w fun e w' => e = .returned (.tuple #[.agg #[.string (fixedE n).1.n, .string (fixedE n).1.v], .int .i64 (fixedE n).2]) ∧ Below w.heap.size w w' := by
  have hz := zeroFv
  have r0 : (w.alloc (.cells #[.string ⟨#[]⟩, .string ⟨#[]⟩] 74)).cell? ⟨w.heap.size, 0, none⟩ = some (.string ⟨#[]⟩) := (Cs.made w _ _).get 0 _ rfl
  have HM := Lib.hid (Cs.made w #[.string ⟨#[]⟩, .string ⟨#[]⟩] 74)
  have HA := Lib.hid (all_any (w.alloc (.cells #[.string ⟨#[]⟩, .string ⟨#[]⟩] 74)))
  have MS := Lib.hid (fun a b W h => made_set w a b W h)
  clear r0
  by_cases h1 : n < 0
  · have hE : fixedE n = (noFd, 11) := by unfold fixedE; rw [if_pos (.inl h1)]
    rw [hE]
    simp only [noFd]
    clear hE
    go_enter Tryz.func78, Tryz.ntmps78
    go_wp2_with (first
      | (go_at_call 103; refine HA.out.mono ?_; rintro e w2 ⟨rfl, R, b2⟩
         have R2 := Lib.hid R
         have B2 := Lib.hid b2
         have M2 := HM.out.below b2
         have m0 := M2.get 0 _ rfl
         have m1 := M2.get 1 _ rfl
         have f0 := M2.free 0
         have f1 := M2.free 1
         clear R b2 M2))
    obtain ⟨q0, q1, q2⟩ := MS.out (.string ⟨#[]⟩) (.string ⟨#[]⟩) _ (B2.out.mono (by simp))
    exact bodyPost_ret (rfixed_results rfl rfl q0 q1) rfl ⟨rfl, q2⟩
  · obtain ⟨k, rfl⟩ : ∃ k : Nat, n = (k : Int) := ⟨n.toNat, by omega⟩
    have hi0 : (0 : Int) ≤ (k : Int) := by omega
    by_cases h2 : (24 : Int) ≤ (k : Int)
    · have hE : fixedE (k : Int) = (noFd, 11) := by unfold fixedE; rw [if_pos (.inr h2)]
      rw [hE]
      simp only [noFd]
      clear hE
      go_enter Tryz.func78, Tryz.ntmps78
      go_wp2_with (first
        | (go_at_call 103; refine HA.out.mono ?_; rintro e w2 ⟨rfl, R, b2⟩
           have R2 := Lib.hid R
           have B2 := Lib.hid b2
           have M2 := HM.out.below b2
           have m0 := M2.get 0 _ rfl
           have m1 := M2.get 1 _ rfl
           have f0 := M2.free 0
           have f1 := M2.free 1
           clear R b2 M2))
      obtain ⟨q0, q1, q2⟩ := MS.out (.string ⟨#[]⟩) (.string ⟨#[]⟩) _ (B2.out.mono (by simp))
      exact bodyPost_ret (rfixed_results rfl rfl q0 q1) rfl ⟨rfl, q2⟩
    · have hk : k < fixedL.length := by rw [fixed_len]; omega
      have hE : fixedE (k : Int) = (fixedL[k], 0) := by
        unfold fixedE; rw [if_neg (by omega), Int.toNat_natCast, getD_of13 hk]
      rw [hE]
      obtain ⟨fd, hfd⟩ : ∃ fd, fd = fixedL[k]'hk := ⟨_, rfl⟩
      rw [← hfd]
      have HK := Lib.hid hk
      have HFD : Hid (∀ (h : k < fixedL.length), fd = fixedL[k]) := fun _ => hfd
      have hi2 : (k : Int) < 24 := by omega
      have hi3 : k < 24 := by omega
      clear hE hfd hk h1 h2
      go_enter Tryz.func78, Tryz.ntmps78
      go_wp2_with (first
        | (go_at_call 103; refine HA.out.mono ?_; rintro e w2 ⟨rfl, R, b2⟩
           obtain ⟨e0, e1⟩ := fd_at R k HK.out (k * 2) (by omega)
           rw [← HFD.out HK.out] at e0 e1
           have B2 := Lib.hid b2
           have M2 := HM.out.below b2
           have m0 := M2.get 0 _ rfl
           have m1 := M2.get 1 _ rfl
           have f0 := M2.free 0
           have f1 := M2.free 1
           simp only [World.size_alloc] at e0 e1
           clear R b2 M2))
      obtain ⟨q0, q1, q2⟩ := MS.out (.string fd.n) (.string fd.v) _ (B2.out.mono (by simp))
      exact bodyPost_ret (rfixed_results rfl rfl q0 q1) rfl ⟨rfl, q2⟩
end Go.Proofs.YtbkbabaoockigaaGreatDoor

set_option maxRecDepth 100000
set_option maxRecDepth 100000
set_option linter.unusedSimpArgs false
set_option linter.unusedVariables false
set_option linter.unnecessarySimpa false
namespace Go.Proofs.YtbkbabaoockigaaGreatDoor
open Go.RowKit

/-- a table of the call's own (from block B on) -/
structure Tm (B b : Nat) (sl : Value) (q : TQ) (w0 w : World) : Prop where
  ok : TOk q
  tbl : Tbl b sl q w
  low : B ≤ b
  slow : ∀ j, sl.ownBlock = some j → B ≤ j
  bel : Below B w0 w
theorem Tm.size {B b : Nat} {sl : Value} {q : TQ} {w0 w : World} (h : Tm B b sl q w0 w) : B ≤ w.heap.size := by have := h.tbl.lt; have := h.low; omega
theorem Tm.below {B b : Nat} {sl : Value} {q : TQ} {w0 w w' : World} (h : Tm B b sl q w0 w) (hb : Below w.heap.size w w') : Tm B b sl q w0 w' :=
  ⟨h.ok, h.tbl.below hb, h.low, h.slow, h.bel.trans (hb.mono h.size)⟩
theorem Tm.keep {B b : Nat} {sl : Value} {q : TQ} {w0 w w' : World} {S : List Nat} (h : Tm B b sl q w0 w) (hk : Keep S w w') (hS : ∀ i ∈ S, B ≤ i) (hb : b ∉ S) (hs : ∀ j, sl.ownBlock = some j → j ∉ S) : Tm B b sl q w0 w' :=
  ⟨h.ok, h.tbl.keep hk hb hs, h.low, h.slow, h.bel.trans (hk.to_below hS h.size)⟩
theorem Tm.drewN {B b : Nat} {sl : Value} {q : TQ} {w0 w : World} (h : Tm B b sl q w0 w) (n : Nat) : Tm B b sl q w0 (w.drewN n) := h.below (below_drewN (Below.refl _ _) n)
theorem Tm.ts {B b : Nat} {sl : Value} {q : TQ} {w0 w : World} (h : Tm B b sl q w0 w) : ∀ i ∈ TS b sl, B ≤ i := fun i hi => by
  rcases mem_TS.1 hi with rfl | h1
  · exact h.low
  · exact h.slow i h1
theorem Tm.step {B b : Nat} {sl : Value} {q q' : TQ} {w0 w w' : World} (h : Tm B b sl q w0 w) (ho : TOk q') (hd : Did b sl q' w w') :
    ∃ sl', Tm B b sl' q' w0 w' ∧ (∀ j, sl'.ownBlock = some j → sl.ownBlock = some j ∨ w.heap.size ≤ j) ∧ Keep (TS b sl) w w' := by
  obtain ⟨sl', h1, h2, h3⟩ := hd
  refine ⟨sl', ⟨ho, h1, h.low, fun j hj => ?_, h.bel.trans (h3.to_below h.ts h.size)⟩, h2, h3⟩
  rcases h2 j hj with h4 | h4
  · exact h.slow j h4
  · exact Nat.le_trans h.size h4
/-- what a method that writes leaves -/
def Step (B b : Nat) (sl : Value) (q' : TQ) (w0 w w' : World) : Prop := ∃ sl', Tm B b sl' q' w0 w' ∧ (∀ j, sl'.ownBlock = some j → sl.ownBlock = some j ∨ w.heap.size ≤ j) ∧ Keep (TS b sl) w w'
theorem setCap_m {B b : Nat} {sl : Value} {q : TQ} {w0 w : World} (h : Tm B b sl q w0 w) (n : Int) (hc : countN q ≤ 4611686018427387000) :
    Calls Tryz.prog 27 #[.pointer (some ⟨b, 0, none⟩), .int .i64 n] w fun e w' => e = .returned (.int .i64 (setCapE q n).2) ∧ Step B b sl (setCapE q n).1 w0 w w' :=
  (setCap_any n w h.ok h.tbl (by omega)).mono fun e w' hh => ⟨hh.1, h.step (setCap_ok h.ok n) hh.2⟩
theorem insert_m {B b : Nat} {sl : Value} {q : TQ} {w0 w : World} (h : Tm B b sl q w0 w) (f : Fd) (hc : countN q ≤ 4611686018427387000) :
    Calls Tryz.prog 91 #[.pointer (some ⟨b, 0, none⟩), .agg #[.string f.n, .string f.v]] w fun e w' => e = .returned (.tuple #[.int .i64 (insertE q f).2.1, .int .i64 (insertE q f).2.2]) ∧ Step B b sl (insertE q f).1 w0 w w' :=
  (insert_any f w h.tbl h.ok hc).mono fun e w' hh => ⟨hh.1, h.step (insert_ok h.ok f) hh.2⟩
theorem new_yes (n : Int) (w : World) (h1 : 0 ≤ n) (h2 : n ≤ 4096) :
    Calls Tryz.prog 24 #[.int .i64 n] w fun e w' => ∃ b, e = .returned (.tuple #[.pointer (some ⟨b, 0, none⟩), .int .i64 0]) ∧ Tm w.heap.size b (.slice none 0 0) (newT n.toNat) w w' := by
  refine (new_any n w).mono ?_
  rintro e w' (⟨h, _⟩ | ⟨_, b, rfl, ht, hl, hb⟩)
  · omega
  · exact ⟨b, rfl, newT_ok _ (by omega), ht, hl, (fun j hj => by cases hj), hb⟩
theorem new_no (n : Int) (w : World) (h1 : n < 0 ∨ 4096 < n) :
    Calls Tryz.prog 24 #[.int .i64 n] w fun e w' => e = .returned (.tuple #[.pointer none, .int .i64 1]) ∧ w' = w := by
  refine (new_any n w).mono ?_
  rintro e w' (⟨_, h⟩ | ⟨h, _⟩)
  · exact h
  · omega

theorem al_is : ∃ q1 q2 q3 q4 : TQ, setCapE (newT 100) 70 = (q1, 0) ∧ countN q1 = 0 ∧ insertE q1 ⟨⟨#[97]⟩, ⟨#[98]⟩⟩ = (q2, 0, 0) ∧ countN q2 = 1 ∧ insertE q2 ⟨⟨#[99]⟩, ⟨#[100]⟩⟩ = (q3, 1, 0) ∧ countN q3 = 2 ∧ insertE q3 ⟨⟨#[101]⟩, ⟨#[102]⟩⟩ = (q4, 2, 0) ∧ q4.first = 1 ∧ countN q4 = 3 ∧ rooms q4.l = 68 :=
  ⟨_, _, _, _, rfl, rfl, rfl, rfl, rfl, rfl, rfl, rfl, rfl, rfl⟩
theorem fx1 : fixedE 1 = (⟨⟨#[58, 112, 97, 116, 104]⟩, ⟨#[47]⟩⟩, 0) := rfl

end Go.Proofs.YtbkbabaoockigaaGreatDoor

set_option maxRecDepth 100000
set_option maxRecDepth 100000
set_option linter.unusedSimpArgs false
set_option linter.unusedVariables false
set_option linter.unnecessarySimpa false
namespace Go.Proofs.YtbkbabaoockigaaGreatDoor
open Go.RowKit

theorem rinsert_long {b : Nat} {v : Value} {q : TQ} (f : Fd) (w : World) (h : RTb b v q w) (hl : 64 < f.n.size ∨ 512 < f.v.size) :
    Calls Tryz.prog 79 #[.pointer (some ⟨b, 0, none⟩), .agg #[.string f.n, .string f.v]] w fun e w' => e = .returned (.tuple #[.int .i64 0, .int .i64 13]) ∧ Below w.heap.size w w' := by
  obtain ⟨fn, fv⟩ := f
  simp only at hl ⊢
  have HB := Lib.hid (below1 w (.cells #[.string fn, .string fv] 74))
  clear h
  by_cases h1 : 64 < fn.size
  · have h1' : (64 : Int) < (fn.size : Int) := by omega
    clear hl
    go_enter Tryz.func79, Tryz.ntmps79
    go_wp2_with fail
    go_ret2
    exact ⟨rfl, HB.out⟩
  · have h2 : 512 < fv.size := by omega
    have h1' : ¬ (64 : Int) < (fn.size : Int) := by omega
    have h2' : (512 : Int) < (fv.size : Int) := by omega
    have h1n : decide (64 < fn.size) = false := decide_eq_false h1
    have h1i : decide ((64 : Int) < (fn.size : Int)) = false := decide_eq_false h1'
    clear hl
    go_enter Tryz.func79, Tryz.ntmps79
    go_wp2_with fail
    go_ret2
    exact ⟨rfl, HB.out⟩
set_option maxHeartbeats 6400000 in
theorem rinsert_rest {b : Nat} {v : Value} {q : TQ} (f : Fd) (w : World) (h : RTb b v q w) (ho : TOk q) (hc : countN q ≤ 4611686018427387000) (hl : ¬ (64 < f.n.size ∨ 512 < f.v.size)) :
    Calls Tryz.prog 79 #[.pointer (some ⟨b, 0, none⟩), .agg #[.string f.n, .string f.v]] w fun e w' =>
      (q.cap < roomF f → e = .returned (.tuple #[.int .i64 0, .int .i64 6]) ∧ Below w.heap.size w w') ∧
      (¬ q.cap < roomF f → e = .returned (.tuple #[.int .i64 (countN q : Int), .int .i64 0]) ∧ RDid b v q { shrinkE (q.cap - roomF f) q with l := (shrinkE (q.cap - roomF f) q).l ++ [f] } w w') := by
  have HRM := Lib.hid (fun V => rroom_any f V ⟨by omega, by omega⟩)
  obtain ⟨fn, fv⟩ := f
  simp only at hl HRM ⊢
  have hb1 := below1 w (.cells #[.string fn, .string fv] 74)
  have hT := h.below hb1
  have HT := Lib.hid hT
  have HB := Lib.hid hb1
  have HX : Hid (Cs (w.alloc (.cells #[.string fn, .string fv] 74)) w.heap.size [.string fn, .string fv]) := Cs.made w _ _
  have hblt := h.lt
  have HVLT := Lib.hid h.vlt
  have h1n : decide (64 < fn.size) = false := decide_eq_false (by omega)
  have h1i : decide ((64 : Int) < (fn.size : Int)) = false := decide_eq_false (by omega)
  have h2n : decide (512 < fv.size) = false := decide_eq_false (by omega)
  have h2i : decide ((512 : Int) < (fv.size : Int)) = false := decide_eq_false (by omega)
  obtain ⟨rf, hrf⟩ : ∃ rf, rf = roomF ⟨fn, fv⟩ := ⟨_, rfl⟩
  rw [← hrf] at HRM ⊢
  have hcap : q.cap ≤ 4096 := Nat.le_trans ho.cap ho.most
  have hrm : rooms q.l ≤ 4096 := Nat.le_trans ho.used hcap
  have HRL := Lib.hid hrm
  have HCP := Lib.hid hcap
  have HRF := Lib.hid hrf
  have HCN := Lib.hid hc
  have HOK := Lib.hid ho
  have hrfb : rf ≤ 1000 := by rw [hrf]; simp only [roomF]; omega
  clear h hb1 hT hl hrf hcap hrm hc ho
  go_enter Tryz.func79, Tryz.ntmps79
  go_upto_region 3 with fail
  generalize w.alloc (.cells #[.string fn, .string fv] 74) = w1 at HT HB HX ⊢
  have hXlt : w.heap.size < w1.heap.size := HX.out.lt
  have HK : Hid (∀ V, Below w1.heap.size w1 V → (V.cell? ⟨w.heap.size, 0, none⟩ = some (.string fn) ∧ V.cell? ⟨w.heap.size, 1, none⟩ = some (.string fv) ∧ V.cell? ⟨b, 1, none⟩ = some (.int .i64 (q.cap : Int))) ∧ Below w1.heap.size w1 V) := fun V hV => by
    have X3 := HX.out.below hV
    exact ⟨⟨X3.get 0 _ rfl, X3.get 1 _ rfl, (HT.out.below hV).facts.2.1⟩, hV⟩
  go_region_held3 (fun V => (V.cell? ⟨w.heap.size, 0, none⟩ = some (.string fn) ∧ V.cell? ⟨w.heap.size, 1, none⟩ = some (.string fv) ∧ V.cell? ⟨b, 1, none⟩ = some (.int .i64 (q.cap : Int))) ∧ Below w1.heap.size w1 V)
    (first
      | (exact HK.out _ (below_drewN (Below.refl _ _) 1))
      | (exact HK.out _ B3))
    (first
      | (go_at_call 104; refine (HRM.out _).mono ?_; rintro x w3 ⟨rfl, hb3⟩; have B3 : Below w1.heap.size w1 w3 := (below_drewN (Below.refl _ _) 1).trans hb3))
  have B3H := Lib.hid B3
  have T3 := Lib.hid (HT.out.below B3)
  have X3 := Lib.hid (HX.out.below B3)
  by_cases hr : q.cap < rf
  · have hri : (q.cap : Int) < (rf : Int) := by omega
    have HR := Lib.hid hr
    clear hr
    go_wp2_with fail
    go_ret2
    exact ⟨fun _ => ⟨rfl, HB.out.trans (B3H.out.mono (Nat.le_of_lt hXlt))⟩, fun h => absurd HR.out h⟩
  · have hri : ¬ (q.cap : Int) < (rf : Int) := by omega
    have HR := Lib.hid hr
    have hw1 : IntKind.i64.wrap ((q.cap : Int) - (rf : Int)) = ((q.cap - rf : Nat) : Int) := by rw [wraps_i64' _ (by have := HCP.out; omega) (by have := HCP.out; omega)]; omega
    have HSH := Lib.hid (fun V (hV : RTb b v q V) => rshrink_any (q.cap - rf) V hV (Nat.le_trans HRL.out (by omega)) (Nat.le_trans HCN.out (by omega)))
    obtain ⟨sr, hsr⟩ : ∃ sr, sr = q.cap - rf := ⟨_, rfl⟩
    rw [← hsr] at HSH hw1
    have HSR := Lib.hid hsr
    clear hr hsr B3 hb3 HK
    go_upto_region 5 with fail
    have HK5 : Hid (∀ V, Below w3.heap.size w3 V → (V.cell? ⟨w.heap.size, 0, none⟩ = some (.string fn) ∧ V.cell? ⟨w.heap.size, 1, none⟩ = some (.string fv) ∧ V.cell? ⟨b, 1, none⟩ = some (.int .i64 (q.cap : Int))) ∧ Keep [b] w3 V) := fun V hV => by
      have XV := X3.out.below hV
      exact ⟨⟨XV.get 0 _ rfl, XV.get 1 _ rfl, (T3.out.below hV).facts.2.1⟩, Keep.of_below hV⟩
    have hXb : w.heap.size ∉ [b] := by simp; omega
    have HXB := Lib.hid hXb
    clear hXb
    go_region_held3 (fun V => (V.cell? ⟨w.heap.size, 0, none⟩ = some (.string fn) ∧ V.cell? ⟨w.heap.size, 1, none⟩ = some (.string fv) ∧ V.cell? ⟨b, 1, none⟩ = some (.int .i64 (q.cap : Int))) ∧ Keep [b] w3 V)
      (first
        | (exact HK5.out _ (below_drewN (Below.refl _ _) 1))
        | (exact HK5.out _ B4.out)
        | (exact HS6.out))
      (first
        | (go_at_call 104; refine (HRM.out _).mono ?_; rintro x w4 ⟨rfl, hb4⟩; have B4 : Hid (Below w3.heap.size w3 w4) := (below_drewN (Below.refl _ _) 1).trans hb4; clear hb4)
        | (go_at_call 80; refine (HSH.out _ (T3.out.below B4.out)).mono ?_; rintro x w6 ⟨rfl, v6, t6, ov6, k6⟩; have T6 := Lib.hid t6; have OV6 := Lib.hid ov6; have K6 : Hid (Keep [b] w3 w6) := (Keep.of_below B4.out).trans k6 (fun i hi => .inl hi); have X6 := Lib.hid (X3.out.keep K6.out HXB.out); have HS6 : Hid ((w6.cell? ⟨w.heap.size, 0, none⟩ = some (.string fn) ∧ w6.cell? ⟨w.heap.size, 1, none⟩ = some (.string fv) ∧ w6.cell? ⟨b, 1, none⟩ = some (.int .i64 (q.cap : Int))) ∧ Keep [b] w3 w6) := ⟨⟨X6.out.get 0 _ rfl, X6.out.get 1 _ rfl, T6.out.facts.2.1⟩, K6.out⟩; clear t6 ov6 k6))
    have KW6 : Hid (Keep [b] w w6) := ((Keep.of_below (HB.out.trans (B3H.out.mono (Nat.le_of_lt hXlt)))).trans K6.out (fun i hi => .inl hi) : Keep [b] w w6)
    have CNT := Lib.hid (shrink_count sr q)
    have FIT : Hid (rooms (shrinkE sr q).l ≤ sr) := goneN_fits sr q.l
    have QNE : Hid ((shrinkE sr q).l ≠ [] → q.l ≠ []) := fun h0 h1 => h0 (by simp [shrinkE, h1])
    obtain ⟨q', hq'⟩ : ∃ q', q' = shrinkE sr q := ⟨_, rfl⟩
    rw [← hq'] at T6 CNT FIT OV6 QNE
    have HQ := Lib.hid hq'
    clear hq' HS6 HK5
    obtain ⟨most, cap, first, l⟩ := q'
    obtain ⟨sa, sc, hsl, hsc, hsm⟩ := T6.out.shape
    simp only at hsl hsc
    subst hsl
    have hl128 : l.length ≤ 4096 := by
      have h1 := rooms_len l
      have h2 := FIT.out
      have h4 := HCP.out
      have h5 := HSR.out
      simp only at h2
      omega
    have RDA : Hid (∀ V, Below w6.heap.size w6 V → RdC 2 V (.slice sa l.length sc) l.length (fdC l)) := fun V hV => RdC.below T6.out.row hV
    have XA : Hid (∀ V, Below w6.heap.size w6 V → Cs V w.heap.size [.string fn, .string fv]) := fun V hV => X6.out.below hV
    have hw6 : w.heap.size < w6.heap.size := X6.out.lt
    have f3 := T6.out.facts.2.2.2
    have y3 : w6.drew.cell? ⟨b, 3, none⟩ = some (.slice sa l.length sc) := f3
    have y0 : w6.drew.cell? ⟨w.heap.size, 0, none⟩ = some (.string fn) := X6.out.get 0 _ rfl
    have y1 : w6.drew.cell? ⟨w.heap.size, 1, none⟩ = some (.string fv) := X6.out.get 1 _ rfl
    have y3a : (w6.alloc (.cells #[.string fn, .string fv] 74)).cell? ⟨b, 3, none⟩ = some (.slice sa l.length sc) := (T6.out.fields.below (below1 w6 _)).get 3 _ rfl
    have CB : Hid (∀ V, Below w6.heap.size w6 V → Cs V b [.int .i64 (most : Int), .int .i64 (cap : Int), .int .i64 (first : Int), .slice sa l.length sc]) := fun V hV => T6.out.fields.below hV
    obtain ⟨L, hL⟩ : ∃ L, L = l.length := ⟨_, rfl⟩
    rw [← hL] at y3 y3a RDA CB hl128
    have HL := Lib.hid hL
    clear f3 hsc hsm h1n h1i h2n h2i T6
    clear hL
    have tok1 : True := trivial
    go_upto_region 6 with fail
    go_region_law (first
      | (have _t := tok1
         refine step_append_rows rfl (.const (.slice none 0 0)) (.tmp 36) 27 rfl elemFd Tryz.underlying27 w.heap.size (.slice none 0 0) 0 [] rfl (World.ownsRow_nil _ _ _ _) (.slice sa L sc) L (fdC l) rfl (RDA.out _ ?_) (fdC_oneCell _) ?_ ?_ ?_ ?_
         (first | exact below_drewN (Below.refl _ _) 1 | exact below_drewN (below1 _ _) 1 | exact below1 _ _); (omega); (unfold maxLen; omega); (simp; omega)
         intro v7 w7 o7 g7
         clear tok1
         rw [Nat.zero_add, List.nil_append] at o7
         have O7 := Lib.hid o7
         have B7 : Hid (Below w6.heap.size w6 w7) := by
           first
             | exact Below.grown (below_drewN (Below.refl _ w6) 1) g7 (Nat.le_refl _) (fun k hk => by cases hk)
             | exact Below.grown (below_drewN (below1 w6 _) 1) g7 (by simp) (fun k hk => by cases hk)
         have z0 := (XA.out _ B7.out).get 0 _ rfl
         have z1 := (XA.out _ B7.out).get 1 _ rfl
         have hb7 : b < w7.heap.size := (CB.out _ B7.out).lt
         obtain ⟨a7, c7, hv7, _, _⟩ := (RdC.of_owns o7).isSlice
         subst hv7
         try have BU : Hid (RdC 2 w7 (.slice (some ⟨w6.heap.size, 0, none⟩) 1 1) 1 [.string fn, .string fv]) := RdC.kept (w := (w6.alloc _).drew) (RdC.built 2 w6 #[.string fn, .string fv] 74 rfl) g7 (fun j _ => by simp [Value.ownBlock])
         clear o7 g7)
      | (refine step_append_rows rfl (.tmp 37) (.tmp 39) 27 rfl elemFd Tryz.underlying27 w.heap.size (.slice a7 L c7) L (fdC l) rfl (World.ownsRow.alloc O7.out _) (.slice (some ⟨w7.heap.size, 0, none⟩) 1 1) 1 _ rfl (RdC.built 2 w7 _ _ rfl) ?_ ?_ ?_ ?_ ?_
         (intro u hu; simp at hu; rcases hu with rfl | rfl <;> rfl); (omega); (unfold maxLen; omega); (have := B7.out.size; simp; omega)
         intro v8 w8 o8 g8
         have B8 : Hid (Below w.heap.size w6 w8) := Below.grown ((B7.out.mono (Nat.le_of_lt hw6)).alloc (by have := B7.out.size; omega) _) g8 (by have := B7.out.size; simp; omega) (fun k hk => (World.ownsRow.lt O7.out k hk).1)
         have O8 := Lib.hid o8
         obtain ⟨a8, c8, hv8, _, _⟩ := (RdC.of_owns o8).isSlice
         subst hv8
         have D8 : Hid (Cs w8 b [.int .i64 (most : Int), .int .i64 (cap : Int), .int .i64 (first : Int), .slice sa L sc]) := Cs.block (CB.out w6 (Below.refl _ _)) (B8.out.block b hblt)
         have s3 := D8.out.get 3 _ rfl
         have t3 := D8.out.free 3
         clear o8 g8)
      | (refine step_append_rows rfl (.tmp 37) (.tmp 39) 27 rfl elemFd Tryz.underlying27 w.heap.size (.slice a7 L c7) L (fdC l) rfl O7.out (.slice (some ⟨w6.heap.size, 0, none⟩) 1 1) 1 _ rfl BU.out ?_ ?_ ?_ ?_ ?_
         (intro u hu; simp at hu; rcases hu with rfl | rfl <;> rfl); (omega); (unfold maxLen; omega); (have := B7.out.size; omega)
         intro v8 w8 o8 g8
         have B8 : Hid (Below w.heap.size w6 w8) := Below.grown (B7.out.mono (Nat.le_of_lt hw6)) g8 (by have := B7.out.size; omega) (fun k hk => (World.ownsRow.lt O7.out k hk).1)
         have O8 := Lib.hid o8
         obtain ⟨a8, c8, hv8, _, _⟩ := (RdC.of_owns o8).isSlice
         subst hv8
         have D8 : Hid (Cs w8 b [.int .i64 (most : Int), .int .i64 (cap : Int), .int .i64 (first : Int), .slice sa L sc]) := Cs.block (CB.out w6 (Below.refl _ _)) (B8.out.block b hblt)
         have s3 := D8.out.get 3 _ rfl
         have t3 := D8.out.free 3
         clear o8 g8))
    all_goals clear y3 y0 y1 z0 z1 s3 t3
    all_goals
      have hne8 : ∀ j, Value.ownBlock (.slice a8 (L + 1) c8) = some j → w.heap.size ≤ j := fun j hj => (World.ownsRow.lt O8.out j hj).1
      have NE8 := Lib.hid hne8
      have R8 : Hid (RdC 2 w8 (.slice a8 (L + 1) c8) (L + 1) (fdC l ++ [.string fn, .string fv])) := RdC.of_owns O8.out
      have K8 : Hid (Keep [b] w w8) := (⟨B8.out.os.trans KW6.out.os, B8.out.tape.trans KW6.out.tape, B8.out.output.trans KW6.out.output, Nat.le_trans KW6.out.size B8.out.size, fun i hi hn => (B8.out.block i hi).trans (KW6.out.block i hi hn)⟩ : Keep [b] w w8)
      clear hne8 O8
    all_goals
      have D9 : Hid (Cs (w8.setCell ⟨b, 3, none⟩ (.slice a8 (L + 1) c8)) b [.int .i64 (most : Int), .int .i64 (cap : Int), .int .i64 (first : Int), .slice a8 (L + 1) c8]) := D8.out.set 3 _
      have R9 : Hid (RdC 2 (w8.setCell ⟨b, 3, none⟩ (.slice a8 (L + 1) c8)) (.slice a8 (L + 1) c8) (L + 1) (fdC l ++ [.string fn, .string fv])) := rdC_keep R8.out (keep_set b 3 w8 _) (fun _ j hj => by have := NE8.out j hj; simp; omega)
      have K9 : Hid (Keep [b] w (w8.setCell ⟨b, 3, none⟩ (.slice a8 (L + 1) c8))) := (K8.out.trans (keep_set b 3 w8 _) (fun i hi => .inl hi) : Keep [b] w _)
      clear D8 R8 K8 B8 B7 O7 HRM HSH RDA XA CB
      generalize w8.setCell ⟨b, 3, none⟩ (.slice a8 (L + 1) c8) = W9 at D9 R9 K9 ⊢
      have hT9 : RTb b (.slice a8 (L + 1) c8) ⟨most, cap, first, l ++ [(⟨fn, fv⟩ : Fd)]⟩ W9 := by
        refine ⟨D9.out, ?_, fun _ j hj => by have := NE8.out j hj; omega⟩
        show RdC 2 W9 _ (l ++ [(⟨fn, fv⟩ : Fd)]).length _
        rw [List.length_append, List.length_singleton, ← HL.out, fdC_append, fdC_one]; exact R9.out
      have HT9 := Lib.hid hT9
      have hcnt : first + L ≤ 4611686018427387000 := by
        have h1 := CNT.out
        have h2 := HCN.out
        have h3 := HL.out
        simp only [countN] at h1 h2
        omega
      have hcn := rcount_any _ hT9 (by simp only [countN, List.length_append, List.length_singleton]; have := HL.out; omega)
      have hce : countN (⟨most, cap, first, l ++ [(⟨fn, fv⟩ : Fd)]⟩ : TQ) = first + L + 1 := by simp only [countN, List.length_append, List.length_singleton]; have := HL.out; omega
      rw [hce] at hcn
      have HCT := Lib.hid hcn
      have hwc : IntKind.i64.wrap ((first : Int) + (L : Int) + 1 - 1) = (first : Int) + (L : Int) := by rw [wraps_i64' _ (by omega) (by omega)]; omega
      have hwc' : IntKind.i64.wrap ((first : Int) + (L : Int)) = (first : Int) + (L : Int) := by rw [wraps_i64' _ (by omega) (by omega)]
      have HE : Hid ((first : Int) + (L : Int) = (countN q : Int)) := (by
        have h1 := CNT.out
        have h3 := HL.out
        simp only [countN] at h1 ⊢
        omega : (first : Int) + (L : Int) = (countN q : Int))
      clear hT9 hcn hce hcnt hl128
    all_goals go_wp2_with (go_at_call 34; refine HCT.out.mono ?_; rintro e w10 ⟨rfl, nd, rfl⟩)
    all_goals go_ret2
    all_goals
      refine ⟨fun h => absurd h HR.out, fun _ => ⟨by rw [← HE.out]; rfl, .slice a8 (L + 1) c8, ?_, fun _ j hj => .inr (NE8.out j hj), K9.out.drewN nd⟩⟩
      rw [← HSR.out, ← HQ.out]
      exact HT9.out.drewN nd
theorem rinsert_any {b : Nat} {v : Value} {q : TQ} (f : Fd) (w : World) (h : RTb b v q w) (ho : TOk q) (hc : countN q ≤ 4611686018427387000) :
    Calls Tryz.prog 79 #[.pointer (some ⟨b, 0, none⟩), .agg #[.string f.n, .string f.v]] w fun e w' => e = .returned (.tuple #[.int .i64 (insertE q f).2.1, .int .i64 (insertE q f).2.2]) ∧ RDid b v q (insertE q f).1 w w' := by
  unfold insertE
  by_cases h1 : 64 < f.n.size ∨ 512 < f.v.size
  · rw [if_pos h1]
    exact (rinsert_long f w h h1).mono fun e w' ⟨he, hb⟩ => ⟨he, rdid_same h hb⟩
  · rw [if_neg h1]
    by_cases h2 : q.cap < roomF f
    · rw [if_pos h2]
      exact (rinsert_rest f w h ho hc h1).mono fun e w' hh => ⟨(hh.1 h2).1, rdid_same h (hh.1 h2).2⟩
    · rw [if_neg h2]
      exact (rinsert_rest f w h ho hc h1).mono fun e w' hh => hh.2 h2
end Go.Proofs.YtbkbabaoockigaaGreatDoor

set_option maxRecDepth 100000
set_option maxRecDepth 100000
set_option linter.unusedSimpArgs false
set_option linter.unusedVariables false
set_option linter.unnecessarySimpa false
namespace Go.Proofs.YtbkbabaoockigaaGreatDoor
open Go.RowKit

def findFixedE (f : Fd) : Int × Int := (firstG (isF f) fixedL 0, firstG (namedF f) fixedL 0)
theorem fixed_apart : ∀ i j : Nat, i < fixedL.length → j < fixedL.length → fixedL.getD i noFd = fixedL.getD j noFd → i = j := by
  have h : (List.range 24).all (fun i => (List.range 24).all fun j => !decide (fixedL.getD i noFd = fixedL.getD j noFd) || decide (i = j)) = true := by decide +kernel
  intro i j hi hj he
  rw [fixed_len] at hi hj
  have h1 := List.all_eq_true.1 h i (List.mem_range.2 hi)
  have h2 := List.all_eq_true.1 h1 j (List.mem_range.2 hj)
  simp only [he, decide_true, Bool.not_true, Bool.false_or, decide_eq_true_eq] at h2
  exact h2
theorem fixed_last (f : Fd) : lastN (isF f) 0 fixedL 24 = firstG (isF f) fixedL 0 := by
  have := last_first (isF f) fixedL (fun i j hi hj h1 h2 => fixed_apart i j hi hj (by
    simp only [isF, decide_eq_true_eq] at h1 h2
    rw [h1, h2])) 24 (by rw [fixed_len]; omega)
  rw [this, List.take_of_length_le (by rw [fixed_len]; omega)]
theorem firstG_take (p : Fd → Bool) (l : List Fd) (k : Nat) (h : k < l.length) : firstG p (l.take (k + 1)) 0 = if firstG p (l.take k) 0 = -1 then (if p l[k] then (k : Int) else -1) else firstG p (l.take k) 0 := by
  rw [List.take_succ_eq_append_getElem h, firstG_append, List.length_take, Nat.min_eq_left (by omega), Nat.zero_add]
theorem index_fixed (C : Array Value) (hC : C = (fdC fixedL).toArray) (k : Nat) (hk : k < fixedL.length) (w : World) :
    (Instr.index 144 (.agg C) (.int .i64 (k : Int))).run Tryz.prog w = .ok (.agg #[.string fixedL[k].n, .string fixedL[k].v]) w := by
  have u1 := Tryz.underlying144
  have u2 := Tryz.underlying74
  have z2 := Tryz.sizeOf74
  have a2 := Tryz.isAgg74
  have hk24 : (k : Int) < 24 := by rw [fixed_len] at hk; omega
  have hx : C.extract (k * 2) (k * 2 + 2) = #[.string fixedL[k].n, .string fixedL[k].v] := by
    have h0 := fdC_get fixedL k 0 hk (by omega)
    have h1 := fdC_get fixedL k 1 hk (by omega)
    have hl : (fdC fixedL).length = fixedL.length * 2 := fdC_len _
    subst hC
    apply Array.ext'
    rw [Array.toList_extract, List.extract_eq_take_drop, List.toList_toArray]
    have e0 : (fdC fixedL).drop (k * 2) = .string fixedL[k].n :: .string fixedL[k].v :: (fdC fixedL).drop (k * 2 + 2) := by
      apply List.ext_getElem?
      intro i
      rw [List.getElem?_drop]
      match i with
      | 0 => simpa [fdCell] using h0
      | 1 => simpa [fdCell] using h1
      | i + 2 => simp only [List.getElem?_cons_succ, List.getElem?_drop]; congr 1; omega
    rw [e0, show k * 2 + 2 - k * 2 = 2 by omega]
    rfl
  simp [Instr.index, asIntOf, run_underlying u1, hk24, z2, part, a2, hx, Sem.run_bind]
  intro h; omega
set_option maxHeartbeats 3200000 in
theorem findFixed_any (f : Fd) (w : World) (h : Fix w) :
    Calls Tryz.prog 52 #[.agg #[.string f.n, .string f.v]] w fun e w' => e = .returned (.tuple #[.int .i64 (findFixedE f).1, .int .i64 (findFixedE f).2]) ∧ Below w.heap.size w w' := by
  have hl1 := fixed_last f
  obtain ⟨fn, fv⟩ := f
  unfold findFixedE
  simp only
  rw [← hl1]
  clear hl1
  have HB := Lib.hid (below1 w (.cells #[.string fn, .string fv] 74))
  have BX : Hid (Cs (w.alloc (.cells #[.string fn, .string fv] 74)) w.heap.size [.string fn, .string fv]) := Cs.made w _ _
  have hpos := h.pos
  obtain ⟨T0, fr0, hg0⟩ := h.below HB.out hpos
  obtain ⟨C, hC⟩ : ∃ C, C = (fdC fixedL).toArray := ⟨_, rfl⟩
  rw [← hC] at hg0
  have G0 := Lib.hid hg0
  have HIX := Lib.hid (index_fixed C hC)
  have hsz : (Tryz.prog.info? 144).map (·.size) = some C.size := by rw [hC]; kernel_rfl
  have HSZ := Lib.hid hsz
  clear h hg0 hC hsz
  go_enter Tryz.func52, Tryz.ntmps52
  go_wp2_with ((with_reducible refine wpList_load_row ?_ 144 (.global 0) ?_ 0 ?_ T0 C fr0 _ G0.out Tryz.underlying144 ?_ HSZ.out ?_); rfl; rfl; rfl; rfl)
  go_loopw [4, 5, 9] (fun i6 i7 i20 wr => ∃ k : Nat, i6 = .int .i64 (lastN (isF ⟨fn, fv⟩) 0 fixedL k) ∧ i7 = .int .i64 (firstG (namedF ⟨fn, fv⟩) (fixedL.take k) 0) ∧ i20 = .int .i64 k ∧ k ≤ 24 ∧ Below (w.heap.size + 1) (w.alloc (.cells #[.string fn, .string fv] 74)) wr) (fun _ _ i _ => 24 - (intOf i).toNat)
  case atStart => exact ⟨0, rfl, rfl, rfl, Nat.zero_le _, Below.refl _ _⟩
  case round =>
    obtain ⟨k, rfl, rfl, rfl, hk, hbel⟩ := hrel
    obtain ⟨wh, hwh⟩ : ∃ x, x = lastN (isF ⟨fn, fv⟩) 0 fixedL k := ⟨_, rfl⟩
    obtain ⟨nm, hnm⟩ : ∃ x, x = firstG (namedF ⟨fn, fv⟩) (fixedL.take k) 0 := ⟨_, rfl⟩
    rw [← hwh, ← hnm]
    have HWH := Lib.hid hwh
    have HNM := Lib.hid hnm
    clear hwh hnm
    have BW : Hid (Below (w.alloc (.cells #[.string fn, .string fv] 74)).heap.size (w.alloc (.cells #[.string fn, .string fv] 74)) wr) := (by simpa using hbel : Below _ _ _)
    have hX := BX.out.below BW.out
    have x0 : wr.cell? ⟨w.heap.size, 0, none⟩ = some (.string fn) := hX.get 0 _ rfl
    have x1 : wr.cell? ⟨w.heap.size, 1, none⟩ = some (.string fv) := hX.get 1 _ rfl
    have z0 : w.heap.size < wr.heap.size := hX.lt
    by_cases hkl : k < 24
    · have hkf : k < fixedL.length := by rw [fixed_len]; exact hkl
      have hix := HIX.out k hkf
      have s1 := lastN_step (isF ⟨fn, fv⟩) 0 fixedL k hkf
      have s2 := firstG_take (namedF ⟨fn, fv⟩) fixedL k hkf
      rw [Nat.zero_add] at s1
      obtain ⟨⟨x, v⟩, hfd⟩ : ∃ fd, fd = fixedL[k]'hkf := ⟨_, rfl⟩
      rw [← hfd] at hix s1 s2
      rw [← HWH.out] at s1
      rw [← HNM.out] at s2
      simp only at hix
      clear hfd hkf
      have hi1 : (k : Int) < 24 := by omega
      have hi2 : (0 : Int) ≤ (k : Int) := by omega
      have hw1 : IntKind.i64.wrap ((k : Int) + 1) = ((k + 1 : Nat) : Int) := by rw [wraps_i64' _ (by omega) (by omega)]; omega
      have HKL := Lib.hid hkl
      have fin : ∀ W, Below wr.heap.size wr W → Below (w.heap.size + 1) (w.alloc (.cells #[.string fn, .string fv] 74)) W := fun W hW => hbel.trans (hW.mono (by omega))
      have FIN := Lib.hid fin
      have hgd := guardF
      by_cases h1 : x = fn
      · subst h1
        have n1 : namedF ⟨x, fv⟩ ⟨x, v⟩ = true := by simp [namedF]
        by_cases h2 : v = fv
        · subst h2
          have m1 : isF ⟨x, v⟩ ⟨x, v⟩ = true := by simp [isF]
          rw [if_pos m1] at s1
          have qe : ∀ W, (Op.equalIn 10000 74 (.agg #[.string x, .string v]) (.agg #[.string x, .string v])).run Tryz.prog W = .ok true W := fun W => by rw [eqF_any ⟨x, v⟩ ⟨x, v⟩, decide_eq_true rfl]
          by_cases hnm1 : nm = -1
          · rw [if_pos hnm1, if_pos n1] at s2
            subst hnm1
            have S1 := Lib.hid s1
            have S2 := Lib.hid s2
            clear s1 s2 n1 m1 hbel hX hkl hk fin BW
            go_wp2
            refine ⟨⟨k + 1, by rw [S1.out] <;> first | rfl | simp, by rw [S2.out] <;> first | rfl | simp, by first | rfl | simp, HKL.out, FIN.out _ (below1 _ _)⟩, by simp [intOf]; have := HKL.out; omega⟩
          · rw [if_neg hnm1] at s2
            have hnb : (nm == -1) = false := by simpa using hnm1
            have HN1 := Lib.hid hnm1
            clear hnm1
            have S1 := Lib.hid s1
            have S2 := Lib.hid s2
            clear s1 s2 n1 m1 hbel hX hkl hk fin BW
            go_wp2
            refine ⟨⟨k + 1, by rw [S1.out] <;> first | rfl | simp, by rw [S2.out] <;> first | rfl | simp, by first | rfl | simp, HKL.out, FIN.out _ (below1 _ _)⟩, by simp [intOf]; have := HKL.out; omega⟩
        · have m1 : ¬ isF ⟨x, fv⟩ ⟨x, v⟩ = true := by simp [isF, h2]
          rw [if_neg m1] at s1
          have qe : ∀ W, (Op.equalIn 10000 74 (.agg #[.string x, .string v]) (.agg #[.string x, .string fv])).run Tryz.prog W = .ok false W := fun W => by rw [eqF_any ⟨x, v⟩ ⟨x, fv⟩, decide_eq_false (by simp [h2])]
          have H2 := Lib.hid h2
          clear h2
          by_cases hnm1 : nm = -1
          · rw [if_pos hnm1, if_pos n1] at s2
            subst hnm1
            have S1 := Lib.hid s1
            have S2 := Lib.hid s2
            clear s1 s2 n1 m1 hbel hX hkl hk fin BW
            go_wp2
            refine ⟨⟨k + 1, by rw [S1.out] <;> first | rfl | simp, by rw [S2.out] <;> first | rfl | simp, by first | rfl | simp, HKL.out, FIN.out _ (below1 _ _)⟩, by simp [intOf]; have := HKL.out; omega⟩
          · rw [if_neg hnm1] at s2
            have hnb : (nm == -1) = false := by simpa using hnm1
            have HN1 := Lib.hid hnm1
            clear hnm1
            have S1 := Lib.hid s1
            have S2 := Lib.hid s2
            clear s1 s2 n1 m1 hbel hX hkl hk fin BW
            go_wp2
            refine ⟨⟨k + 1, by rw [S1.out] <;> first | rfl | simp, by rw [S2.out] <;> first | rfl | simp, by first | rfl | simp, HKL.out, FIN.out _ (below1 _ _)⟩, by simp [intOf]; have := HKL.out; omega⟩
      · have n1 : ¬ namedF ⟨fn, fv⟩ ⟨x, v⟩ = true := by simp [namedF, h1]
        have m1 : ¬ isF ⟨fn, fv⟩ ⟨x, v⟩ = true := by simp [isF, h1]
        rw [if_neg m1] at s1
        have s2' : firstG (namedF ⟨fn, fv⟩) (fixedL.take (k + 1)) 0 = nm := by
          rw [s2]
          by_cases hnm1 : nm = -1
          · rw [if_pos hnm1, if_neg n1, hnm1]
          · rw [if_neg hnm1]
        clear s2
        have s2 := s2'
        clear s2'
        have qe : ∀ W, (Op.equalIn 10000 74 (.agg #[.string x, .string v]) (.agg #[.string fn, .string fv])).run Tryz.prog W = .ok false W := fun W => by rw [eqF_any ⟨x, v⟩ ⟨fn, fv⟩, decide_eq_false (by simp [h1])]
        have tn : (x.toList == fn.toList) = false := by rw [str_beq]; exact decide_eq_false h1
        have H1 := Lib.hid h1
        clear h1
        have S1 := Lib.hid s1
        have S2 := Lib.hid s2
        clear s1 s2 n1 m1 hbel hX hkl hk fin BW
        go_wp2
        refine ⟨⟨k + 1, by rw [S1.out] <;> first | rfl | simp, by rw [S2.out] <;> first | rfl | simp, by first | rfl | simp, HKL.out, FIN.out _ (below1 _ _)⟩, by simp [intOf]; have := HKL.out; omega⟩
    · obtain rfl : k = 24 := by omega
      have hb := hbel.mono (Nat.le_succ w.heap.size)
      have H := Lib.hid (HB.out.trans hb)
      have T24 : Hid (fixedL.take 24 = fixedL) := (List.take_of_length_le (by rw [fixed_len]; omega) : fixedL.take 24 = fixedL)
      rw [T24.out] at HNM
      clear hbel hX hb
      go_wp2
      go_ret2
      exact ⟨by rw [← HWH.out, ← HNM.out]; rfl, H.out⟩

end Go.Proofs.YtbkbabaoockigaaGreatDoor

set_option maxRecDepth 100000
set_option maxRecDepth 100000
set_option linter.unusedSimpArgs false
set_option linter.unusedVariables false
namespace Go.Proofs.YtbkbabaoockigaaGreatDoor
open Go.ChangeShapes Go.WideShapes Go.ChangeAt Go.RowKit Go.Deep

theorem cellsStr : Tryz.prog.cellsOf 9 = 1 := by kernel_rfl
theorem cellsFd : Tryz.prog.cellsOf 74 = 2 := by kernel_rfl
theorem cellsInt : Tryz.prog.cellsOf 3 = 1 := by kernel_rfl
theorem cellsU8 : Tryz.prog.cellsOf 5 = 1 := by kernel_rfl
theorem cellsArr : Tryz.prog.cellsOf 144 = 48 := by kernel_rfl
/-- an act -/
structure ActV where
  k : Int
  n : Int
  f : Fd
def actCell (c : ActV) : List Value := [.int .u8 c.k, .int .i64 c.n, .string c.f.n, .string c.f.v]
def actC (l : List ActV) : List Value := l.flatMap actCell
theorem actC_get (l : List ActV) (i j : Nat) (hi : i < l.length) (hj : j < 4) : (actC l)[i * 4 + j]? = (actCell l[i])[j]? := flat_get actCell 4 (fun _ => rfl) l i j hi hj
/-- v READS AS THE SCRIPT l -/
def RdA (w : World) (v : Value) (l : List ActV) : Prop := RdC 4 w v l.length (actC l)
def ActOk (c : ActV) : Prop := 0 ≤ c.k ∧ c.k < 256
theorem RdA.at {w : World} {b o n c : Nat} {l : List ActV} (h : RdA w (.slice (some ⟨b, o, none⟩) n c) l) (hb : b < w.heap.size) (k : Nat) (hk : k < l.length) (W : World) (hW : Below w.heap.size w W) :
    W.cell? ⟨b, o + k * 4, none⟩ = some (.int .u8 (l[k]).k) ∧ W.cell? ⟨b, o + k * 4 + 1, none⟩ = some (.int .i64 (l[k]).n) ∧ W.cell? ⟨b, o + k * 4 + 2, none⟩ = some (.string (l[k]).f.n) ∧ W.cell? ⟨b, o + k * 4 + 3, none⟩ = some (.string (l[k]).f.v) := by
  have hn : n = l.length := by obtain ⟨_, _, e, _⟩ := RdC.isSlice h; simp only [Value.slice.injEq] at e; exact e.2.1
  subst hn
  have cell : ∀ j u, j < 4 → (actCell l[k])[j]? = some u → W.cell? ⟨b, o + k * 4 + j, none⟩ = some u := fun j u hj hu =>
    (hW.cell (p := ⟨b, _, none⟩) hb).trans (RdC.cell h (k * 4 + j) u ((actC_get l k j hk hj).trans hu) _ (by omega))
  exact ⟨cell 0 _ (by omega) rfl, cell 1 _ (by omega) rfl, cell 2 _ (by omega) rfl, cell 3 _ (by omega) rfl⟩
theorem RdC.form {m n : Nat} {w : World} {v : Value} {fl : List Value} (h : RdC m w v n fl) : (n = 0 ∧ ∃ a c, v = .slice a 0 c) ∨ ∃ b o c, v = .slice (some ⟨b, o, none⟩) n c ∧ b < w.heap.size ∧ n ≤ c ∧ c ≤ maxLen := by
  obtain ⟨_, ⟨h0, a, c, rfl, _⟩ | ⟨_, b, o, c, rfl, hc, hm, h4, _⟩⟩ := h
  · exact .inl ⟨h0, a, c, rfl⟩
  · exact .inr ⟨b, o, c, rfl, h4, hc, hm⟩

section
variable {H : Type} {enc : TypeId × Value → H}
/-- two cells that read as a field -/
theorem open_fdC {W : World} {base : Nat} {sp : Nat → Bool} {held : Bool} {fuel : Nat} {cs : List Value} {d : DataW H} {p : List MemPlace} (hf : DataW.trod enc Tryz.prog W base sp held fuel 74 cs = some (d, p)) (hl : cs.length = 2) :
    ∃ f : Fd, cs = fdCell f ∧ d = .agg [.lit (.string f.n.data.toList), .lit (.string f.v.data.toList)] := by
  obtain ⟨xs, k, _, hxy, _, hxl, hg⟩ := DataW.trod_struct Tryz.underlying74 hf
  match xs, hxl, cs, hl with
  | [y0, y1], _, [v0, v1], _ =>
    have g0 := hg 0 _ rfl
    have g1 := hg 1 _ rfl
    simp [cellsStr] at g0 g1
    simp only [Prod.mk.injEq] at hxy
    obtain ⟨rfl, rfl⟩ := hxy
    obtain ⟨s0, e0, q0, _⟩ := DataW.trod_string Tryz.underlying9 g0
    obtain ⟨s1, e1, q1, _⟩ := DataW.trod_string Tryz.underlying9 g1
    simp only [List.cons.injEq, and_true] at e0 e1
    exact ⟨⟨s0, s1⟩, by simp only [fdCell, e0, e1], by simp only [List.map_cons, List.map_nil, q0, q1]⟩
/-- A FIELD THAT CAME IN -/
theorem open_fd {W : World} {base : Nat} {v : Value} {d : DataW H} {p : List MemPlace} (hval : Value.okWide Tryz.prog W .any base 74 v) (h : DataW.Trod enc Tryz.prog W 0 (fun _ => true) true 74 v d p) :
    ∃ f : Fd, v = .agg #[.string f.n, .string f.v] ∧ d = .agg [.lit (.string f.n.data.toList), .lit (.string f.v.data.toList)] := by
  obtain ⟨cs, rfl, hsz⟩ := okWide_struct Tryz.underlying74 hval
  obtain ⟨fuel, hf⟩ := h
  have hl : (Value.agg cs).cells.toList.length = 2 := by
    rw [cellsFd] at hsz
    simpa [Value.cells] using hsz
  obtain ⟨f, e, hd⟩ := open_fdC hf hl
  refine ⟨f, ?_, hd⟩
  have : cs.toList = fdCell f := by simpa [Value.cells] using e
  rw [← Array.toArray_toList (xs := cs), this]; rfl
/-- A SLICE OF STRUCTS THAT CAME IN, whose m cells open as cell -/
theorem open_rows {α : Type} {P : Program} {W : World} {base m : Nat} {t e : TypeId} {v : Value} {d : DataW H} {p : List MemPlace} (cell : α → List Value) (ok : α → Prop) (z : α) (hm0 : 0 < m) (hcl : ∀ x, (cell x).length = m)
    (ht : P.underlying t = some (.slice e)) (hce : P.cellsOf e = m)
    (hopen : ∀ {fuel : Nat} {cs : List Value} {d : DataW H} {p : List MemPlace}, DataW.trod enc P W 0 (fun _ => true) true fuel e cs = some (d, p) → (∀ x ∈ p, x.block < W.heap.size) → cs.length = m → ∃ c, cs = cell c ∧ ok c)
    (hval : Value.okWide P W .any base t v) (h : DataW.Trod enc P W 0 (fun _ => true) true t v d p) (hlt : ∀ x ∈ p, x.block < W.heap.size) :
    ∃ l : List α, RdC m W v l.length (l.flatMap cell) ∧ (∀ c ∈ l, ok c) ∧ ((l = [] ∧ d = .nil) ∨ ∃ es rest, d = .slice es rest ∧ es.length = l.length) := by
  obtain ⟨a0, len0, cap0, rfl⟩ := okWide_slice ht hval
  obtain ⟨fuel, hf⟩ := h
  rcases open_slice ht hf with ⟨hcs, hx⟩ | ⟨a, len, cap, mm, n, D, Pl, hcs, _, hl, hm, hmm, hx, hcell⟩
  · simp [Value.cells] at hcs
    obtain ⟨rfl, rfl, rfl⟩ := hcs
    simp only [Prod.mk.injEq] at hx
    exact ⟨[], RdC.nil _ _, (fun c hc => by cases hc), .inl ⟨rfl, hx.1⟩⟩
  · simp [Value.cells] at hcs
    obtain ⟨rfl, rfl, rfl⟩ := hcs
    simp only [if_true] at hmm
    simp only [Prod.mk.injEq] at hx
    obtain ⟨rfl, rfl⟩ := hx
    rw [hce] at hcell hlt
    have each : ∀ i, i < len0 → ∃ c : α, (∀ j, j < m → W.cell? (a.add (i * m + j)) = (cell c)[j]?) ∧ ok c := by
      intro i hi
      obtain ⟨cs', h1, h2⟩ := hcell i (by omega)
      obtain ⟨_, hlen, hc⟩ := World.cells?_some h1
      obtain ⟨c, rfl, hg⟩ := hopen h2 (fun x hx => hlt x (List.mem_append_right _ (List.mem_flatMap.2 ⟨i, List.mem_range.2 (by omega), hx⟩))) hlen
      refine ⟨c, fun j hj => ?_, hg⟩
      have := hc j hj
      rw [add_add] at this
      exact this
    obtain ⟨G, hG⟩ : ∃ G : Nat → α, ∀ i, i < len0 → (∀ j, j < m → W.cell? (a.add (i * m + j)) = (cell (G i))[j]?) ∧ ok (G i) := by
      classical
      exact ⟨fun i => if h : ∃ c : α, (∀ j, j < m → W.cell? (a.add (i * m + j)) = (cell c)[j]?) ∧ ok c then h.choose else z, fun i hi => by
        simp only [dif_pos (each i hi)]
        exact (each i hi).choose_spec⟩
    have hlen : ((List.range len0).map G).length = len0 := by simp
    have hfl : ((List.range len0).map G |>.flatMap cell).length = len0 * m := by rw [flat_len cell m hcl, hlen]
    refine ⟨(List.range len0).map G, ?_, ?_, .inr ⟨_, _, rfl, by simp⟩⟩
    · rw [hlen]
      refine ⟨hfl, ?_⟩
      by_cases h0 : len0 = 0
      · subst h0
        exact .inl ⟨rfl, some a, cap0, rfl, hm, fun h => by cases h⟩
      · obtain ⟨b, off, spot⟩ := a
        have hspot : spot = none := by
          have := (hG 0 (by omega)).1 0 hm0
          rw [List.getElem?_eq_getElem (by rw [hcl]; exact hm0)] at this
          simpa [Addr.add] using World.cell?_spot this
        subst hspot
        have hb : b < W.heap.size := hlt (.cell b off) (List.mem_append_left _ (MemPlace.mem_row.2 ⟨0, Nat.mul_pos (by omega) hm0, by simp⟩))
        refine .inr ⟨by omega, b, off, cap0, rfl, hl, hm, hb, fun j u hu => ?_⟩
        have hj : j < len0 * m := by
          have := (List.getElem?_eq_some_iff.1 hu).1
          rw [hfl] at this; exact this
        have hd : j / m < len0 := (Nat.div_lt_iff_lt_mul hm0).2 hj
        have hq := (hG (j / m) hd).1 (j % m) (Nat.mod_lt _ hm0)
        have e2 : j / m * m + j % m = j := by rw [Nat.mul_comm]; exact Nat.div_add_mod j m
        rw [e2, add_plain] at hq
        have hf := flat_get cell m hcl ((List.range len0).map G) (j / m) (j % m) (by rw [hlen]; exact hd) (Nat.mod_lt _ hm0)
        rw [e2] at hf
        rw [hq, ← hu, hf]
        simp
    · intro c hc
      obtain ⟨i, hi, rfl⟩ := List.mem_map.1 hc
      exact (hG i (List.mem_range.1 hi)).2

theorem fd_sized {ts : List TypeId} {ds : List (DataW H)} (h : (DataW.weightsEach Tryz.prog ts ds).all (· ≤ reachBytes) = true) {j : Nat} {f : Fd} (ht : ts[j]? = some 74) (hd : ds[j]? = some (.agg [.lit (.string f.n.data.toList), .lit (.string f.v.data.toList)])) : SzF f := by
  have h0 := List.all_eq_true.1 h _ (DataW.weights_mem_each ht hd f.n.data.toList.length (by simp [DataW.weights, Tryz.underlying74, DataW.weightsEach]))
  have h1 := List.all_eq_true.1 h _ (DataW.weights_mem_each ht hd f.v.data.toList.length (by simp [DataW.weights, Tryz.underlying74, DataW.weightsEach]))
  have k0 : f.n.size ≤ reachBytes := of_decide_eq_true h0
  have k1 : f.v.size ≤ reachBytes := of_decide_eq_true h1
  have k2 := reachBytes_lt
  exact ⟨by omega, by omega⟩

/-- the fixed table, as the row lays it -/
def fixedData : DataW H := .agg (fixedL.map fun f => .agg [.lit (.string f.n.data.toList), .lit (.string f.v.data.toList)])
theorem cells_of_fixed {W : World} {base : Nat} {sp : Nat → Bool} {held : Bool} {fuel : Nat} {cs : List Value} {p : List MemPlace}
    (h : DataW.trod enc Tryz.prog W base sp held fuel 144 cs = some (fixedData, p)) : cs = fdC fixedL := by
  obtain ⟨xs, m, _, hx, hlen, hxl, hg⟩ := DataW.trod_array Tryz.underlying144 h
  rw [cellsArr] at hlen
  simp only [Prod.mk.injEq, fixedData, DataW.agg.injEq] at hx
  rw [cellsFd] at hg
  apply List.ext_getElem?
  intro i
  by_cases hi : i < 48
  · have hd2 : i / 2 < 24 := by omega
    have hg1 := hg (i / 2) hd2
    have hxs : i / 2 < xs.length := by rw [hxl]; exact hd2
    rw [List.getElem?_eq_getElem hxs] at hg1
    obtain ⟨f, e1, e2⟩ := open_fdC (d := xs[i / 2].1) (p := xs[i / 2].2) hg1 (by rw [List.length_take, List.length_drop, hlen]; omega)
    have e3 : (xs.map (·.1))[i / 2]? = some xs[i / 2].1 := by simp [hxs]
    rw [← hx.1] at e3
    have hfl : i / 2 < fixedL.length := by rw [fixed_len]; exact hd2
    rw [List.getElem?_map, List.getElem?_eq_getElem hfl] at e3
    simp only [Option.map_some, Option.some.injEq] at e3
    rw [e2] at e3
    simp only [DataW.agg.injEq, List.cons.injEq, DataW.lit.injEq, Lit.string.injEq, and_true] at e3
    have ef : f = fixedL[i / 2] := by
      rw [Fd.eq_iff]
      exact ⟨ByteArray.ext (Array.ext' e3.1.symm), ByteArray.ext (Array.ext' e3.2.symm)⟩
    subst ef
    have hc := fdC_get fixedL (i / 2) (i % 2) hfl (by omega)
    rw [show i / 2 * 2 + i % 2 = i by omega] at hc
    rw [hc, ← e1, List.getElem?_take, if_pos (by omega), List.getElem?_drop, show i / 2 * 2 + i % 2 = i by omega]
  · rw [List.getElem?_eq_none (by omega), List.getElem?_eq_none (by rw [fdC_len, fixed_len]; omega)]
end
theorem gFix : Tryz.prog.globalNamed "turnbuckle/qtab.fixed" = some 0 := by kernel_rfl
theorem gFixType : (Tryz.prog.globals[0]?).map (·.type) = some 144 := by kernel_rfl
theorem laid_is : (Rows.laid_turnbuckle_qtab_fixed : DataW Unit) = fixedData := by kernel_rfl
theorem fix_of_laid {W : World} (h : laidMetH Tryz.prog [("turnbuckle/qtab.fixed", Rows.laid_turnbuckle_qtab_fixed)] W) : Fix W := by
  rw [laid_is] at h
  obtain ⟨ps, ⟨g', t', cs, fuel, p, q, hg', ht', hvar, hd, _, _⟩, _⟩ := h
  obtain rfl := Option.some.inj (gFix.symm.trans hg')
  obtain rfl := Option.some.inj (gFixType.symm.trans ht')
  have hc := cells_of_fixed hd
  simp only [World.var?, gFix, Option.bind_some] at hvar
  split at hvar
  · rename_i cs' T fr he
    obtain rfl := Option.some.inj hvar
    refine ⟨T, fr, he.trans ?_⟩
    rw [← hc]
  · cases hvar
end Go.Proofs.YtbkbabaoockigaaGreatDoor

set_option maxRecDepth 100000
namespace Go.Proofs.YtbkbabaoockigaaGreatDoor
end Go.Proofs.YtbkbabaoockigaaGreatDoor

set_option maxRecDepth 100000
set_option maxRecDepth 100000
set_option linter.unusedSimpArgs false
set_option linter.unusedVariables false
set_option linter.unnecessarySimpa false
namespace Go.Proofs.YtbkbabaoockigaaGreatDoor
open Go.RowKit

/-- the program's table and the document's, both of the call's own, apart -/
structure P2 (B b : Nat) (sl : Value) (q1 : TQ) (c : Nat) (v : Value) (q2 : TQ) (w0 w : World) : Prop where
  ours : Tm B b sl q1 w0 w
  theirs : RTb c v q2 w
  low : B ≤ c
  ne : c ≠ b
  sne : ∀ j, sl.ownBlock = some j → j ≠ c
  vne : q2.l ≠ [] → ∀ j, v.ownBlock = some j → j ≠ b ∧ sl.ownBlock ≠ some j
theorem P2.below {B b : Nat} {sl : Value} {q1 : TQ} {c : Nat} {v : Value} {q2 : TQ} {w0 w w' : World} (h : P2 B b sl q1 c v q2 w0 w) (hb : Below w.heap.size w w') : P2 B b sl q1 c v q2 w0 w' :=
  ⟨h.ours.below hb, h.theirs.below hb, h.low, h.ne, h.sne, h.vne⟩
theorem P2.drewN {B b : Nat} {sl : Value} {q1 : TQ} {c : Nat} {v : Value} {q2 : TQ} {w0 w : World} (h : P2 B b sl q1 c v q2 w0 w) (n : Nat) : P2 B b sl q1 c v q2 w0 (w.drewN n) := h.below (below_drewN (Below.refl _ _) n)
theorem P2.step1 {B b : Nat} {sl : Value} {q1 q' : TQ} {c : Nat} {v : Value} {q2 : TQ} {w0 w w' : World} (h : P2 B b sl q1 c v q2 w0 w) (hd : Step B b sl q' w0 w w') : ∃ sl', P2 B b sl' q' c v q2 w0 w' := by
  obtain ⟨sl', h1, h2, h3⟩ := hd
  refine ⟨sl', h1, h.theirs.keep h3 (fun hm => ?_) (fun h0 j hj hm => ?_), h.low, h.ne, fun j hj => ?_, fun h0 j hj => ⟨(h.vne h0 j hj).1, fun e => ?_⟩⟩
  · rcases mem_TS.1 hm with e | e
    · exact h.ne e
    · exact h.sne _ e rfl
  · rcases mem_TS.1 hm with e | e
    · exact (h.vne h0 j hj).1 e
    · exact (h.vne h0 j hj).2 e
  · rcases h2 j hj with e | e
    · exact h.sne j e
    · have := h.theirs.lt; omega
  · rcases h2 j e with e1 | e1
    · exact (h.vne h0 j hj).2 e1
    · have := h.theirs.vlt h0 j hj; omega
theorem P2.step2 {B b : Nat} {sl : Value} {q1 : TQ} {c : Nat} {v : Value} {q2 q' : TQ} {w0 w w' : World} (h : P2 B b sl q1 c v q2 w0 w) (hd : RDid c v q2 q' w w') : ∃ v', P2 B b sl q1 c v' q' w0 w' := by
  obtain ⟨v', h1, h2, h3⟩ := hd
  refine ⟨v', h.ours.keep h3 (fun i hi => by simp at hi; subst hi; exact h.low) (by simp; exact fun e => h.ne e.symm) (fun j hj => by simp; exact h.sne j hj), h1, h.low, h.ne, h.sne, fun h0 j hj => ?_⟩
  rcases h2 h0 j hj with ⟨e0, e⟩ | e
  · exact h.vne e0 j e
  · have h5 := h.ours.tbl.lt
    refine ⟨by omega, fun e1 => ?_⟩
    have := h.ours.tbl.slt j e1; omega

/-- how a count grows -/
theorem setCap_count (q : TQ) (n : Int) : countN (setCapE q n).1 = countN q := by
  unfold setCapE
  split
  · rfl
  · exact shrink_count _ _
theorem insert_count (q : TQ) (f : Fd) : countN (insertE q f).1 ≤ countN q + 1 := by
  unfold insertE
  split
  · simp
  · split
    · simp
    · have := shrink_count (q.cap - roomF f) q
      simp only [countN, List.length_append, List.length_singleton] at this ⊢
      omega
/-- what a script's act makes of a table -/
def actE (q : TQ) (c : ActV) : TQ := if c.k % 4 = 0 then (insertE q c.f).1 else if c.k % 4 = 1 then (setCapE q c.n).1 else q
theorem act_count (q : TQ) (c : ActV) : countN (actE q c) ≤ countN q + 1 := by
  unfold actE
  split
  · exact insert_count q c.f
  · split
    · rw [setCap_count]; omega
    · omega
end Go.Proofs.YtbkbabaoockigaaGreatDoor
