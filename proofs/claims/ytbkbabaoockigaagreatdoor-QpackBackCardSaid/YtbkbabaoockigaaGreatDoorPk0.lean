/- Layer 14, out of layer lib's text Gen. -/
/- Layer 14, out of layer lib's text Be. -/
/- Layer 14, out of layer lib's text Row. -/
/- Layer 14, out of layer lib's text RowW. -/
/- Layer 14, out of layer lib's text Keep. -/
/- Layer 14, out of layer lib's text Lift. -/
import Derived.Test.YtbkbabaoockigaaGreatDoorRows
import Derived.WalkKit
import Derived.Handy
import Derived.Lib.Hide
import Derived.MapKept
import Derived.Deep.QuietTactic
import Derived.BigQuiet
import Derived.Deep.DeepCutAuto
import Derived.Laws.CopyOwn
import Derived.Laws.StructEq
import Derived.Deep.Slices
import Derived.Lib.SliceRun
import Derived.ProofKit
import Derived.OpenShut
import Derived.SizedLaws
import Derived.Carry
import Derived.Deep.DeepHandedRow
set_option maxRecDepth 100000
namespace Go.Proofs.YtbkbabaoockigaaGreatDoor
open Go.RowKit

/-- THE SLICE v READS AS THE NUMBERS xs. -/
def Rd (k : IntKind) (w : World) (v : Value) (xs : List Int) : Prop :=
  (xs = [] ∧ ∃ a c, v = .slice a 0 c ∧ c ≤ maxLen ∧ (a = none → c = 0)) ∨
  (xs ≠ [] ∧ ∃ b o c, v = .slice (some ⟨b, o, none⟩) xs.length c ∧ xs.length ≤ c ∧ c ≤ maxLen ∧ b < w.heap.size ∧ ∀ i, i < xs.length → w.cell? ⟨b, o + i, none⟩ = some (.int k (xs.getD i 0)))

theorem Rd.nil (k : IntKind) (w : World) : Rd k w (.slice none 0 0) [] := .inl ⟨rfl, none, 0, rfl, by simp, fun _ => rfl⟩

theorem Rd.below {k : IntKind} {w w' : World} {v : Value} {xs : List Int} (h : Rd k w v xs) (hb : Below w.heap.size w w') : Rd k w' v xs := by
  rcases h with h | ⟨h0, b, o, c, h1, h2, h3, h4, h5⟩
  · exact .inl h
  · exact .inr ⟨h0, b, o, c, h1, h2, h3, Nat.lt_of_lt_of_le h4 hb.size, fun i hi => (hb.cell (p := ⟨b, o + i, none⟩) h4).trans (h5 i hi)⟩

theorem Rd.len {k : IntKind} {w : World} {v : Value} {xs : List Int} (h : Rd k w v xs) : xs.length ≤ maxLen := by
  rcases h with ⟨rfl, _⟩ | ⟨_, b, o, c, h1, h2, h3, _⟩
  · simp
  · exact Nat.le_trans h2 h3

/-- what a call has built reads as its numbers -/
theorem Rd.of_owns {k : IntKind} {w : World} {B e : Nat} {v : Value} {xs : List Int} (h : w.ownsRow B e 1 v xs.length (xs.map (Value.int k))) : Rd k w v xs := by
  have h0 := h
  obtain ⟨_, hc⟩ := h
  rcases hc with ⟨rfl, hn⟩ | ⟨g, cap, cur, rfl, hb, hg, hn, hm, hs, ht⟩
  · exact .inl ⟨List.length_eq_zero_iff.1 hn, none, 0, rfl, by simp, fun _ => rfl⟩
  · by_cases hx : xs = []
    · subst hx; exact .inl ⟨rfl, _, cap, rfl, hm, fun h => by cases h⟩
    · refine .inr ⟨hx, g, 0, cap, rfl, hn, hm, (Array.getElem?_eq_some_iff.1 hg).1, fun i hi => ?_⟩
      rw [Nat.zero_add, h0.cellAt i (by omega)]
      simp [List.getD, List.getElem?_eq_getElem hi]

/-- bytes -/
def Bts (xs : List Int) : Prop := ∀ x ∈ xs, 0 ≤ x ∧ x < 256

theorem Rd.conv {P : Program} {w : World} {v : Value} {xs : List Int} {src e dst : Nat} (h : Rd .u8 w v xs) (hs : P.underlying src = some (.slice e)) (he : P.underlying e = some (.int .u8)) (hd : P.underlying dst = some .string) :
    (convert src dst v).run P w = .ok (.string (strOfNums xs)) w := by
  rcases h with ⟨rfl, a, c, rfl, _, _⟩ | ⟨h0, b, o, c, rfl, h2, h3, h4, h5⟩
  · rw [run_convert_bytes_string w src dst e a 0 c hs he hd]
    cases a with
    | none => simp [Conv.bytesToString]; rfl
    | some a =>
      rw [run_bytesToString w a 0 c [] (by simp [loadCells, loadCellsFrom, Sem.run_pure])]
      rfl
  · exact run_convert_bytes_arg w src e hs he b o xs.length c xs rfl h5 dst hd

theorem u8_inj {a b : Int} (ha : 0 ≤ a ∧ a < 256) (hb : 0 ≤ b ∧ b < 256) (h : UInt8.ofNat a.toNat = UInt8.ofNat b.toNat) : a = b := by
  have := congrArg UInt8.toNat h
  simp only [UInt8.toNat_ofNat'] at this
  omega

theorem str_inj {xs ys : List Int} (hx : Bts xs) (hy : Bts ys) (h : strOfNums xs = strOfNums ys) : xs = ys := by
  have h1 : xs.map (fun n => UInt8.ofNat n.toNat) = ys.map (fun n => UInt8.ofNat n.toNat) := by
    have := congrArg (fun s : ByteArray => s.data.toList) h
    simpa [strOfNums] using this
  clear h
  induction xs generalizing ys with
  | nil => cases ys with
    | nil => rfl
    | cons y ys => simp at h1
  | cons x xs ih =>
    cases ys with
    | nil => simp at h1
    | cons y ys =>
      simp only [List.map_cons, List.cons.injEq] at h1
      rw [u8_inj (hx x (by simp)) (hy y (by simp)) h1.1, ih (fun z hz => hx z (by simp [hz])) (fun z hz => hy z (by simp [hz])) h1.2]

theorem str_eq {xs ys : List Int} (hx : Bts xs) (hy : Bts ys) : (strOfNums xs == strOfNums ys) = decide (xs = ys) := by
  rw [Bool.eq_iff_iff, Go.MapKept.bytes_beq, decide_eq_true_iff]
  exact ⟨str_inj hx hy, fun h => by rw [h]⟩
theorem str_eq' {xs ys : List Int} (hx : Bts xs) (hy : Bts ys) : ((strOfNums xs).toList == (strOfNums ys).toList) = decide (xs = ys) := by
  rw [← beq_toListBytes]; exact str_eq hx hy

/-- THE ELEMENT's ROW OF THE TABLE -/
structure Elem (P : Program) (e : TypeId) (k : IntKind) (bytes : Nat) : Prop where
  under : P.underlying e = some (.int k)
  info : ∃ i, P.info? e = some i ∧ i.zero = some (.int k 0) ∧ i.size = 1 ∧ i.bytes = bytes

/-- v IS A ROW OF THE CALL's OWN (made from block B on) THAT HOLDS xs -/
def Own (k : IntKind) (e : TypeId) (w : World) (B : Nat) (v : Value) (xs : List Int) : Prop := w.ownsRow B e 1 v xs.length (xs.map (Value.int k))

theorem Own.nil (k : IntKind) (e : TypeId) (w : World) (B : Nat) : Own k e w B (.slice none 0 0) [] := World.ownsRow_nil w B e 1
theorem Own.rd {k : IntKind} {e B : Nat} {w : World} {v : Value} {xs : List Int} (h : Own k e w B v xs) : Rd k w v xs := Rd.of_owns h
theorem Own.mono {k : IntKind} {e B B' : Nat} {w : World} {v : Value} {xs : List Int} (h : Own k e w B v xs) (hb : B' ≤ B) : Own k e w B' v xs := by
  obtain ⟨h1, h2⟩ := h
  refine ⟨h1, ?_⟩
  rcases h2 with h2 | ⟨g, cap, cur, a1, a2, a3⟩
  · exact .inl h2
  · exact .inr ⟨g, cap, cur, a1, Nat.le_trans hb a2, a3⟩
theorem Own.below {k : IntKind} {e B : Nat} {w w' : World} {v : Value} {xs : List Int} (h : Own k e w B v xs) (hb : Below w.heap.size w w') : Own k e w' B v xs := by
  obtain ⟨h1, h2⟩ := h
  refine ⟨h1, ?_⟩
  rcases h2 with h2 | ⟨g, cap, cur, a1, a2, a3, a4⟩
  · exact .inl h2
  · exact .inr ⟨g, cap, cur, a1, a2, by rw [hb.block g (Array.getElem?_eq_some_iff.1 a3).1]; exact a3, a4⟩
theorem Own.drew {k : IntKind} {e B : Nat} {w : World} {v : Value} {xs : List Int} (h : Own k e w B v xs) : Own k e w.drew B v xs := h

theorem Rd.one (k : IntKind) (e : TypeId) (w : World) (x : Int) : Rd k (w.alloc (.cells #[.int k x] e)) (.slice (some ⟨w.heap.size, 0, none⟩) 1 1) [x] :=
  .inr ⟨by simp, w.heap.size, 0, 1, rfl, by simp, by simp [maxLen], by simp, fun i hi => by
    obtain rfl : i = 0 := by simpa using hi
    rw [World.cell?_alloc_at _ _ _ _ rfl]; rfl⟩

theorem Rd.lit {k : IntKind} {e : TypeId} {w : World} (xs : List Int) (h0 : xs ≠ []) (n : Nat) (hn : n = xs.length) (hm : n ≤ maxLen) (cs : Array Value) (hc : cs = (xs.map (Value.int k)).toArray) :
    Rd k (w.alloc (.cells cs e)) (.slice (some ⟨w.heap.size, 0, none⟩) n n) xs := by
  subst hn; subst hc
  refine .inr ⟨h0, w.heap.size, 0, xs.length, rfl, Nat.le_refl _, hm, by simp, fun i hi => ?_⟩
  rw [World.cell?_alloc_at _ _ _ _ rfl]
  simp [List.getD, List.getElem?_eq_getElem hi]
theorem Rd.mono {k : IntKind} {w w' : World} {v : Value} {xs : List Int} {B : Nat} (h : Rd k w v xs) (hb : Below B w w') (hB : w.heap.size ≤ B) : Rd k w' v xs := h.below (hb.mono hB)
theorem Own.blt {k : IntKind} {e B : Nat} {w : World} {v : Value} {xs : List Int} (h : Own k e w B v xs) : ∀ j, v.ownBlock = some j → j < w.heap.size := fun j hj => (World.ownsRow.lt h j hj).2

/-- the cells of what is appended -/
theorem Rd.src {k : IntKind} {w : World} {b o : Nat} {xs : List Int} (h : ∀ i, i < xs.length → w.cell? ⟨b, o + i, none⟩ = some (.int k (xs.getD i 0))) :
    ∀ j u, (xs.map (Value.int k))[j]? = some u → w.cell? ((⟨b, o, none⟩ : Addr).add j) = some u := by
  intro j u hu
  have hj : j < xs.length := by simpa using (List.getElem?_eq_some_iff.1 hu).1
  rw [Addr.add_lit, h j hj]
  simp [List.getD, List.getElem?_eq_getElem hj] at hu ⊢
  exact hu

/-- append OF WHATEVER READS AS ys ONTO A ROW OF THE CALL's OWN -/
theorem wpList_append_rd {P : Program} (w : World) {ops : Array Oper} {rest : List Oper} {o : Oper} {a : Act} {Q : Exit → Act → World → Prop} (hgd : o.guard = none) (s x : Operand) (t : TypeId)
    (ho : o.op = .call { callee := .builtin .append, args := #[s, x], argTypes := #[t, t] }) {e : TypeId} {k : IntKind} {bytes : Nat} (hE : Elem P e k bytes) (ht : P.underlying t = some (.slice e))
    (B : Nat) (v : Value) (xs : List Int) (hs : a.eval s = v) (hown : Own k e w B v xs) (u : Value) (ys : List Int) (hx : a.eval x = u) (hr : Rd k w u ys)
    (hby : (xs.length + ys.length) * bytes ≤ 140737488355328) (h63 : xs.length + ys.length ≤ maxLen) (hB : B ≤ w.heap.size)
    (h : ∀ v' w', Own k e w' B v' (xs ++ ys) → w.grownBy w' v.ownBlock → wpList P ops Q rest (a.put o.dst v') w') : wpList P ops Q (o :: rest) a w := by
  obtain ⟨i, hi, hz, hsz, hbs⟩ := hE.info
  have fin : ∀ v' w', w'.ownsRow B e 1 v' (xs.length + ys.length) (xs.map (Value.int k) ++ ys.map (Value.int k)) → w.grownBy w' v.ownBlock → wpList P ops Q rest (a.put o.dst v') w' :=
    fun v' w' h1 h2 => h v' w' (show w'.ownsRow B e 1 v' (xs ++ ys).length _ by rw [List.length_append, List.map_append]; exact h1) h2
  rcases hr with ⟨rfl, ad, c, rfl, hc, hn⟩ | ⟨h0, b, off, c, rfl, h2, h3, h4, h5⟩
  · cases ad with
    | none =>
      obtain rfl := hn rfl
      refine wpList_plain hgd fun K hK => ?_
      have hrun := run_append_owned_none (P := P) w B t o.type e i 1 ht hi v xs.length _ hown
      unfold Oper.wp
      simp only [execOp, ho, resolve, invoke, builtin, Sem.run_bind, Sem.run_pure, Result.andThen_ok, List.map_toArray, List.map_cons, List.map_nil, hs, hx, hrun]
      exact hK _ _ (fin v w (by simpa [Own] using hown) (World.grownBy.refl w _))
    | some ad =>
      exact wpList_append_own w hgd s x t ho B e i (.int k 0) 1 bytes ht hi hz hsz hbs rfl (by omega) v xs.length _ hs hown ad 0 c [] hx rfl (fun j u hu => by simp at hu) (fun u hu => by simp at hu) (by simpa using h63) (by simpa using hby) hB
        fun v' w' a1 a2 _ => fin v' w' (by simpa using a1) a2
  · exact wpList_append_own w hgd s x t ho B e i (.int k 0) 1 bytes ht hi hz hsz hbs rfl (by omega) v xs.length _ hs hown ⟨b, off, none⟩ ys.length c (ys.map (Value.int k)) hx (by simp) (Rd.src h5) (ints_oneCell k ys) h63 hby hB
        fun v' w' a1 a2 _ => fin v' w' a1 a2

/-- make([]T, n) -/
theorem wpList_make_nums {P : Program} (w : World) {ops : Array Oper} {rest : List Oper} {o : Oper} {a : Act} {Q : Exit → Act → World → Prop} (hgd : o.guard = none) (l c : Operand) (t : TypeId) (hop : o.op = Op.makeSlice t l c)
    {e : TypeId} {k : IntKind} {bytes : Nat} (hE : Elem P e k bytes) (ht : P.underlying t = some (.slice e)) (kl kc : IntKind) (L C : Int) (n : Nat) (hl : a.eval l = .int kl L) (hc : a.eval c = .int kc C) (hL : L = (n : Int)) (hC : C = (n : Int))
    (hby : bytes * n ≤ 281474976710656) (h63 : n ≤ maxLen) (B : Nat) (hB : B ≤ w.heap.size)
    (hK : ∀ w', Own k e w' B (.slice (some ⟨w.heap.size, 0, none⟩) n n) (List.replicate n 0) → w.grownBy w' none → wpList P ops Q rest (a.put o.dst (.slice (some ⟨w.heap.size, 0, none⟩) n n)) w') : wpList P ops Q (o :: rest) a w := by
  obtain ⟨i, hi, hz, hsz, hbs⟩ := hE.info
  refine wpList_make_full w hgd l c t hop B e i (.int k 0) 1 ht hi hz hsz kl kc L C n hl hc hL hC (by rw [hbs]; exact hby) h63 hB fun w' h1 h2 => hK w' ?_ h2
  have : (madeCells (Value.cells (.int k 0)) (n * 1)).toList = (List.replicate n (0 : Int)).map (Value.int k) := by
    rw [Nat.mul_one]; show (madeCells #[Value.int k 0] n).toList = _; rw [toList_madeCells_one]; simp
  rw [this] at h1
  show w'.ownsRow B e 1 _ (List.replicate n (0 : Int)).length _
  rw [List.length_replicate]; exact h1

/-- copy(dst, src): dst a row of the call's own, at least as long as src -/
theorem wpList_copy_rd {P : Program} (w : World) {ops : Array Oper} {rest : List Oper} {o : Oper} {a : Act} {Q : Exit → Act → World → Prop} (hgd : o.guard = none) (d s : Operand) (dT sT : TypeId)
    (ho : o.op = .call { callee := .builtin .copy, args := #[d, s], argTypes := #[dT, sT] }) {e : TypeId} {k : IntKind} {bytes : Nat} (hE : Elem P e k bytes) (ht : P.underlying dT = some (.slice e))
    (B : Nat) (v : Value) (xs : List Int) (hd : a.eval d = v) (hown : Own k e w B v xs) (u : Value) (ys : List Int) (hs : a.eval s = u) (hr : Rd k w u ys) (hle : ys.length ≤ xs.length)
    (h : ∀ w', Own k e w' B v (ys ++ xs.drop ys.length) → w.grownBy w' v.ownBlock → wpList P ops Q rest (a.put o.dst (goInt ys.length)) w') : wpList P ops Q (o :: rest) a w := by
  obtain ⟨i, hi, hz, hsz, hbs⟩ := hE.info
  have hi1 : (P.info? e).map (·.size) = some 1 := by rw [hi]; simp [hsz]
  have hv : ∃ da dl dc, v = .slice da dl dc ∧ dl = xs.length := by
    rcases hown.2 with ⟨rfl, h0⟩ | ⟨g, cap, cur, rfl, _⟩
    · exact ⟨none, 0, 0, rfl, h0.symm⟩
    · exact ⟨_, _, _, rfl, rfl⟩
  rcases hr with ⟨rfl, ad, c, rfl, hc, hn⟩ | ⟨h0, b, off, c, rfl, h2, h3, h4, h5⟩
  · obtain ⟨da, dl, dc, rfl, rfl⟩ := hv
    exact wpList_copy_nothing hgd d s dT sT ho e ht hi1 da ad xs.length dc 0 c hd hs (Nat.zero_min _) (h w (by simpa using hown) (World.grownBy.refl w _))
  · have hown' := hown
    obtain ⟨q1, q2⟩ := hown
    rcases q2 with ⟨rfl, hx0⟩ | ⟨g, cap, cur, rfl, hb, hg, hn, hm, hcs, htk⟩
    · exact absurd (List.length_eq_zero_iff.1 (show ys.length = 0 by omega)) h0
    · have hcur : cur.size = cap := by rw [hcs, Nat.mul_one]
      refine wpList_copy_own hgd d s dT sT ho e ht hi1 g 0 xs.length cap ⟨b, off, none⟩ ys.length c hd hs cur e hg (ys.map (Value.int k)) (by rw [List.length_map]; exact (Nat.min_eq_left hle).symm) (Rd.src h5) (by simp; omega) (ints_oneCell k ys) ?_
      rw [List.length_map]
      refine h _ ?_ ?_
      · refine ⟨by simp, .inr ⟨g, cap, _, ?_, hb, setRow_heap w g _ _ e _ hg, by simp; omega, hm, by simp; omega, ?_⟩⟩
        · simp; omega
        · rw [Nat.mul_one] at htk ⊢
          simp only [List.take_zero, List.nil_append, Nat.zero_add, List.map_append, List.length_append, List.length_drop]
          rw [show ys.length + (xs.length - ys.length) = xs.length by omega, List.take_append, List.length_map, List.take_of_length_le (by simp; omega), ← List.drop_take, List.map_drop, ← htk]
      · exact ⟨rfl, rfl, rfl, by simp [World.setRow], fun j _ hj => setRow_other w g j _ (fun e => hj (by rw [e]; rfl))⟩

theorem Own.alloc {k : IntKind} {e B : Nat} {w : World} {v : Value} {xs : List Int} (h : Own k e w B v xs) (o : Obj) : Own k e (w.alloc o) B v xs := World.ownsRow.alloc h o
theorem Own.at {k : IntKind} {e B : Nat} {w : World} {g n cap : Nat} {xs : List Int} (h : Own k e w B (.slice (some ⟨g, 0, none⟩) n cap) xs) (j : Nat) (hj : j < xs.length) :
    w.cell? ⟨g, j, none⟩ = some (.int k (xs.getD j 0)) ∧ w.frozen? ⟨g, j, none⟩ = false := by
  have hn : n = xs.length := by
    rcases h.2 with ⟨q, _⟩ | ⟨g', cap', cur, q, _⟩
    · cases q
    · simp only [Value.slice.injEq] at q; exact q.2.1
  subst hn
  refine ⟨?_, World.ownsRow.frozenAt h j⟩
  have := World.ownsRow.cellAt h j (by omega)
  rw [this]; simp [List.getD, List.getElem?_eq_getElem hj]
theorem Own.set {k : IntKind} {e B : Nat} {w : World} {g n cap : Nat} {xs : List Int} (h : Own k e w B (.slice (some ⟨g, 0, none⟩) n cap) xs) (j : Nat) (x : Int) :
    Own k e (w.setCell ⟨g, j, none⟩ (.int k x)) B (.slice (some ⟨g, 0, none⟩) n cap) (xs.set j x) := by
  have hn : n = xs.length := by
    rcases h.2 with ⟨q, _⟩ | ⟨g', cap', cur, q, _⟩
    · cases q
    · simp only [Value.slice.injEq] at q; exact q.2.1
  subst hn
  have := (World.ownsRow.stored h j (.int k x)).1
  unfold Own
  rw [List.length_set, List.map_set]; exact this
theorem Own.len {k : IntKind} {e B : Nat} {w : World} {v : Value} {xs : List Int} (h : Own k e w B v xs) : ∃ a c, v = .slice a xs.length c := by
  rcases h.2 with ⟨q, h0⟩ | ⟨g', cap', cur, q, _⟩
  · exact ⟨none, 0, by rw [h0]; exact q⟩
  · exact ⟨_, _, q⟩
theorem Rd.isSlice {k : IntKind} {w : World} {v : Value} {xs : List Int} (h : Rd k w v xs) : ∃ a c, v = .slice a xs.length c := by
  rcases h with ⟨rfl, a, c, rfl, _⟩ | ⟨_, b, o, c, rfl, _⟩
  · exact ⟨_, _, rfl⟩
  · exact ⟨_, _, rfl⟩
theorem grew {B : Nat} {a w w' : World} {row : Option Nat} (h : Below B a w) (hg : w.grownBy w' row) (hB : B ≤ w.heap.size) (hr : ∀ k, row = some k → B ≤ k) : Below B a w' := h.grown hg hB hr
theorem Own.blk {k : IntKind} {e B : Nat} {w : World} {v : Value} {xs : List Int} (h : Own k e w B v xs) : ∀ j, v.ownBlock = some j → B ≤ j := fun j hj => (World.ownsRow.lt h j hj).1
theorem ret_bool {a b : Bool} (h : a = b) : Ending.returned (.bool a) = .returned (.bool b) := by rw [h]
theorem ret_int {k : IntKind} {a b : Int} (h : a = b) : Ending.returned (.int k a) = .returned (.int k b) := by rw [h]
theorem Bts.append {xs ys : List Int} (h : Bts xs) (k : Bts ys) : Bts (xs ++ ys) := by
  intro x hx
  rcases List.mem_append.1 hx with hx | hx
  · exact h x hx
  · exact k x hx
theorem getD_bts {xs : List Int} (hx : Bts xs) (j : Nat) : 0 ≤ xs.getD j 0 ∧ xs.getD j 0 < 256 := by
  by_cases h : j < xs.length
  · exact hx _ (by simp [List.getD, List.getElem?_eq_getElem h])
  · have : xs.getD j 0 = 0 := by simp [List.getD, List.getElem?_eq_none (Nat.le_of_not_lt h)]
    omega
theorem Rd.cellOf {k : IntKind} {w : World} {b o : Nat} {xs : List Int} (h : ∀ i, i < xs.length → w.cell? ⟨b, o + i, none⟩ = some (.int k (xs.getD i 0))) (i j : Nat) (hj : j = o + i) (hi : i < xs.length) :
    w.cell? ⟨b, j, none⟩ = some (.int k (xs.getD i 0)) := by subst hj; exact h i hi
theorem Rd.lit' {k : IntKind} {e : TypeId} {w : World} (xs : List Int) (h0 : xs ≠ []) (n b : Nat) (hn : n = xs.length) (hm : n ≤ maxLen) (cs : Array Value) (hc : cs = (xs.map (Value.int k)).toArray) (hb : b = w.heap.size) :
    Rd k (w.alloc (.cells cs e)) (.slice (some ⟨b, 0, none⟩) n n) xs := by subst hb; exact Rd.lit xs h0 n hn hm cs hc

/-- WHAT A LAW's CALL COMES TO: true, and all that was there is as it was -/
def Yes (w : World) (e : Ending) (w' : World) : Prop := e = .returned (.bool true) ∧ Below w.heap.size w w'

theorem Rd.one' (k : IntKind) (e : TypeId) (w : World) (x : Int) (b : Nat) (hb : b = w.heap.size) : Rd k (w.alloc (.cells #[.int k x] e)) (.slice (some ⟨b, 0, none⟩) 1 1) [x] := by subst hb; exact Rd.one k e w x
theorem Own.keep {k : IntKind} {e B : Nat} {w w' : World} {v : Value} {xs : List Int} (h : Own k e w B v xs) (hb : Below w.heap.size w w') : Own k e w' B v xs := h.below hb
theorem below_drewN {B : Nat} {a w : World} (h : Below B a w) (n : Nat) : Below B a (w.drewN n) := ⟨h.os, h.tape, h.output, h.size, h.block⟩

theorem Own.kept {k : IntKind} {e B : Nat} {w w' : World} {v : Value} {xs : List Int} {row : Option Nat} (h : Own k e w B v xs) (hg : w.grownBy w' row) (hne : ∀ j, v.ownBlock = some j → row ≠ some j) : Own k e w' B v xs := by
  refine World.ownsRow.kept h hg ?_
  cases hv : v.ownBlock with
  | none => exact .inl rfl
  | some j => exact .inr fun e => hne j hv e.symm
/-- make([]T, 0, n): a row of n zeros, none of them handed out yet -/
theorem wpList_make_cap {P : Program} (w : World) {ops : Array Oper} {rest : List Oper} {o : Oper} {a : Act} {Q : Exit → Act → World → Prop} (hgd : o.guard = none) (l c : Operand) (t : TypeId) (hop : o.op = Op.makeSlice t l c)
    {e : TypeId} {k : IntKind} {bytes : Nat} (hE : Elem P e k bytes) (ht : P.underlying t = some (.slice e)) (kl kc : IntKind) (C : Int) (n : Nat) (hl : a.eval l = .int kl 0) (hc : a.eval c = .int kc C) (hC : C = (n : Int))
    (hby : bytes * n ≤ 281474976710656) (h63 : n ≤ maxLen) (B : Nat) (hB : B ≤ w.heap.size)
    (hK : ∀ w', Own k e w' B (.slice (some ⟨w.heap.size, 0, none⟩) n n) (List.replicate n 0) → w.grownBy w' none → wpList P ops Q rest (a.put o.dst (.slice (some ⟨w.heap.size, 0, none⟩) 0 n)) w') : wpList P ops Q (o :: rest) a w := by
  obtain ⟨i, hi, hz, hsz, hbs⟩ := hE.info
  subst hC
  have hr := run_make (P := P) w t e i (.int k 0) ht hi hz kl kc 0 (n : Int) (Int.le_refl _) (by omega) (by rw [hbs]; have h : ((bytes * n : Nat) : Int) ≤ ((281474976710656 : Nat) : Int) := Int.ofNat_le.2 hby; rw [Int.natCast_mul] at h; exact h) (by unfold maxLen at h63; omega)
  refine wpList_plain hgd fun K hK' => ?_
  unfold Oper.wp
  simp [execOp, hop, hl, hc, hr, Result.andThen]
  have e1 : (madeCells (Value.cells (.int k 0)) (n * i.size)).toList = (List.replicate n (0 : Int)).map (Value.int k) := by
    rw [hsz, Nat.mul_one]; show (madeCells #[Value.int k 0] n).toList = _; rw [toList_madeCells_one]; simp
  have own := World.ownsRow_lit (base := B) (e := e) (size := 1) w (madeCells (Value.cells (.int k 0)) (n * i.size)) n hB h63 (by rw [size_madeCells, hsz])
  rw [e1] at own
  refine hK' _ _ (hK _ ?_ (World.grownBy_alloc w _ none))
  show World.ownsRow _ B e 1 _ (List.replicate n (0 : Int)).length _
  rw [List.length_replicate]
  exact own

/-- append INTO THE ROOM of a row of the call's own, whose cells are known to the end -/
theorem wpList_append_room {P : Program} (w : World) {ops : Array Oper} {rest : List Oper} {o : Oper} {a : Act} {Q : Exit → Act → World → Prop} (hgd : o.guard = none) (s x : Operand) (t : TypeId)
    (ho : o.op = .call { callee := .builtin .append, args := #[s, x], argTypes := #[t, t] }) {e : TypeId} {k : IntKind} {bytes : Nat} (hE : Elem P e k bytes) (ht : P.underlying t = some (.slice e))
    (B g n cap : Nat) (xs : List Int) (hs : a.eval s = .slice (some ⟨g, 0, none⟩) n cap) (hown : Own k e w B (.slice (some ⟨g, 0, none⟩) cap cap) xs) (u : Value) (ys : List Int) (hx : a.eval x = u) (hr : Rd k w u ys) (hroom : n + ys.length ≤ cap)
    (h : ∀ w', Own k e w' B (.slice (some ⟨g, 0, none⟩) cap cap) (xs.take n ++ ys ++ xs.drop (n + ys.length)) → w.grownBy w' (some g) → wpList P ops Q rest (a.put o.dst (.slice (some ⟨g, 0, none⟩) (n + ys.length) cap)) w') : wpList P ops Q (o :: rest) a w := by
  obtain ⟨i, hi, hz, hsz, hbs⟩ := hE.info
  have hown0 := hown
  obtain ⟨hxl, hc⟩ := hown
  rcases hc with ⟨q, _⟩ | ⟨g', cap', cur, q, hBg, hg, hn, hm, hcs, htk⟩
  · cases q
  simp only [Value.slice.injEq, Option.some.injEq, Addr.mk.injEq, and_true] at q
  obtain ⟨rfl, hcx, rfl⟩ := q
  have hcur : cur.toList = xs.map (Value.int k) := by
    rw [← htk, List.take_of_length_le (by rw [Array.length_toList, hcs, hcx]; omega)]
  have fin : ∀ news : List Value, news = ys.map (Value.int k) → ∀ w', w'.heap[g]? = some (.cells (cur.toList.take n ++ news ++ cur.toList.drop (n + news.length)).toArray e (0, 0)) → w.grownBy w' (some g) → wpList P ops Q rest (a.put o.dst (.slice (some ⟨g, 0, none⟩) (n + ys.length) cap)) w' := by
    intro news hnw w' hw' hgr
    subst hnw
    refine h w' ⟨by simp, .inr ⟨g, cap, _, ?_, hBg, hw', by simp; omega, hm, ?_, ?_⟩⟩ hgr
    · have : (xs.take n ++ ys ++ xs.drop (n + ys.length)).length = cap := by simp; omega
      rw [this]
    · rw [hcur]; simp; omega
    · rw [hcur]
      simp only [List.map_append, List.map_take, List.map_drop, List.length_map]
      rw [List.take_of_length_le (by simp)]
  rcases hr with ⟨rfl, ad, c, rfl, hc, hno⟩ | ⟨h0, b, off, c, rfl, h2, h3, h4, h5⟩
  · cases ad with
    | none =>
      obtain rfl := hno rfl
      refine wpList_plain hgd fun K hK => ?_
      have hrun : (Builtin.append_ #[t, t] o.type #[.slice (some ⟨g, 0, none⟩) n cap, .slice none 0 0]).run P w = .ok (.slice (some ⟨g, 0, none⟩) n cap) w := by
        simp [Builtin.append_, run_underlying ht, sizeOf, typeInfo, hi, Builtin.lenOf, Builtin.firstCells, storeCells, show n ≤ cap by simpa using hroom]
      unfold Oper.wp
      simp only [execOp, ho, resolve, invoke, builtin, Sem.run_bind, Sem.run_pure, Result.andThen_ok, List.map_toArray, List.map_cons, List.map_nil, hs, hx, hrun]
      refine hK _ _ (fin [] rfl _ ?_ (World.grownBy.refl w _))
      rw [hg]; simp
    | some ad =>
      refine wpList_plain hgd fun K hK => ?_
      have hrun := run_append_room (P := P) w t o.type e i ht hi g n cap cur hg ad 0 c [] (by simp) (fun j u hu => by simp at hu) (fun u hu => by simp at hu) hroom (by rw [hsz, hcs]; simp at hroom ⊢; omega)
      unfold Oper.wp
      simp only [execOp, ho, resolve, invoke, builtin, Sem.run_bind, Sem.run_pure, Result.andThen_ok, List.map_toArray, List.map_cons, List.map_nil, hs, hx, hrun]
      refine hK _ _ (fin [] rfl _ ?_ ?_)
      · rw [setRow_heap w g _ _ e _ hg, hsz]; simp
      · exact ⟨rfl, rfl, rfl, by simp [World.setRow], fun j _ hj => setRow_other w g j _ (fun e => hj (by rw [e]))⟩
  · refine wpList_plain hgd fun K hK => ?_
    have hrun := run_append_room (P := P) w t o.type e i ht hi g n cap cur hg ⟨b, off, none⟩ ys.length c (ys.map (Value.int k)) (by rw [hsz]; simp) (Rd.src h5) (ints_oneCell k ys) hroom (by rw [hsz, hcs]; simp; omega)
    unfold Oper.wp
    simp only [execOp, ho, resolve, invoke, builtin, Sem.run_bind, Sem.run_pure, Result.andThen_ok, List.map_toArray, List.map_cons, List.map_nil, hs, hx, hrun]
    refine hK _ _ (fin (ys.map (Value.int k)) rfl _ ?_ ?_)
    · rw [setRow_heap w g _ _ e _ hg, hsz]; simp
    · exact ⟨rfl, rfl, rfl, by simp [World.setRow], fun j _ hj => setRow_other w g j _ (fun e => hj (by rw [e]))⟩

/-- the first ones of a row of the call's own -/
theorem Own.front {k : IntKind} {e B : Nat} {w : World} {g n cap : Nat} {zs : List Int} (h : Own k e w B (.slice (some ⟨g, 0, none⟩) n cap) zs) (m : Nat) (hm : m ≤ zs.length) : Rd k w (.slice (some ⟨g, 0, none⟩) m cap) (zs.take m) := by
  have hl : (zs.take m).length = m := by rw [List.length_take]; omega
  have h0 := h
  rcases h.2 with ⟨q, _⟩ | ⟨g', cap', cur, q, hb, hg, hn, hmx, hcs, htk⟩
  · cases q
  simp only [Value.slice.injEq, Option.some.injEq, Addr.mk.injEq, and_true] at q
  obtain ⟨rfl, rfl, rfl⟩ := q
  by_cases hm0 : m = 0
  · subst hm0
    exact .inl ⟨by simp, _, _, rfl, hmx, fun h => by cases h⟩
  · refine .inr ⟨fun h => hm0 (by rw [← hl, h]; rfl), g, 0, cap, by rw [hl], by omega, hmx, (Array.getElem?_eq_some_iff.1 hg).1, fun i hi => ?_⟩
    rw [hl] at hi
    rw [Nat.zero_add, (h0.at i (by omega)).1]
    simp [List.getD, hi]

theorem Own.shape {k : IntKind} {e B : Nat} {w : World} {a : Option Addr} {n c : Nat} {xs : List Int} (h : Own k e w B (.slice a n c) xs) (hx : 0 < xs.length) : ∃ g, a = some ⟨g, 0, none⟩ ∧ B ≤ g := by
  rcases h.2 with ⟨q, h0⟩ | ⟨g', cap', cur, q, hb, _⟩
  · omega
  · simp only [Value.slice.injEq] at q
    exact ⟨g', q.1, hb⟩


end Go.Proofs.YtbkbabaoockigaaGreatDoor

set_option maxRecDepth 100000
namespace Go.Proofs.YtbkbabaoockigaaGreatDoor
open Go.RowKit

theorem elemU8 : Elem Tryz.prog 5 .u8 1 := ⟨Tryz.underlying5, info_parts (by kernel_rfl)⟩

/-- the lowest k bytes of m, the highest first -/
def be (m : Nat) : Nat → List Int
  | 0 => []
  | k + 1 => be (m / 256) k ++ [((m % 256 : Nat) : Int)]
theorem be_len (m k : Nat) : (be m k).length = k := by
  induction k generalizing m with
  | zero => rfl
  | succ k ih => simp [be, ih]
theorem be_cons (m k : Nat) : be m (k + 1) = ((m / 256 ^ k % 256 : Nat) : Int) :: be m k := by
  induction k generalizing m with
  | zero => simp [be]
  | succ k ih => rw [be, ih, be, Nat.div_div_eq_div_mul, List.cons_append, ← Nat.pow_succ']
theorem be_bts (m k : Nat) : Bts (be m k) := by
  induction k generalizing m with
  | zero => intro x hx; simp [be] at hx
  | succ k ih =>
    intro x hx
    rw [be, List.mem_append] at hx
    rcases hx with hx | hx
    · exact ih _ x hx
    · obtain rfl := List.mem_singleton.1 hx; omega
theorem be_take (m W j : Nat) (h : j < W) : (be m W).take (j + 1) = (be m W).take j ++ [((m / 256 ^ (W - 1 - j) % 256 : Nat) : Int)] := by
  induction W generalizing j with
  | zero => omega
  | succ W ih =>
    rw [be_cons]
    cases j with
    | zero => simp
    | succ j =>
      rw [List.take_succ_cons, ih j (by omega), List.take_succ_cons, List.cons_append, show W + 1 - 1 - (j + 1) = W - 1 - j by omega]
theorem be_all (m W : Nat) : (be m W).take W = be m W := List.take_of_length_le (by rw [be_len]; exact Nat.le_refl _)
theorem be_inj {m m' : Nat} : ∀ {k : Nat}, m < 256 ^ k → m' < 256 ^ k → be m k = be m' k → m = m' := by
  intro k
  induction k generalizing m m' with
  | zero => intro h h' _; simp at h h'; omega
  | succ k ih =>
    intro h h' he
    rw [be, be] at he
    obtain ⟨h1, h2⟩ := List.append_inj he (by rw [be_len, be_len])
    rw [Nat.pow_succ] at h h'
    have h3 := ih (Nat.div_lt_of_lt_mul (by rw [Nat.mul_comm]; exact h)) (Nat.div_lt_of_lt_mul (by rw [Nat.mul_comm]; exact h')) h1
    have h4 : ((m % 256 : Nat) : Int) = ((m' % 256 : Nat) : Int) := (List.cons.inj h2).1
    omega

end Go.Proofs.YtbkbabaoockigaaGreatDoor

set_option maxRecDepth 100000
namespace Go.Proofs.YtbkbabaoockigaaGreatDoor
open Go.RowKit

/-- v READS AS n ELEMENTS OF m CELLS EACH; fl: all cells, one behind the other -/
def RdC (m : Nat) (w : World) (v : Value) (n : Nat) (fl : List Value) : Prop :=
  fl.length = n * m ∧
  ((n = 0 ∧ ∃ a c, v = .slice a 0 c ∧ c ≤ maxLen ∧ (a = none → c = 0)) ∨
   (0 < n ∧ ∃ b o c, v = .slice (some ⟨b, o, none⟩) n c ∧ n ≤ c ∧ c ≤ maxLen ∧ b < w.heap.size ∧ ∀ j u, fl[j]? = some u → w.cell? ⟨b, o + j, none⟩ = some u))

theorem RdC.nil (m : Nat) (w : World) : RdC m w (.slice none 0 0) 0 [] := ⟨by simp, .inl ⟨rfl, none, 0, rfl, by simp, fun _ => rfl⟩⟩
theorem RdC.isSlice {m n : Nat} {w : World} {v : Value} {fl : List Value} (h : RdC m w v n fl) : ∃ a c, v = .slice a n c ∧ n ≤ c ∧ c ≤ maxLen := by
  obtain ⟨_, ⟨rfl, a, c, rfl, hc, _⟩ | ⟨_, b, o, c, rfl, h2, h3, _⟩⟩ := h
  · exact ⟨_, _, rfl, Nat.zero_le _, hc⟩
  · exact ⟨_, _, rfl, h2, h3⟩
theorem RdC.kept {m n : Nat} {w w' : World} {v : Value} {fl : List Value} {row : Option Nat} (h : RdC m w v n fl) (hg : w.grownBy w' row) (hne : ∀ j, v.ownBlock = some j → row ≠ some j) : RdC m w' v n fl := by
  obtain ⟨h0, h | ⟨h1, b, o, c, rfl, h2, h3, h4, h5⟩⟩ := h
  · exact ⟨h0, .inl h⟩
  · exact ⟨h0, .inr ⟨h1, b, o, c, rfl, h2, h3, Nat.lt_of_lt_of_le h4 hg.size, fun j u hu => hg.cell (h5 j u hu) (fun e => hne b rfl e.symm)⟩⟩
theorem RdC.below {m n : Nat} {w w' : World} {v : Value} {fl : List Value} (h : RdC m w v n fl) (hb : Below w.heap.size w w') : RdC m w' v n fl := by
  obtain ⟨h0, h | ⟨h1, b, o, c, rfl, h2, h3, h4, h5⟩⟩ := h
  · exact ⟨h0, .inl h⟩
  · exact ⟨h0, .inr ⟨h1, b, o, c, rfl, h2, h3, Nat.lt_of_lt_of_le h4 hb.size, fun j u hu => (hb.cell (p := ⟨b, o + j, none⟩) h4).trans (h5 j u hu)⟩⟩
theorem RdC.blt {m n : Nat} {w : World} {v : Value} {fl : List Value} (h : RdC m w v n fl) (hn : 0 < n) : ∀ j, v.ownBlock = some j → j < w.heap.size := by
  intro j hj
  obtain ⟨_, ⟨rfl, _⟩ | ⟨_, b, o, c, rfl, h2, h3, h4, _⟩⟩ := h
  · omega
  · simp only [Value.ownBlock, Option.some.injEq] at hj; subst hj; exact h4
theorem RdC.of_owns {m n B e : Nat} {w : World} {v : Value} {fl : List Value} (h : w.ownsRow B e m v n fl) : RdC m w v n fl := by
  have h0 := h
  obtain ⟨hl, hc⟩ := h
  refine ⟨hl, ?_⟩
  rcases hc with ⟨rfl, rfl⟩ | ⟨g, cap, cur, rfl, hb, hg, hn, hm, hs, ht⟩
  · exact .inl ⟨rfl, none, 0, rfl, by simp, fun _ => rfl⟩
  · by_cases hx : n = 0
    · subst hx; exact .inl ⟨rfl, _, cap, rfl, hm, fun h => by cases h⟩
    · refine .inr ⟨by omega, g, 0, cap, rfl, hn, hm, (Array.getElem?_eq_some_iff.1 hg).1, fun j u hu => ?_⟩
      have := World.ownsRow.cells h0 (g := g) rfl j u hu
      rw [Addr.add_lit] at this
      exact this

theorem Rd.kept {k : IntKind} {w w' : World} {v : Value} {xs : List Int} {row : Option Nat} (h : Rd k w v xs) (hg : w.grownBy w' row) (hne : ∀ j, v.ownBlock = some j → row ≠ some j) : Rd k w' v xs := by
  rcases h with h | ⟨h1, b, o, c, rfl, h2, h3, h4, h5⟩
  · exact .inl h
  · exact .inr ⟨h1, b, o, c, rfl, h2, h3, Nat.lt_of_lt_of_le h4 hg.size, fun i hi => hg.cell (h5 i hi) (fun e => hne b rfl e.symm)⟩
theorem block_kept {w w' : World} {row : Option Nat} {b : Nat} {o : Obj} (h : w.heap[b]? = some o) (hg : w.grownBy w' row) (hne : row ≠ some b) : w'.heap[b]? = some o :=
  (hg.block b (Array.getElem?_eq_some_iff.1 h).1 (fun e => hne e.symm)).trans h
theorem grownBy_trans {a b c : World} {row : Option Nat} (h : a.grownBy b row) (k : b.grownBy c row) : a.grownBy c row :=
  ⟨k.os.trans h.os, k.tape.trans h.tape, k.output.trans h.output, Nat.le_trans h.size k.size, fun j hj hne => (k.block j (Nat.lt_of_lt_of_le hj h.size) hne).trans (h.block j hj hne)⟩
theorem grownBy_none {a b : World} {row : Option Nat} (h : a.grownBy b none) : a.grownBy b row := ⟨h.os, h.tape, h.output, h.size, fun j hj _ => h.block j hj (by simp)⟩
theorem grownBy_new {a b : World} {row : Option Nat} {j : Nat} (h : a.grownBy b (some j)) (hj : a.heap.size ≤ j) : a.grownBy b row :=
  ⟨h.os, h.tape, h.output, h.size, fun k hk _ => h.block k hk (fun e => by cases e; omega)⟩
theorem grownBy_of_below {a b : World} {row : Option Nat} (h : Below a.heap.size a b) : a.grownBy b row := ⟨h.os, h.tape, h.output, h.size, fun j hj _ => h.block j hj⟩
theorem grownBy_drewN {a b : World} {row : Option Nat} (h : a.grownBy b row) (n : Nat) : a.grownBy (b.drewN n) row := ⟨h.os, h.tape, h.output, h.size, h.block⟩
theorem grownBy_drew {a b : World} {row : Option Nat} (h : a.grownBy b row) : a.grownBy b.drew row := ⟨h.os, h.tape, h.output, h.size, h.block⟩
theorem grownBy_alloc' {a b : World} {row : Option Nat} (h : a.grownBy b row) (o : Obj) : a.grownBy (b.alloc o) row := grownBy_trans h (World.grownBy_alloc b o row)
theorem grownBy_set {a b : World} {row : Option Nat} (h : a.grownBy b row) (p : Addr) (v : Value) (hp : row = some p.block ∨ a.heap.size ≤ p.block) : a.grownBy (b.setCell p v) row := by
  have k : Below 0 b (b.setCell p v) := (Below.refl 0 b).setCell (Nat.zero_le _) v
  refine ⟨k.os.trans h.os, k.tape.trans h.tape, k.output.trans h.output, Nat.le_trans h.size k.size, fun j hj hne => ?_⟩
  rw [← h.block j hj hne]
  refine Below.heap_setCell _ _ _ _ ?_
  rcases hp with hp | hp
  · rw [hp] at hne; exact fun e => hne (by rw [e])
  · omega

/-- THE ELEMENT's ROW OF THE TABLE, a struct -/
structure ElemC (P : Program) (e : TypeId) (m bytes : Nat) (z : Value) : Prop where
  info : ∃ i, P.info? e = some i ∧ i.zero = some z ∧ i.size = m ∧ i.bytes = bytes
  size : z.cells.size = m
  pos : 0 < m

/-- append OF WHATEVER READS AS n MORE ELEMENTS ONTO A ROW OF THE CALL's OWN -/
theorem wpList_append_rows {P : Program} (w : World) {ops : Array Oper} {rest : List Oper} {o : Oper} {a : Act} {Q : Exit → Act → World → Prop} (hgd : o.guard = none) (s x : Operand) (t : TypeId)
    (ho : o.op = .call { callee := .builtin .append, args := #[s, x], argTypes := #[t, t] }) {e : TypeId} {m bytes : Nat} {z : Value} (hE : ElemC P e m bytes z) (ht : P.underlying t = some (.slice e))
    (B : Nat) (v : Value) (n : Nat) (fl : List Value) (hs : a.eval s = v) (hown : w.ownsRow B e m v n fl) (u : Value) (k : Nat) (gl : List Value) (hx : a.eval x = u) (hr : RdC m w u k gl) (hone : ∀ u ∈ gl, u.oneCell' = true)
    (hby : (n + k) * bytes ≤ 140737488355328) (h63 : n + k ≤ maxLen) (hB : B ≤ w.heap.size)
    (h : ∀ v' w', w'.ownsRow B e m v' (n + k) (fl ++ gl) → w.grownBy w' v.ownBlock → wpList P ops Q rest (a.put o.dst v') w') : wpList P ops Q (o :: rest) a w := by
  obtain ⟨i, hi, hz, hsz, hbs⟩ := hE.info
  obtain ⟨hlen, ⟨rfl, ad, c, rfl, hc, hn⟩ | ⟨h0, b, off, c, rfl, h2, h3, h4, h5⟩⟩ := hr
  · obtain rfl : gl = [] := List.eq_nil_of_length_eq_zero (by simpa using hlen)
    cases ad with
    | none =>
      obtain rfl := hn rfl
      refine wpList_plain hgd fun K hK => ?_
      have hrun := run_append_owned_none (P := P) w B t o.type e i m ht hi v n _ hown
      unfold Oper.wp
      simp only [execOp, ho, resolve, invoke, builtin, Sem.run_bind, Sem.run_pure, Result.andThen_ok, List.map_toArray, List.map_cons, List.map_nil, hs, hx, hrun]
      exact hK _ _ (h v w (by simpa using hown) (World.grownBy.refl w _))
    | some ad =>
      exact wpList_append_own w hgd s x t ho B e i z m bytes ht hi hz hsz hbs hE.size hE.pos v n _ hs hown ad 0 c [] hx (by simp) (fun j u hu => by simp at hu) (fun u hu => by simp at hu) (by simpa using h63) (by simpa using hby) hB
        fun v' w' a1 a2 _ => h v' w' a1 a2
  · exact wpList_append_own w hgd s x t ho B e i z m bytes ht hi hz hsz hbs hE.size hE.pos v n _ hs hown ⟨b, off, none⟩ k c gl hx hlen (fun j u hu => by rw [Addr.add_lit]; exact h5 j u hu) hone h63 hby hB
      fun v' w' a1 a2 _ => h v' w' a1 a2

/-- a list of elements of m cells each, laid flat -/
theorem flat_len {α : Type} (c : α → List Value) (m : Nat) (hc : ∀ x, (c x).length = m) (l : List α) : (l.flatMap c).length = l.length * m := by
  induction l with
  | nil => simp
  | cons x l ih => simp [hc, ih, Nat.succ_mul]; omega
theorem flat_get {α : Type} (c : α → List Value) (m : Nat) (hc : ∀ x, (c x).length = m) (l : List α) (i j : Nat) (hi : i < l.length) (hj : j < m) : (l.flatMap c)[i * m + j]? = (c l[i])[j]? := by
  induction l generalizing i with
  | nil => simp at hi
  | cons x l ih =>
    cases i with
    | zero => simp [List.getElem?_append_left, hc, hj]
    | succ i =>
      simp only [List.length_cons] at hi
      rw [List.flatMap_cons, List.getElem?_append_right (by rw [hc, Nat.succ_mul]; omega), hc, show (i + 1) * m + j - m = i * m + j by rw [Nat.succ_mul]; omega, ih i (by omega)]
      simp
theorem RdC.cell {m n : Nat} {w : World} {b o c : Nat} {fl : List Value} (h : RdC m w (.slice (some ⟨b, o, none⟩) n c) n fl) (q : Nat) (u : Value) (hu : fl[q]? = some u) (r : Nat) (hr : r = o + q) : w.cell? ⟨b, r, none⟩ = some u := by
  subst hr
  obtain ⟨h0, ⟨rfl, _⟩ | ⟨_, b', o', c', e, _, _, _, h5⟩⟩ := h
  · obtain rfl : fl = [] := List.eq_nil_of_length_eq_zero (by simpa using h0)
    simp at hu
  · simp only [Value.slice.injEq, Option.some.injEq, Addr.mk.injEq, and_true, true_and] at e
    obtain ⟨⟨rfl, rfl⟩, rfl⟩ := e
    exact h5 q u hu

/-- append OF WHATEVER READS AS ys ONTO A ROW OF THE CALL's OWN, as one operation -/
theorem wp_append_rd {P : Program} (w : World) {o : Oper} {a : Act} {K : Act → World → Prop} {Q : Exit → Act → World → Prop} (s x : Operand) (t : TypeId)
    (ho : o.op = .call { callee := .builtin .append, args := #[s, x], argTypes := #[t, t] }) {e : TypeId} {k : IntKind} {bytes : Nat} (hE : Elem P e k bytes) (ht : P.underlying t = some (.slice e))
    (B : Nat) (v : Value) (xs : List Int) (hs : a.eval s = v) (hown : Own k e w B v xs) (u : Value) (ys : List Int) (hx : a.eval x = u) (hr : Rd k w u ys)
    (hby : (xs.length + ys.length) * bytes ≤ 140737488355328) (h63 : xs.length + ys.length ≤ maxLen) (hB : B ≤ w.heap.size)
    (h : ∀ v' w', Own k e w' B v' (xs ++ ys) → w.grownBy w' v.ownBlock → K (a.put o.dst v') w') : o.wp P a w K Q := by
  obtain ⟨i, hi, hz, hsz, hbs⟩ := hE.info
  have fin : ∀ v' w', w'.ownsRow B e 1 v' (xs.length + ys.length) (xs.map (Value.int k) ++ ys.map (Value.int k)) → w.grownBy w' v.ownBlock → K (a.put o.dst v') w' :=
    fun v' w' h1 h2 => h v' w' (show w'.ownsRow B e 1 v' (xs ++ ys).length _ by rw [List.length_append, List.map_append]; exact h1) h2
  rcases hr with ⟨rfl, ad, c, rfl, hc, hn⟩ | ⟨h0, b, off, c, rfl, h2, h3, h4, h5⟩
  · cases ad with
    | none =>
      obtain rfl := hn rfl
      have hrun := run_append_owned_none (P := P) w B t o.type e i 1 ht hi v xs.length _ hown
      unfold Oper.wp
      simp only [execOp, ho, resolve, invoke, builtin, Sem.run_bind, Sem.run_pure, Result.andThen_ok, List.map_toArray, List.map_cons, List.map_nil, hs, hx, hrun]
      exact fin v w (by simpa [Own] using hown) (World.grownBy.refl w _)
    | some ad =>
      exact wp_append_own w s x t ho B e i (.int k 0) 1 bytes ht hi hz hsz hbs rfl (by omega) v xs.length _ hs hown ad 0 c [] hx rfl (fun j u hu => by simp at hu) (fun u hu => by simp at hu) (by simpa using h63) (by simpa using hby) hB
        fun v' w' a1 a2 _ => fin v' w' (by simpa using a1) a2
  · exact wp_append_own w s x t ho B e i (.int k 0) 1 bytes ht hi hz hsz hbs rfl (by omega) v xs.length _ hs hown ⟨b, off, none⟩ ys.length c (ys.map (Value.int k)) hx (by simp) (Rd.src h5) (ints_oneCell k ys) h63 hby hB
      fun v' w' a1 a2 _ => fin v' w' a1 a2
/-- the same in a region that draws its order -/
theorem step_append_rd {P : Program} {ops : Array Oper} {w : World} {o : Oper} {a : Act} {K : Act → World → Prop} {Q : Exit → Act → World → Prop} {E : Prop} (hgd : o.guard = none) (s x : Operand) (t : TypeId)
    (ho : o.op = .call { callee := .builtin .append, args := #[s, x], argTypes := #[t, t] }) {e : TypeId} {k : IntKind} {bytes : Nat} (hE : Elem P e k bytes) (ht : P.underlying t = some (.slice e))
    (B : Nat) (v : Value) (xs : List Int) (hs : a.eval s = v) (hown : Own k e w B v xs) (u : Value) (ys : List Int) (hx : a.eval x = u) (hr : Rd k w u ys)
    (hby : (xs.length + ys.length) * bytes ≤ 140737488355328) (h63 : xs.length + ys.length ≤ maxLen) (hB : B ≤ w.heap.size)
    (h : ∀ v' w', Own k e w' B v' (xs ++ ys) → w.grownBy w' v.ownBlock → K (a.put o.dst v') w') : if Region.wanted o (yielded ops a.tmps) = true then Oper.wp P o a w K Q else E := by
  rw [if_pos (by simp [Region.wanted, hgd])]
  exact wp_append_rd w s x t ho hE ht B v xs hs hown u ys hx hr hby h63 hB h

/-- a part of a slice -/
theorem Rd.cut {k : IntKind} {w : World} {b o n c : Nat} {xs : List Int} (h : Rd k w (.slice (some ⟨b, o, none⟩) n c) xs) (i m : Nat) (him : i + m ≤ n) (ao : Option Addr) (hao : ¬ c = i → ao = some ⟨b, o + i, none⟩) (hn : ao ≠ none) : Rd k w (.slice ao m (c - i)) ((xs.drop i).take m) := by
  have hl : n = xs.length ∧ n ≤ c ∧ c ≤ maxLen := by
    rcases h with ⟨rfl, a, c', q, hc, _⟩ | ⟨h0, b', o', c', q, h2, h3, h4, h5⟩
    · simp only [Value.slice.injEq] at q; obtain ⟨_, rfl, rfl⟩ := q; exact ⟨rfl, Nat.zero_le _, hc⟩
    · simp only [Value.slice.injEq] at q; obtain ⟨_, rfl, rfl⟩ := q; exact ⟨rfl, h2, h3⟩
  obtain ⟨rfl, hc, hm⟩ := hl
  have hlen : ((xs.drop i).take m).length = m := by rw [List.length_take, List.length_drop]; omega
  by_cases hm0 : m = 0
  · subst hm0
    exact .inl ⟨by simp, ao, c - i, rfl, by omega, fun h => absurd h hn⟩
  · rw [hao (by omega)]
    rcases h with ⟨rfl, _⟩ | ⟨h0, b', o', c', q, h2, h3, h4, h5⟩
    · simp at him; omega
    · simp only [Value.slice.injEq, Option.some.injEq, Addr.mk.injEq, and_true, true_and] at q
      obtain ⟨⟨rfl, rfl⟩, rfl⟩ := q
      refine .inr ⟨fun h => hm0 (by rw [← hlen, h]; rfl), b, o + i, c - i, by rw [hlen], by rw [hlen]; omega, by omega, h4, fun j hj => ?_⟩
      rw [hlen] at hj
      rw [show o + i + j = o + (i + j) by omega, h5 (i + j) (by omega)]
      simp [List.getD, hj]

/-- append of elements onto a row of the call's own, as one operation -/
theorem wp_append_rows {P : Program} (w : World) {o : Oper} {a : Act} {K : Act → World → Prop} {Q : Exit → Act → World → Prop} (s x : Operand) (t : TypeId)
    (ho : o.op = .call { callee := .builtin .append, args := #[s, x], argTypes := #[t, t] }) {e : TypeId} {m bytes : Nat} {z : Value} (hE : ElemC P e m bytes z) (ht : P.underlying t = some (.slice e))
    (B : Nat) (v : Value) (n : Nat) (fl : List Value) (hs : a.eval s = v) (hown : w.ownsRow B e m v n fl) (u : Value) (k : Nat) (gl : List Value) (hx : a.eval x = u) (hr : RdC m w u k gl) (hone : ∀ u ∈ gl, u.oneCell' = true)
    (hby : (n + k) * bytes ≤ 140737488355328) (h63 : n + k ≤ maxLen) (hB : B ≤ w.heap.size)
    (h : ∀ v' w', w'.ownsRow B e m v' (n + k) (fl ++ gl) → w.grownBy w' v.ownBlock → K (a.put o.dst v') w') : o.wp P a w K Q := by
  obtain ⟨i, hi, hz, hsz, hbs⟩ := hE.info
  obtain ⟨hlen, ⟨rfl, ad, c, rfl, hc, hn⟩ | ⟨h0, b, off, c, rfl, h2, h3, h4, h5⟩⟩ := hr
  · obtain rfl : gl = [] := List.eq_nil_of_length_eq_zero (by simpa using hlen)
    cases ad with
    | none =>
      obtain rfl := hn rfl
      have hrun := run_append_owned_none (P := P) w B t o.type e i m ht hi v n _ hown
      unfold Oper.wp
      simp only [execOp, ho, resolve, invoke, builtin, Sem.run_bind, Sem.run_pure, Result.andThen_ok, List.map_toArray, List.map_cons, List.map_nil, hs, hx, hrun]
      exact h v w (by simpa using hown) (World.grownBy.refl w _)
    | some ad =>
      exact wp_append_own w s x t ho B e i z m bytes ht hi hz hsz hbs hE.size hE.pos v n _ hs hown ad 0 c [] hx (by simp) (fun j u hu => by simp at hu) (fun u hu => by simp at hu) (by simpa using h63) (by simpa using hby) hB
        fun v' w' a1 a2 _ => h v' w' a1 a2
  · exact wp_append_own w s x t ho B e i z m bytes ht hi hz hsz hbs hE.size hE.pos v n _ hs hown ⟨b, off, none⟩ k c gl hx hlen (fun j u hu => by rw [Addr.add_lit]; exact h5 j u hu) hone h63 hby hB
      fun v' w' a1 a2 _ => h v' w' a1 a2
theorem step_append_rows {P : Program} {ops : Array Oper} {w : World} {o : Oper} {a : Act} {K : Act → World → Prop} {Q : Exit → Act → World → Prop} {E : Prop} (hgd : o.guard = none) (s x : Operand) (t : TypeId)
    (ho : o.op = .call { callee := .builtin .append, args := #[s, x], argTypes := #[t, t] }) {e : TypeId} {m bytes : Nat} {z : Value} (hE : ElemC P e m bytes z) (ht : P.underlying t = some (.slice e))
    (B : Nat) (v : Value) (n : Nat) (fl : List Value) (hs : a.eval s = v) (hown : w.ownsRow B e m v n fl) (u : Value) (k : Nat) (gl : List Value) (hx : a.eval x = u) (hr : RdC m w u k gl) (hone : ∀ u ∈ gl, u.oneCell' = true)
    (hby : (n + k) * bytes ≤ 140737488355328) (h63 : n + k ≤ maxLen) (hB : B ≤ w.heap.size)
    (h : ∀ v' w', w'.ownsRow B e m v' (n + k) (fl ++ gl) → w.grownBy w' v.ownBlock → K (a.put o.dst v') w') : if Region.wanted o (yielded ops a.tmps) = true then Oper.wp P o a w K Q else E := by
  rw [if_pos (by simp [Region.wanted, hgd])]
  exact wp_append_rows w s x t ho hE ht B v n fl hs hown u k gl hx hr hone hby h63 hB h
/-- one element just built reads as its cells -/
theorem RdC.built (m : Nat) (w : World) (cs : Array Value) (e : TypeId) (hm : cs.size = m) : RdC m (w.alloc (.cells cs e)) (.slice (some ⟨w.heap.size, 0, none⟩) 1 1) 1 cs.toList := by
  refine ⟨by simpa using hm, .inr ⟨by omega, w.heap.size, 0, 1, rfl, Nat.le_refl _, by simp [maxLen], by simp, fun j u hu => ?_⟩⟩
  rw [World.cell?_alloc_at _ _ _ _ rfl, Nat.zero_add]
  simpa using hu
end Go.Proofs.YtbkbabaoockigaaGreatDoor

set_option maxRecDepth 100000
namespace Go.Proofs.YtbkbabaoockigaaGreatDoor
open Go.RowKit
/-- the same, of an operation that bears a guard, where the guard is met -/
theorem wpList_append_rows_w {P : Program} (w : World) {ops : Array Oper} {rest : List Oper} {o : Oper} {a : Act} {Q : Exit → Act → World → Prop} (hw : Region.wanted o (yielded ops a.tmps) = true) (s x : Operand) (t : TypeId)
    (ho : o.op = .call { callee := .builtin .append, args := #[s, x], argTypes := #[t, t] }) {e : TypeId} {m bytes : Nat} {z : Value} (hE : ElemC P e m bytes z) (ht : P.underlying t = some (.slice e))
    (B : Nat) (v : Value) (n : Nat) (fl : List Value) (hs : a.eval s = v) (hown : w.ownsRow B e m v n fl) (u : Value) (k : Nat) (gl : List Value) (hx : a.eval x = u) (hr : RdC m w u k gl) (hone : ∀ u ∈ gl, u.oneCell' = true)
    (hby : (n + k) * bytes ≤ 140737488355328) (h63 : n + k ≤ maxLen) (hB : B ≤ w.heap.size)
    (h : ∀ v' w', w'.ownsRow B e m v' (n + k) (fl ++ gl) → w.grownBy w' v.ownBlock → wpList P ops Q rest (a.put o.dst v') w') : wpList P ops Q (o :: rest) a w :=
  wpList_step fun K hK => by
    rw [if_pos hw]
    exact wp_append_rows w s x t ho hE ht B v n fl hs hown u k gl hx hr hone hby h63 hB fun v' w' h1 h2 => hK _ _ (h v' w' h1 h2)
end Go.Proofs.YtbkbabaoockigaaGreatDoor

set_option maxRecDepth 100000
namespace Go.Proofs.YtbkbabaoockigaaGreatDoor
open Go.RowKit

/-- nothing that was there has turned but the blocks of S -/
structure Keep (S : List Nat) (w w' : World) : Prop where
  os : w'.os = w.os
  tape : w'.tape = w.tape
  output : w'.output = w.output
  size : w.heap.size ≤ w'.heap.size
  block : ∀ i, i < w.heap.size → i ∉ S → w'.heap[i]? = w.heap[i]?
theorem Keep.refl (S : List Nat) (w : World) : Keep S w w := ⟨rfl, rfl, rfl, Nat.le_refl _, fun _ _ _ => rfl⟩
theorem Keep.of_below {S : List Nat} {w w' : World} (h : Below w.heap.size w w') : Keep S w w' := ⟨h.os, h.tape, h.output, h.size, fun i hi _ => h.block i hi⟩
theorem Keep.of_grown {S : List Nat} {w w' : World} {row : Option Nat} (h : w.grownBy w' row) (hr : ∀ j, row = some j → j ∈ S ∨ w.heap.size ≤ j) : Keep S w w' :=
  ⟨h.os, h.tape, h.output, h.size, fun i hi hn => h.block i hi fun e => by
    rcases hr i e.symm with h1 | h1
    · exact hn h1
    · omega⟩
theorem Keep.trans {S S' : List Nat} {a b c : World} (h : Keep S a b) (k : Keep S' b c) (hs : ∀ i ∈ S', i ∈ S ∨ a.heap.size ≤ i) : Keep S a c :=
  ⟨k.os.trans h.os, k.tape.trans h.tape, k.output.trans h.output, Nat.le_trans h.size k.size, fun i hi hn =>
    (k.block i (Nat.lt_of_lt_of_le hi h.size) fun hm => by
      rcases hs i hm with h1 | h1
      · exact hn h1
      · omega).trans (h.block i hi hn)⟩
theorem Keep.to_below {S : List Nat} {w w' : World} {B : Nat} (h : Keep S w w') (hs : ∀ i ∈ S, B ≤ i) (hB : B ≤ w.heap.size) : Below B w w' :=
  ⟨h.os, h.tape, h.output, h.size, fun i hi => h.block i (by omega) fun hm => by have := hs i hm; omega⟩
theorem Keep.then_below {S : List Nat} {a b c : World} (h : Keep S a b) (k : Below b.heap.size b c) : Keep S a c := h.trans (Keep.of_below (S := []) k) (fun i hi => by cases hi)
theorem Keep.drewN {S : List Nat} {a b : World} (h : Keep S a b) (n : Nat) : Keep S a (b.drewN n) := ⟨h.os, h.tape, h.output, h.size, h.block⟩
theorem Keep.drew {S : List Nat} {a b : World} (h : Keep S a b) : Keep S a b.drew := ⟨h.os, h.tape, h.output, h.size, h.block⟩
theorem Keep.cell {S : List Nat} {w w' : World} (h : Keep S w w') {p : Addr} {v : Value} (hc : w.cell? p = some v) (hp : p.block ∉ S) : w'.cell? p = some v := by
  have hl : p.block < w.heap.size := by
    simp only [World.cell?] at hc
    cases hg : w.heap[p.block]? with
    | none => rw [hg] at hc; cases hc
    | some o => exact (Array.getElem?_eq_some_iff.1 hg).1
  have e := h.block p.block hl hp
  simp only [World.cell?] at hc ⊢
  rw [e]; exact hc
theorem keep_set (b o : Nat) (w : World) (x : Value) : Keep [b] w (w.setCell ⟨b, o, none⟩ x) :=
  ⟨rfl, rfl, rfl, by simp [World.setCell], fun i hi hn => by
    have : b ≠ i := fun e => hn (by simp [e])
    simp [World.setCell, Array.getElem?_modify, this]⟩
theorem Rd.keep {k : IntKind} {S : List Nat} {w w' : World} {v : Value} {xs : List Int} (h : Rd k w v xs) (hk : Keep S w w') (hn : ∀ j, v.ownBlock = some j → j ∉ S) : Rd k w' v xs := by
  rcases h with h | ⟨h1, b, o, c, rfl, h2, h3, h4, h5⟩
  · exact .inl h
  · exact .inr ⟨h1, b, o, c, rfl, h2, h3, Nat.lt_of_lt_of_le h4 hk.size, fun i hi => hk.cell (h5 i hi) (hn b rfl)⟩
theorem Rd.blt {k : IntKind} {w : World} {v : Value} {xs : List Int} (h : Rd k w v xs) (hx : xs ≠ []) : ∀ j, v.ownBlock = some j → j < w.heap.size := by
  intro j hj
  rcases h with ⟨h0, _⟩ | ⟨_, b, o, c, rfl, _, _, h4, _⟩
  · exact absurd h0 hx
  · simp only [Value.ownBlock, Option.some.injEq] at hj; subst hj; exact h4

/-- block g HOLDS THE CELLS cs -/
def Cs (w : World) (g : Nat) (cs : List Value) : Prop := ∃ T, w.heap[g]? = some (.cells cs.toArray T (0, 0))
theorem Cs.lt {w : World} {g : Nat} {cs : List Value} (h : Cs w g cs) : g < w.heap.size := by
  obtain ⟨T, e⟩ := h
  exact (Array.getElem?_eq_some_iff.1 e).1
theorem Cs.block {w w' : World} {g : Nat} {cs : List Value} (h : Cs w g cs) (e : w'.heap[g]? = w.heap[g]?) : Cs w' g cs := by
  obtain ⟨T, h⟩ := h
  exact ⟨T, e.trans h⟩
theorem Cs.keep {S : List Nat} {w w' : World} {g : Nat} {cs : List Value} (h : Cs w g cs) (k : Keep S w w') (hn : g ∉ S) : Cs w' g cs := h.block (k.block g h.lt hn)
theorem Cs.below {w w' : World} {g : Nat} {cs : List Value} (h : Cs w g cs) (hb : Below w.heap.size w w') : Cs w' g cs := h.block (hb.block g h.lt)
theorem Cs.grown {w w' : World} {row : Option Nat} {g : Nat} {cs : List Value} (h : Cs w g cs) (hg : w.grownBy w' row) (hn : some g ≠ row) : Cs w' g cs := h.block (hg.block g h.lt hn)
theorem Cs.get {w : World} {g : Nat} {cs : List Value} (h : Cs w g cs) (j : Nat) (u : Value) (hu : cs[j]? = some u) : w.cell? ⟨g, j, none⟩ = some u := by
  obtain ⟨T, e⟩ := h
  simpa [World.cell?, e] using hu
theorem Cs.free {w : World} {g : Nat} {cs : List Value} (h : Cs w g cs) (j : Nat) : w.frozen? ⟨g, j, none⟩ = false := by
  obtain ⟨T, e⟩ := h
  simp [World.frozen?, e]
theorem Cs.set {w : World} {g : Nat} {cs : List Value} (h : Cs w g cs) (j : Nat) (u : Value) : Cs (w.setCell ⟨g, j, none⟩ u) g (cs.set j u) := by
  obtain ⟨T, e⟩ := h
  exact ⟨T, by simp [World.setCell, Array.getElem?_modify, e]⟩
theorem Cs.made (w : World) (cs : Array Value) (T : TypeId) : Cs (w.alloc (.cells cs T)) w.heap.size cs.toList := ⟨T, by show (w.heap.push _)[w.heap.size]? = _; simp⟩
theorem grown_set (b o : Nat) (w : World) (x : Value) : w.grownBy (w.setCell ⟨b, o, none⟩ x) (some b) :=
  ⟨rfl, rfl, rfl, by simp [World.setCell], fun i hi hn => by
    have : b ≠ i := fun e => hn (by simp [e])
    simp [World.setCell, Array.getElem?_modify, this]⟩
theorem grown_setRow (w : World) (g : Nat) (cs : Array Value) : w.grownBy (w.setRow g cs) (some g) :=
  ⟨rfl, rfl, rfl, by simp [World.setRow], fun j _ hj => setRow_other w g j _ (fun e => hj (by rw [e]))⟩

/-- copy(dst, src): dst lies in block g from off on -/
theorem wpList_copy_cs {P : Program} (w : World) {ops : Array Oper} {rest : List Oper} {o : Oper} {a : Act} {Q : Exit → Act → World → Prop} (hgd : o.guard = none) (d s : Operand) (dT sT : TypeId)
    (ho : o.op = .call { callee := .builtin .copy, args := #[d, s], argTypes := #[dT, sT] }) (elem : TypeId) (hu : P.underlying dT = some (.slice elem)) (hsz : (P.info? elem).map (·.size) = some 1)
    (g off dLen dCap sLen sCap : Nat) (ad : Addr) (hd : a.eval d = .slice (some ⟨g, off, none⟩) dLen dCap) (hs : a.eval s = .slice (some ad) sLen sCap)
    (cur : List Value) (hg : Cs w g cur) (cs : List Value) (hn : cs.length = Nat.min sLen dLen) (hsrc : 0 < cs.length → ∀ j v, cs[j]? = some v → w.cell? (ad.add j) = some v) (hfit : off + cs.length ≤ cur.length) (h1 : ∀ v ∈ cs, v.oneCell' = true)
    (h : ∀ w', Hid (Cs w' g (splice cur off cs)) → w.grownBy w' (some g) → wpList P ops Q rest (a.put o.dst (goInt cs.length)) w') : wpList P ops Q (o :: rest) a w := by
  obtain ⟨T, hg⟩ := hg
  have hsrc' : ∀ j v, cs[j]? = some v → w.cell? (ad.add j) = some v := fun j v hv => hsrc (by have := (List.getElem?_eq_some_iff.1 hv).1; omega) j v hv
  refine wpList_copy_own hgd d s dT sT ho elem hu hsz g off dLen dCap ad sLen sCap hd hs cur.toArray T hg cs hn hsrc' (by simpa using hfit) h1 ?_
  exact h _ (show Cs _ _ _ from ⟨T, by simpa [splice] using setRow_heap w g _ _ T _ hg⟩) (grown_setRow w g _)
theorem step_copy_cs {P : Program} {ops : Array Oper} {o : Oper} {a : Act} {w : World} {K : Act → World → Prop} {Q : Exit → Act → World → Prop} {E : Prop} (hgd : o.guard = none) (d s : Operand) (dT sT : TypeId)
    (ho : o.op = .call { callee := .builtin .copy, args := #[d, s], argTypes := #[dT, sT] }) (elem : TypeId) (hu : P.underlying dT = some (.slice elem)) (hsz : (P.info? elem).map (·.size) = some 1)
    (g off dLen dCap sLen sCap : Nat) (ad : Addr) (hd : a.eval d = .slice (some ⟨g, off, none⟩) dLen dCap) (hs : a.eval s = .slice (some ad) sLen sCap)
    (cur : List Value) (hg : Cs w g cur) (cs : List Value) (hn : cs.length = Nat.min sLen dLen) (hsrc : 0 < cs.length → ∀ j v, cs[j]? = some v → w.cell? (ad.add j) = some v) (hfit : off + cs.length ≤ cur.length) (h1 : ∀ v ∈ cs, v.oneCell' = true)
    (h : ∀ w', Hid (Cs w' g (splice cur off cs)) → w.grownBy w' (some g) → K (a.put o.dst (goInt cs.length)) w') :
    if Region.wanted o (yielded ops a.tmps) = true then Oper.wp P o a w K Q else E := by
  obtain ⟨T, hg⟩ := hg
  rw [if_pos (by simp [Region.wanted, hgd])]
  have hsrc' : ∀ j v, cs[j]? = some v → w.cell? (ad.add j) = some v := fun j v hv => hsrc (by have := (List.getElem?_eq_some_iff.1 hv).1; omega) j v hv
  have hrun := run_copy_row (P := P) w dT sT o.type elem g off dLen dCap ad sLen sCap cur.toArray T cs hu hsz hg hn hsrc' (by simpa using hfit) h1
  unfold Oper.wp
  simp [execOp, ho, resolve, invoke, builtin, hd, hs, hrun, Result.andThen]
  exact h _ (show Cs _ _ _ from ⟨T, by simpa [splice] using setRow_heap w g _ _ T _ hg⟩) (grown_setRow w g _)

theorem run_clear_cs {P : Program} (w : World) (t e ty : TypeId) (z : Value) (ht : P.underlying t = some (.slice e)) (hv : ∀ w, (zeroValue e).run P w = .ok z w) (hz : z.cells = #[z]) (h1 : z.oneCell' = true) (g o n c : Nat) (hn : 0 < n)
    (T : TypeId) (cur : List Value) (hg : w.heap[g]? = some (.cells cur.toArray T (0, 0))) (hfit : o + n ≤ cur.length) :
    (Builtin.clear_ #[t] ty #[.slice (some ⟨g, o, none⟩) n c]).run P w = .ok (.tuple #[]) (w.setRow g (splice cur o (List.replicate n z)).toArray) := by
  have hzc : (Builtin.zeroCells z.cells n).toList = List.replicate n z := by
    rw [hz]
    simp [Builtin.zeroCells]
    apply List.ext_getElem
    · simp
    · intro i h1 h2
      simp [Nat.mod_one]
  have hst := run_storeCells_at P g o T (List.replicate n z) 0 cur.toArray w hg (by simp; omega) (by intro v hv'; rw [List.eq_of_mem_replicate hv']; exact h1)
  have e : (cur.toArray.toList.take (o + 0) ++ List.replicate n z ++ cur.toArray.toList.drop (o + 0 + (List.replicate n z).length)).toArray = (splice cur o (List.replicate n z)).toArray := by simp [splice]
  rw [e] at hst
  obtain ⟨m, rfl⟩ : ∃ m, n = m + 1 := ⟨n - 1, by omega⟩
  simp [Builtin.clear_, run_underlying ht, hv, hzc, hst]
/-- clear(s): s lies in block g from off on -/
theorem wpList_clear_cs {P : Program} (w : World) {ops : Array Oper} {rest : List Oper} {o : Oper} {a : Act} {Q : Exit → Act → World → Prop} (hgd : o.guard = none) (s : Operand) (t : TypeId)
    (ho : o.op = .call { callee := .builtin .clear, args := #[s], argTypes := #[t] }) (e : TypeId) (z : Value) (ht : P.underlying t = some (.slice e)) (hv : ∀ w, (zeroValue e).run P w = .ok z w) (hz : z.cells = #[z]) (h1 : z.oneCell' = true)
    (g off n c : Nat) (hs : a.eval s = .slice (some ⟨g, off, none⟩) n c) (hn : 0 < n) (cur : List Value) (hg : Cs w g cur) (hfit : off + n ≤ cur.length)
    (h : ∀ w', Hid (Cs w' g (splice cur off (List.replicate n z))) → w.grownBy w' (some g) → wpList P ops Q rest (a.put o.dst (.tuple #[])) w') : wpList P ops Q (o :: rest) a w := by
  obtain ⟨T, hg⟩ := hg
  refine wpList_plain hgd fun K hK => ?_
  have hrun := run_clear_cs w t e o.type z ht hv hz h1 g off n c hn T cur hg hfit
  unfold Oper.wp
  simp only [execOp, ho, resolve, invoke, builtin, Sem.run_bind, Sem.run_pure, Result.andThen_ok, List.map_toArray, List.map_cons, List.map_nil, hs, hrun]
  exact hK _ _ (h _ (show Cs _ _ _ from ⟨T, setRow_heap w g _ _ T _ hg⟩) (grown_setRow w g _))
theorem step_clear_cs {P : Program} {ops : Array Oper} {o : Oper} {a : Act} {w : World} {K : Act → World → Prop} {Q : Exit → Act → World → Prop} {E : Prop} (hgd : o.guard = none) (s : Operand) (t : TypeId)
    (ho : o.op = .call { callee := .builtin .clear, args := #[s], argTypes := #[t] }) (e : TypeId) (z : Value) (ht : P.underlying t = some (.slice e)) (hv : ∀ w, (zeroValue e).run P w = .ok z w) (hz : z.cells = #[z]) (h1 : z.oneCell' = true)
    (g off n c : Nat) (hs : a.eval s = .slice (some ⟨g, off, none⟩) n c) (hn : 0 < n) (cur : List Value) (hg : Cs w g cur) (hfit : off + n ≤ cur.length)
    (h : ∀ w', Hid (Cs w' g (splice cur off (List.replicate n z))) → w.grownBy w' (some g) → K (a.put o.dst (.tuple #[])) w') :
    if Region.wanted o (yielded ops a.tmps) = true then Oper.wp P o a w K Q else E := by
  obtain ⟨T, hg⟩ := hg
  rw [if_pos (by simp [Region.wanted, hgd])]
  have hrun := run_clear_cs w t e o.type z ht hv hz h1 g off n c hn T cur hg hfit
  unfold Oper.wp
  simp only [execOp, ho, resolve, invoke, builtin, Sem.run_bind, Sem.run_pure, Result.andThen_ok, List.map_toArray, List.map_cons, List.map_nil, hs, hrun]
  exact h _ (show Cs _ _ _ from ⟨T, setRow_heap w g _ _ T _ hg⟩) (grown_setRow w g _)
end Go.Proofs.YtbkbabaoockigaaGreatDoor

set_option maxRecDepth 100000
namespace Go.Proofs.YtbkbabaoockigaaGreatDoor
open Go.ChangeShapes Go.WideShapes Go.ChangeAt Go.RowKit

section
variable {H : Type} {enc : TypeId × Value → H} {P : Program}

theorem below_trodAll (hl : laidOutB P = true) {W W' : World} (hb : Below W.heap.size W W') : ∀ {ts : List TypeId} {vs : List Value} {ds : List (DataW H)} {ps : List MemPlace},
    (ts.all fun t => P.readableRec t && decide (t < P.types.size)) = true → DataW.TrodAll enc P W 0 (fun _ => true) true ts vs ds ps → (∀ x ∈ ps, x.block < W.heap.size) → DataW.TrodAll enc P W' 0 (fun b => decide (b < W.heap.size)) true ts vs ds ps
  | [], vs, ds, ps, _, h, _ => by
    obtain ⟨rfl, rfl, rfl⟩ := trodAll_nil h
    exact trodAll_mk0
  | t :: ts, vs, ds, ps, ha, h, hlt => by
    obtain ⟨v, vs', d, ds', p, q, rfl, rfl, rfl, h1, h2⟩ := trodAll_cons h
    simp only [List.all_cons, Bool.and_eq_true, decide_eq_true_eq] at ha
    exact trodAll_cons_mk (Below.trod hl ha.1.1 ha.1.2 h1 hb fun x hx => hlt x (List.mem_append_left _ hx))
      (below_trodAll hl hb (by simpa using ha.2) h2 fun x hx => hlt x (List.mem_append_right _ hx))

theorem trodAll_len {w : World} {base : Nat} {spare : Nat → Bool} {held : Bool} : ∀ {ts : List TypeId} {vs : List Value} {ds : List (DataW H)} {ps : List MemPlace}, DataW.TrodAll enc P w base spare held ts vs ds ps → ds.length = ts.length
  | [], vs, ds, ps, h => by
    obtain ⟨rfl, rfl, rfl⟩ := trodAll_nil h
    rfl
  | t :: ts, vs, ds, ps, h => by
    obtain ⟨v, vs', d, ds', p, q, rfl, rfl, rfl, _, h2⟩ := trodAll_cons h
    simp [trodAll_len h2]

/-- A LAW's STATEMENT BEHIND THE CALL: true, and all that was there is as it was -/
theorem law_post {f : Func} {s : ChangeSpec} {W W' : World} {args : Array Value} {ds gs : List (DataW H)} {before : List MemPlace} {tb : TypeId}
    (hl : laidOutB P = true) (hread : (f.params.toList.all fun t => P.readableRec t && decide (t < P.types.size)) = true) (hv : s.vars = []) (hbt : f.resultTypes = #[tb]) (htb : P.underlying tb = some .bool)
    (hres : ∀ ds : List (DataW H), ds.length = f.params.size → (s.fn H ds).results = [.lit (.bool true)] ∧ (s.fn H ds).args = ds ∧ (s.fn H ds).vars = [])
    (hW : DataW.Whole enc P f.params.toList s.vars false W args.toList ds gs before) (hb : Below W.heap.size W W') : s.post enc P f false true false false W args (.bool true) W' := by
  have hW' := hW
  obtain ⟨p, q, hA, hV, rfl, hfz, hnd⟩ := hW
  rw [hv] at hV
  obtain ⟨rfl, rfl⟩ := trodVars_none hV
  have hlen : ds.length = f.params.size := by
    have := trodAll_len hA
    simpa using this
  obtain ⟨e1, e2, e3⟩ := hres ds hlen
  have hlt : ∀ x ∈ p, x.block < W.heap.size := fun x hx => by simpa using hW'.lt x (List.mem_append_left _ hx)
  refine ⟨ds, [], p ++ [], [], p, [], hW', ?_, ?_, ?_, hb.frame _, fun h => by cases h⟩
  · rw [List.append_nil, e1, hbt]
    exact trodAll_mk1 (shut_bool htb true)
  · rw [List.append_nil, e2]
    exact below_trodAll hl hb hread hA hlt
  · rw [List.append_nil, e3, hv]; rfl
end

section
variable {H : Type} {enc : TypeId × Value → H} {P : Program}

/-- A SLICE OF NUMBERS THAT CAME IN -/
theorem open_nums {W : World} {base : Nat} {t e : TypeId} {k : IntKind} {v : Value} {d : DataW H} {p : List MemPlace} (ht : P.underlying t = some (.slice e)) (he : P.underlying e = some (.int k)) (hc : P.cellsOf e = 1)
    (hval : Value.okWide P W .any base t v) (h : DataW.Trod enc P W 0 (fun _ => true) true t v d p) (hlt : ∀ x ∈ p, x.block < W.heap.size) :
    ∃ xs, Rd k W v xs ∧ (∀ n ∈ xs, (Lit.int k n).wf = true) ∧ ((xs = [] ∧ d = .nil) ∨ ∃ rest, d = .slice (lits k xs) (lits k rest)) := by
  obtain ⟨a0, len, cap, rfl⟩ := okWide_slice ht hval
  obtain ⟨fuel, hf⟩ := h
  rcases open_ints ht he hc hf with ⟨hcs, hx⟩ | ⟨a, len', cap', zs, hcs, _, hl, hm, hz, hx, hcell, hwz⟩
  · simp [Value.cells] at hcs
    obtain ⟨rfl, rfl, rfl⟩ := hcs
    simp only [Prod.mk.injEq] at hx
    exact ⟨[], Rd.nil _ _, by simp, .inl ⟨rfl, hx.1⟩⟩
  · simp [Value.cells] at hcs
    obtain ⟨rfl, rfl, rfl⟩ := hcs
    simp only [Prod.mk.injEq] at hx
    obtain ⟨rfl, rfl⟩ := hx
    simp only [if_true] at hz
    refine ⟨zs.take len, ?_, fun n hn => hwz n (List.mem_of_mem_take hn), .inr ⟨zs.drop len, rfl⟩⟩
    by_cases h0 : len = 0
    · subst h0
      exact .inl ⟨by simp, some a, cap, rfl, hm, fun h => by cases h⟩
    · obtain ⟨b, off, spot⟩ := a
      have hspot : spot = none := by simpa [Addr.add] using World.cell?_spot (hcell 0 (by omega))
      subst hspot
      have hb : b < W.heap.size := hlt (.cell b off) (MemPlace.mem_row.2 ⟨0, by omega, by simp⟩)
      have hlen : (zs.take len).length = len := by rw [List.length_take]; omega
      refine .inr ⟨fun h => h0 (by rw [← hlen, h]; rfl), b, off, cap, by rw [hlen], by omega, hm, hb, fun i hi => ?_⟩
      rw [hlen] at hi
      rw [← add_plain, hcell i (by omega)]
      simp [List.getD, hi]
theorem bts_of_wf {xs : List Int} (h : ∀ n ∈ xs, (Lit.int .u8 n).wf = true) : Bts xs := by
  intro x hx
  have := h x hx
  simp only [Lit.wf, Bool.and_eq_true, decide_eq_true_eq] at this
  have e1 : IntKind.u8.min = 0 := rfl
  have e2 : IntKind.u8.max = 255 := rfl
  omega
theorem i64_of_wf {n : Int} (h : (Lit.int .i64 n).wf = true) : -9223372036854775808 ≤ n ∧ n ≤ 9223372036854775807 := by
  simp only [Lit.wf, Bool.and_eq_true, decide_eq_true_eq] at h
  exact h
theorem u64_of_wf {n : Int} (h : (Lit.int .u64 n).wf = true) : 0 ≤ n ∧ n ≤ 18446744073709551615 := by
  simp only [Lit.wf, Bool.and_eq_true, decide_eq_true_eq] at h
  exact h
theorem u8_of_wf {n : Int} (h : (Lit.int .u8 n).wf = true) : 0 ≤ n ∧ n < 256 := by
  simp only [Lit.wf, Bool.and_eq_true, decide_eq_true_eq] at h
  have e1 : IntKind.u8.min = 0 := rfl
  have e2 : IntKind.u8.max = 255 := rfl
  omega
/-- what came in takes at most so many bytes -/
theorem nums_sized {ts : List TypeId} {ds : List (DataW H)} (h : (DataW.weightsEach P ts ds).all (· ≤ reachBytes) = true) {j : Nat} {t e : TypeId} {k : IntKind} {xs : List Int} {d : DataW H} (ht : ts[j]? = some t) (hd : ds[j]? = some d) (hu : P.underlying t = some (.slice e))
    (hx : (xs = [] ∧ d = .nil) ∨ ∃ rest, d = .slice (lits k xs) (lits k rest)) : xs.length * P.bytesOf e ≤ 140737488351232 := by
  rcases hx with ⟨rfl, _⟩ | ⟨rest, rfl⟩
  · simp
  · have := sized_slice h ht hd hu
    simp only [lits, List.length_map, reachBytes] at this
    have h2 : xs.length * P.bytesOf e ≤ (xs.length + rest.length) * P.bytesOf e := Nat.mul_le_mul_right _ (by omega)
    omega

/-- AN ARRAY OF NUMBERS THAT CAME IN BY VALUE -/
theorem open_arr_nums {W : World} {base n : Nat} {t e : TypeId} {k : IntKind} {v : Value} {d : DataW H} {p : List MemPlace} (ht : P.underlying t = some (.array n e)) (he : P.underlying e = some (.int k)) (hc : P.cellsOf e = 1) (hC : P.cellsOf t = n)
    (hval : Value.okWide P W .any base t v) (h : DataW.Trod enc P W 0 (fun _ => true) true t v d p) : ∃ zs : List Int, v = .agg (zs.map (Value.int k)).toArray ∧ zs.length = n ∧ ∀ z ∈ zs, (Lit.int k z).wf = true := by
  simp only [Value.okWide, ht] at hval
  obtain ⟨cs, rfl, hsz, _⟩ := hval
  obtain ⟨fuel, hf⟩ := h
  obtain ⟨xs, m, _, _, hl, hlen, hx⟩ := DataW.trod_array ht hf
  rw [hC] at hsz
  have each : ∀ i, i < n → ∃ z, cs[i]? = some (.int k z) ∧ (Lit.int k z).wf = true := by
    intro i hi
    have h1 := hx i hi
    rw [List.getElem?_eq_getElem (by omega)] at h1
    obtain ⟨z, hz, _, hw⟩ := DataW.trod_int he h1
    refine ⟨z, ?_, hw⟩
    simp only [Value.cells, hc, Nat.mul_one] at hz
    have h2 : (cs.toList.drop i).take 1 = [cs[i]] := by
      have hi' : i < cs.toList.length := by simpa using (by omega : i < cs.size)
      rw [List.drop_eq_getElem_cons hi']; simp
    rw [h2] at hz
    rw [Array.getElem?_eq_getElem (by omega)]
    simp only [List.cons.injEq, and_true] at hz
    rw [hz]
  refine ⟨cs.toList.map RowKit.intOf, ?_, by simpa using hsz, ?_⟩
  · congr 1
    apply Array.ext (by simp)
    intro i h1 h2
    obtain ⟨z, hz, _⟩ := each i (by omega)
    have h3 : cs[i] = .int k z := by rw [Array.getElem?_eq_getElem h1] at hz; exact Option.some.inj hz
    simp [h3, RowKit.intOf]
  · intro z hz
    obtain ⟨c, hc', rfl⟩ := List.mem_map.1 hz
    obtain ⟨i, hi, rfl⟩ := List.mem_iff_getElem.1 hc'
    obtain ⟨z, hz, hw⟩ := each i (by simpa [hsz] using hi)
    have h3 : cs.toList[i] = .int k z := by
      have h1 : i < cs.size := by simpa using hi
      rw [Array.getElem?_eq_getElem h1] at hz; simpa using Option.some.inj hz
    rw [h3]; exact hw
end
end Go.Proofs.YtbkbabaoockigaaGreatDoor
