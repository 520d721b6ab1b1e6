/- What a slice of whole numbers reads as, kept through calls that make memory: laws without a program. -/
import Derived.Test.YtdfebmjincnfiaaDoorRows
import Derived.WalkKit
import Derived.Handy
import Derived.Lib.Hide
import Derived.MapKept
import Derived.Deep.QuietTactic
import Derived.BigQuiet
import Derived.Deep.DeepCutAuto
import Derived.Laws.CopyOwn
import Derived.Laws.StructEq
namespace Go.Proofs.YtdfebmjincnfiaaDoor
open Go.RowKit

/-- THE SLICE v READS AS THE NUMBERS xs. -/
def Rd (k : IntKind) (w : World) (v : Value) (xs : List Int) : Prop :=
  (xs = [] ∧ ∃ a c, v = .slice a 0 c ∧ c ≤ maxLen ∧ (a = none → c = 0)) ∨
  (xs ≠ [] ∧ ∃ b o c, v = .slice (some ⟨b, o, none⟩) xs.length c ∧ xs.length ≤ c ∧ c ≤ maxLen ∧ b < w.heap.size ∧ ∀ i, i < xs.length → w.cell? ⟨b, o + i, none⟩ = some (.int k (xs.getD i 0)))

theorem Rd.nil (k : IntKind) (w : World) : Rd k w (.slice none 0 0) [] := .inl ⟨rfl, none, 0, rfl, by simp, fun _ => rfl⟩

theorem Rd.below {k : IntKind} {w w' : World} {v : Value} {xs : List Int} (h : Rd k w v xs) (hb : Below w.heap.size w w') : Rd k w' v xs := by
  rcases h with h | ⟨h0, b, o, c, h1, h2, h3, h4, h5⟩
  · exact .inl h
  · exact .inr ⟨h0, b, o, c, h1, h2, h3, Nat.lt_of_lt_of_le h4 hb.size, fun i hi => (hb.cell (p := ⟨b, o + i, none⟩) h4).trans (h5 i hi)⟩

theorem Rd.len {k : IntKind} {w : World} {v : Value} {xs : List Int} (h : Rd k w v xs) : xs.length ≤ maxLen := by
  rcases h with ⟨rfl, _⟩ | ⟨_, b, o, c, h1, h2, h3, _⟩
  · simp
  · exact Nat.le_trans h2 h3

/-- what a call has built reads as its numbers -/
theorem Rd.of_owns {k : IntKind} {w : World} {B e : Nat} {v : Value} {xs : List Int} (h : w.ownsRow B e 1 v xs.length (xs.map (Value.int k))) : Rd k w v xs := by
  have h0 := h
  obtain ⟨_, hc⟩ := h
  rcases hc with ⟨rfl, hn⟩ | ⟨g, cap, cur, rfl, hb, hg, hn, hm, hs, ht⟩
  · exact .inl ⟨List.length_eq_zero_iff.1 hn, none, 0, rfl, by simp, fun _ => rfl⟩
  · by_cases hx : xs = []
    · subst hx; exact .inl ⟨rfl, _, cap, rfl, hm, fun h => by cases h⟩
    · refine .inr ⟨hx, g, 0, cap, rfl, hn, hm, (Array.getElem?_eq_some_iff.1 hg).1, fun i hi => ?_⟩
      rw [Nat.zero_add, h0.cellAt i (by omega)]
      simp [List.getD, List.getElem?_eq_getElem hi]

/-- bytes -/
def Bts (xs : List Int) : Prop := ∀ x ∈ xs, 0 ≤ x ∧ x < 256

theorem Rd.conv {P : Program} {w : World} {v : Value} {xs : List Int} {src e dst : Nat} (h : Rd .u8 w v xs) (hs : P.underlying src = some (.slice e)) (he : P.underlying e = some (.int .u8)) (hd : P.underlying dst = some .string) :
    (convert src dst v).run P w = .ok (.string (strOfNums xs)) w := by
  rcases h with ⟨rfl, a, c, rfl, _, _⟩ | ⟨h0, b, o, c, rfl, h2, h3, h4, h5⟩
  · rw [run_convert_bytes_string w src dst e a 0 c hs he hd]
    cases a with
    | none => simp [Conv.bytesToString]; rfl
    | some a =>
      rw [run_bytesToString w a 0 c [] (by simp [loadCells, loadCellsFrom, Sem.run_pure])]
      rfl
  · exact run_convert_bytes_arg w src e hs he b o xs.length c xs rfl h5 dst hd

theorem u8_inj {a b : Int} (ha : 0 ≤ a ∧ a < 256) (hb : 0 ≤ b ∧ b < 256) (h : UInt8.ofNat a.toNat = UInt8.ofNat b.toNat) : a = b := by
  have := congrArg UInt8.toNat h
  simp only [UInt8.toNat_ofNat'] at this
  omega

theorem str_inj {xs ys : List Int} (hx : Bts xs) (hy : Bts ys) (h : strOfNums xs = strOfNums ys) : xs = ys := by
  have h1 : xs.map (fun n => UInt8.ofNat n.toNat) = ys.map (fun n => UInt8.ofNat n.toNat) := by
    have := congrArg (fun s : ByteArray => s.data.toList) h
    simpa [strOfNums] using this
  clear h
  induction xs generalizing ys with
  | nil => cases ys with
    | nil => rfl
    | cons y ys => simp at h1
  | cons x xs ih =>
    cases ys with
    | nil => simp at h1
    | cons y ys =>
      simp only [List.map_cons, List.cons.injEq] at h1
      rw [u8_inj (hx x (by simp)) (hy y (by simp)) h1.1, ih (fun z hz => hx z (by simp [hz])) (fun z hz => hy z (by simp [hz])) h1.2]

theorem str_eq {xs ys : List Int} (hx : Bts xs) (hy : Bts ys) : (strOfNums xs == strOfNums ys) = decide (xs = ys) := by
  rw [Bool.eq_iff_iff, Go.MapKept.bytes_beq, decide_eq_true_iff]
  exact ⟨str_inj hx hy, fun h => by rw [h]⟩
theorem str_eq' {xs ys : List Int} (hx : Bts xs) (hy : Bts ys) : ((strOfNums xs).toList == (strOfNums ys).toList) = decide (xs = ys) := by
  rw [← beq_toListBytes]; exact str_eq hx hy

/-- THE ELEMENT's ROW OF THE TABLE -/
structure Elem (P : Program) (e : TypeId) (k : IntKind) (bytes : Nat) : Prop where
  under : P.underlying e = some (.int k)
  info : ∃ i, P.info? e = some i ∧ i.zero = some (.int k 0) ∧ i.size = 1 ∧ i.bytes = bytes

/-- v IS A ROW OF THE CALL's OWN (made from block B on) THAT HOLDS xs -/
def Own (k : IntKind) (e : TypeId) (w : World) (B : Nat) (v : Value) (xs : List Int) : Prop := w.ownsRow B e 1 v xs.length (xs.map (Value.int k))

theorem Own.nil (k : IntKind) (e : TypeId) (w : World) (B : Nat) : Own k e w B (.slice none 0 0) [] := World.ownsRow_nil w B e 1
theorem Own.rd {k : IntKind} {e B : Nat} {w : World} {v : Value} {xs : List Int} (h : Own k e w B v xs) : Rd k w v xs := Rd.of_owns h
theorem Own.mono {k : IntKind} {e B B' : Nat} {w : World} {v : Value} {xs : List Int} (h : Own k e w B v xs) (hb : B' ≤ B) : Own k e w B' v xs := by
  obtain ⟨h1, h2⟩ := h
  refine ⟨h1, ?_⟩
  rcases h2 with h2 | ⟨g, cap, cur, a1, a2, a3⟩
  · exact .inl h2
  · exact .inr ⟨g, cap, cur, a1, Nat.le_trans hb a2, a3⟩
theorem Own.below {k : IntKind} {e B : Nat} {w w' : World} {v : Value} {xs : List Int} (h : Own k e w B v xs) (hb : Below w.heap.size w w') : Own k e w' B v xs := by
  obtain ⟨h1, h2⟩ := h
  refine ⟨h1, ?_⟩
  rcases h2 with h2 | ⟨g, cap, cur, a1, a2, a3, a4⟩
  · exact .inl h2
  · exact .inr ⟨g, cap, cur, a1, a2, by rw [hb.block g (Array.getElem?_eq_some_iff.1 a3).1]; exact a3, a4⟩
theorem Own.drew {k : IntKind} {e B : Nat} {w : World} {v : Value} {xs : List Int} (h : Own k e w B v xs) : Own k e w.drew B v xs := h

theorem Rd.one (k : IntKind) (e : TypeId) (w : World) (x : Int) : Rd k (w.alloc (.cells #[.int k x] e)) (.slice (some ⟨w.heap.size, 0, none⟩) 1 1) [x] :=
  .inr ⟨by simp, w.heap.size, 0, 1, rfl, by simp, by simp [maxLen], by simp, fun i hi => by
    obtain rfl : i = 0 := by simpa using hi
    rw [World.cell?_alloc_at _ _ _ _ rfl]; rfl⟩

theorem Rd.lit {k : IntKind} {e : TypeId} {w : World} (xs : List Int) (h0 : xs ≠ []) (n : Nat) (hn : n = xs.length) (hm : n ≤ maxLen) (cs : Array Value) (hc : cs = (xs.map (Value.int k)).toArray) :
    Rd k (w.alloc (.cells cs e)) (.slice (some ⟨w.heap.size, 0, none⟩) n n) xs := by
  subst hn; subst hc
  refine .inr ⟨h0, w.heap.size, 0, xs.length, rfl, Nat.le_refl _, hm, by simp, fun i hi => ?_⟩
  rw [World.cell?_alloc_at _ _ _ _ rfl]
  simp [List.getD, List.getElem?_eq_getElem hi]
theorem Rd.mono {k : IntKind} {w w' : World} {v : Value} {xs : List Int} {B : Nat} (h : Rd k w v xs) (hb : Below B w w') (hB : w.heap.size ≤ B) : Rd k w' v xs := h.below (hb.mono hB)
theorem Own.blt {k : IntKind} {e B : Nat} {w : World} {v : Value} {xs : List Int} (h : Own k e w B v xs) : ∀ j, v.ownBlock = some j → j < w.heap.size := fun j hj => (World.ownsRow.lt h j hj).2

/-- the cells of what is appended -/
theorem Rd.src {k : IntKind} {w : World} {b o : Nat} {xs : List Int} (h : ∀ i, i < xs.length → w.cell? ⟨b, o + i, none⟩ = some (.int k (xs.getD i 0))) :
    ∀ j u, (xs.map (Value.int k))[j]? = some u → w.cell? ((⟨b, o, none⟩ : Addr).add j) = some u := by
  intro j u hu
  have hj : j < xs.length := by simpa using (List.getElem?_eq_some_iff.1 hu).1
  rw [Addr.add_lit, h j hj]
  simp [List.getD, List.getElem?_eq_getElem hj] at hu ⊢
  exact hu

/-- append OF WHATEVER READS AS ys ONTO A ROW OF THE CALL's OWN -/
theorem wpList_append_rd {P : Program} (w : World) {ops : Array Oper} {rest : List Oper} {o : Oper} {a : Act} {Q : Exit → Act → World → Prop} (hgd : o.guard = none) (s x : Operand) (t : TypeId)
    (ho : o.op = .call { callee := .builtin .append, args := #[s, x], argTypes := #[t, t] }) {e : TypeId} {k : IntKind} {bytes : Nat} (hE : Elem P e k bytes) (ht : P.underlying t = some (.slice e))
    (B : Nat) (v : Value) (xs : List Int) (hs : a.eval s = v) (hown : Own k e w B v xs) (u : Value) (ys : List Int) (hx : a.eval x = u) (hr : Rd k w u ys)
    (hby : (xs.length + ys.length) * bytes ≤ 140737488355328) (h63 : xs.length + ys.length ≤ maxLen) (hB : B ≤ w.heap.size)
    (h : ∀ v' w', Own k e w' B v' (xs ++ ys) → w.grownBy w' v.ownBlock → wpList P ops Q rest (a.put o.dst v') w') : wpList P ops Q (o :: rest) a w := by
  obtain ⟨i, hi, hz, hsz, hbs⟩ := hE.info
  have fin : ∀ v' w', w'.ownsRow B e 1 v' (xs.length + ys.length) (xs.map (Value.int k) ++ ys.map (Value.int k)) → w.grownBy w' v.ownBlock → wpList P ops Q rest (a.put o.dst v') w' :=
    fun v' w' h1 h2 => h v' w' (show w'.ownsRow B e 1 v' (xs ++ ys).length _ by rw [List.length_append, List.map_append]; exact h1) h2
  rcases hr with ⟨rfl, ad, c, rfl, hc, hn⟩ | ⟨h0, b, off, c, rfl, h2, h3, h4, h5⟩
  · cases ad with
    | none =>
      obtain rfl := hn rfl
      refine wpList_plain hgd fun K hK => ?_
      have hrun := run_append_owned_none (P := P) w B t o.type e i 1 ht hi v xs.length _ hown
      unfold Oper.wp
      simp only [execOp, ho, resolve, invoke, builtin, Sem.run_bind, Sem.run_pure, Result.andThen_ok, List.map_toArray, List.map_cons, List.map_nil, hs, hx, hrun]
      exact hK _ _ (fin v w (by simpa [Own] using hown) (World.grownBy.refl w _))
    | some ad =>
      exact wpList_append_own w hgd s x t ho B e i (.int k 0) 1 bytes ht hi hz hsz hbs rfl (by omega) v xs.length _ hs hown ad 0 c [] hx rfl (fun j u hu => by simp at hu) (fun u hu => by simp at hu) (by simpa using h63) (by simpa using hby) hB
        fun v' w' a1 a2 _ => fin v' w' (by simpa using a1) a2
  · exact wpList_append_own w hgd s x t ho B e i (.int k 0) 1 bytes ht hi hz hsz hbs rfl (by omega) v xs.length _ hs hown ⟨b, off, none⟩ ys.length c (ys.map (Value.int k)) hx (by simp) (Rd.src h5) (ints_oneCell k ys) h63 hby hB
        fun v' w' a1 a2 _ => fin v' w' a1 a2

/-- make([]T, n) -/
theorem wpList_make_nums {P : Program} (w : World) {ops : Array Oper} {rest : List Oper} {o : Oper} {a : Act} {Q : Exit → Act → World → Prop} (hgd : o.guard = none) (l c : Operand) (t : TypeId) (hop : o.op = Op.makeSlice t l c)
    {e : TypeId} {k : IntKind} {bytes : Nat} (hE : Elem P e k bytes) (ht : P.underlying t = some (.slice e)) (kl kc : IntKind) (L C : Int) (n : Nat) (hl : a.eval l = .int kl L) (hc : a.eval c = .int kc C) (hL : L = (n : Int)) (hC : C = (n : Int))
    (hby : bytes * n ≤ 281474976710656) (h63 : n ≤ maxLen) (B : Nat) (hB : B ≤ w.heap.size)
    (hK : ∀ w', Own k e w' B (.slice (some ⟨w.heap.size, 0, none⟩) n n) (List.replicate n 0) → w.grownBy w' none → wpList P ops Q rest (a.put o.dst (.slice (some ⟨w.heap.size, 0, none⟩) n n)) w') : wpList P ops Q (o :: rest) a w := by
  obtain ⟨i, hi, hz, hsz, hbs⟩ := hE.info
  refine wpList_make_full w hgd l c t hop B e i (.int k 0) 1 ht hi hz hsz kl kc L C n hl hc hL hC (by rw [hbs]; exact hby) h63 hB fun w' h1 h2 => hK w' ?_ h2
  have : (madeCells (Value.cells (.int k 0)) (n * 1)).toList = (List.replicate n (0 : Int)).map (Value.int k) := by
    rw [Nat.mul_one]; show (madeCells #[Value.int k 0] n).toList = _; rw [toList_madeCells_one]; simp
  rw [this] at h1
  show w'.ownsRow B e 1 _ (List.replicate n (0 : Int)).length _
  rw [List.length_replicate]; exact h1

/-- copy(dst, src): dst a row of the call's own, at least as long as src -/
theorem wpList_copy_rd {P : Program} (w : World) {ops : Array Oper} {rest : List Oper} {o : Oper} {a : Act} {Q : Exit → Act → World → Prop} (hgd : o.guard = none) (d s : Operand) (dT sT : TypeId)
    (ho : o.op = .call { callee := .builtin .copy, args := #[d, s], argTypes := #[dT, sT] }) {e : TypeId} {k : IntKind} {bytes : Nat} (hE : Elem P e k bytes) (ht : P.underlying dT = some (.slice e))
    (B : Nat) (v : Value) (xs : List Int) (hd : a.eval d = v) (hown : Own k e w B v xs) (u : Value) (ys : List Int) (hs : a.eval s = u) (hr : Rd k w u ys) (hle : ys.length ≤ xs.length)
    (h : ∀ w', Own k e w' B v (ys ++ xs.drop ys.length) → w.grownBy w' v.ownBlock → wpList P ops Q rest (a.put o.dst (goInt ys.length)) w') : wpList P ops Q (o :: rest) a w := by
  obtain ⟨i, hi, hz, hsz, hbs⟩ := hE.info
  have hi1 : (P.info? e).map (·.size) = some 1 := by rw [hi]; simp [hsz]
  have hv : ∃ da dl dc, v = .slice da dl dc ∧ dl = xs.length := by
    rcases hown.2 with ⟨rfl, h0⟩ | ⟨g, cap, cur, rfl, _⟩
    · exact ⟨none, 0, 0, rfl, h0.symm⟩
    · exact ⟨_, _, _, rfl, rfl⟩
  rcases hr with ⟨rfl, ad, c, rfl, hc, hn⟩ | ⟨h0, b, off, c, rfl, h2, h3, h4, h5⟩
  · obtain ⟨da, dl, dc, rfl, rfl⟩ := hv
    exact wpList_copy_nothing hgd d s dT sT ho e ht hi1 da ad xs.length dc 0 c hd hs (Nat.zero_min _) (h w (by simpa using hown) (World.grownBy.refl w _))
  · have hown' := hown
    obtain ⟨q1, q2⟩ := hown
    rcases q2 with ⟨rfl, hx0⟩ | ⟨g, cap, cur, rfl, hb, hg, hn, hm, hcs, htk⟩
    · exact absurd (List.length_eq_zero_iff.1 (show ys.length = 0 by omega)) h0
    · have hcur : cur.size = cap := by rw [hcs, Nat.mul_one]
      refine wpList_copy_own hgd d s dT sT ho e ht hi1 g 0 xs.length cap ⟨b, off, none⟩ ys.length c hd hs cur e hg (ys.map (Value.int k)) (by rw [List.length_map]; exact (Nat.min_eq_left hle).symm) (Rd.src h5) (by simp; omega) (ints_oneCell k ys) ?_
      rw [List.length_map]
      refine h _ ?_ ?_
      · refine ⟨by simp, .inr ⟨g, cap, _, ?_, hb, setRow_heap w g _ _ e _ hg, by simp; omega, hm, by simp; omega, ?_⟩⟩
        · simp; omega
        · rw [Nat.mul_one] at htk ⊢
          simp only [List.take_zero, List.nil_append, Nat.zero_add, List.map_append, List.length_append, List.length_drop]
          rw [show ys.length + (xs.length - ys.length) = xs.length by omega, List.take_append, List.length_map, List.take_of_length_le (by simp; omega), ← List.drop_take, List.map_drop, ← htk]
      · exact ⟨rfl, rfl, rfl, by simp [World.setRow], fun j _ hj => setRow_other w g j _ (fun e => hj (by rw [e]; rfl))⟩

theorem Own.alloc {k : IntKind} {e B : Nat} {w : World} {v : Value} {xs : List Int} (h : Own k e w B v xs) (o : Obj) : Own k e (w.alloc o) B v xs := World.ownsRow.alloc h o
theorem Own.at {k : IntKind} {e B : Nat} {w : World} {g n cap : Nat} {xs : List Int} (h : Own k e w B (.slice (some ⟨g, 0, none⟩) n cap) xs) (j : Nat) (hj : j < xs.length) :
    w.cell? ⟨g, j, none⟩ = some (.int k (xs.getD j 0)) ∧ w.frozen? ⟨g, j, none⟩ = false := by
  have hn : n = xs.length := by
    rcases h.2 with ⟨q, _⟩ | ⟨g', cap', cur, q, _⟩
    · cases q
    · simp only [Value.slice.injEq] at q; exact q.2.1
  subst hn
  refine ⟨?_, World.ownsRow.frozenAt h j⟩
  have := World.ownsRow.cellAt h j (by omega)
  rw [this]; simp [List.getD, List.getElem?_eq_getElem hj]
theorem Own.set {k : IntKind} {e B : Nat} {w : World} {g n cap : Nat} {xs : List Int} (h : Own k e w B (.slice (some ⟨g, 0, none⟩) n cap) xs) (j : Nat) (x : Int) :
    Own k e (w.setCell ⟨g, j, none⟩ (.int k x)) B (.slice (some ⟨g, 0, none⟩) n cap) (xs.set j x) := by
  have hn : n = xs.length := by
    rcases h.2 with ⟨q, _⟩ | ⟨g', cap', cur, q, _⟩
    · cases q
    · simp only [Value.slice.injEq] at q; exact q.2.1
  subst hn
  have := (World.ownsRow.stored h j (.int k x)).1
  unfold Own
  rw [List.length_set, List.map_set]; exact this
theorem Own.len {k : IntKind} {e B : Nat} {w : World} {v : Value} {xs : List Int} (h : Own k e w B v xs) : ∃ a c, v = .slice a xs.length c := by
  rcases h.2 with ⟨q, h0⟩ | ⟨g', cap', cur, q, _⟩
  · exact ⟨none, 0, by rw [h0]; exact q⟩
  · exact ⟨_, _, q⟩
theorem Rd.isSlice {k : IntKind} {w : World} {v : Value} {xs : List Int} (h : Rd k w v xs) : ∃ a c, v = .slice a xs.length c := by
  rcases h with ⟨rfl, a, c, rfl, _⟩ | ⟨_, b, o, c, rfl, _⟩
  · exact ⟨_, _, rfl⟩
  · exact ⟨_, _, rfl⟩
theorem grew {B : Nat} {a w w' : World} {row : Option Nat} (h : Below B a w) (hg : w.grownBy w' row) (hB : B ≤ w.heap.size) (hr : ∀ k, row = some k → B ≤ k) : Below B a w' := h.grown hg hB hr
theorem Own.blk {k : IntKind} {e B : Nat} {w : World} {v : Value} {xs : List Int} (h : Own k e w B v xs) : ∀ j, v.ownBlock = some j → B ≤ j := fun j hj => (World.ownsRow.lt h j hj).1
theorem ret_bool {a b : Bool} (h : a = b) : Ending.returned (.bool a) = .returned (.bool b) := by rw [h]
theorem ret_int {k : IntKind} {a b : Int} (h : a = b) : Ending.returned (.int k a) = .returned (.int k b) := by rw [h]
theorem Bts.append {xs ys : List Int} (h : Bts xs) (k : Bts ys) : Bts (xs ++ ys) := by
  intro x hx
  rcases List.mem_append.1 hx with hx | hx
  · exact h x hx
  · exact k x hx
theorem getD_bts {xs : List Int} (hx : Bts xs) (j : Nat) : 0 ≤ xs.getD j 0 ∧ xs.getD j 0 < 256 := by
  by_cases h : j < xs.length
  · exact hx _ (by simp [List.getD, List.getElem?_eq_getElem h])
  · have : xs.getD j 0 = 0 := by simp [List.getD, List.getElem?_eq_none (Nat.le_of_not_lt h)]
    omega
theorem Rd.cellOf {k : IntKind} {w : World} {b o : Nat} {xs : List Int} (h : ∀ i, i < xs.length → w.cell? ⟨b, o + i, none⟩ = some (.int k (xs.getD i 0))) (i j : Nat) (hj : j = o + i) (hi : i < xs.length) :
    w.cell? ⟨b, j, none⟩ = some (.int k (xs.getD i 0)) := by subst hj; exact h i hi
theorem Rd.lit' {k : IntKind} {e : TypeId} {w : World} (xs : List Int) (h0 : xs ≠ []) (n b : Nat) (hn : n = xs.length) (hm : n ≤ maxLen) (cs : Array Value) (hc : cs = (xs.map (Value.int k)).toArray) (hb : b = w.heap.size) :
    Rd k (w.alloc (.cells cs e)) (.slice (some ⟨b, 0, none⟩) n n) xs := by subst hb; exact Rd.lit xs h0 n hn hm cs hc

/-- WHAT A LAW's CALL COMES TO: true, and all that was there is as it was -/
def Yes (w : World) (e : Ending) (w' : World) : Prop := e = .returned (.bool true) ∧ Below w.heap.size w w'

theorem Rd.one' (k : IntKind) (e : TypeId) (w : World) (x : Int) (b : Nat) (hb : b = w.heap.size) : Rd k (w.alloc (.cells #[.int k x] e)) (.slice (some ⟨b, 0, none⟩) 1 1) [x] := by subst hb; exact Rd.one k e w x
theorem Own.keep {k : IntKind} {e B : Nat} {w w' : World} {v : Value} {xs : List Int} (h : Own k e w B v xs) (hb : Below w.heap.size w w') : Own k e w' B v xs := h.below hb
theorem below_drewN {B : Nat} {a w : World} (h : Below B a w) (n : Nat) : Below B a (w.drewN n) := ⟨h.os, h.tape, h.output, h.size, h.block⟩

theorem Own.kept {k : IntKind} {e B : Nat} {w w' : World} {v : Value} {xs : List Int} {row : Option Nat} (h : Own k e w B v xs) (hg : w.grownBy w' row) (hne : ∀ j, v.ownBlock = some j → row ≠ some j) : Own k e w' B v xs := by
  refine World.ownsRow.kept h hg ?_
  cases hv : v.ownBlock with
  | none => exact .inl rfl
  | some j => exact .inr fun e => hne j hv e.symm
/-- make([]T, 0, n): a row of n zeros, none of them handed out yet -/
theorem wpList_make_cap {P : Program} (w : World) {ops : Array Oper} {rest : List Oper} {o : Oper} {a : Act} {Q : Exit → Act → World → Prop} (hgd : o.guard = none) (l c : Operand) (t : TypeId) (hop : o.op = Op.makeSlice t l c)
    {e : TypeId} {k : IntKind} {bytes : Nat} (hE : Elem P e k bytes) (ht : P.underlying t = some (.slice e)) (kl kc : IntKind) (C : Int) (n : Nat) (hl : a.eval l = .int kl 0) (hc : a.eval c = .int kc C) (hC : C = (n : Int))
    (hby : bytes * n ≤ 281474976710656) (h63 : n ≤ maxLen) (B : Nat) (hB : B ≤ w.heap.size)
    (hK : ∀ w', Own k e w' B (.slice (some ⟨w.heap.size, 0, none⟩) n n) (List.replicate n 0) → w.grownBy w' none → wpList P ops Q rest (a.put o.dst (.slice (some ⟨w.heap.size, 0, none⟩) 0 n)) w') : wpList P ops Q (o :: rest) a w := by
  obtain ⟨i, hi, hz, hsz, hbs⟩ := hE.info
  subst hC
  have hr := run_make (P := P) w t e i (.int k 0) ht hi hz kl kc 0 (n : Int) (Int.le_refl _) (by omega) (by rw [hbs]; have h : ((bytes * n : Nat) : Int) ≤ ((281474976710656 : Nat) : Int) := Int.ofNat_le.2 hby; rw [Int.natCast_mul] at h; exact h) (by unfold maxLen at h63; omega)
  refine wpList_plain hgd fun K hK' => ?_
  unfold Oper.wp
  simp [execOp, hop, hl, hc, hr, Result.andThen]
  have e1 : (madeCells (Value.cells (.int k 0)) (n * i.size)).toList = (List.replicate n (0 : Int)).map (Value.int k) := by
    rw [hsz, Nat.mul_one]; show (madeCells #[Value.int k 0] n).toList = _; rw [toList_madeCells_one]; simp
  have own := World.ownsRow_lit (base := B) (e := e) (size := 1) w (madeCells (Value.cells (.int k 0)) (n * i.size)) n hB h63 (by rw [size_madeCells, hsz])
  rw [e1] at own
  refine hK' _ _ (hK _ ?_ (World.grownBy_alloc w _ none))
  show World.ownsRow _ B e 1 _ (List.replicate n (0 : Int)).length _
  rw [List.length_replicate]
  exact own

/-- append INTO THE ROOM of a row of the call's own, whose cells are known to the end -/
theorem wpList_append_room {P : Program} (w : World) {ops : Array Oper} {rest : List Oper} {o : Oper} {a : Act} {Q : Exit → Act → World → Prop} (hgd : o.guard = none) (s x : Operand) (t : TypeId)
    (ho : o.op = .call { callee := .builtin .append, args := #[s, x], argTypes := #[t, t] }) {e : TypeId} {k : IntKind} {bytes : Nat} (hE : Elem P e k bytes) (ht : P.underlying t = some (.slice e))
    (B g n cap : Nat) (xs : List Int) (hs : a.eval s = .slice (some ⟨g, 0, none⟩) n cap) (hown : Own k e w B (.slice (some ⟨g, 0, none⟩) cap cap) xs) (u : Value) (ys : List Int) (hx : a.eval x = u) (hr : Rd k w u ys) (hroom : n + ys.length ≤ cap)
    (h : ∀ w', Own k e w' B (.slice (some ⟨g, 0, none⟩) cap cap) (xs.take n ++ ys ++ xs.drop (n + ys.length)) → w.grownBy w' (some g) → wpList P ops Q rest (a.put o.dst (.slice (some ⟨g, 0, none⟩) (n + ys.length) cap)) w') : wpList P ops Q (o :: rest) a w := by
  obtain ⟨i, hi, hz, hsz, hbs⟩ := hE.info
  have hown0 := hown
  obtain ⟨hxl, hc⟩ := hown
  rcases hc with ⟨q, _⟩ | ⟨g', cap', cur, q, hBg, hg, hn, hm, hcs, htk⟩
  · cases q
  simp only [Value.slice.injEq, Option.some.injEq, Addr.mk.injEq, and_true] at q
  obtain ⟨rfl, hcx, rfl⟩ := q
  have hcur : cur.toList = xs.map (Value.int k) := by
    rw [← htk, List.take_of_length_le (by rw [Array.length_toList, hcs, hcx]; omega)]
  have fin : ∀ news : List Value, news = ys.map (Value.int k) → ∀ w', w'.heap[g]? = some (.cells (cur.toList.take n ++ news ++ cur.toList.drop (n + news.length)).toArray e (0, 0)) → w.grownBy w' (some g) → wpList P ops Q rest (a.put o.dst (.slice (some ⟨g, 0, none⟩) (n + ys.length) cap)) w' := by
    intro news hnw w' hw' hgr
    subst hnw
    refine h w' ⟨by simp, .inr ⟨g, cap, _, ?_, hBg, hw', by simp; omega, hm, ?_, ?_⟩⟩ hgr
    · have : (xs.take n ++ ys ++ xs.drop (n + ys.length)).length = cap := by simp; omega
      rw [this]
    · rw [hcur]; simp; omega
    · rw [hcur]
      simp only [List.map_append, List.map_take, List.map_drop, List.length_map]
      rw [List.take_of_length_le (by simp)]
  rcases hr with ⟨rfl, ad, c, rfl, hc, hno⟩ | ⟨h0, b, off, c, rfl, h2, h3, h4, h5⟩
  · cases ad with
    | none =>
      obtain rfl := hno rfl
      refine wpList_plain hgd fun K hK => ?_
      have hrun : (Builtin.append_ #[t, t] o.type #[.slice (some ⟨g, 0, none⟩) n cap, .slice none 0 0]).run P w = .ok (.slice (some ⟨g, 0, none⟩) n cap) w := by
        simp [Builtin.append_, run_underlying ht, sizeOf, typeInfo, hi, Builtin.lenOf, Builtin.firstCells, storeCells, show n ≤ cap by simpa using hroom]
      unfold Oper.wp
      simp only [execOp, ho, resolve, invoke, builtin, Sem.run_bind, Sem.run_pure, Result.andThen_ok, List.map_toArray, List.map_cons, List.map_nil, hs, hx, hrun]
      refine hK _ _ (fin [] rfl _ ?_ (World.grownBy.refl w _))
      rw [hg]; simp
    | some ad =>
      refine wpList_plain hgd fun K hK => ?_
      have hrun := run_append_room (P := P) w t o.type e i ht hi g n cap cur hg ad 0 c [] (by simp) (fun j u hu => by simp at hu) (fun u hu => by simp at hu) hroom (by rw [hsz, hcs]; simp at hroom ⊢; omega)
      unfold Oper.wp
      simp only [execOp, ho, resolve, invoke, builtin, Sem.run_bind, Sem.run_pure, Result.andThen_ok, List.map_toArray, List.map_cons, List.map_nil, hs, hx, hrun]
      refine hK _ _ (fin [] rfl _ ?_ ?_)
      · rw [setRow_heap w g _ _ e _ hg, hsz]; simp
      · exact ⟨rfl, rfl, rfl, by simp [World.setRow], fun j _ hj => setRow_other w g j _ (fun e => hj (by rw [e]))⟩
  · refine wpList_plain hgd fun K hK => ?_
    have hrun := run_append_room (P := P) w t o.type e i ht hi g n cap cur hg ⟨b, off, none⟩ ys.length c (ys.map (Value.int k)) (by rw [hsz]; simp) (Rd.src h5) (ints_oneCell k ys) hroom (by rw [hsz, hcs]; simp; omega)
    unfold Oper.wp
    simp only [execOp, ho, resolve, invoke, builtin, Sem.run_bind, Sem.run_pure, Result.andThen_ok, List.map_toArray, List.map_cons, List.map_nil, hs, hx, hrun]
    refine hK _ _ (fin (ys.map (Value.int k)) rfl _ ?_ ?_)
    · rw [setRow_heap w g _ _ e _ hg, hsz]; simp
    · exact ⟨rfl, rfl, rfl, by simp [World.setRow], fun j _ hj => setRow_other w g j _ (fun e => hj (by rw [e]))⟩

/-- the first ones of a row of the call's own -/
theorem Own.front {k : IntKind} {e B : Nat} {w : World} {g n cap : Nat} {zs : List Int} (h : Own k e w B (.slice (some ⟨g, 0, none⟩) n cap) zs) (m : Nat) (hm : m ≤ zs.length) : Rd k w (.slice (some ⟨g, 0, none⟩) m cap) (zs.take m) := by
  have hl : (zs.take m).length = m := by rw [List.length_take]; omega
  have h0 := h
  rcases h.2 with ⟨q, _⟩ | ⟨g', cap', cur, q, hb, hg, hn, hmx, hcs, htk⟩
  · cases q
  simp only [Value.slice.injEq, Option.some.injEq, Addr.mk.injEq, and_true] at q
  obtain ⟨rfl, rfl, rfl⟩ := q
  by_cases hm0 : m = 0
  · subst hm0
    exact .inl ⟨by simp, _, _, rfl, hmx, fun h => by cases h⟩
  · refine .inr ⟨fun h => hm0 (by rw [← hl, h]; rfl), g, 0, cap, by rw [hl], by omega, hmx, (Array.getElem?_eq_some_iff.1 hg).1, fun i hi => ?_⟩
    rw [hl] at hi
    rw [Nat.zero_add, (h0.at i (by omega)).1]
    simp [List.getD, hi]

theorem Own.shape {k : IntKind} {e B : Nat} {w : World} {a : Option Addr} {n c : Nat} {xs : List Int} (h : Own k e w B (.slice a n c) xs) (hx : 0 < xs.length) : ∃ g, a = some ⟨g, 0, none⟩ ∧ B ≤ g := by
  rcases h.2 with ⟨q, h0⟩ | ⟨g', cap', cur, q, hb, _⟩
  · omega
  · simp only [Value.slice.injEq] at q
    exact ⟨g', q.1, hb⟩


end Go.Proofs.YtdfebmjincnfiaaDoor
