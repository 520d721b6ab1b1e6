/- Walks of layer 4: the writer's small steps. -/
/- Walks of layer 4: the writer's spans. -/
import Derived.Test.YtfkkimaebhjneaaDoorFrS
import Derived.Test.YtfkkimaebhjneaaDoorFrL
set_option linter.unusedSimpArgs false
set_option linter.unusedVariables false
namespace Go.Proofs.YtfkkimaebhjneaaDoor
open Go.RowKit

def E (n : Int) : List Int := enc n (sizeI n)
theorem fits_of {n : Int} (h0 : 0 ≤ n) (h1 : n ≤ 4611686018427387903) : fitsB n 8 = true := by
  simp only [fitsB, decide_eq_true_eq]
  exact ⟨h0, by simp only [Int.reduceMul, Int.reduceSub, Int.reduceToNat, Int.reducePow]; omega⟩
theorem E_len {n : Int} (h : fitsB n 8 = true) : 1 ≤ (E n).length ∧ (E n).length ≤ 8 := by
  have := sizeI_in h
  unfold E
  rw [enc_len _ _ this.1]
  rcases this.1 with h | h | h | h <;> rw [h] <;> decide
theorem E_le (n : Int) : (E n).length ≤ 8 := by
  unfold E enc
  split
  · simp [be_len]
  · split
    · simp [be_len]
    · split <;> simp [be_len]
theorem E_bts (n : Int) : Bts (E n) := enc_bts _ _

/-- WHAT A STEP OF THE WRITER AT BLOCK q LEAVES AS IT WAS: all below q; all that is no row of bytes -/
structure WG (q : Nat) (w w' : World) : Prop where
  bel : Below q w w'
  kept : ∀ k cs e fr, w.heap[k]? = some (.cells cs e fr) → e ≠ 5 → k ≠ q → w'.heap[k]? = some (.cells cs e fr)
theorem WG.refl (q : Nat) (w : World) : WG q w w := ⟨Below.refl _ _, fun _ _ _ _ h _ _ => h⟩
theorem WG.trans {q : Nat} {a b c : World} (h : WG q a b) (k : WG q b c) : WG q a c := ⟨h.bel.trans k.bel, fun j cs e fr h1 h2 h3 => k.kept j cs e fr (h.kept j cs e fr h1 h2 h3) h2 h3⟩
theorem WG.of_below {q : Nat} {a b : World} (h : Below a.heap.size a b) (hq : q ≤ a.heap.size) : WG q a b := ⟨h.mono hq, fun j _ _ _ h1 _ _ => (h.block j (Array.getElem?_eq_some_iff.1 h1).1).trans h1⟩
theorem WG.drewN {q : Nat} {a b : World} (h : WG q a b) (n : Nat) : WG q a (b.drewN n) := ⟨below_drewN h.bel n, h.kept⟩

theorem WG.grown {q : Nat} {w w1 w2 : World} {v : Value} {bs : List Int} (h : WG q w w1) (o : Own .u8 5 w1 (q + 1) v bs) (g : w1.grownBy w2 v.ownBlock) (hq : q ≤ w1.heap.size) : WG q w w2 := by
  refine ⟨h.bel.grown g hq (fun k hk => by have := o.blk k hk; omega), fun k cs e fr h1 h2 h3 => ?_⟩
  have k1 := h.kept k cs e fr h1 h2 h3
  refine block_kept k1 g fun hv => ?_
  rcases o.2 with ⟨rfl, _⟩ | ⟨g', cap, cur, rfl, _, hg', _⟩
  · cases hv
  · simp only [Value.ownBlock, Option.some.injEq] at hv
    subst hv
    rw [hg'] at k1
    simp only [Option.some.injEq, Obj.cells.injEq] at k1
    exact h2 k1.2.1.symm
theorem WG.setAt {q : Nat} {w w1 : World} (h : WG q w w1) (i : Nat) (x : Value) : WG q w (w1.setCell ⟨q, i, none⟩ x) :=
  ⟨h.bel.setCell (Nat.le_refl _) _, fun k cs e fr h1 h2 h3 => (Below.heap_setCell _ _ _ _ h3).trans (h.kept k cs e fr h1 h2 h3)⟩

/-- THE WRITER AT BLOCK q HOLDS THE BYTES bs -/
structure WAt (w : World) (q : Nat) (v : Value) (bs : List Int) : Prop where
  is : w.heap[q]? = some (.cells #[v] 46 (0, 0))
  own : Own .u8 5 w (q + 1) v bs
theorem WAt.lt {w : World} {q : Nat} {v : Value} {bs : List Int} (h : WAt w q v bs) : q < w.heap.size := (Array.getElem?_eq_some_iff.1 h.is).1
theorem WAt.below {w w' : World} {q : Nat} {v : Value} {bs : List Int} (h : WAt w q v bs) (hb : Below w.heap.size w w') : WAt w' q v bs := ⟨(hb.block q h.lt).trans h.is, h.own.below hb⟩
theorem WAt.drewN {w : World} {q : Nat} {v : Value} {bs : List Int} (h : WAt w q v bs) (n : Nat) : WAt (w.drewN n) q v bs := ⟨h.is, h.own⟩

/-- WHAT A STEP OF THE WRITER COMES TO -/
def WIs (w : World) (q : Nat) (bs : List Int) (e : Ending) (w' : World) : Prop := e = .returned (.tuple #[]) ∧ WG q w w' ∧ ∃ v, WAt w' q v bs

set_option maxHeartbeats 1600000 in
theorem wnumber_any (q : Nat) (v : Value) (n : Int) (bs : List Int) (w : World) (ht : Tab w) (h : WAt w q v bs) (h0 : 0 ≤ n) (h1 : n ≤ 4611686018427387903) (hb : bs.length ≤ 1073741824) :
    Calls Tryd.prog 39 #[.pointer (some ⟨q, 0, none⟩), .int .i64 n] w (WIs w q (bs ++ E n)) := by
  have hf := fits_of h0 h1
  have HL := Lib.hid (E_len hf)
  have HP := Lib.hid (put_yes (.slice none 0 0) [] n w ht (Rd.nil _ _) (by simp) hf)
  have H := Lib.hid h
  obtain ⟨va, vc, rfl⟩ := h.own.len
  have c0 := Joins.cell_of_block h.is 0
  clear h ht hf
  go_enter Tryd.func39, Tryd.ntmps39
  go_wp2_with fail
  refine HP.out.mono ?_
  rintro e w1 ⟨u, rfl, ou, b1⟩
  obtain ⟨ua, uc, rfl⟩ := ou.len
  have k1 := (b1.block q H.out.lt).trans H.out.is
  have d0 := Joins.cell_of_block k1 0
  have df := Joins.unfrozen_of_block k1
  have O1 := H.out.own.below b1
  have lq := H.out.lt
  have z1 := b1.size
  have ll := HL.out.2
  go_wp2_with (first
    | (at_builtin; refine wpList_append_rd _ rfl (.tmp 15) (.tmp 16) 23 rfl elemU8 Tryd.underlying23 (q + 1) (.slice va bs.length vc) bs rfl O1 _ (E n) rfl ou.rd ?_ ?_ ?_ ?_; (omega); (unfold maxLen; omega); (omega); intro v2 w2 o2 g2; obtain ⟨a2, c2, rfl⟩ := Own.len o2; have k2 := block_kept k1 g2 (fun e => by have := O1.blk _ e; omega); have e0 := Joins.cell_of_block k2 0; have ef := Joins.unfrozen_of_block k2))
  go_end0
  refine ⟨rfl, ((WG.of_below b1 (by omega)).grown O1 g2 (by omega)).setAt _ _, .slice a2 (bs.length + (E n).length) c2, Joins.block_setCell k2 _, ?_⟩
  rw [← List.length_append]
  exact Own.kept o2 (grownBy_set (World.grownBy.refl _ _) _ _ (.inl rfl)) (fun j hj e => by have := o2.blk j hj; simp only [Option.some.injEq] at e; omega)

theorem RdS.cells1 {w w' : World} {b o n c q : Nat} {ss : List (Int × Int)} (h : RdS w (.slice (some ⟨b, o, none⟩) n c) ss) (hb : Below q w w') (hq : b < q) : RdS w' (.slice (some ⟨b, o, none⟩) n c) ss := by
  have hn : ss.length = n := by obtain ⟨_, _, e, _⟩ := RdC.isSlice h; simp only [Value.slice.injEq] at e; exact e.2.1.symm
  subst hn
  obtain ⟨h0, h | ⟨h1, b', o', c', e, h2, h3, h4, h5⟩⟩ := h
  · exact ⟨h0, .inl h⟩
  · refine ⟨h0, .inr ⟨h1, b', o', c', e, h2, h3, Nat.lt_of_lt_of_le h4 hb.size, fun j u hu => ?_⟩⟩
    simp only [Value.slice.injEq, Option.some.injEq, Addr.mk.injEq, and_true, true_and] at e
    obtain ⟨⟨rfl, rfl⟩, rfl⟩ := e
    exact (hb.cell (p := ⟨b, o + j, none⟩) hq).trans (h5 j u hu)
def typeI (f : Fr) : Int := if f.kind = 8 then (if f.fin then 15 else 14) else f.kind
theorem typeOf_any (f : Fr) (da sa : Option Addr) (dl sl dc sc : Nat) (w : World) :
    Calls Tryd.prog 40 #[.agg #[.int .i64 f.kind, .int .i64 f.stream, .int .i64 f.offset, .int .i64 f.n, .int .i64 f.code, .bool f.fin, .slice da dl dc, .slice sa sl sc]] w fun e w' => e = .returned (.int .i64 (typeI f)) ∧ Below w.heap.size w w' := by
  by_cases h : f.kind = 8
  · have h0 : (f.kind != 8) = false := by simp [h]
    cases hf : f.fin
    · have e : typeI f = 14 := by simp [typeI, h, hf]
      rw [e]
      clear e h
      go_enter Tryd.func40, Tryd.ntmps40
      go_wp2
      go_ret
      exact ⟨rfl, (Below.refl _ _).alloc (Nat.le_refl _) _⟩
    · have e : typeI f = 15 := by simp [typeI, h, hf]
      rw [e]
      clear e h
      go_enter Tryd.func40, Tryd.ntmps40
      go_wp2
      go_ret
      exact ⟨rfl, (Below.refl _ _).alloc (Nat.le_refl _) _⟩
  · have h0 : (f.kind != 8) = true := by simp [h]
    have e : typeI f = f.kind := by simp [typeI, h]
    rw [e]
    clear e h
    go_enter Tryd.func40, Tryd.ntmps40
    go_wp2
    go_ret
    exact ⟨rfl, (Below.refl _ _).alloc (Nat.le_refl _) _⟩

/-- spans' bytes, the highest one first, behind the span hi -/
def downL (hi : Int × Int) : List (Int × Int) → List Int
  | [] => []
  | s :: r => E (hi.1 - s.2 - 2) ++ E (s.2 - s.1) ++ downL s r
def spanBytes (ss : List (Int × Int)) : List Int := match ss.reverse with
  | [] => []
  | l :: r => E (r.length : Int) ++ E (l.2 - l.1) ++ downL l r
theorem downL_le (hi : Int × Int) (l : List (Int × Int)) : (downL hi l).length ≤ 16 * l.length := by
  induction l generalizing hi with
  | nil => simp [downL]
  | cons s r ih =>
    have := ih s
    have a := E_le (hi.1 - s.2 - 2)
    have b := E_le (s.2 - s.1)
    simp only [downL, List.length_append, List.length_cons]; omega
theorem spanBytes_le (ss : List (Int × Int)) : (spanBytes ss).length ≤ 16 * ss.length := by
  unfold spanBytes
  split
  · simp
  · rename_i l r h
    have hl : ss.length = r.length + 1 := by rw [← List.length_reverse, h]; simp
    have := downL_le l r
    have a := E_le (r.length : Int)
    have b := E_le (l.2 - l.1)
    simp only [List.length_append]; omega
/-- spans that rise -/
def Rises : List (Int × Int) → Prop
  | [] => True
  | [s] => 0 ≤ s.1 ∧ s.1 ≤ s.2 ∧ s.2 ≤ 4611686018427387903
  | s :: t :: r => 0 ≤ s.1 ∧ s.1 ≤ s.2 ∧ s.2 + 2 ≤ t.1 ∧ s.2 ≤ 4611686018427387903 ∧ Rises (t :: r)
theorem Rises.of {least : Int} {ss : List (Int × Int)} (h0 : 0 ≤ least) (h : risesB least ss = true) : Rises ss := by
  induction ss generalizing least with
  | nil => trivial
  | cons s r ih =>
    unfold risesB at h
    split at h
    · cases h
    · rename_i hn
      have hr := ih (by omega) h
      cases r with
      | nil => exact ⟨by omega, by omega, by omega⟩
      | cons t r =>
        refine ⟨by omega, by omega, ?_, by omega, hr⟩
        unfold risesB at h
        split at h
        · cases h
        · omega
theorem Rises.at {ss : List (Int × Int)} (h : Rises ss) (i : Nat) (hi : i < ss.length) : 0 ≤ (ss.getD i (0, 0)).1 ∧ (ss.getD i (0, 0)).1 ≤ (ss.getD i (0, 0)).2 ∧ (ss.getD i (0, 0)).2 ≤ 4611686018427387903 := by
  induction ss generalizing i with
  | nil => simp at hi
  | cons s r ih =>
    cases i with
    | zero => cases r with
      | nil => exact h
      | cons t r => exact ⟨h.1, h.2.1, h.2.2.2.1⟩
    | succ i => cases r with
      | nil => simp at hi
      | cons t r => exact ih h.2.2.2.2 i (by simpa using hi)
theorem Rises.next {ss : List (Int × Int)} (h : Rises ss) (i : Nat) (hi : i + 1 < ss.length) : (ss.getD i (0, 0)).2 + 2 ≤ (ss.getD (i + 1) (0, 0)).1 := by
  induction ss generalizing i with
  | nil => simp at hi
  | cons s r ih =>
    cases r with
    | nil => simp at hi
    | cons t r =>
      cases i with
      | zero => exact h.2.2.1
      | succ i => exact ih h.2.2.2.2 i (by simpa using hi)
end Go.Proofs.YtfkkimaebhjneaaDoor

namespace Go.Proofs.YtfkkimaebhjneaaDoor
open Go.RowKit

theorem spanBytes_at {ss : List (Int × Int)} {m : Nat} (h : ss.length = m + 1) : spanBytes ss = E (m : Int) ++ (E ((ss.getD m (0, 0)).2 - (ss.getD m (0, 0)).1) ++ downL (ss.getD m (0, 0)) (ss.take m).reverse) := by
  have e : ss = ss.take m ++ [ss.getD m (0, 0)] := by
    conv => lhs; rw [← List.take_append_drop m ss]
    congr 1
    rw [List.drop_eq_getElem_cons (by omega), List.drop_of_length_le (by omega)]
    simp [List.getD, show m < ss.length by omega]
  have r : ss.reverse = ss.getD m (0, 0) :: (ss.take m).reverse := by
    conv => lhs; rw [e]
    simp
  unfold spanBytes
  rw [r]
  simp only [List.length_reverse, List.length_take]
  rw [show min m ss.length = m by omega, List.append_assoc]

set_option maxHeartbeats 3200000 in
theorem wspans_any (q : Nat) (v : Value) (b o c : Nat) (ss : List (Int × Int)) (bs : List Int) (w : World) (ht : Tab w) (h : WAt w q v bs) (hb : bs.length ≤ 1073741) (hq : 0 < q) (hr : Rises ss) (h1 : 1 ≤ ss.length) (h32 : ss.length ≤ 32) (hs : RdS w (.slice (some ⟨b, o, none⟩) ss.length c) ss) (hbq : b < q) :
    Calls Tryd.prog 41 #[.pointer (some ⟨q, 0, none⟩), .slice (some ⟨b, o, none⟩) ss.length c] w (WIs w q (bs ++ spanBytes ss)) := by
  obtain ⟨m, hm⟩ : ∃ m, ss.length = m + 1 := ⟨ss.length - 1, by omega⟩
  have HT := Lib.hid ht
  have H := Lib.hid h
  have HS := Lib.hid hs
  have HR := Lib.hid hr
  have hw1 : IntKind.i64.wrap ((ss.length : Int) - 1) = (m : Int) := by rw [IntKind.wrap_i64]; omega
  have hlt := h.lt
  have N1 := Lib.hid (wnumber_any q v m bs w ht h (by omega) (by omega) (by omega))
  clear ht h hs hr
  go_enter Tryd.func41, Tryd.ntmps41
  go_wp2_with fail
  refine N1.out.mono ?_
  rintro e w1 ⟨rfl, g1, v1, A1⟩
  have R1 := Lib.hid (HS.out.cells1 g1.bel hbq)
  obtain ⟨q0, q1⟩ := R1.out.cells rfl m (by omega)
  obtain ⟨r1, r2, r3⟩ := HR.out.at m (by omega)
  obtain ⟨⟨x, y⟩, hs⟩ : ∃ s, s = ss.getD m (0, 0) := ⟨_, rfl⟩
  rw [← hs] at q0 q1 r1 r2 r3
  simp only at q0 q1 r1 r2 r3
  have hw2 : IntKind.i64.wrap (y - x) = y - x := by rw [IntKind.wrap_i64]; omega
  have hi1 : (m : Int) < (ss.length : Int) := by omega
  have hi2 : m < ss.length := by omega
  have hi3 : (0 : Int) ≤ (m : Int) := by omega
  have HM := Lib.hid hm
  clear hm
  have q0' : w1.drew.cell? ⟨b, o + m * 2, none⟩ = some (.int .i64 x) := q0
  have q1' : w1.drew.cell? ⟨b, o + m * 2 + 1, none⟩ = some (.int .i64 y) := q1
  go_wp2_with fail
  have hl1 : (bs ++ E (m : Int)).length ≤ 1073741 + 8 := by have := (E_len (fits_of (n := (m : Int)) (by omega) (by omega))).2; rw [List.length_append]; omega
  have T1 := HT.out.below g1.bel hq
  have N2 := Lib.hid (wnumber_any q v1 (y - x) (bs ++ E (m : Int)) w1.drew (T1.heap rfl) ⟨A1.is, A1.own⟩ (by omega) (by omega) (by omega))
  go_region_held3 (fun w' => w'.cell? ⟨b, o + m * 2, none⟩ = some (.int .i64 x) ∧ w'.cell? ⟨b, o + m * 2 + 1, none⟩ = some (.int .i64 y))
    (first
      | (exact ⟨q0', q1'⟩)
      | (exact ⟨(g2.bel.cell (p := ⟨b, _, none⟩) hbq).trans q0', (g2.bel.cell (p := ⟨b, _, none⟩) hbq).trans q1'⟩))
    (first
      | (go_at_call 39; refine N2.out.mono ?_; rintro e w2 ⟨rfl, g2, v2, A2⟩))
  have G2 : WG q w w2 := g1.trans (WG.trans ((WG.refl q w1).drewN 1) g2)
  have HE : Hid (bs ++ spanBytes ss = bs ++ E (m : Int) ++ E (y - x) ++ downL (ss.getD m (0, 0)) (ss.take m).reverse) := by
    show _ = _
    rw [spanBytes_at HM.out, ← hs]
    simp only [List.append_assoc]
  have HA2 := Lib.hid A2
  clear q0 q1 q0' q1' r1 r2 r3 hs g1 g2 A1 R1 N1 N2 A2 T1 hw2
  go_wp2_with fail
  have HL := Lib.hid (spanBytes_le ss)
  go_loopw [5] (fun i wr => ∃ (k : Nat) (vk : Value) (bk : List Int), i = .int .i64 ((k : Int) - 1) ∧ k ≤ m ∧ bk ++ downL (ss.getD k (0, 0)) (ss.take k).reverse = bs ++ spanBytes ss ∧ WAt wr q vk bk ∧ WG q w wr) (fun i _ => (intOf i + 1).toNat)
  case atStart => exact ⟨m, v2, _, rfl, Nat.le_refl _, by rw [HE.out], HA2.out, G2⟩
  case round =>
    obtain ⟨k, vk, bk, rfl, hk, hbk, Ak, Gk⟩ := hrel
    have HB := Lib.hid hbk
    have hlk : bk.length ≤ 1073741 + 512 := by
      have e1 := congrArg List.length hbk
      have e2 := HL.out
      rw [List.length_append, List.length_append] at e1
      omega
    clear hbk
    cases k with
    | zero =>
      have HZ : Hid (bk = bs ++ spanBytes ss) := by
        show _ = _
        rw [← HB.out]; simp [downL]
      go_wp2
      go_end0
      exact ⟨rfl, Gk, vk, by rw [← HZ.out]; exact Ak⟩
    | succ k =>
      have e0 : (((k + 1 : Nat) : Int) - 1) = (k : Int) := by omega
      rw [e0]
      obtain ⟨a1, a2, a3⟩ := HR.out.at k (by omega)
      obtain ⟨c1, c2, c3⟩ := HR.out.at (k + 1) (by omega)
      have d1 := HR.out.next k (by omega)
      have Rk := HS.out.cells1 Gk.bel hbq
      obtain ⟨p0, p1⟩ := Rk.cells rfl k (by omega)
      obtain ⟨p2, p3⟩ := Rk.cells rfl (k + 1) (by omega)
      have HD : Hid ((ss.take (k + 1)).reverse = ss.getD k (0, 0) :: (ss.take k).reverse) := by
        show _ = _
        rw [List.take_succ_eq_append_getElem (by omega)]
        simp [List.getD, show k < ss.length by omega]
      obtain ⟨⟨x0, y0⟩, hs0⟩ : ∃ s, s = ss.getD k (0, 0) := ⟨_, rfl⟩
      obtain ⟨⟨x1, y1⟩, hs1⟩ : ∃ s, s = ss.getD (k + 1) (0, 0) := ⟨_, rfl⟩
      rw [← hs0] at a1 a2 a3 d1 p0 p1
      rw [← hs1] at c1 c2 c3 d1 p2 p3
      simp only at a1 a2 a3 c1 c2 c3 d1 p0 p1 p2 p3
      have HS0 := Lib.hid hs0
      have HS1 := Lib.hid hs1
      have hw4 : IntKind.i64.wrap ((k : Int) + 1) = (k : Int) + 1 := wraps_i64' _ (by omega) (by omega)
      have hw5 : IntKind.i64.wrap (x1 - y0) = x1 - y0 := by rw [IntKind.wrap_i64]; omega
      have hw6 : IntKind.i64.wrap (x1 - y0 - 2) = x1 - y0 - 2 := by rw [IntKind.wrap_i64]; omega
      have hw7 : IntKind.i64.wrap (y0 - x0) = y0 - x0 := by rw [IntKind.wrap_i64]; omega
      have j1 : (k : Int) < (ss.length : Int) := by omega
      have j2 : k < ss.length := by omega
      have j3 : (0 : Int) ≤ (k : Int) := by omega
      have j4 : (k : Int) + 1 < (ss.length : Int) := by omega
      have j5 : k + 1 < ss.length := by omega
      have j6 : (0 : Int) ≤ (k : Int) + 1 := by omega
      have p1' : wr.drew.cell? ⟨b, o + k * 2 + 1, none⟩ = some (.int .i64 y0) := p1
      have p2' : wr.drew.cell? ⟨b, o + (k + 1) * 2, none⟩ = some (.int .i64 x1) := p2
      have TW := HT.out.below Gk.bel hq
      have M1 := Lib.hid (wnumber_any q vk (x1 - y0 - 2) bk wr.drew (TW.heap rfl) ⟨Ak.is, Ak.own⟩ (by omega) (by omega) (by omega))
      have l1 := E_le (x1 - y0 - 2)
      clear hs0 hs1 TW Rk p3
      go_wp2_with fail
      go_region_held3 (fun w' => w'.cell? ⟨b, o + k * 2 + 1, none⟩ = some (.int .i64 y0) ∧ w'.cell? ⟨b, o + (k + 1) * 2, none⟩ = some (.int .i64 x1))
        (first
          | (exact ⟨p1', p2'⟩)
          | (exact ⟨(g3.bel.cell (p := ⟨b, _, none⟩) hbq).trans p1', (g3.bel.cell (p := ⟨b, _, none⟩) hbq).trans p2'⟩))
        (first
          | (go_at_call 39; refine M1.out.mono ?_; rintro e w3 ⟨rfl, g3, v3, A3⟩))
      have G3 : WG q w w3 := Gk.trans (WG.trans ((WG.refl q wr).drewN 1) g3)
      have r0 : w3.drew.cell? ⟨b, o + k * 2, none⟩ = some (.int .i64 x0) := (g3.bel.cell (p := ⟨b, _, none⟩) hbq).trans p0
      have r1 : w3.drew.cell? ⟨b, o + k * 2 + 1, none⟩ = some (.int .i64 y0) := (g3.bel.cell (p := ⟨b, _, none⟩) hbq).trans p1
      have M2 := Lib.hid (wnumber_any q v3 (y0 - x0) (bk ++ E (x1 - y0 - 2)) w3.drew ((HT.out.below G3.bel hq).heap rfl) ⟨A3.is, A3.own⟩ (by omega) (by omega) (by rw [List.length_append]; omega))
      go_wp2_with fail
      go_region_held3 (fun w' => w'.cell? ⟨b, o + k * 2, none⟩ = some (.int .i64 x0) ∧ w'.cell? ⟨b, o + k * 2 + 1, none⟩ = some (.int .i64 y0))
        (first
          | (exact ⟨r0, r1⟩)
          | (exact ⟨(g4.bel.cell (p := ⟨b, _, none⟩) hbq).trans r0, (g4.bel.cell (p := ⟨b, _, none⟩) hbq).trans r1⟩))
        (first
          | (go_at_call 39; refine M2.out.mono ?_; rintro e w4 ⟨rfl, g4, v4, A4⟩))
      have G4 : WG q w w4 := G3.trans (WG.trans ((WG.refl q w3).drewN 1) g4)
      have HB2 : Hid (bk ++ E (x1 - y0 - 2) ++ E (y0 - x0) ++ downL (ss.getD k (0, 0)) (ss.take k).reverse = bs ++ spanBytes ss) := by
        show _ = _
        rw [← HB.out, HD.out, downL, ← HS0.out, ← HS1.out]
        simp only [List.append_assoc]
      go_wp2_with fail
      exact ⟨⟨k, v4, _, rfl, by omega, HB2.out, A4, G4⟩, by simp [intOf]⟩
end Go.Proofs.YtfkkimaebhjneaaDoor
