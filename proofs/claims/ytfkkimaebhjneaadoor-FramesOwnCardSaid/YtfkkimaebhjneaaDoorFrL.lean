/- Walks of layer 4: one frame, whatever its type; what breaks the reading off is caught. -/
/- Walks of layer 4: the deferred function that catches a fault. -/
/- Rows of frames. -/
/- Layer 4, plain: where the reading of a frame ends. -/
/- Walks of layer 4: Decode. -/
import Derived.Test.YtfkkimaebhjneaaDoorFrH
import Derived.Test.YtfkkimaebhjneaaDoorFrI
import Derived.Test.YtfkkimaebhjneaaDoorFrJ
import Derived.Test.YtfkkimaebhjneaaDoorFrK
import Derived.Defers
import Derived.Recover
import Derived.Deep.LoopGhost
import Derived.Test.YtfkkimaebhjneaaDoorFrF
set_option linter.unusedSimpArgs false
set_option linter.unusedVariables false
namespace Go.Proofs.YtfkkimaebhjneaaDoor
open Go.RowKit

theorem frame_bad (p b o cp : Nat) (xs : List Int) (a : Nat) (w : World) (hA : At w p (.slice (some ⟨b, o, none⟩) xs.length cp) a) (hr : Rd .u8 w (.slice (some ⟨b, o, none⟩) xs.length cp) xs) (hx : Bts xs) (ha : a < xs.length) (hbig : xs.length ≤ 1048576) (y z : Int)
    (hk : kindR xs a = .error (y, z)) :
    Calls Tryd.prog 35 #[.pointer (some ⟨p, 0, none⟩)] w (StepIs (frV w.heap.size) w p (.slice (some ⟨b, o, none⟩) xs.length cp) (.error (y, z))) := by
  have hlt := hA.lt
  have c1 := hA.c1
  have HK := Lib.hid hk
  have bW : Below w.heap.size w (w.alloc (.cells #[.int .i64 0, .int .i64 0, .int .i64 0, .int .i64 0, .int .i64 0, .bool false, .slice none 0 0, .slice none 0 0] 33)) := (Below.refl _ _).alloc (Nat.le_refl _) _
  have KA := Lib.hid (kind_any p b o xs.length cp xs a _ (hA.alloc (.cells #[.int .i64 0, .int .i64 0, .int .i64 0, .int .i64 0, .int .i64 0, .bool false, .slice none 0 0, .slice none 0 0] 33)) (hr.below bW) rfl hx ha hbig)
  clear hk hr hA bW hx
  go_enter Tryd.func35, Tryd.ntmps35
  go_wp2_with fail
  refine KA.out.mono ?_
  rintro e w1 h1
  obtain ⟨g1, rfl⟩ := h1.err HK.out
  exact ⟨rfl, grownBy_trans (World.grownBy_alloc w _ _) g1, rfl⟩

theorem and1 (c : Int) (h0 : 0 ≤ c) (h1 : c < 256) : bits .and .i64 c 1 = c % 2 := bytes_all (fun c => bits .and .i64 c 1 = c % 2) (by decide +kernel) c h0 h1
theorem and4 (c : Int) (h0 : 0 ≤ c) (h1 : c < 256) : bits .and .i64 c 4 = 4 * (c / 4 % 2) := bytes_all (fun c => bits .and .i64 c 4 = 4 * (c / 4 % 2)) (by decide +kernel) c h0 h1
theorem and2 (c : Int) (h0 : 0 ≤ c) (h1 : c < 256) : bits .and .i64 c 2 = 2 * (c / 2 % 2) := bytes_all (fun c => bits .and .i64 c 2 = 2 * (c / 2 % 2)) (by decide +kernel) c h0 h1

/-- ONE FRAME, WHATEVER STANDS THERE -/
theorem rframe_any (p b o cp : Nat) (xs : List Int) (a : Nat) (w : World) (ht : Tab w) (hA : At w p (.slice (some ⟨b, o, none⟩) xs.length cp) a) (hr : Rd .u8 w (.slice (some ⟨b, o, none⟩) xs.length cp) xs) (hx : Bts xs) (ha : a < xs.length) (hbig : xs.length ≤ 1048576) (hp0 : 0 < p) (hbp : b ≠ p) (hb : b < w.heap.size) :
    Calls Tryd.prog 35 #[.pointer (some ⟨p, 0, none⟩)] w (StepIs (frV w.heap.size) w p (.slice (some ⟨b, o, none⟩) xs.length cp) (frameR xs a)) := by
  have hc := getD_bts hx a
  cases hk : kindR xs a with
  | error e =>
    obtain ⟨y, z⟩ := e
    have e : frameR xs a = .error (y, z) := by unfold frameR; rw [hk]
    rw [e]
    exact frame_bad p b o cp xs a w hA hr hx ha hbig y z hk
  | ok q =>
    obtain ⟨⟨k, bt⟩, j⟩ := q
    have e : frameR xs a = restR xs a k bt j := by unfold frameR; rw [hk]
    rw [e]
    have hk' := hk
    unfold kindR at hk'
    split at hk'
    · rename_i hs
      unfold isStream at hs
      simp only [Except.ok.injEq, Prod.mk.injEq] at hk'
      obtain ⟨⟨rfl, rfl⟩, rfl⟩ := hk'
      generalize hbt : xs.getD a 0 - 8 = bt at hk ⊢
      have h0 : 0 ≤ bt := by omega
      have h1 : bt < 256 := by omega
      have b1 := and1 bt h0 h1
      have b4 := and4 bt h0 h1
      have b2 := and2 bt h0 h1
      have e4 : bt / 4 % 2 = 0 ∨ bt / 4 % 2 = 1 := by omega
      have e2 : bt / 2 % 2 = 0 ∨ bt / 2 % 2 = 1 := by omega
      rcases e4 with e4 | e4
      · rcases e2 with e2 | e2
        · exact frame_800 p b o cp xs a bt b1 (by rw [b4, e4]; rfl) e4 (by rw [b2, e2]; rfl) e2 w ht hA hr hx ha hbig hp0 hbp hb hk
        · exact frame_801 p b o cp xs a bt b1 (by rw [b4, e4]; rfl) e4 (by rw [b2, e2]; rfl) e2 w ht hA hr hx ha hbig hp0 hbp hb hk
      · rcases e2 with e2 | e2
        · exact frame_810 p b o cp xs a bt b1 (by rw [b4, e4]; rfl) e4 (by rw [b2, e2]; rfl) e2 w ht hA hr hx ha hbig hp0 hbp hb hk
        · exact frame_811 p b o cp xs a bt b1 (by rw [b4, e4]; rfl) e4 (by rw [b2, e2]; rfl) e2 w ht hA hr hx ha hbig hp0 hbp hb hk
    · split at hk'
      · rename_i hs hn
        simp only [Except.ok.injEq, Prod.mk.injEq] at hk'
        obtain ⟨⟨rfl, rfl⟩, rfl⟩ := hk'
        unfold knownK at hn
        have h8 : xs.getD a 0 ≠ 8 := fun h => hs (by unfold isStream; omega)
        generalize xs.getD a 0 = k at hk hn h8 ⊢
        rcases hn with rfl | rfl | rfl | rfl | rfl | rfl | rfl | rfl | rfl | rfl | rfl
        · exact frame_4 p b o cp xs a w ht hA hr hx ha hbig hp0 hbp hb hk
        · exact frame_5 p b o cp xs a w ht hA hr hx ha hbig hp0 hbp hb hk
        · exact absurd rfl h8
        · exact frame_17 p b o cp xs a w ht hA hr hx ha hbig hp0 hbp hb hk
        · exact frame_16 p b o cp xs a w ht hA hr hx ha hbig hp0 hbp hb hk
        · exact frame_18 p b o cp xs a w ht hA hr hx ha hbig hp0 hbp hb hk
        · exact frame_2 p b o cp xs a w ht hA hr hx ha hbig hp0 hbp hb hk
        · exact frame_28 p b o cp xs a w ht hA hr hx ha hbig hp0 hbp hb hk
        · exact frame_0 p b o cp xs a w ht hA hr hx ha hbig hp0 hbp hb hk
        · exact frame_1 p b o cp xs a w ht hA hr hx ha hbig hp0 hbp hb hk
        · exact frame_30 p b o cp xs a w ht hA hr hx ha hbig hp0 hbp hb hk
      · cases hk'
end Go.Proofs.YtfkkimaebhjneaaDoor

namespace Go.Proofs.YtfkkimaebhjneaaDoor
open Go.RowKit

set_option maxHeartbeats 1600000 in
theorem catch_fault (A B : Nat) (why at_ y z : Int) (l0 : Value) (older : List PanicEntry) (w : World) (hA : w.heap[A]? = some (.cells #[l0] 22 (0, 0))) (hB : w.heap[B]? = some (.cells #[.int .i64 y, .int .i64 z] 37 (0, 0))) (hne : A ≠ B) :
    CallsD Tryd.prog 33 #[.pointer (some ⟨A, 0, none⟩), .pointer (some ⟨B, 0, none⟩)] (.panicking ({ v := .iface 37 (.agg #[.int .i64 why, .int .i64 at_]), recovered := false } :: older)) w fun e u' w' =>
      e = .returned (.tuple #[]) ∧ u' = .panicking ({ v := .iface 37 (.agg #[.int .i64 why, .int .i64 at_]), recovered := true } :: older) ∧
      w'.heap[A]? = some (.cells #[.slice none 0 0] 22 (0, 0)) ∧ w'.heap[B]? = some (.cells #[.int .i64 why, .int .i64 at_] 37 (0, 0)) ∧ (∀ C, C ≤ A → C ≤ B → Below C w w') := by
  refine callsD_of_wpS Tryd.func33 rfl fun c₀ cs hu => ?_
  apply wpS_seq
  apply wpS_region
  simp [wpOpsS, go_sem, recoverD, hu, Tryd.ntmps33, Exit.thenS]
  have ca := Joins.cell_of_block hA 0
  have cb0 := Joins.cell_of_block hB 0
  have cb1 := Joins.cell_of_block hB 1
  have fa := Joins.unfrozen_of_block hA
  have fb := Joins.unfrozen_of_block hB
  have hta : ∀ W : World, (Instr.typeAssert (Value.iface 37 (.agg #[.int .i64 why, .int .i64 at_])) 20 37 false).run Tryd.prog W = .ok (.agg #[.int .i64 why, .int .i64 at_]) W := fun _ => by kernel_rfl
  refine wpS_of_wp ?_
  change Code.wp _ _ _ { tmps := #[.pointer (some ⟨A, 0, none⟩), .pointer (some ⟨B, 0, none⟩), (.iface 37 (.agg #[.int .i64 why, .int .i64 at_])), (.iface 37 (.agg #[.int .i64 why, .int .i64 at_])), undef, undef, undef, undef], defers := [] } _
  go_wp2
  go_region
  all_goals go_wp2
  refine ⟨rfl, _, rfl, _, results_none rfl _ _ _, rfl, rfl, ?_, ?_, ?_⟩
  · exact (Below.heap_setCell _ _ _ _ hne).trans ((Below.heap_setCell _ _ _ _ hne).trans (Joins.block_setCell hA _))
  · exact Joins.block_setCell (Joins.block_setCell ((Below.heap_setCell _ _ _ _ (Ne.symm hne)).trans hB) _) _
  · intro C h1 h2
    exact below_drewN ((((Below.refl _ _).setCell h1 _).setCell h2 _).setCell h2 _) 1

theorem catch_idle (A B : Nat) (w : World) :
    CallsD Tryd.prog 33 #[.pointer (some ⟨A, 0, none⟩), .pointer (some ⟨B, 0, none⟩)] .returning w fun e u' w' => e = .returned (.tuple #[]) ∧ u' = .returning ∧ w' = w := by
  refine callsD_of_wpS Tryd.func33 rfl fun c₀ cs hu => ?_
  apply wpS_seq
  apply wpS_region
  simp [wpOpsS, go_sem, recoverD, hu, Tryd.ntmps33, Exit.thenS]
  refine wpS_of_wp ?_
  change Code.wp _ _ _ { tmps := #[.pointer (some ⟨A, 0, none⟩), .pointer (some ⟨B, 0, none⟩), Value.nilIface, Value.nilIface, undef, undef, undef, undef], defers := [] } _
  go_wp2
  cases c₀
  simp_all [bodyPostS, results, Tryd.results33]
end Go.Proofs.YtfkkimaebhjneaaDoor

namespace Go.Proofs.YtfkkimaebhjneaaDoor
open Go.RowKit

theorem elemFrame : ElemC Tryd.prog 33 8 96 (.agg #[.int .i64 0, .int .i64 0, .int .i64 0, .int .i64 0, .int .i64 0, .bool false, .slice none 0 0, .slice none 0 0]) := ⟨info_parts (by kernel_rfl), rfl, by decide⟩

/-- a frame and where its bytes and its spans lie -/
structure FV where
  f : Fr
  dv : Value
  sv : Value
def frCell (g : FV) : List Value := [.int .i64 g.f.kind, .int .i64 g.f.stream, .int .i64 g.f.offset, .int .i64 g.f.n, .int .i64 g.f.code, .bool g.f.fin, g.dv, g.sv]
def frC (l : List FV) : List Value := l.flatMap frCell
theorem frC_len (l : List FV) : (frC l).length = l.length * 8 := flat_len frCell 8 (fun _ => rfl) l
theorem frC_append (a b : List FV) : frC (a ++ b) = frC a ++ frC b := by simp [frC]
theorem frC_get (l : List FV) (i j : Nat) (hi : i < l.length) (hj : j < 8) : (frC l)[i * 8 + j]? = (frCell l[i])[j]? := flat_get frCell 8 (fun _ => rfl) l i j hi hj

/-- g READS AS ITS FRAME -/
def FvRd (w : World) (g : FV) : Prop := Rd .u8 w g.dv g.f.data ∧ RdS w g.sv g.f.spans
/-- v READS AS THE FRAMES fs -/
def RdF (w : World) (v : Value) (fs : List Fr) : Prop := ∃ l : List FV, l.map FV.f = fs ∧ RdC 8 w v l.length (frC l) ∧ ∀ g ∈ l, FvRd w g
/-- v IS A ROW OF THE CALL's OWN THAT HOLDS THE FRAMES fs, all that hangs on it the call's own, too -/
def OwnF (w : World) (B : Nat) (v : Value) (fs : List Fr) : Prop := ∃ l : List FV, l.map FV.f = fs ∧ w.ownsRow B 33 8 v l.length (frC l) ∧ ∀ g ∈ l, Own .u8 5 w B g.dv g.f.data ∧ OwnS w B g.sv g.f.spans

theorem slice_one {v : Value} {a : Option Addr} {n c : Nat} (h : v = .slice a n c) : v.oneCell' = true := by subst h; rfl
theorem frC_one {l : List FV} (h : ∀ g ∈ l, g.dv.oneCell' = true ∧ g.sv.oneCell' = true) : ∀ u ∈ frC l, u.oneCell' = true := by
  intro u hu
  obtain ⟨g, hg, hu⟩ := List.mem_flatMap.1 hu
  have := h g hg
  simp only [frCell, List.mem_cons, List.not_mem_nil, or_false] at hu
  rcases hu with rfl | rfl | rfl | rfl | rfl | rfl | rfl | rfl
  all_goals first | rfl | exact this.1 | exact this.2
theorem Rd.one1 {k : IntKind} {w : World} {v : Value} {xs : List Int} (h : Rd k w v xs) : v.oneCell' = true := by obtain ⟨a, c, e⟩ := h.isSlice; exact slice_one e
theorem RdC.one1 {m n : Nat} {w : World} {v : Value} {fl : List Value} (h : RdC m w v n fl) : v.oneCell' = true := by obtain ⟨a, c, e, _⟩ := h.isSlice; exact slice_one e
theorem RdF.nil (w : World) : RdF w (.slice none 0 0) [] := ⟨[], rfl, RdC.nil 8 w, fun g h => by cases h⟩
theorem OwnF.nil (w : World) (B : Nat) : OwnF w B (.slice none 0 0) [] := ⟨[], rfl, World.ownsRow_nil w B _ 8, fun g h => by cases h⟩
theorem OwnF.rd {w : World} {B : Nat} {v : Value} {fs : List Fr} (h : OwnF w B v fs) : RdF w v fs := by
  obtain ⟨l, h1, h2, h3⟩ := h
  exact ⟨l, h1, RdC.of_owns h2, fun g hg => ⟨(h3 g hg).1.rd, (h3 g hg).2.rd⟩⟩
theorem RdF.below {w w' : World} {v : Value} {fs : List Fr} (h : RdF w v fs) (hb : Below w.heap.size w w') : RdF w' v fs := by
  obtain ⟨l, h1, h2, h3⟩ := h
  exact ⟨l, h1, h2.below hb, fun g hg => ⟨(h3 g hg).1.below hb, (h3 g hg).2.below hb⟩⟩
theorem RdF.isSlice {w : World} {v : Value} {fs : List Fr} (h : RdF w v fs) : ∃ a c, v = .slice a fs.length c ∧ fs.length ≤ c ∧ c ≤ maxLen := by
  obtain ⟨l, rfl, h2, h3⟩ := h
  rw [List.length_map]; exact h2.isSlice
theorem OwnF.len {w : World} {B : Nat} {v : Value} {fs : List Fr} (h : OwnF w B v fs) : ∃ a c, v = .slice a fs.length c := by
  obtain ⟨a, c, e, _⟩ := h.rd.isSlice
  exact ⟨a, c, e⟩
/-- kept where no block from B on is written, but one that is none of its own -/
theorem OwnF.kept {w w' : World} {B p : Nat} {v : Value} {fs : List Fr} (h : OwnF w B v fs) (hg : w.grownBy w' (some p)) (hp : p < B) : OwnF w' B v fs := by
  obtain ⟨l, h1, h2, h3⟩ := h
  refine ⟨l, h1, World.ownsRow.kept h2 hg ?_, fun g hgl => ⟨Own.kept (h3 g hgl).1 hg ?_, OwnS.kept (h3 g hgl).2 hg ?_⟩⟩
  · cases hv : v.ownBlock with
    | none => exact .inl rfl
    | some j => exact .inr fun e => by have := (World.ownsRow.lt h2 j hv).1; cases e; omega
  · intro j hj e; have := (h3 g hgl).1.blk j hj; cases e; omega
  · intro j hj e; have := (h3 g hgl).2.blk j hj; cases e; omega
theorem OwnF.below {w w' : World} {B : Nat} {v : Value} {fs : List Fr} (h : OwnF w B v fs) (hb : Below w.heap.size w w') : OwnF w' B v fs := by
  obtain ⟨l, h1, h2, h3⟩ := h
  refine ⟨l, h1, World.ownsRow.kept h2 (grownBy_of_below (row := none) hb) (by cases hv : v.ownBlock <;> simp), fun g hg => ⟨(h3 g hg).1.below hb, OwnS.kept (h3 g hg).2 (grownBy_of_below (row := none) hb) (fun _ _ => by simp)⟩⟩
theorem OwnF.mono {w : World} {B B' : Nat} {v : Value} {fs : List Fr} (h : OwnF w B v fs) (hb : B' ≤ B) : OwnF w B' v fs := by
  obtain ⟨l, h1, ⟨a1, a2⟩, h3⟩ := h
  refine ⟨l, h1, ⟨a1, ?_⟩, fun g hg => ⟨(h3 g hg).1.mono hb, (h3 g hg).2.mono hb⟩⟩
  rcases a2 with a2 | ⟨g, cap, cur, e1, e2, e3⟩
  · exact .inl a2
  · exact .inr ⟨g, cap, cur, e1, Nat.le_trans hb e2, e3⟩
/-- one frame more: what append leaves -/
theorem OwnF.snoc {w' : World} {B : Nat} {v' : Value} {l : List FV} {g : FV} (h3 : ∀ g ∈ l, Own .u8 5 w' B g.dv g.f.data ∧ OwnS w' B g.sv g.f.spans) (hg : Own .u8 5 w' B g.dv g.f.data ∧ OwnS w' B g.sv g.f.spans) (ho : w'.ownsRow B 33 8 v' (l.length + 1) (frC l ++ frCell g)) : OwnF w' B v' (l.map FV.f ++ [g.f]) := by
  refine ⟨l ++ [g], by simp, ?_, ?_⟩
  · rw [List.length_append, frC_append]
    simpa [frC] using ho
  · intro x hx
    rcases List.mem_append.1 hx with hx | hx
    · exact h3 x hx
    · simp at hx; subst hx; exact hg

/-- the frames of bytes, from place i on, at most k more -/
def decGo (xs : List Int) : Nat → Nat → List Fr → Except (Int × Int) (List Fr)
  | 0, i, l => if i < xs.length then .error (6, i) else .ok l
  | k + 1, i, l => if i < xs.length then (match frameR xs i with | .error e => .error e | .ok (f, j) => decGo xs k j (l ++ [f])) else .ok l
def decL (xs : List Int) : Except (Int × Int) (List Fr) := if 1200 < xs.length then .error (6, 0) else decGo xs 64 0 []
end Go.Proofs.YtfkkimaebhjneaaDoor

namespace Go.Proofs.YtfkkimaebhjneaaDoor
open Go.RowKit

theorem thn_inv {α β : Type} {r : Except (Int × Int) (α × Nat)} {k : α → Nat → Except (Int × Int) (β × Nat)} {y : β × Nat} (h : thn r k = .ok y) : ∃ x j, r = .ok (x, j) ∧ k x j = .ok y := by
  unfold thn at h
  split at h
  · exact ⟨_, _, rfl, h⟩
  · cases h
theorem thn_inv_err {α β : Type} {r : Except (Int × Int) (α × Nat)} {k : α → Nat → Except (Int × Int) (β × Nat)} {e : Int × Int} (h : thn r k = .error e) : r = .error e ∨ ∃ x j, r = .ok (x, j) ∧ k x j = .error e := by
  unfold thn at h
  split at h
  · exact .inr ⟨_, _, rfl, h⟩
  · cases h; exact .inl rfl
theorem dataR_ok {xs ys : List Int} {i j : Nat} {c : Int} (hi : i ≤ xs.length) (h0 : 0 ≤ c) (h : dataR xs i c = .ok (ys, j)) : i ≤ j ∧ j ≤ xs.length ∧ ys = (xs.drop i).take c.toNat ∧ j = i + c.toNat ∧ (ys.length : Int) = c := by
  unfold dataR at h
  split at h
  · cases h
  · simp only [Except.ok.injEq, Prod.mk.injEq] at h
    obtain ⟨rfl, rfl⟩ := h
    refine ⟨by omega, by omega, rfl, rfl, ?_⟩
    rw [List.length_take, List.length_drop]; omega
theorem moreR_ok {xs : List Int} (hx : Bts xs) : ∀ {k : Nat} {low : Int} {i j : Nat} {l l' : List (Int × Int)}, i ≤ xs.length → moreR xs k low i l = .ok (l', j) → i ≤ j ∧ j ≤ xs.length
  | 0, low, i, j, l, l', hi, h => by
    simp only [moreR, Except.ok.injEq, Prod.mk.injEq] at h
    obtain ⟨_, rfl⟩ := h
    exact ⟨Nat.le_refl _, hi⟩
  | k + 1, low, i, j, l, l', hi, h => by
    unfold moreR at h
    split at h
    · cases h
    · rename_i g j1 hg
      have h1 := atMost_ok hx hg
      split at h
      · cases h
      · rename_i s j2 hs
        have h2 := span_ok hx hs
        have h3 := moreR_ok hx (by omega) h
        omega
theorem spansR_ok {xs : List Int} (hx : Bts xs) {i j : Nat} {tp : Int} {l : List (Int × Int)} (h : spansR xs i tp = .ok (l, j)) : i < j ∧ j ≤ xs.length := by
  unfold spansR at h
  split at h
  · cases h
  · rename_i last j1 h1
    have e1 := atMost_ok hx h1
    split at h
    · cases h
    · rename_i s j2 h2
      have e2 := span_ok hx h2
      have e3 := moreR_ok hx (by omega) h
      omega
theorem kindR_ok {xs : List Int} {i j : Nat} {k bt : Int} (h : kindR xs i = .ok ((k, bt), j)) : j = i + 1 := by
  unfold kindR at h
  split at h
  · cases h; rfl
  · split at h
    · cases h; rfl
    · cases h
theorem frameR_pos {xs : List Int} (hx : Bts xs) {i j : Nat} {f : Fr} (hi : i < xs.length) (h : frameR xs i = .ok (f, j)) : i < j ∧ j ≤ xs.length := by
  unfold frameR at h
  split at h
  · rename_i k bt j0 hk
    obtain rfl := kindR_ok hk
    unfold restR at h
    split at h
    · obtain ⟨x, a, h1, h⟩ := thn_inv h; obtain ⟨x2, a2, h2, h⟩ := thn_inv h; obtain ⟨x3, a3, h3, h⟩ := thn_inv h
      cases h
      have := num_ok hx h1; have := num_ok hx h2; have := spansR_ok hx h3; omega
    split at h
    · obtain ⟨x, a, h1, h⟩ := thn_inv h; obtain ⟨x2, a2, h2, h⟩ := thn_inv h; obtain ⟨x3, a3, h3, h⟩ := thn_inv h
      cases h
      have := num_ok hx h1; have := num_ok hx h2; have := num_ok hx h3; omega
    split at h
    · obtain ⟨x, a, h1, h⟩ := thn_inv h; obtain ⟨x2, a2, h2, h⟩ := thn_inv h
      cases h
      have := num_ok hx h1; have := num_ok hx h2; omega
    split at h
    · obtain ⟨x, a, h1, h⟩ := thn_inv h; obtain ⟨x2, a2, h2, h⟩ := thn_inv h; obtain ⟨x3, a3, h3, h⟩ := thn_inv h; obtain ⟨x4, a4, h4, h⟩ := thn_inv h
      cases h
      have e1 := num_ok hx h1
      have e2 : a ≤ a2 ∧ a2 ≤ xs.length := by
        unfold offR at h2
        split at h2
        · cases h2; omega
        · have := num_ok hx h2; omega
      have e3 : a2 ≤ a3 ∧ a3 ≤ xs.length ∧ 0 ≤ x3 := by
        unfold countR at h3
        split at h3
        · simp only [Except.ok.injEq, Prod.mk.injEq] at h3; omega
        · have := num_ok hx h3; omega
      unfold tailR at h4
      split at h4
      · cases h4
      · have := dataR_ok (by omega) e3.2.2 h4; omega
    split at h
    · obtain ⟨x, a, h1, h⟩ := thn_inv h
      cases h
      have := num_ok hx h1; omega
    split at h
    · obtain ⟨x, a, h1, h⟩ := thn_inv h; obtain ⟨x2, a2, h2, h⟩ := thn_inv h
      cases h
      have := num_ok hx h1; have := num_ok hx h2; omega
    split at h
    · obtain ⟨x, a, h1, h⟩ := thn_inv h; obtain ⟨x2, a2, h2, h⟩ := thn_inv h; obtain ⟨x3, a3, h3, h⟩ := thn_inv h
      cases h
      have e1 := num_ok hx h1; have e2 := num_ok hx h2; have := dataR_ok (by omega) e2.1 h3; omega
    · cases h; omega
  · cases h
end Go.Proofs.YtfkkimaebhjneaaDoor

namespace Go.Proofs.YtfkkimaebhjneaaDoor
open Go.RowKit

/-- WHAT Decode COMES TO -/
def DecIs (w : World) (r : Except (Int × Int) (List Fr)) (e : Ending) (w' : World) : Prop := Below w.heap.size w w' ∧ match r with
  | .ok fs => ∃ u, e = .returned (.tuple #[u, .agg #[.int .i64 0, .int .i64 0]]) ∧ OwnF w' w.heap.size u fs
  | .error (y, z) => e = .returned (.tuple #[.slice none 0 0, .agg #[.int .i64 y, .int .i64 z]])

/-- a fault was found: the deferred function lays it -/
theorem door_fault (A B : Nat) (w0 w : World) (why at_ y z : Int) (l0 : Value) (r : Except (Int × Int) (List Fr)) (hr : r = .error (why, at_)) (hA : w.heap[A]? = some (.cells #[l0] 22 (0, 0))) (hB : w.heap[B]? = some (.cells #[.int .i64 y, .int .i64 z] 37 (0, 0))) (hne : A ≠ B)
    (hb : Below w0.heap.size w0 w) (h1 : w0.heap.size ≤ A) (h2 : w0.heap.size ≤ B) (tmps : Array Value) (t2 : tmps[2]? = some (.pointer (some ⟨A, 0, none⟩))) (t3 : tmps[3]? = some (.pointer (some ⟨B, 0, none⟩))) :
    bodyPostD Tryd.prog Tryd.f19 (DecIs w0 r) (Exit.panic (faultP why at_)) { tmps := tmps, defers := [{ target := Target.fn (Fn.func 33) #[.pointer (some ⟨A, 0, none⟩), .pointer (some ⟨B, 0, none⟩)], args := #[] }] } w := by
  subst hr
  refine leaves_cons (f := 33) (args := #[.pointer (some ⟨A, 0, none⟩), .pointer (some ⟨B, 0, none⟩)]) (by simp) (by simp [go_sem]) ?_
  refine (catch_fault A B why at_ y z l0 [] w hA hB hne).mono ?_
  rintro e u' w' ⟨rfl, rfl, kA, kB, kb⟩
  have ca := Joins.cell_of_block kA 0
  have cb0 := Joins.cell_of_block kB 0
  have cb1 := Joins.cell_of_block kB 1
  refine ⟨.tuple #[.slice none 0 0, .agg #[.int .i64 why, .int .i64 at_]], ?_, hb.trans (kb _ h1 h2 |>.mono (by simp)), rfl⟩
  simp [results, Tryd.results19, go_sem, t2, t3, ca, cb0, cb1]

set_option maxHeartbeats 1600000 in
theorem decode_long (v : Value) (xs : List Int) (w : World) (hr : Rd .u8 w v xs) (hl : 1200 < xs.length) :
    Calls Tryd.prog 19 #[v] w (DecIs w (.error (6, 0))) := by
  obtain ⟨va, vc, rfl⟩ := hr.isSlice
  have hmf : ∀ (fn : Fn) (first cap : Array Value) (w : World), (Instr.makeFunc fn first cap).run Tryd.prog w = .ok (.func fn first cap) w := fun _ _ _ _ => rfl
  have t1 : decide (1200 < (xs.length : Int)) = true := decide_eq_true (by omega)
  clear hr
  go_enter_defers Tryd.func19, Tryd.ntmps19
  go_wp2_with (go_at_call 34; refine (breakOff_any _ _ _ _).mono ?_; rintro e w' ⟨rfl, rfl⟩)
  refine door_fault w.heap.size (w.heap.size + 1) w _ 6 0 0 0 (.slice none 0 0) _ rfl ?_ ?_ (by simp) (((((Below.refl _ _).alloc (Nat.le_refl _) _).alloc (by simp) _).alloc (by simp; omega)) _) (Nat.le_refl _) (by omega) _ rfl rfl
  · exact (Below.heap_alloc _ _ _ (by simp; omega)).trans ((Below.heap_alloc _ _ _ (by simp)).trans (alloc_at _ _))
  · refine (Below.heap_alloc _ _ _ (by simp)).trans ?_
    have := alloc_at (w.alloc (.cells #[.slice none 0 0] 22)) (.cells #[.int .i64 0, .int .i64 0] 37)
    simp only [World.size_alloc] at this
    exact this
end Go.Proofs.YtfkkimaebhjneaaDoor
