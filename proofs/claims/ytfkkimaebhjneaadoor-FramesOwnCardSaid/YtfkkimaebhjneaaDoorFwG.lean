/- Layer 4: a list of frames of the call's own whose bytes and spans are written over. -/
import Derived.Test.YtfkkimaebhjneaaDoorFuD
set_option linter.unusedSimpArgs false
set_option linter.unusedVariables false
namespace Go.Proofs.YtfkkimaebhjneaaDoor
open Go.RowKit

/-- THE ROW OF THE FRAMES l, AND WHAT HANGS ON IT, whatever its bytes and spans are now -/
def OwnL (w : World) (B : Nat) (v : Value) (l : List FV) : Prop := w.ownsRow B 33 8 v l.length (frC l) ∧
  ∀ g ∈ l, (∃ zs : List Int, zs.length = g.f.data.length ∧ Own .u8 5 w B g.dv zs) ∧ (∃ fl : List Value, w.ownsRow B 44 2 g.sv g.f.spans.length fl)
theorem OwnL.of {w : World} {B : Nat} {v : Value} {fs : List Fr} (h : OwnF w B v fs) : ∃ l : List FV, l.map FV.f = fs ∧ OwnL w B v l := by
  obtain ⟨l, h1, h2, h3⟩ := h
  exact ⟨l, h1, h2, fun g hg => ⟨⟨_, rfl, (h3 g hg).1⟩, ⟨_, (h3 g hg).2⟩⟩⟩
theorem OwnL.nil (w : World) (B : Nat) : OwnL w B (.slice none 0 0) [] := ⟨World.ownsRow_nil w B _ 8, fun g h => by cases h⟩
theorem OwnL.below {w w' : World} {B : Nat} {v : Value} {l : List FV} (h : OwnL w B v l) (hb : Below w.heap.size w w') : OwnL w' B v l := by
  obtain ⟨h2, h3⟩ := h
  refine ⟨World.ownsRow.kept h2 (grownBy_of_below (row := none) hb) (by cases hv : v.ownBlock <;> simp), fun g hg => ?_⟩
  obtain ⟨⟨zs, z1, z2⟩, ts, s2⟩ := h3 g hg
  exact ⟨⟨zs, z1, z2.below hb⟩, ts, World.ownsRow.kept s2 (grownBy_of_below (row := none) hb) (by cases hv : g.sv.ownBlock <;> simp)⟩

/-- a row of another element's type lies in another block -/
theorem row_block {w : World} {B e n m : Nat} {v : Value} {fl cur : List Value} {g : Nat} {cs : Array Value} {e' : Nat} {z : Nat × Nat} (h : w.ownsRow B e m v n fl) (hg : w.heap[g]? = some (.cells cs e' z)) (hne : e ≠ e') : v.ownBlock ≠ some g := by
  intro hv
  rcases h.2 with ⟨rfl, _⟩ | ⟨g', cap, cur', rfl, _, h2, _⟩
  · cases hv
  · simp only [Value.ownBlock, Option.some.injEq] at hv
    subst hv
    rw [hg] at h2
    simp only [Option.some.injEq, Obj.cells.injEq] at h2
    exact hne h2.2.1.symm
theorem row_kept {w w' : World} {B e m n : Nat} {v : Value} {fl : List Value} {g : Nat} (h : w.ownsRow B e m v n fl) (hg : w.grownBy w' (some g)) (hne : v.ownBlock ≠ some g) : w'.ownsRow B e m v n fl :=
  World.ownsRow.kept h hg (by
    cases hv : v.ownBlock with
    | none => exact .inl rfl
    | some j => exact .inr (fun e => hne (by rw [hv, e])))
/-- A BYTE IS SET -/
theorem OwnL.setByte {w : World} {B : Nat} {v : Value} {l : List FV} (h : OwnL w B v l) {g n cap : Nat} {xs : List Int} (hd : Own .u8 5 w B (.slice (some ⟨g, 0, none⟩) n cap) xs) (j : Nat) (x : Int) : OwnL (w.setCell ⟨g, j, none⟩ (.int .u8 x)) B v l := by
  obtain ⟨cs, hcs⟩ : ∃ cs, w.heap[g]? = some (.cells cs 5 (0, 0)) := by
    rcases hd.2 with ⟨q, _⟩ | ⟨g', cap', cur, q, _, h2, _⟩
    · cases q
    · simp only [Value.slice.injEq, Option.some.injEq, Addr.mk.injEq, and_true, true_and] at q
      obtain ⟨rfl, _⟩ := q
      exact ⟨cur, h2⟩
  have hg : w.grownBy (w.setCell ⟨g, j, none⟩ (.int .u8 x)) (some g) := grownBy_set (World.grownBy.refl _ _) _ _ (.inl rfl)
  obtain ⟨h2, h3⟩ := h
  refine ⟨row_kept h2 hg (row_block (cur := []) h2 hcs (by decide)), fun f hf => ?_⟩
  obtain ⟨⟨zs, z1, z2⟩, ts, s2⟩ := h3 f hf
  refine ⟨?_, ts, row_kept s2 hg (row_block (cur := []) s2 hcs (by decide))⟩
  by_cases hb : f.dv.ownBlock = some g
  · obtain ⟨da, dc, hdv⟩ := z2.len
    rcases z2.2 with ⟨q, _⟩ | ⟨g', cap', cur, q, _, _, _⟩
    · rw [q] at hb; cases hb
    · rw [q] at hb
      simp only [Value.ownBlock, Option.some.injEq] at hb
      subst hb
      rw [q] at z2 ⊢
      exact ⟨zs.set j x, by rw [List.length_set, z1], Own.set z2 j x⟩
  · exact ⟨zs, z1, row_kept z2 hg hb⟩
/-- A CELL OF A SPAN IS SET -/
theorem OwnL.setSpan {w : World} {B : Nat} {v : Value} {l : List FV} (h : OwnL w B v l) {g : Nat} {cs : Array Value} (hcs : w.heap[g]? = some (.cells cs 44 (0, 0))) (j : Nat) (x : Int) : OwnL (w.setCell ⟨g, j, none⟩ (.int .i64 x)) B v l := by
  have hg : w.grownBy (w.setCell ⟨g, j, none⟩ (.int .i64 x)) (some g) := grownBy_set (World.grownBy.refl _ _) _ _ (.inl rfl)
  obtain ⟨h2, h3⟩ := h
  refine ⟨row_kept h2 hg (row_block (cur := []) h2 hcs (by decide)), fun f hf => ?_⟩
  obtain ⟨⟨zs, z1, z2⟩, fl, s2⟩ := h3 f hf
  refine ⟨⟨zs, z1, row_kept z2 hg (row_block (cur := []) z2 hcs (by decide))⟩, ?_⟩
  by_cases hb : f.sv.ownBlock = some g
  · rcases s2.2 with ⟨q, _⟩ | ⟨g', cap', cur, q, _, _, _⟩
    · rw [q] at hb; cases hb
    · rw [q] at hb
      simp only [Value.ownBlock, Option.some.injEq] at hb
      subst hb
      rw [q] at s2 ⊢
      exact ⟨_, (World.ownsRow.stored s2 j (.int .i64 x)).1⟩
  · exact ⟨fl, row_kept s2 hg hb⟩
/-- frame i of the row: its bytes and its spans -/
theorem OwnL.at {w : World} {B : Nat} {v : Value} {l : List FV} (h : OwnL w B v l) (i : Nat) (hi : i < l.length) :
    ∃ g0 cap da dc sa sc, v = .slice (some ⟨g0, 0, none⟩) l.length cap ∧ g0 < w.heap.size ∧ l[i].dv = .slice da l[i].f.data.length dc ∧ l[i].sv = .slice sa l[i].f.spans.length sc ∧
      w.cell? ⟨g0, i * 8 + 6, none⟩ = some (.slice da l[i].f.data.length dc) ∧ w.cell? ⟨g0, i * 8 + 7, none⟩ = some (.slice sa l[i].f.spans.length sc) := by
  obtain ⟨h2, h3⟩ := h
  obtain ⟨⟨zs, z1, z2⟩, fl, s2⟩ := h3 l[i] (List.getElem_mem hi)
  obtain ⟨da, dc, hd⟩ := z2.len
  rw [z1] at hd
  obtain ⟨sa, sc, hs, _, _⟩ := (RdC.of_owns s2).isSlice
  have hrd := RdC.of_owns h2
  rcases h2.2 with ⟨_, h0⟩ | ⟨g0, cap, cur, hv, _, hc, _⟩
  · omega
  · subst hv
    refine ⟨g0, cap, da, dc, sa, sc, rfl, (Array.getElem?_eq_some_iff.1 hc).1, hd, hs, ?_, ?_⟩
    · exact RdC.cell hrd (i * 8 + 6) _ ((frC_get l i 6 hi (by omega)).trans (by simp [frCell, hd])) _ (by omega)
    · exact RdC.cell hrd (i * 8 + 7) _ ((frC_get l i 7 hi (by omega)).trans (by simp [frCell, hs])) _ (by omega)
theorem OwnL.byte {w : World} {B : Nat} {v : Value} {l : List FV} (h : OwnL w B v l) (i : Nat) (hi : i < l.length) {da : Option Addr} {n dc : Nat} (hd : l[i].dv = .slice da n dc) (k : Nat) (hk : k < n) :
    ∃ g x zs, da = some ⟨g, 0, none⟩ ∧ B ≤ g ∧ g < w.heap.size ∧ w.cell? ⟨g, k, none⟩ = some (.int .u8 x) ∧ w.frozen? ⟨g, k, none⟩ = false ∧ Own .u8 5 w B (.slice (some ⟨g, 0, none⟩) n dc) zs := by
  obtain ⟨⟨zs, z1, z2⟩, fl, s2⟩ := h.2 l[i] (List.getElem_mem hi)
  rw [hd] at z2
  rcases z2.2 with ⟨q, h0⟩ | ⟨g, cap, cur, q, hB, hc, _⟩
  · simp only [Value.slice.injEq] at q; omega
  · simp only [Value.slice.injEq] at q
    obtain ⟨rfl, hn, rfl⟩ := q
    obtain ⟨c1, c2⟩ := Own.at z2 k (by omega)
    exact ⟨g, _, zs, rfl, hB, (Array.getElem?_eq_some_iff.1 hc).1, c1, c2, z2⟩
theorem OwnL.span {w : World} {B : Nat} {v : Value} {l : List FV} (h : OwnL w B v l) (i : Nat) (hi : i < l.length) {sa : Option Addr} {n sc : Nat} (hs : l[i].sv = .slice sa n sc) (k : Nat) (hk : k < n) :
    ∃ g x y cs, sa = some ⟨g, 0, none⟩ ∧ B ≤ g ∧ g < w.heap.size ∧ w.cell? ⟨g, k * 2, none⟩ = some x ∧ w.cell? ⟨g, k * 2 + 1, none⟩ = some y ∧ (∀ j, w.frozen? ⟨g, j, none⟩ = false) ∧ w.heap[g]? = some (.cells cs 44 (0, 0)) := by
  obtain ⟨_, fl, s2⟩ := h.2 l[i] (List.getElem_mem hi)
  have hn : n = l[i].f.spans.length := by
    obtain ⟨a, c, e, _, _⟩ := (RdC.of_owns s2).isSlice
    rw [hs] at e; simp only [Value.slice.injEq] at e; exact e.2.1
  rw [hs] at s2
  rcases s2.2 with ⟨q, h0⟩ | ⟨g, cap, cur, q, hB, hc, hn2, hm, hsz, htk⟩
  · omega
  · simp only [Value.slice.injEq] at q
    obtain ⟨rfl, _, rfl⟩ := q
    have hcell := fun j => Joins.cell_of_block hc j
    have hl : k * 2 + 1 < cur.size := by omega
    refine ⟨g, cur[k * 2], cur[k * 2 + 1], cur, rfl, hB, (Array.getElem?_eq_some_iff.1 hc).1, ?_, ?_, Joins.unfrozen_of_block hc, hc⟩
    · rw [hcell]; simp [show k * 2 < cur.size by omega]
    · rw [hcell]; simp [hl]
theorem OwnL.bounds {w : World} {B : Nat} {v : Value} {l : List FV} (h : OwnL w B v l) (i : Nat) (hi : i < l.length) : l[i].f.data.length ≤ maxLen ∧ l[i].f.spans.length ≤ maxLen := by
  obtain ⟨⟨zs, z1, z2⟩, fl, s2⟩ := h.2 l[i] (List.getElem_mem hi)
  refine ⟨?_, ?_⟩
  · rcases z2.2 with ⟨_, h0⟩ | ⟨g, cap, cur, _, _, _, h1, h2, _⟩ <;> omega
  · rcases s2.2 with ⟨_, h0⟩ | ⟨g, cap, cur, _, _, _, h1, h2, _⟩ <;> omega
theorem OwnL.cells {w : World} {B g0 cap : Nat} {l : List FV} (h : OwnL w B (.slice (some ⟨g0, 0, none⟩) l.length cap) l) (i : Nat) (hi : i < l.length) : g0 < w.heap.size ∧ w.cell? ⟨g0, i * 8 + 6, none⟩ = some l[i].dv ∧ w.cell? ⟨g0, i * 8 + 7, none⟩ = some l[i].sv := by
  have hrd := RdC.of_owns h.1
  rcases h.1.2 with ⟨_, h0⟩ | ⟨g, cap', cur, hv, _, hc, _⟩
  · omega
  · simp only [Value.slice.injEq, Option.some.injEq, Addr.mk.injEq, and_true, true_and] at hv
    obtain ⟨rfl, _⟩ := hv
    exact ⟨(Array.getElem?_eq_some_iff.1 hc).1, RdC.cell hrd (i * 8 + 6) _ ((frC_get l i 6 hi (by omega)).trans (by simp [frCell])) _ (by omega), RdC.cell hrd (i * 8 + 7) _ ((frC_get l i 7 hi (by omega)).trans (by simp [frCell])) _ (by omega)⟩
end Go.Proofs.YtfkkimaebhjneaaDoor
