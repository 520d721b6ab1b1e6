/- What came in, opened cell by cell: slices of numbers, slices of spans. -/
import Derived.Test.YtobalbaieakcmaaLift
import Derived.Test.YtobalbaieakcmaaSpan
import Derived.Deep.SlicePairs
namespace Go.Proofs.Ytobalbaieakcmaa
open Go.ChangeShapes Go.WideShapes Go.ChangeAt Go.RowKit Go.Deep

section
variable {H : Type} {enc : TypeId × Value → H} {P : Program}

theorem open_numsC {W : World} {t e : TypeId} {k : IntKind} {fuel : Nat} {cs : List Value} {d : DataW H} {p : List MemPlace} (ht : P.underlying t = some (.slice e)) (he : P.underlying e = some (.int k)) (hc : P.cellsOf e = 1)
    (hf : DataW.trod enc P W 0 (fun _ => true) true fuel t cs = some (d, p)) (hlt : ∀ x ∈ p, x.block < W.heap.size) :
    ∃ v xs, cs = [v] ∧ Rd k W v xs ∧ ∀ n ∈ xs, (Lit.int k n).wf = true := by
  rcases open_ints ht he hc hf with ⟨hcs, hx⟩ | ⟨a, len, cap, zs, hcs, _, hl, hm, hz, hx, hcell, hwz⟩
  · exact ⟨_, [], hcs, Rd.nil _ _, by simp⟩
  · simp only [Prod.mk.injEq] at hx
    obtain ⟨rfl, rfl⟩ := hx
    simp only [if_true] at hz
    refine ⟨_, zs.take len, hcs, ?_, fun n hn => hwz n (List.mem_of_mem_take hn)⟩
    by_cases h0 : len = 0
    · subst h0
      exact .inl ⟨by simp, some a, cap, rfl, hm, fun h => by cases h⟩
    · obtain ⟨b, off, spot⟩ := a
      have hspot : spot = none := by simpa [Addr.add] using World.cell?_spot (hcell 0 (by omega))
      subst hspot
      have hb : b < W.heap.size := hlt (.cell b off) (MemPlace.mem_row.2 ⟨0, by omega, by simp⟩)
      have hlen : (zs.take len).length = len := by rw [List.length_take]; omega
      refine .inr ⟨fun h => h0 (by rw [← hlen, h]; rfl), b, off, cap, by rw [hlen], by omega, hm, hb, fun i hi => ?_⟩
      rw [hlen] at hi
      rw [← add_plain, hcell i (by omega)]
      simp [List.getD, hi]

/-- A SLICE OF SPANS THAT CAME IN -/
theorem open_spansC {W : World} {t e i0 : TypeId} {f0 f1 : Field} {fuel : Nat} {cs : List Value} {d : DataW H} {p : List MemPlace} (ht : P.underlying t = some (.slice e)) (he : P.underlying e = some (.struct #[f0, f1])) (ce : P.cellsOf e = 2)
    (o0 : f0.offset = 0) (o1 : f1.offset = 1) (t0 : f0.type = i0) (t1 : f1.type = i0) (hi0 : P.underlying i0 = some (.int .i64)) (ci0 : P.cellsOf i0 = 1)
    (hf : DataW.trod enc P W 0 (fun _ => true) true fuel t cs = some (d, p)) (hlt : ∀ x ∈ p, x.block < W.heap.size) :
    ∃ v ss, cs = [v] ∧ RdS W v ss ∧ ∀ s ∈ ss, (Lit.int .i64 s.1).wf = true ∧ (Lit.int .i64 s.2).wf = true := by
  rcases open_slice_pairs ht he ce o0 o1 (by rw [t0]; exact ci0) (by rw [t1]; exact ci0) hf with ⟨hcs, hx⟩ | ⟨a, len, cap, m, n, V0, V1, D0, D1, P0, P1, hcs, _, hl, hm, hmm, hx, hcell⟩
  · exact ⟨_, [], hcs, RdS.nil _, by simp⟩
  · simp only [if_true] at hmm
    simp only [Prod.mk.injEq] at hx
    obtain ⟨rfl, rfl⟩ := hx
    have each : ∀ i, i < len → V0 i = .int .i64 (RowKit.intOf (V0 i)) ∧ V1 i = .int .i64 (RowKit.intOf (V1 i)) ∧ (Lit.int .i64 (RowKit.intOf (V0 i))).wf = true ∧ (Lit.int .i64 (RowKit.intOf (V1 i))).wf = true := by
      intro i hi
      obtain ⟨_, _, h0, h1⟩ := hcell i (by omega)
      rw [t0] at h0
      rw [t1] at h1
      obtain ⟨x, hx, _, wx⟩ := DataW.trod_int hi0 h0
      obtain ⟨y, hy, _, wy⟩ := DataW.trod_int hi0 h1
      simp only [List.cons.injEq, and_true] at hx hy
      rw [hx, hy]
      exact ⟨rfl, rfl, wx, wy⟩
    refine ⟨_, (List.range len).map fun i => (RowKit.intOf (V0 i), RowKit.intOf (V1 i)), hcs, ?_, ?_⟩
    · refine ⟨by rw [spC_len], ?_⟩
      have hlen : ((List.range len).map fun i => (RowKit.intOf (V0 i), RowKit.intOf (V1 i))).length = len := by simp
      rw [hlen]
      by_cases h0 : len = 0
      · subst h0
        exact .inl ⟨rfl, some a, cap, rfl, hm, fun h => by cases h⟩
      · obtain ⟨b, off, spot⟩ := a
        have hspot : spot = none := by simpa [Addr.add] using World.cell?_spot (hcell 0 (by omega)).1
        subst hspot
        have hb : b < W.heap.size := hlt (.cell b off) (List.mem_append_left _ (MemPlace.mem_row.2 ⟨0, by omega, by simp⟩))
        refine .inr ⟨by omega, b, off, cap, rfl, hl, hm, hb, fun j u hu => ?_⟩
        have hj : j < len * 2 := by
          have := (List.getElem?_eq_some_iff.1 hu).1
          rw [spC_len, hlen] at this; exact this
        obtain ⟨c0, c1, _, _⟩ := hcell (j / 2) (by omega)
        obtain ⟨v0, v1, _, _⟩ := each (j / 2) (by omega)
        rcases (show j % 2 = 0 ∨ j % 2 = 1 by omega) with e | e
        · have e2 : j = j / 2 * 2 := by omega
          rw [e2, spC_get0 _ _ (by rw [hlen]; omega)] at hu
          rw [e2, ← add_plain, c0, v0, ← hu]
          simp [List.getD, show j / 2 < len by omega]
        · have e2 : j = j / 2 * 2 + 1 := by omega
          rw [e2, spC_get1 _ _ (by rw [hlen]; omega)] at hu
          rw [e2, ← add_plain, c1, v1, ← hu]
          simp [List.getD, show j / 2 < len by omega]
    · intro s hs
      obtain ⟨i, hi, rfl⟩ := List.mem_map.1 hs
      have := each i (List.mem_range.1 hi)
      exact ⟨this.2.2.1, this.2.2.2⟩
end
end Go.Proofs.Ytobalbaieakcmaa
