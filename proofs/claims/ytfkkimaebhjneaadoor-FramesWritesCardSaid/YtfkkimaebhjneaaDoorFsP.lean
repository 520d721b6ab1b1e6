/- Layer 4: a slice of frames that came in. -/
import Derived.Test.YtfkkimaebhjneaaDoorOpen
import Derived.Test.YtfkkimaebhjneaaDoorFsC
set_option linter.unusedSimpArgs false
set_option linter.unusedVariables false
namespace Go.Proofs.YtfkkimaebhjneaaDoor
open Go.ChangeShapes Go.WideShapes Go.ChangeAt Go.RowKit Go.Deep

theorem cellsInt : Tryd.prog.cellsOf 3 = 1 := by kernel_rfl
theorem cellsBool : Tryd.prog.cellsOf 4 = 1 := by kernel_rfl
theorem cellsU8 : Tryd.prog.cellsOf 5 = 1 := by kernel_rfl
theorem cellsBytes : Tryd.prog.cellsOf 23 = 1 := by kernel_rfl
theorem cellsSpans : Tryd.prog.cellsOf 31 = 1 := by kernel_rfl
theorem cellsSpan : Tryd.prog.cellsOf 44 = 2 := by kernel_rfl
theorem cellsFrame : Tryd.prog.cellsOf 33 = 8 := by kernel_rfl

section
variable {H : Type} {enc : TypeId × Value → H}
/-- eight cells that read as a frame -/
theorem open_frame {W : World} {fuel : Nat} {cs : List Value} {d : DataW H} {p : List MemPlace} (hf : DataW.trod enc Tryd.prog W 0 (fun _ => true) true fuel 33 cs = some (d, p)) (hlt : ∀ x ∈ p, x.block < W.heap.size) (hl : cs.length = 8) :
    ∃ g : FV, cs = frCell g ∧ FvRd W g ∧ Bts g.f.data := by
  obtain ⟨xs, k, _, hxy, _, hxl, hg⟩ := DataW.trod_struct Tryd.underlying33 hf
  match xs, hxl, cs, hl with
  | [y0, y1, y2, y3, y4, y5, y6, y7], _, [v0, v1, v2, v3, v4, v5, v6, v7], _ =>
    have g0 := hg 0 _ rfl
    have g1 := hg 1 _ rfl
    have g2 := hg 2 _ rfl
    have g3 := hg 3 _ rfl
    have g4 := hg 4 _ rfl
    have g5 := hg 5 _ rfl
    have g6 := hg 6 _ rfl
    have g7 := hg 7 _ rfl
    simp [cellsInt, cellsBool, cellsBytes, cellsSpans] at g0 g1 g2 g3 g4 g5 g6 g7
    simp only [Prod.mk.injEq] at hxy
    obtain ⟨rfl, rfl⟩ := hxy
    obtain ⟨n0, e0, _⟩ := DataW.trod_int Tryd.underlying3 g0
    obtain ⟨n1, e1, _⟩ := DataW.trod_int Tryd.underlying3 g1
    obtain ⟨n2, e2, _⟩ := DataW.trod_int Tryd.underlying3 g2
    obtain ⟨n3, e3, _⟩ := DataW.trod_int Tryd.underlying3 g3
    obtain ⟨n4, e4, _⟩ := DataW.trod_int Tryd.underlying3 g4
    obtain ⟨b5, e5, _⟩ := DataW.trod_bool Tryd.underlying4 g5
    obtain ⟨q6, ys, e6, hd, hw⟩ := open_numsC (d := y6.1) (p := y6.2) Tryd.underlying23 Tryd.underlying5 cellsU8 g6 (fun x hx => hlt x (by simp [hx]))
    obtain ⟨q7, ss, e7, hs, _⟩ := open_spansC (d := y7.1) (p := y7.2) Tryd.underlying31 Tryd.underlying44 cellsSpan rfl rfl rfl rfl Tryd.underlying3 cellsInt g7 (fun x hx => hlt x (by simp [hx]))
    simp only [List.cons.injEq, and_true] at e0 e1 e2 e3 e4 e5 e6 e7
    refine ⟨⟨⟨n0, n1, n2, n3, n4, b5, ys, ss⟩, q6, q7⟩, by simp only [frCell, e0, e1, e2, e3, e4, e5, e6, e7], ⟨hd, hs⟩, bts_of_wf hw⟩

/-- A SLICE OF FRAMES THAT CAME IN -/
theorem open_frames {W : World} {base : Nat} {v : Value} {d : DataW H} {p : List MemPlace} (hval : Value.okWide Tryd.prog W .any base 22 v) (h : DataW.Trod enc Tryd.prog W 0 (fun _ => true) true 22 v d p) (hlt : ∀ x ∈ p, x.block < W.heap.size) :
    ∃ fs, RdF W v fs ∧ BtsF fs := by
  obtain ⟨a0, len0, cap0, rfl⟩ := okWide_slice Tryd.underlying22 hval
  obtain ⟨fuel, hf⟩ := h
  rcases open_slice Tryd.underlying22 hf with ⟨hcs, _⟩ | ⟨a, len, cap, m, n, D, Pl, hcs, _, hl, hm, hmm, hx, hcell⟩
  · simp [Value.cells] at hcs
    obtain ⟨rfl, rfl, rfl⟩ := hcs
    exact ⟨[], RdF.nil _, fun f hf => by cases hf⟩
  · simp [Value.cells] at hcs
    obtain ⟨rfl, rfl, rfl⟩ := hcs
    simp only [if_true] at hmm
    simp only [Prod.mk.injEq] at hx
    obtain ⟨rfl, rfl⟩ := hx
    rw [cellsFrame] at hcell hlt
    have each : ∀ i, i < len0 → ∃ g : FV, (∀ j, j < 8 → W.cell? (a.add (i * 8 + j)) = (frCell g)[j]?) ∧ FvRd W g ∧ Bts g.f.data := by
      intro i hi
      obtain ⟨cs', h1, h2⟩ := hcell i (by omega)
      obtain ⟨_, hlen, hc⟩ := World.cells?_some h1
      obtain ⟨g, rfl, hg, hb⟩ := open_frame h2 (fun x hx => hlt x (List.mem_append_right _ (List.mem_flatMap.2 ⟨i, List.mem_range.2 (by omega), hx⟩))) hlen
      refine ⟨g, fun j hj => ?_, hg, hb⟩
      have := hc j hj
      rw [add_add] at this
      exact this
    obtain ⟨G, hG⟩ : ∃ G : Nat → FV, ∀ i, i < len0 → (∀ j, j < 8 → W.cell? (a.add (i * 8 + j)) = (frCell (G i))[j]?) ∧ FvRd W (G i) ∧ Bts (G i).f.data := by
      classical
      exact ⟨fun i => if h : ∃ g : FV, (∀ j, j < 8 → W.cell? (a.add (i * 8 + j)) = (frCell g)[j]?) ∧ FvRd W g ∧ Bts g.f.data then h.choose else ⟨bareFr 0, .slice none 0 0, .slice none 0 0⟩, fun i hi => by
        simp only [dif_pos (each i hi)]
        exact (each i hi).choose_spec⟩
    have hlen : ((List.range len0).map G).length = len0 := by simp
    refine ⟨((List.range len0).map G).map FV.f, ⟨(List.range len0).map G, rfl, ?_, ?_⟩, ?_⟩
    · rw [hlen]
      refine ⟨by rw [frC_len, hlen], ?_⟩
      by_cases h0 : len0 = 0
      · subst h0
        exact .inl ⟨rfl, some a, cap0, rfl, hm, fun h => by cases h⟩
      · obtain ⟨b, off, spot⟩ := a
        have hspot : spot = none := by
          have := (hG 0 (by omega)).1 0 (by omega)
          simp only [frCell, List.getElem?_cons_zero] at this
          simpa [Addr.add] using World.cell?_spot this
        subst hspot
        have hb : b < W.heap.size := hlt (.cell b off) (List.mem_append_left _ (MemPlace.mem_row.2 ⟨0, by omega, by simp⟩))
        refine .inr ⟨by omega, b, off, cap0, rfl, hl, hm, hb, fun j u hu => ?_⟩
        have hj : j < len0 * 8 := by
          have := (List.getElem?_eq_some_iff.1 hu).1
          rw [frC_len, hlen] at this; exact this
        have hq := (hG (j / 8) (by omega)).1 (j % 8) (by omega)
        have e2 : j / 8 * 8 + j % 8 = j := by omega
        rw [e2, add_plain] at hq
        have hf := frC_get ((List.range len0).map G) (j / 8) (j % 8) (by rw [hlen]; omega) (by omega)
        rw [e2] at hf
        rw [hq, ← hu, hf]
        simp
    · intro g hg
      obtain ⟨i, hi, rfl⟩ := List.mem_map.1 hg
      exact (hG i (List.mem_range.1 hi)).2.1
    · intro f hf
      obtain ⟨g, hg, rfl⟩ := List.mem_map.1 hf
      obtain ⟨i, hi, rfl⟩ := List.mem_map.1 hg
      exact (hG i (List.mem_range.1 hi)).2.2
end
end Go.Proofs.YtfkkimaebhjneaaDoor
