/- Layer 8: acts, and scripts of them, that came in. -/
import Derived.Test.YtobalbaieakcmaaOpen
import Derived.Test.YtobalbaieakcmaaSnG
import Derived.Deep.Slices
set_option linter.unusedSimpArgs false
set_option linter.unusedVariables false
namespace Go.Proofs.Ytobalbaieakcmaa
open Go.ChangeShapes Go.WideShapes Go.ChangeAt Go.RowKit Go.Deep

/-- an act; sp: the slice of its spans, which reads as ss -/
structure ActV where
  k : Int
  n : Int
  now : Int
  size : Int
  wait : Int
  sp : Value
  ss : List (Int × Int)
def actCell (c : ActV) : List Value := [.int .u8 c.k, .int .i64 c.n, .int .i64 c.now, .int .i64 c.size, .int .i64 c.wait, c.sp]
def actC (l : List ActV) : List Value := l.flatMap actCell
theorem actC_len (l : List ActV) : (actC l).length = l.length * 6 := flat_len actCell 6 (fun _ => rfl) l
theorem actC_get (l : List ActV) (i j : Nat) (hi : i < l.length) (hj : j < 6) : (actC l)[i * 6 + j]? = (actCell l[i])[j]? := flat_get actCell 6 (fun _ => rfl) l i j hi hj
/-- v READS AS THE SCRIPT l -/
def RdA (w : World) (v : Value) (l : List ActV) : Prop := RdC 6 w v l.length (actC l)
/-- an act that may stand in a script -/
def ActOk (w : World) (c : ActV) : Prop := (0 ≤ c.k ∧ c.k < 256) ∧ RdS w c.sp c.ss
theorem RdA.at {w : World} {b o n c : Nat} {l : List ActV} (h : RdA w (.slice (some ⟨b, o, none⟩) n c) l) (hb : b < w.heap.size) (k : Nat) (hk : k < l.length) (W : World) (hW : Below w.heap.size w W) :
    W.cell? ⟨b, o + k * 6, none⟩ = some (.int .u8 (l[k]).k) ∧ W.cell? ⟨b, o + k * 6 + 1, none⟩ = some (.int .i64 (l[k]).n) ∧ W.cell? ⟨b, o + k * 6 + 2, none⟩ = some (.int .i64 (l[k]).now) ∧ W.cell? ⟨b, o + k * 6 + 3, none⟩ = some (.int .i64 (l[k]).size)
      ∧ W.cell? ⟨b, o + k * 6 + 4, none⟩ = some (.int .i64 (l[k]).wait) ∧ W.cell? ⟨b, o + k * 6 + 5, none⟩ = some (l[k]).sp := by
  have hn : n = l.length := by obtain ⟨_, _, e, _⟩ := RdC.isSlice h; simp only [Value.slice.injEq] at e; exact e.2.1
  subst hn
  have cell : ∀ j u, j < 6 → (actCell l[k])[j]? = some u → W.cell? ⟨b, o + k * 6 + j, none⟩ = some u := fun j u hj hu =>
    (hW.cell (p := ⟨b, _, none⟩) hb).trans (RdC.cell h (k * 6 + j) u ((actC_get l k j hk hj).trans hu) _ (by omega))
  exact ⟨cell 0 _ (by omega) rfl, cell 1 _ (by omega) rfl, cell 2 _ (by omega) rfl, cell 3 _ (by omega) rfl, cell 4 _ (by omega) rfl, cell 5 _ (by omega) rfl⟩
theorem RdA.form {w : World} {v : Value} {l : List ActV} (h : RdA w v l) : (l = [] ∧ ∃ a c, v = .slice a 0 c) ∨ ∃ b o c, v = .slice (some ⟨b, o, none⟩) l.length c ∧ b < w.heap.size ∧ l.length ≤ c ∧ c ≤ maxLen := by
  obtain ⟨_, ⟨h0, a, c, rfl, _⟩ | ⟨_, b, o, c, rfl, hc, hm, h4, _⟩⟩ := h
  · exact .inl ⟨List.length_eq_zero_iff.1 h0, a, c, rfl⟩
  · exact .inr ⟨b, o, c, rfl, h4, hc, hm⟩

theorem cellsIntR : Try.prog.cellsOf 3 = 1 := by kernel_rfl
theorem cellsU8R : Try.prog.cellsOf 5 = 1 := by kernel_rfl
theorem cellsSpansR : Try.prog.cellsOf 30 = 1 := by kernel_rfl
theorem cellsSpanR : Try.prog.cellsOf 63 = 2 := by kernel_rfl
theorem cellsActR : Try.prog.cellsOf 32 = 6 := by kernel_rfl
section
variable {H : Type} {enc : TypeId × Value → H}
set_option maxRecDepth 100000 in
/-- six cells that read as an act -/
theorem open_act {W : World} {fuel : Nat} {cs : List Value} {d : DataW H} {p : List MemPlace} (hf : DataW.trod enc Try.prog W 0 (fun _ => true) true fuel 32 cs = some (d, p)) (hlt : ∀ x ∈ p, x.block < W.heap.size) (hl : cs.length = 6) :
    ∃ c : ActV, cs = actCell c ∧ ActOk W c := by
  obtain ⟨xs, k, _, hxy, _, hxl, hg⟩ := DataW.trod_struct Try.underlying32 hf
  match xs, hxl, cs, hl with
  | [y0, y1, y2, y3, y4, y5], _, [v0, v1, v2, v3, v4, v5], _ =>
    have g0 := hg 0 _ rfl
    have g1 := hg 1 _ rfl
    have g2 := hg 2 _ rfl
    have g3 := hg 3 _ rfl
    have g4 := hg 4 _ rfl
    have g5 := hg 5 _ rfl
    simp [cellsIntR, cellsU8R, cellsSpansR] at g0 g1 g2 g3 g4 g5
    simp only [Prod.mk.injEq] at hxy
    obtain ⟨rfl, rfl⟩ := hxy
    obtain ⟨n0, e0, _, w0⟩ := DataW.trod_int Try.underlying5 g0
    obtain ⟨n1, e1, _⟩ := DataW.trod_int Try.underlying3 g1
    obtain ⟨n2, e2, _⟩ := DataW.trod_int Try.underlying3 g2
    obtain ⟨n3, e3, _⟩ := DataW.trod_int Try.underlying3 g3
    obtain ⟨n4, e4, _⟩ := DataW.trod_int Try.underlying3 g4
    obtain ⟨q5, ss, e5, hs, _⟩ := open_spansC (d := y5.1) (p := y5.2) Try.underlying30 Try.underlying63 cellsSpanR rfl rfl rfl rfl Try.underlying3 cellsIntR g5 (fun x hx => hlt x (by simp [hx]))
    simp only [List.cons.injEq, and_true] at e0 e1 e2 e3 e4 e5
    exact ⟨⟨n0, n1, n2, n3, n4, q5, ss⟩, by simp only [actCell, e0, e1, e2, e3, e4, e5], u8_of_wf w0, hs⟩

set_option maxRecDepth 100000 in
/-- AN ACT THAT CAME IN -/
theorem open_actV {W : World} {base : Nat} {v : Value} {d : DataW H} {p : List MemPlace} (hval : Value.okWide Try.prog W .any base 32 v) (h : DataW.Trod enc Try.prog W 0 (fun _ => true) true 32 v d p) (hlt : ∀ x ∈ p, x.block < W.heap.size) :
    ∃ c : ActV, v = .agg #[.int .u8 c.k, .int .i64 c.n, .int .i64 c.now, .int .i64 c.size, .int .i64 c.wait, c.sp] ∧ ActOk W c := by
  obtain ⟨cs, rfl, hsz⟩ := okWide_struct Try.underlying32 hval
  obtain ⟨fuel, hf⟩ := h
  have hl : (Value.agg cs).cells.toList.length = 6 := by
    rw [cellsActR] at hsz
    simpa [Value.cells] using hsz
  obtain ⟨c, e, hc⟩ := open_act hf hlt hl
  refine ⟨c, ?_, hc⟩
  have : cs.toList = actCell c := by simpa [Value.cells] using e
  rw [← Array.toArray_toList (xs := cs), this]; rfl

set_option maxRecDepth 100000 in
/-- A SCRIPT THAT CAME IN -/
theorem open_acts {W : World} {base : Nat} {v : Value} {d : DataW H} {p : List MemPlace} (hval : Value.okWide Try.prog W .any base 22 v) (h : DataW.Trod enc Try.prog W 0 (fun _ => true) true 22 v d p) (hlt : ∀ x ∈ p, x.block < W.heap.size) :
    ∃ l, RdA W v l ∧ ∀ c ∈ l, ActOk W c := by
  obtain ⟨a0, len0, cap0, rfl⟩ := okWide_slice Try.underlying22 hval
  obtain ⟨fuel, hf⟩ := h
  rcases open_slice Try.underlying22 hf with ⟨hcs, _⟩ | ⟨a, len, cap, m, n, D, Pl, hcs, _, hl, hm, hmm, hx, hcell⟩
  · simp [Value.cells] at hcs
    obtain ⟨rfl, rfl, rfl⟩ := hcs
    exact ⟨[], RdC.nil _ _, fun c hc => by cases hc⟩
  · simp [Value.cells] at hcs
    obtain ⟨rfl, rfl, rfl⟩ := hcs
    simp only [if_true] at hmm
    simp only [Prod.mk.injEq] at hx
    obtain ⟨rfl, rfl⟩ := hx
    rw [cellsActR] at hcell hlt
    have each : ∀ i, i < len0 → ∃ c : ActV, (∀ j, j < 6 → W.cell? (a.add (i * 6 + j)) = (actCell c)[j]?) ∧ ActOk W c := by
      intro i hi
      obtain ⟨cs', h1, h2⟩ := hcell i (by omega)
      obtain ⟨_, hlen, hc⟩ := World.cells?_some h1
      obtain ⟨c, rfl, hg⟩ := open_act h2 (fun x hx => hlt x (List.mem_append_right _ (List.mem_flatMap.2 ⟨i, List.mem_range.2 (by omega), hx⟩))) hlen
      refine ⟨c, fun j hj => ?_, hg⟩
      have := hc j hj
      rw [add_add] at this
      exact this
    obtain ⟨G, hG⟩ : ∃ G : Nat → ActV, ∀ i, i < len0 → (∀ j, j < 6 → W.cell? (a.add (i * 6 + j)) = (actCell (G i))[j]?) ∧ ActOk W (G i) := by
      classical
      exact ⟨fun i => if h : ∃ c : ActV, (∀ j, j < 6 → W.cell? (a.add (i * 6 + j)) = (actCell c)[j]?) ∧ ActOk W c then h.choose else ⟨0, 0, 0, 0, 0, .slice none 0 0, []⟩, fun i hi => by
        simp only [dif_pos (each i hi)]
        exact (each i hi).choose_spec⟩
    have hlen : ((List.range len0).map G).length = len0 := by simp
    refine ⟨(List.range len0).map G, ?_, ?_⟩
    · unfold RdA
      rw [hlen]
      refine ⟨by rw [actC_len, hlen], ?_⟩
      by_cases h0 : len0 = 0
      · subst h0
        exact .inl ⟨rfl, some a, cap0, rfl, hm, fun h => by cases h⟩
      · obtain ⟨b, off, spot⟩ := a
        have hspot : spot = none := by
          have := (hG 0 (by omega)).1 0 (by omega)
          simp only [actCell, List.getElem?_cons_zero] at this
          simpa [Addr.add] using World.cell?_spot this
        subst hspot
        have hb : b < W.heap.size := hlt (.cell b off) (List.mem_append_left _ (MemPlace.mem_row.2 ⟨0, by omega, by simp⟩))
        refine .inr ⟨by omega, b, off, cap0, rfl, hl, hm, hb, fun j u hu => ?_⟩
        have hj : j < len0 * 6 := by
          have := (List.getElem?_eq_some_iff.1 hu).1
          rw [actC_len, hlen] at this; exact this
        have hq := (hG (j / 6) (by omega)).1 (j % 6) (by omega)
        have e2 : j / 6 * 6 + j % 6 = j := by omega
        rw [e2, add_plain] at hq
        have hf := actC_get ((List.range len0).map G) (j / 6) (j % 6) (by rw [hlen]; omega) (by omega)
        rw [e2] at hf
        rw [hq, ← hu, hf]
        simp
    · intro c hc
      obtain ⟨i, hi, rfl⟩ := List.mem_map.1 hc
      exact (hG i (List.mem_range.1 hi)).2
end
end Go.Proofs.Ytobalbaieakcmaa
