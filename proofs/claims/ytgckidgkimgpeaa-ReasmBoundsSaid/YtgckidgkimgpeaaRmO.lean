/- Layer 9: acts, scripts of them, and pieces, that came in. -/
import Derived.Test.YtgckidgkimgpeaaLift
import Derived.Test.YtgckidgkimgpeaaRmI
import Derived.Deep.Slices
set_option linter.unusedSimpArgs false
set_option linter.unusedVariables false
namespace Go.Proofs.Ytgckidgkimgpeaa
open Go.ChangeShapes Go.WideShapes Go.ChangeAt Go.RowKit Go.Deep

/-- an act; bv: the slice of its bytes, which reads as bs -/
structure ActV where
  k : Int
  n : Int
  bv : Value
  bs : List Int
  fin : Bool
def actCell (c : ActV) : List Value := [.int .u8 c.k, .int .i64 c.n, c.bv, .bool c.fin]
def actC (l : List ActV) : List Value := l.flatMap actCell
theorem actC_len (l : List ActV) : (actC l).length = l.length * 4 := flat_len actCell 4 (fun _ => rfl) l
theorem actC_get (l : List ActV) (i j : Nat) (hi : i < l.length) (hj : j < 4) : (actC l)[i * 4 + j]? = (actCell l[i])[j]? := flat_get actCell 4 (fun _ => rfl) l i j hi hj
/-- v READS AS THE SCRIPT l -/
def RdA (w : World) (v : Value) (l : List ActV) : Prop := RdC 4 w v l.length (actC l)
/-- an act that may stand in a script -/
def ActOk (w : World) (c : ActV) : Prop := (0 ≤ c.k ∧ c.k < 256) ∧ Rd .u8 w c.bv c.bs
theorem RdA.at {w : World} {b o n c : Nat} {l : List ActV} (h : RdA w (.slice (some ⟨b, o, none⟩) n c) l) (hb : b < w.heap.size) (k : Nat) (hk : k < l.length) (W : World) (hW : Below w.heap.size w W) :
    W.cell? ⟨b, o + k * 4, none⟩ = some (.int .u8 (l[k]).k) ∧ W.cell? ⟨b, o + k * 4 + 1, none⟩ = some (.int .i64 (l[k]).n) ∧ W.cell? ⟨b, o + k * 4 + 2, none⟩ = some (l[k]).bv ∧ W.cell? ⟨b, o + k * 4 + 3, none⟩ = some (.bool (l[k]).fin) := by
  have hn : n = l.length := by obtain ⟨_, _, e, _⟩ := RdC.isSlice h; simp only [Value.slice.injEq] at e; exact e.2.1
  subst hn
  have cell : ∀ j u, j < 4 → (actCell l[k])[j]? = some u → W.cell? ⟨b, o + k * 4 + j, none⟩ = some u := fun j u hj hu =>
    (hW.cell (p := ⟨b, _, none⟩) hb).trans (RdC.cell h (k * 4 + j) u ((actC_get l k j hk hj).trans hu) _ (by omega))
  exact ⟨cell 0 _ (by omega) rfl, cell 1 _ (by omega) rfl, cell 2 _ (by omega) rfl, cell 3 _ (by omega) rfl⟩
theorem RdC.form {m n : Nat} {w : World} {v : Value} {fl : List Value} (h : RdC m w v n fl) : (n = 0 ∧ ∃ a c, v = .slice a 0 c) ∨ ∃ b o c, v = .slice (some ⟨b, o, none⟩) n c ∧ b < w.heap.size ∧ n ≤ c ∧ c ≤ maxLen := by
  obtain ⟨_, ⟨h0, a, c, rfl, _⟩ | ⟨_, b, o, c, rfl, hc, hm, h4, _⟩⟩ := h
  · exact .inl ⟨h0, a, c, rfl⟩
  · exact .inr ⟨b, o, c, rfl, h4, hc, hm⟩

/-- a piece: from, many -/
def pieceCell (c : Int × Int) : List Value := [.int .u8 c.1, .int .u8 c.2]
def pieceC (l : List (Int × Int)) : List Value := l.flatMap pieceCell
theorem pieceC_len (l : List (Int × Int)) : (pieceC l).length = l.length * 2 := flat_len pieceCell 2 (fun _ => rfl) l
theorem pieceC_get (l : List (Int × Int)) (i j : Nat) (hi : i < l.length) (hj : j < 2) : (pieceC l)[i * 2 + j]? = (pieceCell l[i])[j]? := flat_get pieceCell 2 (fun _ => rfl) l i j hi hj
def RdPc (w : World) (v : Value) (l : List (Int × Int)) : Prop := RdC 2 w v l.length (pieceC l)
def PcOk (c : Int × Int) : Prop := (0 ≤ c.1 ∧ c.1 < 256) ∧ 0 ≤ c.2 ∧ c.2 < 256
theorem RdPc.at {w : World} {b o n c : Nat} {l : List (Int × Int)} (h : RdPc w (.slice (some ⟨b, o, none⟩) n c) l) (hb : b < w.heap.size) (k : Nat) (hk : k < l.length) (W : World) (hW : Below w.heap.size w W) :
    W.cell? ⟨b, o + k * 2, none⟩ = some (.int .u8 (l[k]).1) ∧ W.cell? ⟨b, o + k * 2 + 1, none⟩ = some (.int .u8 (l[k]).2) := by
  have hn : n = l.length := by obtain ⟨_, _, e, _⟩ := RdC.isSlice h; simp only [Value.slice.injEq] at e; exact e.2.1
  subst hn
  have cell : ∀ j u, j < 2 → (pieceCell l[k])[j]? = some u → W.cell? ⟨b, o + k * 2 + j, none⟩ = some u := fun j u hj hu =>
    (hW.cell (p := ⟨b, _, none⟩) hb).trans (RdC.cell h (k * 2 + j) u ((pieceC_get l k j hk hj).trans hu) _ (by omega))
  exact ⟨cell 0 _ (by omega) rfl, cell 1 _ (by omega) rfl⟩

theorem cellsIntR : Try.prog.cellsOf 3 = 1 := by kernel_rfl
theorem cellsU8R : Try.prog.cellsOf 5 = 1 := by kernel_rfl
theorem cellsBoolR : Try.prog.cellsOf 4 = 1 := by kernel_rfl
theorem cellsBytesR : Try.prog.cellsOf 22 = 1 := by kernel_rfl
theorem cellsActR : Try.prog.cellsOf 37 = 4 := by kernel_rfl
theorem cellsPieceR : Try.prog.cellsOf 30 = 2 := by kernel_rfl
section
variable {H : Type} {enc : TypeId × Value → H}
theorem open_numsC' {P : Program} {W : World} {t e : TypeId} {k : IntKind} {fuel : Nat} {cs : List Value} {d : DataW H} {p : List MemPlace} (ht : P.underlying t = some (.slice e)) (he : P.underlying e = some (.int k)) (hc : P.cellsOf e = 1)
    (hf : DataW.trod enc P W 0 (fun _ => true) true fuel t cs = some (d, p)) (hlt : ∀ x ∈ p, x.block < W.heap.size) : ∃ v xs, cs = [v] ∧ Rd k W v xs ∧ ∀ n ∈ xs, (Lit.int k n).wf = true := by
  rcases open_ints ht he hc hf with ⟨hcs, hx⟩ | ⟨a, len, cap, zs, hcs, _, hl, hm, hz, hx, hcell, hwz⟩
  · exact ⟨_, [], hcs, Rd.nil _ _, by simp⟩
  · simp only [Prod.mk.injEq] at hx
    obtain ⟨rfl, rfl⟩ := hx
    simp only [if_true] at hz
    refine ⟨_, zs.take len, hcs, ?_, fun n hn => hwz n (List.mem_of_mem_take hn)⟩
    by_cases h0 : len = 0
    · subst h0
      exact .inl ⟨by simp, some a, cap, rfl, hm, fun h => by cases h⟩
    · obtain ⟨b, off, spot⟩ := a
      have hspot : spot = none := by simpa [Addr.add] using World.cell?_spot (hcell 0 (by omega))
      subst hspot
      have hb : b < W.heap.size := hlt (.cell b off) (MemPlace.mem_row.2 ⟨0, by omega, by simp⟩)
      have hlen : (zs.take len).length = len := by rw [List.length_take]; omega
      refine .inr ⟨fun h => h0 (by rw [← hlen, h]; rfl), b, off, cap, by rw [hlen], by omega, hm, hb, fun i hi => ?_⟩
      rw [hlen] at hi
      rw [← add_plain, hcell i (by omega)]
      simp [List.getD, hi]

set_option maxRecDepth 100000 in
/-- four cells that read as an act -/
theorem open_act {W : World} {fuel : Nat} {cs : List Value} {d : DataW H} {p : List MemPlace} (hf : DataW.trod enc Try.prog W 0 (fun _ => true) true fuel 37 cs = some (d, p)) (hlt : ∀ x ∈ p, x.block < W.heap.size) (hl : cs.length = 4) :
    ∃ c : ActV, cs = actCell c ∧ ActOk W c := by
  obtain ⟨xs, k, _, hxy, _, hxl, hg⟩ := DataW.trod_struct Try.underlying37 hf
  match xs, hxl, cs, hl with
  | [y0, y1, y2, y3], _, [v0, v1, v2, v3], _ =>
    have g0 := hg 0 _ rfl
    have g1 := hg 1 _ rfl
    have g2 := hg 2 _ rfl
    have g3 := hg 3 _ rfl
    simp [cellsIntR, cellsU8R, cellsBytesR, cellsBoolR] at g0 g1 g2 g3
    simp only [Prod.mk.injEq] at hxy
    obtain ⟨rfl, rfl⟩ := hxy
    obtain ⟨n0, e0, _, w0⟩ := DataW.trod_int Try.underlying5 g0
    obtain ⟨n1, e1, _⟩ := DataW.trod_int Try.underlying3 g1
    obtain ⟨q2, bs, e2, hs, _⟩ := open_numsC' (d := y2.1) (p := y2.2) Try.underlying22 Try.underlying5 cellsU8R g2 (fun x hx => hlt x (by simp [hx]))
    obtain ⟨b3, e3, _⟩ := DataW.trod_bool Try.underlying4 g3
    simp only [List.cons.injEq, and_true] at e0 e1 e2 e3
    exact ⟨⟨n0, n1, q2, bs, b3⟩, by simp only [actCell, e0, e1, e2, e3], u8_of_wf w0, hs⟩

set_option maxRecDepth 100000 in
/-- AN ACT THAT CAME IN -/
theorem open_actV {W : World} {base : Nat} {v : Value} {d : DataW H} {p : List MemPlace} (hval : Value.okWide Try.prog W .any base 37 v) (h : DataW.Trod enc Try.prog W 0 (fun _ => true) true 37 v d p) (hlt : ∀ x ∈ p, x.block < W.heap.size) :
    ∃ c : ActV, v = .agg #[.int .u8 c.k, .int .i64 c.n, c.bv, .bool c.fin] ∧ ActOk W c := by
  obtain ⟨cs, rfl, hsz⟩ := okWide_struct Try.underlying37 hval
  obtain ⟨fuel, hf⟩ := h
  have hl : (Value.agg cs).cells.toList.length = 4 := by
    rw [cellsActR] at hsz
    simpa [Value.cells] using hsz
  obtain ⟨c, e, hc⟩ := open_act hf hlt hl
  refine ⟨c, ?_, hc⟩
  have : cs.toList = actCell c := by simpa [Value.cells] using e
  rw [← Array.toArray_toList (xs := cs), this]; rfl

/-- A SLICE OF STRUCTS THAT CAME IN, whose m cells open as cell -/
theorem open_rows {α : Type} {P : Program} {W : World} {base m : Nat} {t e : TypeId} {v : Value} {d : DataW H} {p : List MemPlace} (cell : α → List Value) (ok : α → Prop) (z : α) (hm0 : 0 < m) (hcl : ∀ x, (cell x).length = m)
    (ht : P.underlying t = some (.slice e)) (hce : P.cellsOf e = m)
    (hopen : ∀ {fuel : Nat} {cs : List Value} {d : DataW H} {p : List MemPlace}, DataW.trod enc P W 0 (fun _ => true) true fuel e cs = some (d, p) → (∀ x ∈ p, x.block < W.heap.size) → cs.length = m → ∃ c, cs = cell c ∧ ok c)
    (hval : Value.okWide P W .any base t v) (h : DataW.Trod enc P W 0 (fun _ => true) true t v d p) (hlt : ∀ x ∈ p, x.block < W.heap.size) :
    ∃ l : List α, RdC m W v l.length (l.flatMap cell) ∧ ∀ c ∈ l, ok c := by
  obtain ⟨a0, len0, cap0, rfl⟩ := okWide_slice ht hval
  obtain ⟨fuel, hf⟩ := h
  rcases open_slice ht hf with ⟨hcs, _⟩ | ⟨a, len, cap, mm, n, D, Pl, hcs, _, hl, hm, hmm, hx, hcell⟩
  · simp [Value.cells] at hcs
    obtain ⟨rfl, rfl, rfl⟩ := hcs
    exact ⟨[], RdC.nil _ _, fun c hc => by cases hc⟩
  · simp [Value.cells] at hcs
    obtain ⟨rfl, rfl, rfl⟩ := hcs
    simp only [if_true] at hmm
    simp only [Prod.mk.injEq] at hx
    obtain ⟨rfl, rfl⟩ := hx
    rw [hce] at hcell hlt
    have each : ∀ i, i < len0 → ∃ c : α, (∀ j, j < m → W.cell? (a.add (i * m + j)) = (cell c)[j]?) ∧ ok c := by
      intro i hi
      obtain ⟨cs', h1, h2⟩ := hcell i (by omega)
      obtain ⟨_, hlen, hc⟩ := World.cells?_some h1
      obtain ⟨c, rfl, hg⟩ := hopen h2 (fun x hx => hlt x (List.mem_append_right _ (List.mem_flatMap.2 ⟨i, List.mem_range.2 (by omega), hx⟩))) hlen
      refine ⟨c, fun j hj => ?_, hg⟩
      have := hc j hj
      rw [add_add] at this
      exact this
    obtain ⟨G, hG⟩ : ∃ G : Nat → α, ∀ i, i < len0 → (∀ j, j < m → W.cell? (a.add (i * m + j)) = (cell (G i))[j]?) ∧ ok (G i) := by
      classical
      exact ⟨fun i => if h : ∃ c : α, (∀ j, j < m → W.cell? (a.add (i * m + j)) = (cell c)[j]?) ∧ ok c then h.choose else z, fun i hi => by
        simp only [dif_pos (each i hi)]
        exact (each i hi).choose_spec⟩
    have hlen : ((List.range len0).map G).length = len0 := by simp
    have hfl : ((List.range len0).map G |>.flatMap cell).length = len0 * m := by rw [flat_len cell m hcl, hlen]
    refine ⟨(List.range len0).map G, ?_, ?_⟩
    · rw [hlen]
      refine ⟨hfl, ?_⟩
      by_cases h0 : len0 = 0
      · subst h0
        exact .inl ⟨rfl, some a, cap0, rfl, hm, fun h => by cases h⟩
      · obtain ⟨b, off, spot⟩ := a
        have hspot : spot = none := by
          have := (hG 0 (by omega)).1 0 hm0
          rw [List.getElem?_eq_getElem (by rw [hcl]; exact hm0)] at this
          simpa [Addr.add] using World.cell?_spot this
        subst hspot
        have hb : b < W.heap.size := hlt (.cell b off) (List.mem_append_left _ (MemPlace.mem_row.2 ⟨0, Nat.mul_pos (by omega) hm0, by simp⟩))
        refine .inr ⟨by omega, b, off, cap0, rfl, hl, hm, hb, fun j u hu => ?_⟩
        have hj : j < len0 * m := by
          have := (List.getElem?_eq_some_iff.1 hu).1
          rw [hfl] at this; exact this
        have hd : j / m < len0 := (Nat.div_lt_iff_lt_mul hm0).2 hj
        have hq := (hG (j / m) hd).1 (j % m) (Nat.mod_lt _ hm0)
        have e2 : j / m * m + j % m = j := by rw [Nat.mul_comm]; exact Nat.div_add_mod j m
        rw [e2, add_plain] at hq
        have hf := flat_get cell m hcl ((List.range len0).map G) (j / m) (j % m) (by rw [hlen]; exact hd) (Nat.mod_lt _ hm0)
        rw [e2] at hf
        rw [hq, ← hu, hf]
        simp
    · intro c hc
      obtain ⟨i, hi, rfl⟩ := List.mem_map.1 hc
      exact (hG i (List.mem_range.1 hi)).2

/-- A SCRIPT THAT CAME IN -/
theorem open_acts {W : World} {base : Nat} {v : Value} {d : DataW H} {p : List MemPlace} (hval : Value.okWide Try.prog W .any base 35 v) (h : DataW.Trod enc Try.prog W 0 (fun _ => true) true 35 v d p) (hlt : ∀ x ∈ p, x.block < W.heap.size) :
    ∃ l, RdA W v l ∧ ∀ c ∈ l, ActOk W c :=
  open_rows (m := 4) actCell (ActOk W) ⟨0, 0, .slice none 0 0, [], false⟩ (by omega) (fun _ => rfl) Try.underlying35 cellsActR (fun h1 h2 h3 => open_act h1 h2 h3) hval h hlt
set_option maxRecDepth 100000 in
theorem open_piece {W : World} {fuel : Nat} {cs : List Value} {d : DataW H} {p : List MemPlace} (hf : DataW.trod enc Try.prog W 0 (fun _ => true) true fuel 30 cs = some (d, p)) (hl : cs.length = 2) :
    ∃ c : Int × Int, cs = pieceCell c ∧ PcOk c := by
  obtain ⟨xs, k, _, hxy, _, hxl, hg⟩ := DataW.trod_struct Try.underlying30 hf
  match xs, hxl, cs, hl with
  | [y0, y1], _, [v0, v1], _ =>
    have g0 := hg 0 _ rfl
    have g1 := hg 1 _ rfl
    simp [cellsU8R] at g0 g1
    obtain ⟨n0, e0, _, w0⟩ := DataW.trod_int Try.underlying5 g0
    obtain ⟨n1, e1, _, w1⟩ := DataW.trod_int Try.underlying5 g1
    simp only [List.cons.injEq, and_true] at e0 e1
    exact ⟨(n0, n1), by simp only [pieceCell, e0, e1], u8_of_wf w0, u8_of_wf w1⟩
/-- PIECES THAT CAME IN -/
theorem open_pieces {W : World} {base : Nat} {v : Value} {d : DataW H} {p : List MemPlace} (hval : Value.okWide Try.prog W .any base 23 v) (h : DataW.Trod enc Try.prog W 0 (fun _ => true) true 23 v d p) (hlt : ∀ x ∈ p, x.block < W.heap.size) :
    ∃ l, RdPc W v l ∧ ∀ c ∈ l, PcOk c :=
  open_rows (m := 2) pieceCell PcOk (0, 0) (by omega) (fun _ => rfl) Try.underlying23 cellsPieceR (fun h1 _ h3 => open_piece h1 h3) hval h hlt
end
end Go.Proofs.Ytgckidgkimgpeaa
