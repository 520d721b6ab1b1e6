/- Layer 13: fields, acts and scripts of them that came in; the variable that the row lays. -/
import Derived.Test.YtfacpncbcplocaaDoorLift
import Derived.Test.YtfacpncbcplocaaDoorQtQ
import Derived.Deep.Slices
import Derived.Lib.LaidTab
import Derived.MakeChecks
import Derived.FnData
set_option maxRecDepth 100000
set_option linter.unusedSimpArgs false
set_option linter.unusedVariables false
namespace Go.Proofs.YtfacpncbcplocaaDoor
open Go.ChangeShapes Go.WideShapes Go.ChangeAt Go.RowKit Go.Deep

theorem cellsStr : Tryd.prog.cellsOf 9 = 1 := by kernel_rfl
theorem cellsFd : Tryd.prog.cellsOf 23 = 2 := by kernel_rfl
theorem cellsInt : Tryd.prog.cellsOf 3 = 1 := by kernel_rfl
theorem cellsU8 : Tryd.prog.cellsOf 5 = 1 := by kernel_rfl
theorem cellsAct : Tryd.prog.cellsOf 44 = 4 := by kernel_rfl
theorem cellsArr : Tryd.prog.cellsOf 57 = 48 := by kernel_rfl
theorem bytesAct : Tryd.prog.bytesOf 44 = 48 := by kernel_rfl

/-- an act -/
structure ActV where
  k : Int
  n : Int
  f : Fd
def actCell (c : ActV) : List Value := [.int .u8 c.k, .int .i64 c.n, .string c.f.n, .string c.f.v]
def actC (l : List ActV) : List Value := l.flatMap actCell
theorem actC_get (l : List ActV) (i j : Nat) (hi : i < l.length) (hj : j < 4) : (actC l)[i * 4 + j]? = (actCell l[i])[j]? := flat_get actCell 4 (fun _ => rfl) l i j hi hj
/-- v READS AS THE SCRIPT l -/
def RdA (w : World) (v : Value) (l : List ActV) : Prop := RdC 4 w v l.length (actC l)
def ActOk (c : ActV) : Prop := 0 ≤ c.k ∧ c.k < 256
theorem RdA.at {w : World} {b o n c : Nat} {l : List ActV} (h : RdA w (.slice (some ⟨b, o, none⟩) n c) l) (hb : b < w.heap.size) (k : Nat) (hk : k < l.length) (W : World) (hW : Below w.heap.size w W) :
    W.cell? ⟨b, o + k * 4, none⟩ = some (.int .u8 (l[k]).k) ∧ W.cell? ⟨b, o + k * 4 + 1, none⟩ = some (.int .i64 (l[k]).n) ∧ W.cell? ⟨b, o + k * 4 + 2, none⟩ = some (.string (l[k]).f.n) ∧ W.cell? ⟨b, o + k * 4 + 3, none⟩ = some (.string (l[k]).f.v) := by
  have hn : n = l.length := by obtain ⟨_, _, e, _⟩ := RdC.isSlice h; simp only [Value.slice.injEq] at e; exact e.2.1
  subst hn
  have cell : ∀ j u, j < 4 → (actCell l[k])[j]? = some u → W.cell? ⟨b, o + k * 4 + j, none⟩ = some u := fun j u hj hu =>
    (hW.cell (p := ⟨b, _, none⟩) hb).trans (RdC.cell h (k * 4 + j) u ((actC_get l k j hk hj).trans hu) _ (by omega))
  exact ⟨cell 0 _ (by omega) rfl, cell 1 _ (by omega) rfl, cell 2 _ (by omega) rfl, cell 3 _ (by omega) rfl⟩
theorem RdC.form {m n : Nat} {w : World} {v : Value} {fl : List Value} (h : RdC m w v n fl) : (n = 0 ∧ ∃ a c, v = .slice a 0 c) ∨ ∃ b o c, v = .slice (some ⟨b, o, none⟩) n c ∧ b < w.heap.size ∧ n ≤ c ∧ c ≤ maxLen := by
  obtain ⟨_, ⟨h0, a, c, rfl, _⟩ | ⟨_, b, o, c, rfl, hc, hm, h4, _⟩⟩ := h
  · exact .inl ⟨h0, a, c, rfl⟩
  · exact .inr ⟨b, o, c, rfl, h4, hc, hm⟩

section
variable {H : Type} {enc : TypeId × Value → H}
/-- two cells that read as a field -/
theorem open_fdC {W : World} {base : Nat} {sp : Nat → Bool} {held : Bool} {fuel : Nat} {cs : List Value} {d : DataW H} {p : List MemPlace} (hf : DataW.trod enc Tryd.prog W base sp held fuel 23 cs = some (d, p)) (hl : cs.length = 2) :
    ∃ f : Fd, cs = fdCell f ∧ d = .agg [.lit (.string f.n.data.toList), .lit (.string f.v.data.toList)] := by
  obtain ⟨xs, k, _, hxy, _, hxl, hg⟩ := DataW.trod_struct Tryd.underlying23 hf
  match xs, hxl, cs, hl with
  | [y0, y1], _, [v0, v1], _ =>
    have g0 := hg 0 _ rfl
    have g1 := hg 1 _ rfl
    simp [cellsStr] at g0 g1
    simp only [Prod.mk.injEq] at hxy
    obtain ⟨rfl, rfl⟩ := hxy
    obtain ⟨s0, e0, q0, _⟩ := DataW.trod_string Tryd.underlying9 g0
    obtain ⟨s1, e1, q1, _⟩ := DataW.trod_string Tryd.underlying9 g1
    simp only [List.cons.injEq, and_true] at e0 e1
    exact ⟨⟨s0, s1⟩, by simp only [fdCell, e0, e1], by simp only [List.map_cons, List.map_nil, q0, q1]⟩
/-- A FIELD THAT CAME IN -/
theorem open_fd {W : World} {base : Nat} {v : Value} {d : DataW H} {p : List MemPlace} (hval : Value.okWide Tryd.prog W .any base 23 v) (h : DataW.Trod enc Tryd.prog W 0 (fun _ => true) true 23 v d p) :
    ∃ f : Fd, v = .agg #[.string f.n, .string f.v] ∧ d = .agg [.lit (.string f.n.data.toList), .lit (.string f.v.data.toList)] := by
  obtain ⟨cs, rfl, hsz⟩ := okWide_struct Tryd.underlying23 hval
  obtain ⟨fuel, hf⟩ := h
  have hl : (Value.agg cs).cells.toList.length = 2 := by
    rw [cellsFd] at hsz
    simpa [Value.cells] using hsz
  obtain ⟨f, e, hd⟩ := open_fdC hf hl
  refine ⟨f, ?_, hd⟩
  have : cs.toList = fdCell f := by simpa [Value.cells] using e
  rw [← Array.toArray_toList (xs := cs), this]; rfl
/-- four cells that read as an act -/
theorem open_act {W : World} {fuel : Nat} {cs : List Value} {d : DataW H} {p : List MemPlace} (hf : DataW.trod enc Tryd.prog W 0 (fun _ => true) true fuel 44 cs = some (d, p)) (hl : cs.length = 4) :
    ∃ c : ActV, cs = actCell c ∧ ActOk c := by
  obtain ⟨xs, k, _, hxy, _, hxl, hg⟩ := DataW.trod_struct Tryd.underlying44 hf
  match xs, hxl, cs, hl with
  | [y0, y1, y2], _, [v0, v1, v2, v3], _ =>
    have g0 := hg 0 _ rfl
    have g1 := hg 1 _ rfl
    have g2 := hg 2 _ rfl
    simp [cellsInt, cellsU8, cellsFd] at g0 g1 g2
    obtain ⟨n0, e0, _, w0⟩ := DataW.trod_int Tryd.underlying5 g0
    obtain ⟨n1, e1, _⟩ := DataW.trod_int Tryd.underlying3 g1
    obtain ⟨f, e2, _⟩ := open_fdC (d := y2.1) (p := y2.2) g2 rfl
    simp only [List.cons.injEq, and_true, fdCell] at e0 e1 e2
    obtain ⟨e2, e3⟩ := e2
    exact ⟨⟨n0, n1, f⟩, by simp only [actCell, e0, e1, e2, e3], u8_of_wf w0⟩
/-- AN ACT THAT CAME IN -/
theorem open_actV {W : World} {base : Nat} {v : Value} {d : DataW H} {p : List MemPlace} (hval : Value.okWide Tryd.prog W .any base 44 v) (h : DataW.Trod enc Tryd.prog W 0 (fun _ => true) true 44 v d p) :
    ∃ c : ActV, v = .agg #[.int .u8 c.k, .int .i64 c.n, .string c.f.n, .string c.f.v] ∧ ActOk c := by
  obtain ⟨cs, rfl, hsz⟩ := okWide_struct Tryd.underlying44 hval
  obtain ⟨fuel, hf⟩ := h
  have hl : (Value.agg cs).cells.toList.length = 4 := by
    rw [cellsAct] at hsz
    simpa [Value.cells] using hsz
  obtain ⟨c, e, hc⟩ := open_act hf hl
  refine ⟨c, ?_, hc⟩
  have : cs.toList = actCell c := by simpa [Value.cells] using e
  rw [← Array.toArray_toList (xs := cs), this]; rfl
/-- A SLICE OF STRUCTS THAT CAME IN, whose m cells open as cell -/
theorem open_rows {α : Type} {P : Program} {W : World} {base m : Nat} {t e : TypeId} {v : Value} {d : DataW H} {p : List MemPlace} (cell : α → List Value) (ok : α → Prop) (z : α) (hm0 : 0 < m) (hcl : ∀ x, (cell x).length = m)
    (ht : P.underlying t = some (.slice e)) (hce : P.cellsOf e = m)
    (hopen : ∀ {fuel : Nat} {cs : List Value} {d : DataW H} {p : List MemPlace}, DataW.trod enc P W 0 (fun _ => true) true fuel e cs = some (d, p) → (∀ x ∈ p, x.block < W.heap.size) → cs.length = m → ∃ c, cs = cell c ∧ ok c)
    (hval : Value.okWide P W .any base t v) (h : DataW.Trod enc P W 0 (fun _ => true) true t v d p) (hlt : ∀ x ∈ p, x.block < W.heap.size) :
    ∃ l : List α, RdC m W v l.length (l.flatMap cell) ∧ (∀ c ∈ l, ok c) ∧ ((l = [] ∧ d = .nil) ∨ ∃ es rest, d = .slice es rest ∧ es.length = l.length) := by
  obtain ⟨a0, len0, cap0, rfl⟩ := okWide_slice ht hval
  obtain ⟨fuel, hf⟩ := h
  rcases open_slice ht hf with ⟨hcs, hx⟩ | ⟨a, len, cap, mm, n, D, Pl, hcs, _, hl, hm, hmm, hx, hcell⟩
  · simp [Value.cells] at hcs
    obtain ⟨rfl, rfl, rfl⟩ := hcs
    simp only [Prod.mk.injEq] at hx
    exact ⟨[], RdC.nil _ _, (fun c hc => by cases hc), .inl ⟨rfl, hx.1⟩⟩
  · simp [Value.cells] at hcs
    obtain ⟨rfl, rfl, rfl⟩ := hcs
    simp only [if_true] at hmm
    simp only [Prod.mk.injEq] at hx
    obtain ⟨rfl, rfl⟩ := hx
    rw [hce] at hcell hlt
    have each : ∀ i, i < len0 → ∃ c : α, (∀ j, j < m → W.cell? (a.add (i * m + j)) = (cell c)[j]?) ∧ ok c := by
      intro i hi
      obtain ⟨cs', h1, h2⟩ := hcell i (by omega)
      obtain ⟨_, hlen, hc⟩ := World.cells?_some h1
      obtain ⟨c, rfl, hg⟩ := hopen h2 (fun x hx => hlt x (List.mem_append_right _ (List.mem_flatMap.2 ⟨i, List.mem_range.2 (by omega), hx⟩))) hlen
      refine ⟨c, fun j hj => ?_, hg⟩
      have := hc j hj
      rw [add_add] at this
      exact this
    obtain ⟨G, hG⟩ : ∃ G : Nat → α, ∀ i, i < len0 → (∀ j, j < m → W.cell? (a.add (i * m + j)) = (cell (G i))[j]?) ∧ ok (G i) := by
      classical
      exact ⟨fun i => if h : ∃ c : α, (∀ j, j < m → W.cell? (a.add (i * m + j)) = (cell c)[j]?) ∧ ok c then h.choose else z, fun i hi => by
        simp only [dif_pos (each i hi)]
        exact (each i hi).choose_spec⟩
    have hlen : ((List.range len0).map G).length = len0 := by simp
    have hfl : ((List.range len0).map G |>.flatMap cell).length = len0 * m := by rw [flat_len cell m hcl, hlen]
    refine ⟨(List.range len0).map G, ?_, ?_, .inr ⟨_, _, rfl, by simp⟩⟩
    · rw [hlen]
      refine ⟨hfl, ?_⟩
      by_cases h0 : len0 = 0
      · subst h0
        exact .inl ⟨rfl, some a, cap0, rfl, hm, fun h => by cases h⟩
      · obtain ⟨b, off, spot⟩ := a
        have hspot : spot = none := by
          have := (hG 0 (by omega)).1 0 hm0
          rw [List.getElem?_eq_getElem (by rw [hcl]; exact hm0)] at this
          simpa [Addr.add] using World.cell?_spot this
        subst hspot
        have hb : b < W.heap.size := hlt (.cell b off) (List.mem_append_left _ (MemPlace.mem_row.2 ⟨0, Nat.mul_pos (by omega) hm0, by simp⟩))
        refine .inr ⟨by omega, b, off, cap0, rfl, hl, hm, hb, fun j u hu => ?_⟩
        have hj : j < len0 * m := by
          have := (List.getElem?_eq_some_iff.1 hu).1
          rw [hfl] at this; exact this
        have hd : j / m < len0 := (Nat.div_lt_iff_lt_mul hm0).2 hj
        have hq := (hG (j / m) hd).1 (j % m) (Nat.mod_lt _ hm0)
        have e2 : j / m * m + j % m = j := by rw [Nat.mul_comm]; exact Nat.div_add_mod j m
        rw [e2, add_plain] at hq
        have hf := flat_get cell m hcl ((List.range len0).map G) (j / m) (j % m) (by rw [hlen]; exact hd) (Nat.mod_lt _ hm0)
        rw [e2] at hf
        rw [hq, ← hu, hf]
        simp
    · intro c hc
      obtain ⟨i, hi, rfl⟩ := List.mem_map.1 hc
      exact (hG i (List.mem_range.1 hi)).2

/-- A SCRIPT THAT CAME IN -/
theorem open_acts {W : World} {base : Nat} {v : Value} {d : DataW H} {p : List MemPlace} (hval : Value.okWide Tryd.prog W .any base 34 v) (h : DataW.Trod enc Tryd.prog W 0 (fun _ => true) true 34 v d p) (hlt : ∀ x ∈ p, x.block < W.heap.size) :
    ∃ l, RdA W v l ∧ (∀ c ∈ l, ActOk c) ∧ ((l = [] ∧ d = .nil) ∨ ∃ es rest, d = .slice es rest ∧ es.length = l.length) :=
  open_rows (m := 4) actCell ActOk ⟨0, 0, noFd⟩ (by omega) (fun _ => rfl) Tryd.underlying34 cellsAct (fun h1 _ h3 => open_act h1 h3) hval h hlt
theorem acts_sized {ts : List TypeId} {ds : List (DataW H)} (h : (DataW.weightsEach Tryd.prog ts ds).all (· ≤ reachBytes) = true) {j : Nat} {l : List ActV} {d : DataW H} (ht : ts[j]? = some 34) (hd : ds[j]? = some d)
    (hx : (l = [] ∧ d = .nil) ∨ ∃ es rest, d = .slice es rest ∧ es.length = l.length) : l.length * 48 ≤ 140737488351232 := by
  rcases hx with ⟨rfl, _⟩ | ⟨es, rest, rfl, hl⟩
  · simp
  · have := sized_slice h ht hd Tryd.underlying34
    rw [bytesAct] at this
    simp only [reachBytes] at this
    omega
theorem fd_sized {ts : List TypeId} {ds : List (DataW H)} (h : (DataW.weightsEach Tryd.prog ts ds).all (· ≤ reachBytes) = true) {j : Nat} {f : Fd} (ht : ts[j]? = some 23) (hd : ds[j]? = some (.agg [.lit (.string f.n.data.toList), .lit (.string f.v.data.toList)])) : SzF f := by
  have h0 := List.all_eq_true.1 h _ (DataW.weights_mem_each ht hd f.n.data.toList.length (by simp [DataW.weights, Tryd.underlying23, DataW.weightsEach]))
  have h1 := List.all_eq_true.1 h _ (DataW.weights_mem_each ht hd f.v.data.toList.length (by simp [DataW.weights, Tryd.underlying23, DataW.weightsEach]))
  have k0 : f.n.size ≤ reachBytes := of_decide_eq_true h0
  have k1 : f.v.size ≤ reachBytes := of_decide_eq_true h1
  have k2 := reachBytes_lt
  exact ⟨by omega, by omega⟩

/-- the fixed table, as the row lays it -/
def fixedData : DataW H := .agg (fixedL.map fun f => .agg [.lit (.string f.n.data.toList), .lit (.string f.v.data.toList)])
theorem cells_of_fixed {W : World} {base : Nat} {sp : Nat → Bool} {held : Bool} {fuel : Nat} {cs : List Value} {p : List MemPlace}
    (h : DataW.trod enc Tryd.prog W base sp held fuel 57 cs = some (fixedData, p)) : cs = fdC fixedL := by
  obtain ⟨xs, m, _, hx, hlen, hxl, hg⟩ := DataW.trod_array Tryd.underlying57 h
  rw [cellsArr] at hlen
  simp only [Prod.mk.injEq, fixedData, DataW.agg.injEq] at hx
  rw [cellsFd] at hg
  apply List.ext_getElem?
  intro i
  by_cases hi : i < 48
  · have hd2 : i / 2 < 24 := by omega
    have hg1 := hg (i / 2) hd2
    have hxs : i / 2 < xs.length := by rw [hxl]; exact hd2
    rw [List.getElem?_eq_getElem hxs] at hg1
    obtain ⟨f, e1, e2⟩ := open_fdC (d := xs[i / 2].1) (p := xs[i / 2].2) hg1 (by rw [List.length_take, List.length_drop, hlen]; omega)
    have e3 : (xs.map (·.1))[i / 2]? = some xs[i / 2].1 := by simp [hxs]
    rw [← hx.1] at e3
    have hfl : i / 2 < fixedL.length := by rw [fixed_len]; exact hd2
    rw [List.getElem?_map, List.getElem?_eq_getElem hfl] at e3
    simp only [Option.map_some, Option.some.injEq] at e3
    rw [e2] at e3
    simp only [DataW.agg.injEq, List.cons.injEq, DataW.lit.injEq, Lit.string.injEq, and_true] at e3
    have ef : f = fixedL[i / 2] := by
      rw [Fd.eq_iff]
      exact ⟨ByteArray.ext (Array.ext' e3.1.symm), ByteArray.ext (Array.ext' e3.2.symm)⟩
    subst ef
    have hc := fdC_get fixedL (i / 2) (i % 2) hfl (by omega)
    rw [show i / 2 * 2 + i % 2 = i by omega] at hc
    rw [hc, ← e1, List.getElem?_take, if_pos (by omega), List.getElem?_drop, show i / 2 * 2 + i % 2 = i by omega]
  · rw [List.getElem?_eq_none (by omega), List.getElem?_eq_none (by rw [fdC_len, fixed_len]; omega)]
end
theorem gFix : Tryd.prog.globalNamed "turnbuckle/qtab.fixed" = some 0 := by kernel_rfl
theorem gFixType : (Tryd.prog.globals[0]?).map (·.type) = some 57 := by kernel_rfl
theorem laid_is : (Rows.laid_turnbuckle_qtab_fixed : DataW Unit) = fixedData := by kernel_rfl
theorem fix_of_laid {W : World} (h : laidMetH Tryd.prog [("turnbuckle/qtab.fixed", Rows.laid_turnbuckle_qtab_fixed)] W) : Fix W := by
  rw [laid_is] at h
  obtain ⟨ps, ⟨g', t', cs, fuel, p, q, hg', ht', hvar, hd, _, _⟩, _⟩ := h
  obtain rfl := Option.some.inj (gFix.symm.trans hg')
  obtain rfl := Option.some.inj (gFixType.symm.trans ht')
  have hc := cells_of_fixed hd
  simp only [World.var?, gFix, Option.bind_some] at hvar
  split at hvar
  · rename_i cs' T fr he
    obtain rfl := Option.some.inj hvar
    refine ⟨T, fr, he.trans ?_⟩
    rw [← hc]
  · cases hvar
end Go.Proofs.YtfacpncbcplocaaDoor
