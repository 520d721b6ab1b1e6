/- Layer 7: a slice of acts that came in; the mathematics of scripts. -/
import Derived.Test.YtiglhdiclfknhaaLift
import Derived.Test.YtiglhdiclfknhaaRow
import Derived.Test.YtiglhdiclfknhaaCgN
import Derived.Deep.Slices
set_option linter.unusedSimpArgs false
set_option linter.unusedVariables false
namespace Go.Proofs.Ytiglhdiclfknhaa
open Go.ChangeShapes Go.WideShapes Go.ChangeAt Go.RowKit Go.Deep

/-- an act -/
structure ActV where
  k : Int
  n : Int
  a : Int
  now : Int
def actCell (c : ActV) : List Value := [.int .u8 c.k, .int .i64 c.n, .int .i64 c.a, .int .i64 c.now]
def actC (l : List ActV) : List Value := l.flatMap actCell
theorem actC_len (l : List ActV) : (actC l).length = l.length * 4 := flat_len actCell 4 (fun _ => rfl) l
theorem actC_get (l : List ActV) (i j : Nat) (hi : i < l.length) (hj : j < 4) : (actC l)[i * 4 + j]? = (actCell l[i])[j]? := flat_get actCell 4 (fun _ => rfl) l i j hi hj
/-- v READS AS THE SCRIPT l -/
def RdA (w : World) (v : Value) (l : List ActV) : Prop := RdC 4 w v l.length (actC l)
def ActsOk (l : List ActV) : Prop := ∀ c ∈ l, 0 ≤ c.k ∧ c.k < 256
theorem ActsOk.at {l : List ActV} (h : ActsOk l) (k : Nat) (hk : k < l.length) : 0 ≤ (l[k]).k ∧ (l[k]).k < 256 := h _ (List.getElem_mem hk)
/-- what stands at place k of a script -/
theorem RdA.at {w : World} {b o n c : Nat} {l : List ActV} (h : RdA w (.slice (some ⟨b, o, none⟩) n c) l) (hb : b < w.heap.size) (k : Nat) (hk : k < l.length) (W : World) (hW : Below w.heap.size w W) :
    W.cell? ⟨b, o + k * 4, none⟩ = some (.int .u8 (l[k]).k) ∧ W.cell? ⟨b, o + k * 4 + 1, none⟩ = some (.int .i64 (l[k]).n) ∧ W.cell? ⟨b, o + k * 4 + 2, none⟩ = some (.int .i64 (l[k]).a) ∧ W.cell? ⟨b, o + k * 4 + 3, none⟩ = some (.int .i64 (l[k]).now) := by
  have hn : n = l.length := by obtain ⟨_, _, e, _⟩ := RdC.isSlice h; simp only [Value.slice.injEq] at e; exact e.2.1
  subst hn
  have cell : ∀ j u, j < 4 → (actCell l[k])[j]? = some u → W.cell? ⟨b, o + k * 4 + j, none⟩ = some u := fun j u hj hu =>
    (hW.cell (p := ⟨b, _, none⟩) hb).trans (RdC.cell h (k * 4 + j) u ((actC_get l k j hk hj).trans hu) _ (by omega))
  exact ⟨cell 0 _ (by omega) rfl, cell 1 _ (by omega) rfl, cell 2 _ (by omega) rfl, cell 3 _ (by omega) rfl⟩
theorem RdA.form {w : World} {v : Value} {l : List ActV} (h : RdA w v l) : (l = [] ∧ ∃ a c, v = .slice a 0 c) ∨ ∃ b o c, v = .slice (some ⟨b, o, none⟩) l.length c ∧ b < w.heap.size ∧ l.length ≤ c ∧ c ≤ maxLen := by
  obtain ⟨_, ⟨h0, a, c, rfl, _⟩ | ⟨_, b, o, c, rfl, hc, hm, h4, _⟩⟩ := h
  · exact .inl ⟨List.length_eq_zero_iff.1 h0, a, c, rfl⟩
  · exact .inr ⟨b, o, c, rfl, h4, hc, hm⟩

theorem cellsIntR : Try.prog.cellsOf 3 = 1 := by kernel_rfl
theorem cellsU8R : Try.prog.cellsOf 5 = 1 := by kernel_rfl
theorem cellsActR : Try.prog.cellsOf 48 = 4 := by kernel_rfl
section
variable {H : Type} {enc : TypeId × Value → H}
/-- four cells that read as an act -/
theorem open_act {W : World} {fuel : Nat} {cs : List Value} {d : DataW H} {p : List MemPlace} (hf : DataW.trod enc Try.prog W 0 (fun _ => true) true fuel 48 cs = some (d, p)) (hl : cs.length = 4) :
    ∃ c : ActV, cs = actCell c ∧ 0 ≤ c.k ∧ c.k < 256 := by
  obtain ⟨xs, k, _, _, _, hxl, hg⟩ := DataW.trod_struct Try.underlying48 hf
  match xs, hxl, cs, hl with
  | [y0, y1, y2, y3], _, [v0, v1, v2, v3], _ =>
    have g0 := hg 0 _ rfl
    have g1 := hg 1 _ rfl
    have g2 := hg 2 _ rfl
    have g3 := hg 3 _ rfl
    simp [cellsIntR, cellsU8R] at g0 g1 g2 g3
    obtain ⟨n0, e0, _, w0⟩ := DataW.trod_int Try.underlying5 g0
    obtain ⟨n1, e1, _⟩ := DataW.trod_int Try.underlying3 g1
    obtain ⟨n2, e2, _⟩ := DataW.trod_int Try.underlying3 g2
    obtain ⟨n3, e3, _⟩ := DataW.trod_int Try.underlying3 g3
    simp only [List.cons.injEq, and_true] at e0 e1 e2 e3
    exact ⟨⟨n0, n1, n2, n3⟩, by simp only [actCell, e0, e1, e2, e3], u8_of_wf w0⟩

/-- A SCRIPT THAT CAME IN -/
theorem open_acts {W : World} {base : Nat} {v : Value} {d : DataW H} {p : List MemPlace} (hval : Value.okWide Try.prog W .any base 46 v) (h : DataW.Trod enc Try.prog W 0 (fun _ => true) true 46 v d p) (hlt : ∀ x ∈ p, x.block < W.heap.size) :
    ∃ l, RdA W v l ∧ ActsOk l := by
  obtain ⟨a0, len0, cap0, rfl⟩ := okWide_slice Try.underlying46 hval
  obtain ⟨fuel, hf⟩ := h
  rcases open_slice Try.underlying46 hf with ⟨hcs, _⟩ | ⟨a, len, cap, m, n, D, Pl, hcs, _, hl, hm, hmm, hx, hcell⟩
  · simp [Value.cells] at hcs
    obtain ⟨rfl, rfl, rfl⟩ := hcs
    exact ⟨[], RdC.nil _ _, fun c hc => by cases hc⟩
  · simp [Value.cells] at hcs
    obtain ⟨rfl, rfl, rfl⟩ := hcs
    simp only [if_true] at hmm
    simp only [Prod.mk.injEq] at hx
    obtain ⟨rfl, rfl⟩ := hx
    rw [cellsActR] at hcell hlt
    have each : ∀ i, i < len0 → ∃ c : ActV, (∀ j, j < 4 → W.cell? (a.add (i * 4 + j)) = (actCell c)[j]?) ∧ 0 ≤ c.k ∧ c.k < 256 := by
      intro i hi
      obtain ⟨cs', h1, h2⟩ := hcell i (by omega)
      obtain ⟨_, hlen, hc⟩ := World.cells?_some h1
      obtain ⟨c, rfl, hg⟩ := open_act h2 hlen
      refine ⟨c, fun j hj => ?_, hg⟩
      have := hc j hj
      rw [add_add] at this
      exact this
    obtain ⟨G, hG⟩ : ∃ G : Nat → ActV, ∀ i, i < len0 → (∀ j, j < 4 → W.cell? (a.add (i * 4 + j)) = (actCell (G i))[j]?) ∧ 0 ≤ (G i).k ∧ (G i).k < 256 := by
      classical
      exact ⟨fun i => if h : ∃ c : ActV, (∀ j, j < 4 → W.cell? (a.add (i * 4 + j)) = (actCell c)[j]?) ∧ 0 ≤ c.k ∧ c.k < 256 then h.choose else ⟨0, 0, 0, 0⟩, fun i hi => by
        simp only [dif_pos (each i hi)]
        exact (each i hi).choose_spec⟩
    have hlen : ((List.range len0).map G).length = len0 := by simp
    refine ⟨(List.range len0).map G, ?_, ?_⟩
    · unfold RdA
      rw [hlen]
      refine ⟨by rw [actC_len, hlen], ?_⟩
      by_cases h0 : len0 = 0
      · subst h0
        exact .inl ⟨rfl, some a, cap0, rfl, hm, fun h => by cases h⟩
      · obtain ⟨b, off, spot⟩ := a
        have hspot : spot = none := by
          have := (hG 0 (by omega)).1 0 (by omega)
          simp only [actCell, List.getElem?_cons_zero] at this
          simpa [Addr.add] using World.cell?_spot this
        subst hspot
        have hb : b < W.heap.size := hlt (.cell b off) (List.mem_append_left _ (MemPlace.mem_row.2 ⟨0, by omega, by simp⟩))
        refine .inr ⟨by omega, b, off, cap0, rfl, hl, hm, hb, fun j u hu => ?_⟩
        have hj : j < len0 * 4 := by
          have := (List.getElem?_eq_some_iff.1 hu).1
          rw [actC_len, hlen] at this; exact this
        have hq := (hG (j / 4) (by omega)).1 (j % 4) (by omega)
        have e2 : j / 4 * 4 + j % 4 = j := by omega
        rw [e2, add_plain] at hq
        have hf := actC_get ((List.range len0).map G) (j / 4) (j % 4) (by rw [hlen]; omega) (by omega)
        rw [e2] at hf
        rw [hq, ← hu, hf]
        simp
    · intro c hc
      obtain ⟨i, hi, rfl⟩ := List.mem_map.1 hc
      exact (hG i (List.mem_range.1 hi)).2
end

/-- a call that is not refused leaves a window that may be, and adds or takes its bytes -/
theorem call_ok {q : St} {k n a now : Int} (hr : rightB q = true) (he : (callE q k n a now).2 = 0) :
    rightB (callE q k n a now).1 = true ∧ 1 ≤ n ∧ n ≤ 1200 ∧ (if k % 4 = 0 then (callE q k n a now).1.f = q.f + n ∧ q.f + n ≤ q.z ∧ (callE q k n a now).1.z = q.z else (callE q k n a now).1.f = q.f - n) := by
  unfold callE at he ⊢
  by_cases h0 : k % 4 = 0
  · rw [if_pos h0] at he ⊢
    rw [if_pos h0]
    unfold sentE at he ⊢
    by_cases hg : (rightB q && gramB n) = true
    · rw [if_pos hg] at he ⊢
      have hn : gramB n = true := by rw [Bool.and_eq_true] at hg; exact hg.2
      obtain ⟨n1, n2⟩ := in_iff.1 hn
      by_cases hm : roomI q < n
      · rw [if_pos hm] at he; cases he
      · rw [if_neg hm]
        have := room_le hr hm n1
        exact ⟨more_right hr n1 this, n1, n2, rfl, this, rfl⟩
    · rw [if_neg hg] at he; cases he
  rw [if_neg h0] at he ⊢
  rw [if_neg h0]
  by_cases h1 : k % 4 = 1
  · rw [if_pos h1] at he ⊢
    unfold ackedE at he ⊢
    by_cases hg : (rightB q && gramB n) = true
    · rw [if_pos hg] at he ⊢
      have hn : gramB n = true := by rw [Bool.and_eq_true] at hg; exact hg.2
      obtain ⟨n1, n2⟩ := in_iff.1 hn
      by_cases ht : timeB a = true
      · rw [if_pos ht] at he ⊢
        by_cases hm : q.f < n
        · rw [if_pos hm] at he; cases he
        · rw [if_neg hm]
          have hl := less_right hr n1 (by omega : n ≤ q.f)
          show rightB (heardQ q n a) = true ∧ _ ∧ _ ∧ (heardQ q n a).f = q.f - n
          unfold heardQ
          split
          · exact ⟨hl, n1, n2, rfl⟩
          · refine ⟨grown_right hl hn, n1, n2, ?_⟩
            unfold grownQ
            split
            · rfl
            · split <;> rfl
      · rw [if_neg ht] at he; cases he
    · rw [if_neg hg] at he; cases he
  rw [if_neg h1] at he ⊢
  by_cases h2 : k % 4 = 2
  · rw [if_pos h2] at he ⊢
    unfold lostE at he ⊢
    by_cases hg : (rightB q && gramB n) = true
    · rw [if_pos hg] at he ⊢
      have hn : gramB n = true := by rw [Bool.and_eq_true] at hg; exact hg.2
      obtain ⟨n1, n2⟩ := in_iff.1 hn
      by_cases ht : (timeB a && timeB now) = true
      · rw [if_pos ht] at he ⊢
        by_cases hm : q.f < n
        · rw [if_pos hm] at he; cases he
        · rw [if_neg hm]
          have hl := less_right hr n1 (by omega : n ≤ q.f)
          show rightB (lostQ q n a now) = true ∧ _ ∧ _ ∧ (lostQ q n a now).f = q.f - n
          unfold lostQ
          split
          · exact ⟨hl, n1, n2, rfl⟩
          · have hnow : timeB now = true := by rw [Bool.and_eq_true] at ht; exact ht.2
            exact ⟨fallen_right hl hnow, n1, n2, rfl⟩
      · rw [if_neg ht] at he; cases he
    · rw [if_neg hg] at he; cases he
  rw [if_neg h2] at he ⊢
  unfold goneE at he ⊢
  by_cases hg : (rightB q && gramB n) = true
  · rw [if_pos hg] at he ⊢
    have hn : gramB n = true := by rw [Bool.and_eq_true] at hg; exact hg.2
    obtain ⟨n1, n2⟩ := in_iff.1 hn
    by_cases hm : q.f < n
    · rw [if_pos hm] at he; cases he
    · rw [if_neg hm]
      exact ⟨less_right hr n1 (by omega : n ≤ q.f), n1, n2, rfl⟩
  · rw [if_neg hg] at he; cases he
/-- what comes of a call in a script: the same window, refused; or a window that may be, its bytes more or less -/
theorem does_ways {q : St} {k n a now : Int} (hr : rightB q = true) {r : St} {e : Int} (he : doesE q k n a now = (r, e)) :
    rightB r = true ∧ ((e ≠ 0 ∧ r = q) ∨ (e = 0 ∧ 1 ≤ n ∧ n ≤ 1200 ∧ (k % 4 = 0 ∧ r.f = q.f + n ∧ r.f ≤ r.z ∨ k % 4 ≠ 0 ∧ r.f = q.f - n))) := by
  unfold doesE at he
  by_cases h0 : (callE q k n a now).2 = 0
  · rw [if_pos h0] at he
    obtain ⟨rfl, rfl⟩ := Prod.mk.inj he
    obtain ⟨h1, h2, h3, h4⟩ := call_ok hr h0
    refine ⟨h1, .inr ⟨rfl, h2, h3, ?_⟩⟩
    by_cases hk : k % 4 = 0
    · rw [if_pos hk] at h4
      exact .inl ⟨hk, h4.1, by rw [h4.1, h4.2.2]; exact h4.2.1⟩
    · rw [if_neg hk] at h4
      exact .inr ⟨hk, h4⟩
  · rw [if_neg h0] at he
    obtain ⟨rfl, rfl⟩ := Prod.mk.inj he
    exact ⟨hr, .inl ⟨h0, rfl⟩⟩
theorem fresh_right : rightB fresh = true := by decide
end Go.Proofs.Ytiglhdiclfknhaa
