/- A slice of spans that came in, at the top. -/
import Derived.Test.YticbhdbpfpdofaaOpen
import Derived.Test.YticbhdbpfpdofaaSpR
namespace Go.Proofs.Yticbhdbpfpdofaa
open Go.ChangeShapes Go.WideShapes Go.ChangeAt Go.RowKit Go.Deep

section
variable {H : Type} {enc : TypeId × Value → H} {P : Program}
theorem open_spans {W : World} {base : Nat} {t e i0 : TypeId} {f0 f1 : Field} {v : Value} {d : DataW H} {p : List MemPlace} (ht : P.underlying t = some (.slice e)) (he : P.underlying e = some (.struct #[f0, f1])) (ce : P.cellsOf e = 2)
    (o0 : f0.offset = 0) (o1 : f1.offset = 1) (t0 : f0.type = i0) (t1 : f1.type = i0) (hi0 : P.underlying i0 = some (.int .i64)) (ci0 : P.cellsOf i0 = 1)
    (hval : Value.okWide P W .any base t v) (h : DataW.Trod enc P W 0 (fun _ => true) true t v d p) (hlt : ∀ x ∈ p, x.block < W.heap.size) :
    ∃ ss, RdS W v ss ∧ (∀ s ∈ ss, (Lit.int .i64 s.1).wf = true ∧ (Lit.int .i64 s.2).wf = true) ∧ ((ss = [] ∧ d = .nil) ∨ ∃ es rest, d = .slice es rest ∧ es.length = ss.length) := by
  obtain ⟨a0, len, cap, rfl⟩ := okWide_slice ht hval
  obtain ⟨fuel, hf⟩ := h
  obtain ⟨v', ss, hcs, hr, hwf⟩ := open_spansC ht he ce o0 o1 t0 t1 hi0 ci0 hf hlt
  obtain rfl : Value.slice a0 len cap = v' := by simpa [Value.cells] using hcs
  refine ⟨ss, hr, hwf, ?_⟩
  rcases open_slice_pairs ht he ce o0 o1 (by rw [t0]; exact ci0) (by rw [t1]; exact ci0) hf with ⟨hcs, hx⟩ | ⟨a, len', cap', m, n, V0, V1, D0, D1, P0, P1, hcs, _, hl, hm, hmm, hx, hcell⟩
  · simp [Value.cells] at hcs
    obtain ⟨rfl, rfl, rfl⟩ := hcs
    simp only [Prod.mk.injEq] at hx
    exact .inl ⟨hr.nilCut.1, hx.1⟩
  · simp [Value.cells] at hcs
    obtain ⟨rfl, rfl, rfl⟩ := hcs
    simp only [Prod.mk.injEq] at hx
    obtain ⟨a', c', e', _⟩ := hr.isSlice
    simp only [Value.slice.injEq] at e'
    exact .inr ⟨_, _, hx.1, by simp [e'.2.1]⟩
theorem spans_sized {ts : List TypeId} {ds : List (DataW H)} (h : (DataW.weightsEach P ts ds).all (· ≤ reachBytes) = true) {j : Nat} {t e : TypeId} {ss : List (Int × Int)} {d : DataW H} (ht : ts[j]? = some t) (hd : ds[j]? = some d) (hu : P.underlying t = some (.slice e))
    (hx : (ss = [] ∧ d = .nil) ∨ ∃ es rest, d = .slice es rest ∧ es.length = ss.length) : ss.length * P.bytesOf e ≤ 140737488351232 := by
  rcases hx with ⟨rfl, _⟩ | ⟨es, rest, rfl, hl⟩
  · simp
  · have := sized_slice h ht hd hu
    simp only [reachBytes] at this
    have h2 : ss.length * P.bytesOf e ≤ (es.length + rest.length) * P.bytesOf e := Nat.mul_le_mul_right _ (by omega)
    omega
end
theorem two_of {zs : List Int} (h : zs.length = 2) : ∃ f t, zs = [f, t] := by
  match zs, h with
  | [a, b], _ => exact ⟨a, b, rfl⟩
end Go.Proofs.Yticbhdbpfpdofaa
