/- Layer 17: texts that came in, and how great they are. -/
import Derived.Test.YtdfebmjincnfiaaDoorFdY
import Derived.Test.YtdfebmjincnfiaaDoorBulk
import Derived.SliceStrings
set_option maxRecDepth 100000
set_option linter.unusedSimpArgs false
set_option linter.unusedVariables false
namespace Go.Proofs.YtdfebmjincnfiaaDoor
open Go.ChangeShapes Go.WideShapes Go.ChangeAt Go.RowKit

theorem txt_data (s : ByteArray) : txt s.data.toList = s := by
  apply ByteArray.ext
  simp [txt]
section
variable {H : Type} {enc : TypeId × Value → H}
theorem bulk_strs (l : List ByteArray) : Rows.uptoBulkAll (strs (H := H) l) = (l.map fun s => s.data.toList.length + 1).sum := by
  induction l with
  | nil => rfl
  | cons s l ih =>
    show Rows.uptoBulk (.lit (.string s.data.toList)) + Rows.uptoBulkAll (strs l) = _
    rw [ih, List.map_cons, List.sum_cons]
    rfl
theorem tot_strs (l : List ByteArray) : (l.map fun s => s.data.toList.length + 1).sum = l.length + tot (l.map fun s => s.data.toList) := by
  induction l with
  | nil => rfl
  | cons s l ih =>
    rw [List.map_cons, List.sum_cons, ih, List.map_cons, tot_cons, List.length_cons]
    omega
/-- TEXTS THAT CAME IN -/
theorem open_texts {W : World} {base : Nat} {v : Value} {d : DataW H} {p : List MemPlace} (hval : Value.okWide Tryd.prog W .any base 22 v) (h : DataW.Trod enc Tryd.prog W 0 (fun _ => true) true 22 v d p) (hlt : ∀ x ∈ p, x.block < W.heap.size) :
    ∃ ts, RdT W v ts ∧ ts.length + tot ts ≤ Rows.uptoBulk d := by
  obtain ⟨a0, len, cap, rfl⟩ := okWide_slice Tryd.underlying22 hval
  obtain ⟨fuel, hf⟩ := h
  rcases open_strings Tryd.underlying22 Tryd.underlying9 (by kernel_rfl) hf with ⟨hcs, hx⟩ | ⟨a, len', cap', ss, hcs, _, hl, hm, hss, hx, hcell, _⟩
  · simp [Value.cells] at hcs
    obtain ⟨rfl, rfl, rfl⟩ := hcs
    exact ⟨[], RdC.nil _ _, by simp [tot]⟩
  · simp [Value.cells] at hcs
    obtain ⟨rfl, rfl, rfl⟩ := hcs
    simp only [Prod.mk.injEq] at hx
    obtain ⟨rfl, rfl⟩ := hx
    simp only [if_true] at hss
    have hlen : (ss.take len).length = len := by rw [List.length_take]; omega
    refine ⟨(ss.take len).map fun s => s.data.toList, ?_, ?_⟩
    · show RdC 1 W _ ((ss.take len).map _).length _
      rw [List.length_map, hlen]
      refine ⟨by simp [strsC]; omega, ?_⟩
      by_cases h0 : len = 0
      · subst h0
        exact .inl ⟨rfl, some a, cap, rfl, hm, fun h => by cases h⟩
      · obtain ⟨b, off, spot⟩ := a
        have hspot : spot = none := by simpa [Addr.add] using World.cell?_spot (hcell 0 (by omega))
        subst hspot
        have hb : b < W.heap.size := hlt (.cell b off) (MemPlace.mem_row.2 ⟨0, by omega, by simp⟩)
        refine .inr ⟨by omega, b, off, cap, rfl, hl, hm, hb, fun j u hu => ?_⟩
        have hj : j < len := by
          have := (List.getElem?_eq_some_iff.1 hu).1
          simp [strsC] at this
          omega
        rw [← add_plain, hcell j (by omega), ← hu]
        have hjs : j < ss.length := by omega
        simp [strsC, List.getD, hjs, hj, txt_data]
    · rw [List.length_map, hlen]
      have h1 : Rows.uptoBulk (DataW.slice (H := H) (strs (ss.take len)) (strs (ss.drop len))) = Rows.uptoBulkAll (strs (H := H) (ss.take len)) + Rows.uptoBulkAll (strs (H := H) (ss.drop len)) + 1 := by simp only [Rows.uptoBulk]
      rw [h1, bulk_strs, tot_strs, hlen]
      omega
end
end Go.Proofs.YtdfebmjincnfiaaDoor
