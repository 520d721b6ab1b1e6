/- Walks of layer 6: Sample of the document, all ways. -/
import Derived.Test.YtfcojlnbocncpaaRtC2
import Derived.Test.YtfcojlnbocncpaaRtD1
import Derived.Test.YtfcojlnbocncpaaRtD2
import Derived.Test.YtfcojlnbocncpaaRtD3
import Derived.Test.YtfcojlnbocncpaaRtD4
set_option linter.unusedSimpArgs false
set_option linter.unusedVariables false
namespace Go.Proofs.Ytfcojlnbocncpaa
open Go.RowKit

/-- SAMPLE of the document, of an estimate that has a sample -/
theorem rsample_d (l s v t n d : Int) (w : World) (hr : rightB ⟨true, l, s, v, t⟩ = true) (hn : tickB n = true) (hd : tickB d = true) :
    Calls Try.prog 11 #[.agg #[.bool true, .int .i64 l, .int .i64 s, .int .i64 v, .int .i64 t], .int .i64 n, .int .i64 d] w fun e w' => e = .returned (.tuple #[.agg #[.bool true, .int .i64 (lowI l n), .int .i64 ((7 * s + adjI n d (lowI l n)).tdiv 8), .int .i64 ((3 * v + apartI s (adjI n d (lowI l n))).tdiv 4), .int .i64 n], .int .i64 0]) ∧ Below w.heap.size w w' := by
  have ap : ∀ a : Int, ¬ s - a < 0 → apartI s a = s - a := fun a h => by rw [apartI, if_neg (by omega)]
  have an : ∀ a : Int, s - a < 0 → apartI s a = -(s - a) := fun a h => by rw [apartI, if_pos (by omega)]; omega
  by_cases hA : n < l
  · rw [show lowI l n = n from if_pos hA]
    by_cases hB : 25 < d
    · by_cases hC : n - 25 < n
      · rw [show adjI n d n = n by rw [adjI, cutI, if_pos hB, if_pos hC]]
        by_cases hD : s - n < 0
        · rw [an _ hD]; exact rsample_d15 l s v t n d _ _ _ w hr hn hd hA hB rfl hC hD rfl rfl
        · rw [ap _ hD]; exact rsample_d7 l s v t n d _ _ _ w hr hn hd hA hB rfl hC hD rfl rfl
      · rw [show adjI n d n = n - 25 by rw [adjI, cutI, if_pos hB, if_neg hC]]
        by_cases hD : s - (n - 25) < 0
        · rw [an _ hD]; exact rsample_d11 l s v t n d _ _ _ w hr hn hd hA hB rfl hC hD rfl rfl
        · rw [ap _ hD]; exact rsample_d3 l s v t n d _ _ _ w hr hn hd hA hB rfl hC hD rfl rfl
    · by_cases hC : n - d < n
      · rw [show adjI n d n = n by rw [adjI, cutI, if_neg hB, if_pos hC]]
        by_cases hD : s - n < 0
        · rw [an _ hD]; exact rsample_d13 l s v t n d _ _ _ w hr hn hd hA hB rfl hC hD rfl rfl
        · rw [ap _ hD]; exact rsample_d5 l s v t n d _ _ _ w hr hn hd hA hB rfl hC hD rfl rfl
      · rw [show adjI n d n = n - d by rw [adjI, cutI, if_neg hB, if_neg hC]]
        by_cases hD : s - (n - d) < 0
        · rw [an _ hD]; exact rsample_d9 l s v t n d _ _ _ w hr hn hd hA hB rfl hC hD rfl rfl
        · rw [ap _ hD]; exact rsample_d1 l s v t n d _ _ _ w hr hn hd hA hB rfl hC hD rfl rfl
  · rw [show lowI l n = l from if_neg hA]
    by_cases hB : 25 < d
    · by_cases hC : n - 25 < l
      · rw [show adjI n d l = n by rw [adjI, cutI, if_pos hB, if_pos hC]]
        by_cases hD : s - n < 0
        · rw [an _ hD]; exact rsample_d14 l s v t n d _ _ _ w hr hn hd hA hB rfl hC hD rfl rfl
        · rw [ap _ hD]; exact rsample_d6 l s v t n d _ _ _ w hr hn hd hA hB rfl hC hD rfl rfl
      · rw [show adjI n d l = n - 25 by rw [adjI, cutI, if_pos hB, if_neg hC]]
        by_cases hD : s - (n - 25) < 0
        · rw [an _ hD]; exact rsample_d10 l s v t n d _ _ _ w hr hn hd hA hB rfl hC hD rfl rfl
        · rw [ap _ hD]; exact rsample_d2 l s v t n d _ _ _ w hr hn hd hA hB rfl hC hD rfl rfl
    · by_cases hC : n - d < l
      · rw [show adjI n d l = n by rw [adjI, cutI, if_neg hB, if_pos hC]]
        by_cases hD : s - n < 0
        · rw [an _ hD]; exact rsample_d12 l s v t n d _ _ _ w hr hn hd hA hB rfl hC hD rfl rfl
        · rw [ap _ hD]; exact rsample_d4 l s v t n d _ _ _ w hr hn hd hA hB rfl hC hD rfl rfl
      · rw [show adjI n d l = n - d by rw [adjI, cutI, if_neg hB, if_neg hC]]
        by_cases hD : s - (n - d) < 0
        · rw [an _ hD]; exact rsample_d8 l s v t n d _ _ _ w hr hn hd hA hB rfl hC hD rfl rfl
        · rw [ap _ hD]; exact rsample_d0 l s v t n d _ _ _ w hr hn hd hA hB rfl hC hD rfl rfl

/-- SAMPLE of the document -/
theorem rsample_any (h : Bool) (l s v t n d : Int) (w : World) :
    Calls Try.prog 11 #[.agg #[.bool h, .int .i64 l, .int .i64 s, .int .i64 v, .int .i64 t], .int .i64 n, .int .i64 d] w fun e w' => e = .returned (.tuple #[.agg #[.bool (sampleE ⟨h, l, s, v, t⟩ n d).1.h, .int .i64 (sampleE ⟨h, l, s, v, t⟩ n d).1.l, .int .i64 (sampleE ⟨h, l, s, v, t⟩ n d).1.s, .int .i64 (sampleE ⟨h, l, s, v, t⟩ n d).1.v, .int .i64 (sampleE ⟨h, l, s, v, t⟩ n d).1.t], .int .i64 (sampleE ⟨h, l, s, v, t⟩ n d).2]) ∧ Below w.heap.size w w' := by
  cases hr : rightB ⟨h, l, s, v, t⟩
  · rw [sampleE_a hr]; exact rsample_a h l s v t n d w hr
  cases h1 : tickB n
  · rw [sampleE_b hr (by rw [h1]; rfl)]; exact rsample_b1 h l s v t n d w hr h1
  cases h2 : tickB d
  · rw [sampleE_b hr (by rw [h1, h2]; rfl)]; exact rsample_b2 h l s v t n d w hr h1 h2
  cases h
  · rw [sampleE_c hr (by rw [h1, h2]; rfl)]; exact rsample_c l s v t n d w hr h1 h2
  · rw [sampleE_d hr (by rw [h1, h2]; rfl)]; exact rsample_d l s v t n d w hr h1 h2
end Go.Proofs.Ytfcojlnbocncpaa
