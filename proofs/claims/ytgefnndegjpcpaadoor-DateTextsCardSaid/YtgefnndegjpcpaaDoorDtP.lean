/- Walks of layer 16: digits, by the document. -/
import Derived.Test.YtgefnndegjpcpaaDoorDtC
set_option maxRecDepth 100000
set_option linter.unusedSimpArgs false
set_option linter.unusedVariables false
namespace Go.Proofs.YtgefnndegjpcpaaDoor
open Go.RowKit

/-- what is left of a number behind k digits, and the last k digits -/
def qs (n : Int) : Nat → Int
  | 0 => n
  | k + 1 => qs n k / 10
def dgs (n : Int) : Nat → List UInt8
  | 0 => []
  | k + 1 => dgI (qs n k) :: dgs n k
theorem qs_bound {n : Int} (h0 : 0 ≤ n) (h1 : n < 10000) (k : Nat) : 0 ≤ qs n k ∧ qs n k < 10000 := by
  induction k with
  | zero => exact ⟨h0, h1⟩
  | succ k ih => simp only [qs]; omega
theorem dgs_len (n : Int) (k : Nat) : (dgs n k).length = k := by
  induction k with
  | zero => rfl
  | succ k ih => simp only [dgs, List.length_cons, ih]
theorem dgs_two (n : Int) : dgs n 2 = two n := rfl
theorem dgs_four (n : Int) : dgs n 4 = four n := by
  show [dgI (n / 10 / 10 / 10), dgI (n / 10 / 10), dgI (n / 10), dgI n] = _
  rw [four, show n / 10 / 10 / 10 = n / 1000 by omega, show n / 10 / 10 = n / 100 by omega]
theorem str_dg (q : Int) : strOfNums [48 + q % 10] = txt [dgI q] := by
  show (⟨_⟩ : ByteArray) = ⟨_⟩
  congr 1
  simp [dgI, show (48 + q % 10).toNat = 48 + (q % 10).toNat by omega]

set_option maxHeartbeats 1600000 in
theorem rdigits_any (n : Int) (c : Nat) (w : World) (h0 : 0 ≤ n) (h1 : n < 10000) (hc : c ≤ 4) :
    Calls Tryd.prog 34 #[.int .i64 n, .int .i64 (c : Int)] w fun e w' => e = .returned (.string (txt (dgs n c))) ∧ Below w.heap.size w w' := by
  have BB := Lib.hid (Below.refl w.heap.size w)
  go_enter Tryd.func34, Tryd.ntmps34
  go_wp2_with fail
  go_loopw [0, 5, 6] (fun a b d wx => ∃ k : Nat, k ≤ c ∧ a = .int .i64 (qs n k) ∧ b = .string (txt (dgs n k)) ∧ d = .int .i64 (k : Int) ∧ Below w.heap.size w wx) (fun _ _ d _ => 5 - (intOf d).toNat)
  case atStart => exact ⟨0, by omega, rfl, rfl, rfl, BB.out⟩
  case round =>
    obtain ⟨k, hk, rfl, rfl, rfl, hb⟩ := hrel
    have BB := Lib.hid hb
    clear hb
    by_cases hlt : k < c
    · have hx : (k : Int) < (c : Int) := by omega
      have hq := qs_bound h0 h1 k
      have HQ : Hid (qs n (k + 1) = qs n k / 10) := rfl
      have HD : Hid (dgs n (k + 1) = dgI (qs n k) :: dgs n k) := rfl
      have sl := dgs_len n k
      have m1 := wrem (qs n k) 10 hq.1 (by omega) (by decide)
      have w1 := wraps_i64' (48 + qs n k % 10) (by omega) (by omega)
      have w2 : IntKind.u8.wrap (48 + qs n k % 10) = 48 + qs n k % 10 := by simp only [IntKind.wrap_u8]; omega
      have w3 := wquo (qs n k) 10 hq.1 (by omega) (by decide)
      have w4 := wraps_i64' ((k : Int) + 1) (by omega) (by omega)
      have hcv := fun (W : World) => (Rd.one .u8 5 W (48 + qs n k % 10)).conv (P := Tryd.prog) Tryd.underlying61 Tryd.underlying5 Tryd.underlying9
      rw [str_dg] at hcv
      have hz : ¬ ((txt [dgI (qs n k)]).size + (txt (dgs n k)).size > 9223372036854775807) := by rw [txt_size, txt_size, sl]; simp; omega
      have HT : Hid (txt [dgI (qs n k)] ++ txt (dgs n k) = txt (dgs n (k + 1))) := by show _ = _; rw [HD.out, txt_app]; rfl
      clear sl hq HD
      generalize txt (dgs n k) = s0 at hz HT ⊢
      generalize txt [dgI (qs n k)] = s1 at hz HT hcv
      generalize qs n k = q at HQ m1 w1 w2 w3 hcv ⊢
      go_wp2
      go_round
      case rel => exact ⟨k + 1, by omega, by rw [HQ.out], by rw [← HT.out], by go_num, BB.out.alloc BB.out.size _⟩
      case measure => simp [intOf, w4]; omega
    · have e : k = c := by omega
      subst e
      go_wp2
      go_ret
      exact ⟨rfl, BB.out⟩
theorem rdigits_two (n : Int) (w : World) (h0 : 0 ≤ n) (h1 : n < 100) :
    Calls Tryd.prog 34 #[.int .i64 n, .int .i64 2] w fun e w' => e = .returned (.string (txt (two n))) ∧ Below w.heap.size w w' := by
  rw [← dgs_two]
  exact rdigits_any n 2 w h0 (by omega) (by omega)
theorem rdigits_four (n : Int) (w : World) (h0 : 0 ≤ n) (h1 : n < 10000) :
    Calls Tryd.prog 34 #[.int .i64 n, .int .i64 4] w fun e w' => e = .returned (.string (txt (four n))) ∧ Below w.heap.size w w' := by
  rw [← dgs_four]
  exact rdigits_any n 4 w h0 h1 (by omega)
end Go.Proofs.YtgefnndegjpcpaaDoor
