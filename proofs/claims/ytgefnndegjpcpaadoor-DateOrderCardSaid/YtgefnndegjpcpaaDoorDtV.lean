/- Walks of layer 16: the laws' helpers. -/
import Derived.Test.YtgefnndegjpcpaaDoorDtL
set_option maxRecDepth 100000
set_option linter.unusedSimpArgs false
set_option linter.unusedVariables false
namespace Go.Proofs.YtgefnndegjpcpaaDoor
open Go.RowKit

set_option maxHeartbeats 1600000 in
theorem theirs_any (y m d h i s : Int) (w : World) :
    Calls Tryd.prog 10 #[.agg #[.int .i64 y, .int .i64 m, .int .i64 d, .int .i64 h, .int .i64 i, .int .i64 s]] w fun e w' => e = .returned (.agg #[.int .i64 y, .int .i64 m, .int .i64 d, .int .i64 h, .int .i64 i, .int .i64 s]) ∧ Below w.heap.size w w' := by
  have e1 : (w.alloc (.cells #[.int .i64 y, .int .i64 m, .int .i64 d, .int .i64 h, .int .i64 i, .int .i64 s] 23)).heap.size = w.heap.size + 1 := by show (w.heap.push _).size = _; simp
  have BB := Lib.hid (((Below.refl w.heap.size w).alloc (Nat.le_refl _) (.cells #[.int .i64 y, .int .i64 m, .int .i64 d, .int .i64 h, .int .i64 i, .int .i64 s] 23)).alloc (by rw [e1]; omega) (.cells #[.int .i64 y, .int .i64 m, .int .i64 d, .int .i64 h, .int .i64 i, .int .i64 s] 27))
  go_enter Tryd.func10, Tryd.ntmps10
  go_wp2
  exact bodyPost_ret (v := .agg #[.int .i64 y, .int .i64 m, .int .i64 d, .int .i64 h, .int .i64 i, .int .i64 s]) (by simp [results, Tryd.results10, go_sem]) rfl ⟨rfl, BB.out⟩
set_option maxHeartbeats 1600000 in
theorem ours_any (y m d h i s : Int) (w : World) :
    Calls Tryd.prog 14 #[.agg #[.int .i64 y, .int .i64 m, .int .i64 d, .int .i64 h, .int .i64 i, .int .i64 s]] w fun e w' => e = .returned (.agg #[.int .i64 y, .int .i64 m, .int .i64 d, .int .i64 h, .int .i64 i, .int .i64 s]) ∧ Below w.heap.size w w' := by
  have e1 : (w.alloc (.cells #[.int .i64 y, .int .i64 m, .int .i64 d, .int .i64 h, .int .i64 i, .int .i64 s] 27)).heap.size = w.heap.size + 1 := by show (w.heap.push _).size = _; simp
  have BB := Lib.hid (((Below.refl w.heap.size w).alloc (Nat.le_refl _) (.cells #[.int .i64 y, .int .i64 m, .int .i64 d, .int .i64 h, .int .i64 i, .int .i64 s] 27)).alloc (by rw [e1]; omega) (.cells #[.int .i64 y, .int .i64 m, .int .i64 d, .int .i64 h, .int .i64 i, .int .i64 s] 23))
  go_enter Tryd.func14, Tryd.ntmps14
  go_wp2
  exact bodyPost_ret (v := .agg #[.int .i64 y, .int .i64 m, .int .i64 d, .int .i64 h, .int .i64 i, .int .i64 s]) (by simp [results, Tryd.results14, go_sem]) rfl ⟨rfl, BB.out⟩

/-- two dates compared -/
theorem eql_date (y m d h i s y' m' d' h' i' s' : Int) (w : World) :
    (Op.equalIn 10000 23 (.agg #[.int .i64 y, .int .i64 m, .int .i64 d, .int .i64 h, .int .i64 i, .int .i64 s]) (.agg #[.int .i64 y', .int .i64 m', .int .i64 d', .int .i64 h', .int .i64 i', .int .i64 s'])).run Tryd.prog w = .ok (decide ((⟨y, m, d, h, i, s⟩ : Dt) = ⟨y', m', d', h', i', s'⟩)) w := by
  have u3 := Tryd.underlying3
  have a3 := Tryd.isAgg3
  have z3 := Tryd.sizeOf3
  have hS : Tryd.prog.underlying 23 = some (.struct (Tryd.prog.fieldsOf 23)) := by kernel_rfl
  have hp : Tryd.prog.stoodInHeld 23 = false := by kernel_rfl
  rw [show (10000 : Nat) = 9999 + 1 from rfl, run_equalIn_agg w 9999 23 _ _ hS hp]
  simp only [Program.fieldsOf, Tryd.underlying23]
  go_simp
  by_cases h1 : y = y' <;> by_cases h2 : m = m' <;> by_cases h3 : d = d' <;> by_cases h4 : h = h' <;> by_cases h5 : i = i' <;> by_cases h6 : s = s' <;> simp [h1, h2, h3, h4, h5, h6]
theorem guard_date : Tryd.prog.eqGuardType Tryd.prog.depth 23 = false := by kernel_rfl

def aD : Dt := ⟨1994, 11, 6, 8, 49, 37⟩
theorem aD_right : rightB aD = true := by decide
theorem aD_num : numI aD = 784111777 := by decide
theorem aD_txt : txt (fmtL aD) = ⟨#[83, 117, 110, 44, 32, 48, 54, 32, 78, 111, 118, 32, 49, 57, 57, 52, 32, 48, 56, 58, 52, 57, 58, 51, 55, 32, 71, 77, 84]⟩ := by decide +kernel

set_option maxHeartbeats 1600000 in
/-- a number has its text -/
theorem alive_any (w : World) (ht : Tb w) : Calls Tryd.prog 17 #[] w (Yes w) := by
  have BB := Lib.hid (Below.refl w.heap.size w)
  have TT := Lib.hid ht
  have F := Lib.hid (fun W (hW : Tb W) => format_at (n := 784111777) W hW aD_right aD_num)
  have Pz := Lib.hid (fun W (hW : Tb W) => parse_any (fmtL aD) W (by rw [fmt_len aD_right]; omega) hW)
  rw [parse_fmt aD_right, aD_num, aD_txt] at Pz
  rw [aD_txt] at F
  clear ht
  go_enter Tryd.func17, Tryd.ntmps17
  go_wp2_with (first
    | (go_at_call 18; refine (F.out _ TT.out).mono ?_; rintro x w2 ⟨rfl, hb⟩; have BB := Lib.hid (BB.out.trans (hb.mono BB.out.size)); have TT := Lib.hid (TT.out.below hb); clear hb)
    | (go_at_call 20; refine (Pz.out _ TT.out).mono ?_; rintro x w3 ⟨rfl, hb⟩; have BB := Lib.hid (BB.out.trans (hb.mono BB.out.size)); have TT := Lib.hid (TT.out.below hb); clear hb))
  go_ret
  exact ⟨rfl, BB.out⟩
end Go.Proofs.YtgefnndegjpcpaaDoor
