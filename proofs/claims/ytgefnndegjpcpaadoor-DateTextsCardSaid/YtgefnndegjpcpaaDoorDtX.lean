/- Layer 16: the law Texts. -/
import Derived.Test.YtgefnndegjpcpaaDoorDtW
import Derived.Test.YtgefnndegjpcpaaDoorDtS
set_option maxRecDepth 100000
set_option linter.unusedSimpArgs false
set_option linter.unusedVariables false
namespace Go.Proofs.YtgefnndegjpcpaaDoor
open Go.RowKit

theorem formats_both (n : Int) : ∃ (a : ByteArray) (e : Int), (∀ W, Tb W → Calls Tryd.prog 18 #[.int .i64 n] W fun x w' => x = .returned (.tuple #[.string a, .int .i64 e]) ∧ Below W.heap.size W w') ∧
    ∀ W, Calls Tryd.prog 19 #[.int .i64 n] W fun x w' => x = .returned (.tuple #[.string a, .int .i64 e]) ∧ Below W.heap.size W w' := by
  cases h : inB n
  · exact ⟨_, _, fun W _ => format_no n W h, fun W => rformat_no n W h⟩
  · obtain ⟨t, hr, hn⟩ := date_ex h
    exact ⟨_, _, fun W hW => format_at W hW hr hn, fun W => rformat_at W hr hn⟩

set_option maxHeartbeats 4000000 in
theorem texts_walk (n : Int) (s : List UInt8) (w : World) (hs : s.length ≤ 9223372036854775807) (ht : Tb w) :
    Calls Tryd.prog 4 #[.int .i64 n, .string (txt s)] w (Yes w) := by
  have BB := Lib.hid (Below.refl w.heap.size w)
  have TT := Lib.hid ht
  have AL := Lib.hid (fun W hW => alive_any W hW)
  obtain ⟨a, e, f1, f2⟩ := formats_both n
  have F1 := Lib.hid f1
  have F2 := Lib.hid f2
  have P1 := Lib.hid (fun W hW => parse_any s W hs hW)
  have P2 := Lib.hid (fun W => rparse_any s W hs)
  generalize (parseE s).1 = p1 at P1 P2
  generalize (parseE s).2 = p2 at P1 P2
  have hb : (a.toList == a.toList) = true := by simp
  have hb1 : (e == e) = true := by simp
  have hb2 : (p1 == p1) = true := by simp
  have hb3 : (p2 == p2) = true := by simp
  clear f1 f2 hs ht
  generalize txt s = s0 at P1 P2 ⊢
  go_enter Tryd.func4, Tryd.ntmps4
  go_wp2_with (first
      | (go_at_call 18; refine (F1.out _ TT.out).mono ?_; rintro x w2 ⟨rfl, hb⟩; have BB := Lib.hid (BB.out.trans (hb.mono BB.out.size)); have TT := Lib.hid (TT.out.below hb); clear hb)
      | (go_at_call 19; refine (F2.out _).mono ?_; rintro x w3 ⟨rfl, hb⟩; have BB := Lib.hid (BB.out.trans (hb.mono BB.out.size)); have TT := Lib.hid (TT.out.below hb); clear hb)
      | (go_at_call 20; refine (P1.out _ TT.out).mono ?_; rintro x w4 ⟨rfl, hb⟩; have BB := Lib.hid (BB.out.trans (hb.mono BB.out.size)); have TT := Lib.hid (TT.out.below hb); clear hb)
      | (go_at_call 21; refine (P2.out _).mono ?_; rintro x w5 ⟨rfl, hb⟩; have BB := Lib.hid (BB.out.trans (hb.mono BB.out.size)); have TT := Lib.hid (TT.out.below hb); clear hb)
      | (go_at_call 17; refine (AL.out _ TT.out).mono ?_; rintro x w9 ⟨rfl, hb⟩; have BB := Lib.hid (BB.out.trans (hb.mono BB.out.size)); clear hb))
  go_ret
  exact ⟨rfl, BB.out⟩
end Go.Proofs.YtgefnndegjpcpaaDoor
