/- Layer 16: the laws Told and Order. -/
import Derived.Test.YtgefnndegjpcpaaDoorDtV
set_option maxRecDepth 100000
set_option linter.unusedSimpArgs false
set_option linter.unusedVariables false
namespace Go.Proofs.YtgefnndegjpcpaaDoor
open Go.RowKit

theorem format_in {n : Int} (h : inB n = true) : ∃ a : List UInt8, a.length = 29 ∧ parseE a = (n, 0) ∧ ∀ W, Tb W → Calls Tryd.prog 18 #[.int .i64 n] W fun e w' => e = .returned (.tuple #[.string (txt a), .int .i64 0]) ∧ Below W.heap.size W w' := by
  obtain ⟨t, hr, hn⟩ := date_ex h
  exact ⟨fmtL t, fmt_len hr, by rw [parse_fmt hr, hn], fun W hW => format_at W hW hr hn⟩
theorem parse_ways (l : List UInt8) (hl : l.length ≤ 9223372036854775807) :
    (∃ k : Int, (∀ W, Tb W → Calls Tryd.prog 20 #[.string (txt l)] W fun e w' => e = .returned (.tuple #[.int .i64 k, .int .i64 0]) ∧ Below W.heap.size W w') ∧
      ∀ W, Tb W → Calls Tryd.prog 18 #[.int .i64 k] W fun e w' => e = .returned (.tuple #[.string (txt l), .int .i64 0]) ∧ Below W.heap.size W w') ∨
    (∀ W, Tb W → Calls Tryd.prog 20 #[.string (txt l)] W fun e w' => e = .returned (.tuple #[.int .i64 0, .int .i64 15]) ∧ Below W.heap.size W w') := by
  rcases parse_two valL l with ⟨k, h⟩ | h
  · obtain ⟨t, hr, hn, hf⟩ := parse_ok h
    refine .inl ⟨k, fun W hW => ?_, fun W hW => ?_⟩
    · have := parse_any l W hl hW
      rwa [show parseE l = (k, 0) from h] at this
    · have := format_at W hW hr hn
      rwa [hf] at this
  · refine .inr fun W hW => ?_
    have := parse_any l W hl hW
    rwa [show parseE l = (0, 15) from h] at this

set_option maxHeartbeats 4000000 in
theorem told_tail (n : Int) (s : List UInt8) (w : World) (hs : s.length ≤ 9223372036854775807) (ht : Tb w) :
    Calls Tryd.prog 7 #[.int .i64 n, .string (txt s)] w (Yes w) := by
  have BB := Lib.hid (Below.refl w.heap.size w)
  have TT := Lib.hid ht
  have AL := Lib.hid (fun W hW => alive_any W hW)
  have hS := parse_ways s hs
  clear hs ht
  cases hin : inB n
  · have FN := Lib.hid (fun W => format_no n W hin)
    clear hin
    rcases hS with ⟨k, hp, hf⟩ | hp
    · have PP := Lib.hid hp
      have FF := Lib.hid hf
      clear hp hf
      generalize txt s = s0 at PP FF ⊢
      have hb : (s0.toList == s0.toList) = true := by simp
      go_enter Tryd.func7, Tryd.ntmps7
      go_upto_region 6 with (go_at_call 18; refine (FN.out _).mono ?_; rintro x w2 ⟨rfl, hb⟩; have BB := Lib.hid (BB.out.trans (hb.mono BB.out.size)); have TT := Lib.hid (TT.out.below hb); clear hb)
      go_wp2_with (first
        | (go_at_call 20; refine (PP.out _ TT.out).mono ?_; rintro x w3 ⟨rfl, hb⟩; have BB := Lib.hid (BB.out.trans (hb.mono BB.out.size)); have TT := Lib.hid (TT.out.below hb); clear hb)
        | (go_at_call 18; refine (FF.out _ TT.out).mono ?_; rintro x w4 ⟨rfl, hb⟩; have BB := Lib.hid (BB.out.trans (hb.mono BB.out.size)); have TT := Lib.hid (TT.out.below hb); clear hb)
        | (go_at_call 17; refine (AL.out _ TT.out).mono ?_; rintro x w5 ⟨rfl, hb⟩; have BB := Lib.hid (BB.out.trans (hb.mono BB.out.size)); clear hb))
      go_ret
      exact ⟨rfl, BB.out⟩
    · have PP := Lib.hid hp
      clear hp
      generalize txt s = s0 at PP ⊢
      go_enter Tryd.func7, Tryd.ntmps7
      go_wp2_with (first
        | (go_at_call 18; refine (FN.out _).mono ?_; rintro x w2 ⟨rfl, hb⟩; have BB := Lib.hid (BB.out.trans (hb.mono BB.out.size)); have TT := Lib.hid (TT.out.below hb); clear hb)
        | (go_at_call 20; refine (PP.out _ TT.out).mono ?_; rintro x w3 ⟨rfl, hb⟩; have BB := Lib.hid (BB.out.trans (hb.mono BB.out.size)); have TT := Lib.hid (TT.out.below hb); clear hb)
        | (go_at_call 17; refine (AL.out _ TT.out).mono ?_; rintro x w5 ⟨rfl, hb⟩; have BB := Lib.hid (BB.out.trans (hb.mono BB.out.size)); clear hb))
      go_ret
      exact ⟨rfl, BB.out⟩
  · obtain ⟨a, ha, hpa, hfa⟩ := format_in hin
    have sz := txt_size a
    rw [ha] at sz
    have FA := Lib.hid hfa
    have PA := Lib.hid (fun W (hW : Tb W) => parse_any a W (by omega) hW)
    rw [hpa] at PA
    clear hfa hpa hin
    generalize txt a = a0 at FA PA sz
    rcases hS with ⟨k, hp, hf⟩ | hp
    · have PP := Lib.hid hp
      have FF := Lib.hid hf
      clear hp hf
      generalize txt s = s0 at PP FF ⊢
      have hb : (s0.toList == s0.toList) = true := by simp
      go_enter Tryd.func7, Tryd.ntmps7
      go_upto_region 6 with (first
        | (go_at_call 18; refine (FA.out _ TT.out).mono ?_; rintro x w2 ⟨rfl, hb⟩; have BB := Lib.hid (BB.out.trans (hb.mono BB.out.size)); have TT := Lib.hid (TT.out.below hb); clear hb)
        | (go_at_call 20; refine (PA.out _ TT.out).mono ?_; rintro x w3 ⟨rfl, hb⟩; have BB := Lib.hid (BB.out.trans (hb.mono BB.out.size)); have TT := Lib.hid (TT.out.below hb); clear hb))
      go_wp2_with (first
        | (go_at_call 20; refine (PP.out _ TT.out).mono ?_; rintro x w3 ⟨rfl, hb⟩; have BB := Lib.hid (BB.out.trans (hb.mono BB.out.size)); have TT := Lib.hid (TT.out.below hb); clear hb)
        | (go_at_call 18; refine (FF.out _ TT.out).mono ?_; rintro x w4 ⟨rfl, hb⟩; have BB := Lib.hid (BB.out.trans (hb.mono BB.out.size)); have TT := Lib.hid (TT.out.below hb); clear hb)
        | (go_at_call 17; refine (AL.out _ TT.out).mono ?_; rintro x w5 ⟨rfl, hb⟩; have BB := Lib.hid (BB.out.trans (hb.mono BB.out.size)); clear hb))
      go_ret
      exact ⟨rfl, BB.out⟩
    · have PP := Lib.hid hp
      clear hp
      generalize txt s = s0 at PP ⊢
      go_enter Tryd.func7, Tryd.ntmps7
      go_upto_region 6 with (first
        | (go_at_call 18; refine (FA.out _ TT.out).mono ?_; rintro x w2 ⟨rfl, hb⟩; have BB := Lib.hid (BB.out.trans (hb.mono BB.out.size)); have TT := Lib.hid (TT.out.below hb); clear hb)
        | (go_at_call 20; refine (PA.out _ TT.out).mono ?_; rintro x w3 ⟨rfl, hb⟩; have BB := Lib.hid (BB.out.trans (hb.mono BB.out.size)); have TT := Lib.hid (TT.out.below hb); clear hb))
      go_wp2_with (first
        | (go_at_call 20; refine (PP.out _ TT.out).mono ?_; rintro x w3 ⟨rfl, hb⟩; have BB := Lib.hid (BB.out.trans (hb.mono BB.out.size)); have TT := Lib.hid (TT.out.below hb); clear hb)
        | (go_at_call 17; refine (AL.out _ TT.out).mono ?_; rintro x w5 ⟨rfl, hb⟩; have BB := Lib.hid (BB.out.trans (hb.mono BB.out.size)); clear hb))
      go_ret
      exact ⟨rfl, BB.out⟩
end Go.Proofs.YtgefnndegjpcpaaDoor
