/- Walks of layer 9: alike, mark, Ready, Held, allCame, New. -/
import Derived.Test.YtgckidgkimgpeaaRmA
import Derived.Deep.OwnRows
set_option linter.unusedSimpArgs false
set_option linter.unusedVariables false
namespace Go.Proofs.Ytgckidgkimgpeaa
open Go.RowKit

theorem neqBool (w : World) (a b : Bool) : (binOp .neq 4 (.bool a) (.bool b)).run Try.prog w = .ok (.bool (a != b)) w := by
  cases a <;> cases b <;> kernel_rfl

set_option maxRecDepth 100000 in
set_option maxHeartbeats 1600000 in
theorem alike_any (v : Value) (cs : List Bool) (so : Bool) (w : World) (hr : RdB w v cs) (hm : cs.length ≤ 4096) :
    Calls Try.prog 28 #[v, .bool so] w fun e w' => e = .returned (.int .i64 (lead so cs)) ∧ w' = w := by
  rcases hr with ⟨rfl, a, c, rfl⟩ | ⟨h0, b, o, c, rfl, hc, hcell⟩
  · go_enter Try.func28, Try.ntmps28
    go_wp2_with fail
    refine wp_loop_rounds 1 ?_
    rw [rounds_succ]
    go_wp2
    go_ret
    exact ⟨rfl, rfl⟩
  · have HC := Lib.hid hcell
    clear hcell
    go_enter Try.func28, Try.ntmps28
    go_wp2_with fail
    go_loopw [9] (fun i wr => ∃ k : Nat, i = .int .i64 k ∧ k ≤ cs.length ∧ (∀ j, j < k → cs.getD j false = so) ∧ wr = w) (fun i _ => cs.length - (intOf i).toNat)
    case atStart => exact ⟨0, rfl, Nat.zero_le _, fun j hj => by omega, rfl⟩
    case round =>
      obtain ⟨k, rfl, hk, hall, rfl⟩ := hrel
      have HA := Lib.hid hall
      clear hall
      by_cases hlt : k < cs.length
      · have q0 := HC.out k hlt
        have hi1 : (k : Int) < (cs.length : Int) := by omega
        have hi2 : (0 : Int) ≤ (k : Int) := by omega
        have hw1 : IntKind.i64.wrap ((k : Int) + 1) = (k : Int) + 1 := wraps_i64' _ (by omega) (by omega)
        obtain ⟨x, hx⟩ : ∃ x, x = cs.getD k false := ⟨_, rfl⟩
        rw [← hx] at q0
        have HX := Lib.hid hx
        clear hx
        have hq := neqBool
        by_cases hs : x = so
        · subst hs
          have hb : (x != x) = false := by cases x <;> rfl
          go_wp2
          exact ⟨⟨k + 1, by go_num, hlt, fun j hj => by
            rcases Nat.lt_or_ge j k with h | h
            · exact HA.out j h
            · obtain rfl : j = k := by omega
              exact HX.out.symm, trivial⟩, by simp [intOf, hw1]; omega⟩
        · have hb : (x != so) = true := by simpa using hs
          have HS := Lib.hid hs
          clear hs
          go_wp2
          go_ret
          have : lead so cs = k := lead_is so cs k hk HA.out (fun _ h => HS.out (HX.out.trans h))
          rw [this]
          exact ⟨rfl, rfl⟩
      · obtain rfl : k = cs.length := by omega
        have hi1 : ¬ ((cs.length : Int) < (cs.length : Int)) := by omega
        have : lead so cs = cs.length := lead_is so cs cs.length (Nat.le_refl _) HA.out (fun h => by omega)
        have HL := Lib.hid this
        clear this hlt hk
        go_wp2
        go_ret
        rw [HL.out]
        exact ⟨rfl, rfl⟩
theorem ready_cs {w : World} {m n : Nat} {cs : List Bool} (h : Cs w m (cs.map Value.bool)) (hn : n = cs.length) : RdB w (.slice (some ⟨m, 0, none⟩) n n) cs := by
  have := RdB.of_cs h 0 (some ⟨m, 0, none⟩) n n (by simpa using hn) (Nat.le_refl _) (fun _ => rfl)
  simpa using this
set_option maxRecDepth 100000 in
theorem ready_any {b r m : Nat} {q : St} (w : World) (hq : Ok q) (h : Str b r m q w) : Calls Try.prog 17 #[.pointer (some ⟨b, 0, none⟩)] w fun e w' => e = .returned (.int .i64 (readyN q)) ∧ w' = w := by
  have HM := Lib.hid (made_any w h)
  have HA := Lib.hid (alike_any (.slice (some ⟨m, 0, none⟩) q.row.length q.row.length) q.came true w (ready_cs h.came hq.len.symm) (by rw [hq.len]; exact hq.few))
  have e : readyN q = lead true q.came := rfl
  rw [e]
  obtain ⟨row, came, p, top, e, br⟩ := q
  obtain ⟨_, c1, _⟩ := h.fields.facts
  simp only at c1 HA ⊢
  clear h hq e
  go_enter Try.func17, Try.ntmps17
  go_wp2_with (first
    | (go_at_call 22; refine HM.out.mono ?_; rintro e w2 ⟨rfl, h⟩; obtain rfl : w = w2 := h.symm)
    | (go_at_call 28; refine HA.out.mono ?_; rintro e w2 ⟨rfl, h⟩; obtain rfl : w = w2 := h.symm))
  go_ret
  exact ⟨rfl, rfl⟩
set_option maxRecDepth 100000 in
set_option maxHeartbeats 1600000 in
theorem held_any {b r m : Nat} {q : St} (w : World) (hq : Ok q) (h : Str b r m q w) : Calls Try.prog 16 #[.pointer (some ⟨b, 0, none⟩)] w fun e w' => e = .returned (.int .i64 (heldN q.came)) ∧ w' = w := by
  have HM := Lib.hid (made_any w h)
  have hl := hq.len
  have hf := hq.few
  have HC := Lib.hid (fun i (hi : i < q.came.length) => h.came.get i (.bool (q.came.getD i false)) (by rw [getD_lt hi]; simp [hi]))
  obtain ⟨row, came, p, top, e, br⟩ := q
  obtain ⟨_, c1, _⟩ := h.fields.facts
  simp only at c1 HC hl hf ⊢
  rw [← hl] at c1
  have hf' : came.length ≤ 4096 := by omega
  clear h hq hl hf
  go_enter Try.func16, Try.ntmps16
  go_wp2_with (go_at_call 22; refine HM.out.mono ?_; rintro e w2 ⟨rfl, h⟩; obtain rfl : w = w2 := h.symm)
  go_loopw [3, 14] (fun n i wr => ∃ k : Nat, n = .int .i64 (heldN (came.take k)) ∧ i = .int .i64 k ∧ k ≤ came.length ∧ wr = w) (fun _ i _ => came.length - (intOf i).toNat)
  case atStart => exact ⟨0, by simp [heldN], rfl, Nat.zero_le _, rfl⟩
  case round =>
    obtain ⟨k, rfl, rfl, hk, rfl⟩ := hrel
    by_cases hlt : k < came.length
    · have q0 := HC.out k hlt
      have HT := Lib.hid (held_take came k hlt)
      have hz : heldN (came.take k) ≤ 4096 := by have := held_le (came.take k); rw [List.length_take] at this; omega
      have hi1 : (k : Int) < (came.length : Int) := by omega
      have hi2 : (0 : Int) ≤ (k : Int) := by omega
      have hw1 : IntKind.i64.wrap ((k : Int) + 1) = (k : Int) + 1 := wraps_i64' _ (by omega) (by omega)
      obtain ⟨z, hzz⟩ : ∃ z, z = heldN (came.take k) := ⟨_, rfl⟩
      rw [← hzz] at hz HT ⊢
      clear hzz
      have hw2 : IntKind.i64.wrap ((z : Int) + 1) = (z : Int) + 1 := wraps_i64' _ (by omega) (by omega)
      obtain ⟨x, hx⟩ : ∃ x, x = came.getD k false := ⟨_, rfl⟩
      rw [← hx] at q0 HT
      clear hx
      cases x
      · go_wp2
        exact ⟨⟨k + 1, by rw [HT.out]; simp, by go_num, hlt, trivial⟩, by simp [intOf, hw1]; omega⟩
      · go_wp2
        exact ⟨⟨k + 1, by rw [HT.out]; simp, by go_num, hlt, trivial⟩, by simp [intOf, hw1]; omega⟩
    · obtain rfl : k = came.length := by omega
      have hi1 : ¬ ((came.length : Int) < (came.length : Int)) := by omega
      rw [List.take_length]
      clear hlt hk
      go_wp2
      go_ret
      exact ⟨rfl, rfl⟩
set_option maxRecDepth 100000 in
set_option maxHeartbeats 1600000 in
theorem allCame_any {b r m : Nat} {q : St} (w : World) (hq : Ok q) (h : Str b r m q w) : Calls Try.prog 27 #[.pointer (some ⟨b, 0, none⟩)] w fun e w' => e = .returned (.bool (allB q)) ∧ ∃ n, w' = w.drewN n := by
  have HR := Lib.hid (fun n => ready_any (w.drewN n) hq (h.drewN n))
  have hrl := hq.ready_le
  have hf := hq.few
  have hp := hq.pt
  have hbg := hq.big
  have HH := Lib.hid h
  unfold allB
  obtain ⟨n, hn⟩ : ∃ n, n = readyN q := ⟨_, rfl⟩
  rw [← hn] at HR hrl ⊢
  clear hn
  obtain ⟨_, _, c2, _, c4, _⟩ := h.fields.facts
  by_cases h1 : q.e = -1
  · have HK := Lib.hid (fun n => known_b (w.drewN n) (h.drewN n) false (by simp [h1]))
    have e2 : decide (q.e ≠ -1) = false := by simpa using h1
    rw [e2, Bool.false_and]
    clear h1 e2 h hq hrl hf hp hbg c2 c4
    go_enter Try.func27, Try.ntmps27
    go_wp2_with fail
    go_quiet (first
      | (go_at_call 23; refine Calls.quiet_of_same (HK.out _))
      | (go_at_call 17; refine Calls.quiet_of_same (HR.out _)))
    go_wp2
    go_ret
    exact ⟨rfl, _, rfl⟩
  · have HK := Lib.hid (fun n => known_b (w.drewN n) (h.drewN n) true (by simp [h1]))
    have e2 : decide (q.e ≠ -1) = true := by simpa using h1
    rw [e2, Bool.true_and]
    obtain ⟨row, came, p, top, e, br⟩ := q
    simp only at c2 c4 hrl hf hp hbg ⊢
    have hw : IntKind.i64.wrap ((p : Int) + (n : Int)) = (p : Int) + (n : Int) := wraps_i64' _ (by omega) (by omega)
    clear h1 e2 h hq hrl hf hp hbg HH
    go_enter Try.func27, Try.ntmps27
    go_wp2_with fail
    go_quiet (first
      | (go_at_call 23; refine Calls.quiet_of_same (HK.out _))
      | (go_at_call 17; refine Calls.quiet_of_same (HR.out _)))
    go_wp2
    go_ret
    exact ⟨ret_bool (by rw [Bool.eq_iff_iff]; simp), _, rfl⟩
end Go.Proofs.Ytgckidgkimgpeaa
