/- Walks of layer 8: alive. -/
import Derived.Test.YtobalbaieakcmaaSnW
set_option linter.unusedSimpArgs false
set_option linter.unusedVariables false
namespace Go.Proofs.Ytobalbaieakcmaa
open Go.RowKit Go.Maps

/-- k datagrams, sent at once -/
def al : Nat → Lg
  | 0 => fresh
  | 1 => ⟨[⟨0, 0, 10⟩], 0, 0, -1⟩
  | 2 => ⟨[⟨0, 0, 10⟩, ⟨1, 0, 10⟩], 1, 0, -1⟩
  | 3 => ⟨[⟨0, 0, 10⟩, ⟨1, 0, 10⟩, ⟨2, 0, 10⟩], 2, 0, -1⟩
  | 4 => ⟨[⟨0, 0, 10⟩, ⟨1, 0, 10⟩, ⟨2, 0, 10⟩, ⟨3, 0, 10⟩], 3, 0, -1⟩
  | _ => ⟨[⟨0, 0, 10⟩, ⟨1, 0, 10⟩, ⟨2, 0, 10⟩, ⟨3, 0, 10⟩, ⟨4, 0, 10⟩], 4, 0, -1⟩
theorem al_step {k : Nat} (h : k < 5) : sentE (al k) (k : Int) 0 10 = (al (k + 1), 0) := by
  match k, h with
  | 0, _ => rfl
  | 1, _ => rfl
  | 2, _ => rfl
  | 3, _ => rfl
  | 4, _ => rfl
theorem al_ok : ∀ k, k ≤ 5 → Ok (al k)
  | 0, _ => fresh_ok
  | k + 1, h => by
    have := sent_ok (al_ok k (by omega)) (k : Int) 0 10
    rwa [al_step (by omega)] at this
theorem al_ack : ackE (al 5) [(4, 4)] 1 100 = (⟨[⟨2, 0, 10⟩, ⟨3, 0, 10⟩], 4, 0, 4⟩, [⟨4, 0, 10⟩], [⟨0, 0, 10⟩, ⟨1, 0, 10⟩], 0) := by rfl
theorem al_due : dueE ⟨[⟨2, 0, 10⟩, ⟨3, 0, 10⟩], 4, 0, 4⟩ 100 = 100 := by rfl

theorem sent_eq (b mb : Nat) (q q' : Lg) (n t s e0 : Int) (h : sentE q n t s = (q', e0)) (w : World) (hq : Ok q) (hL : Led b mb q w) :
    Calls Try.prog 11 #[.pointer (some ⟨b, 0, none⟩), .int .i64 n, .int .i64 t, .int .i64 s] w fun e w' => e = .returned (.int .i64 e0) ∧ Does b mb q' w w' := by
  have := sent_any b mb q n t s w hq hL
  rw [h] at this
  exact this

set_option maxRecDepth 100000 in
set_option maxHeartbeats 3200000 in
theorem alive_any (w : World) : Calls Try.prog 10 #[] w fun e w' => e = .returned (.bool true) ∧ Below w.heap.size w w' := by
  go_enter Try.func10, Try.ntmps10
  go_wp2_with (go_at_call 8; refine (new_any _).mono ?_; rintro e w1 ⟨rfl, hL1, hb1⟩)
  have HL1 := Lib.hid hL1
  have HB1 := Lib.hid hb1
  clear hL1 hb1
  go_loopw [9] (fun i wr => ∃ (k : Nat), i = .int .i64 k ∧ k ≤ 5 ∧ Led (w.heap.size + 1) w.heap.size (al k) wr ∧ Below w.heap.size w wr) (fun i _ => 5 - (intOf i).toNat)
  case atStart => exact ⟨0, rfl, by omega, HL1.out, HB1.out⟩
  case round =>
    obtain ⟨k, rfl, hk, hL, hb⟩ := hrel
    have HL := Lib.hid hL
    have HB := Lib.hid hb
    by_cases hlt : k < 5
    · have hi1 : (k : Int) < 5 := by omega
      have hi1' : decide ((k : Int) < 5) = true := decide_eq_true hi1
      have hw1 : IntKind.i64.wrap ((k : Int) + 1) = (k : Int) + 1 := wraps_i64' _ (by omega) (by omega)
      have hs := sent_eq (w.heap.size + 1) w.heap.size (al k) (al (k + 1)) k 0 10 0 (al_step hlt) wr (al_ok k hk) hL
      have HS := Lib.hid hs
      clear hs hL hb
      go_wp2_with (go_at_call 11; refine HS.out.mono ?_; rintro e w2 ⟨rfl, hD⟩)
      exact ⟨⟨k + 1, by go_num, hlt, hD.1, HB.out.trans (hD.2.to_below (fun i hi => by simp at hi; omega) HB.out.size)⟩, by simp [intOf, hw1]; omega⟩
    · obtain rfl : k = 5 := by omega
      have hi1 : decide ((5 : Int) < 5) = false := by decide
      have b1 := below_one wr (.cells #[.int .i64 4, .int .i64 4] 63)
      have HB2 := Lib.hid (HB.out.trans (b1.mono HB.out.size))
      have ha := ack_any (w.heap.size + 1) w.heap.size (al 5) (.slice (some ⟨wr.heap.size, 0, none⟩) 1 1) [(4, 4)] 1 100 (wr.alloc (.cells #[.int .i64 4, .int .i64 4] 63)) (al_ok 5 (by omega)) (HL.out.below b1) (reads_built wr 4 4)
      rw [al_ack] at ha
      have HA := Lib.hid ha
      have hok : Ok ⟨[⟨2, 0, 10⟩, ⟨3, 0, 10⟩], 4, 0, 4⟩ := by
        have := ack_ok (al_ok 5 (by omega)) [(4, 4)] 1 100
        rwa [al_ack] at this
      have HOk := Lib.hid hok
      clear ha b1 hL hb hlt hok
      go_wp2_with (first
        | (go_at_call 13; refine HA.out.mono ?_; rintro e w3 ⟨v, u, rfl, hv, hu, hD⟩
           have HD := Lib.hid hD
           have HBk := Lib.hid (HB2.out.trans (hD.2.to_below (fun i hi => by simp at hi; omega) HB2.out.size))
           obtain ⟨vb, vo, vc, rfl, _⟩ := hv.rd.form (by simp)
           obtain ⟨ub, uo, uc, rfl, _⟩ := hu.rd.form (by simp)
           have x0 : w3.cell? ⟨vb, vo, none⟩ = some (.int .i64 4) := (hv.rd.cells 0 (by simp)).1
           have x1 : w3.cell? ⟨ub, uo + 3, none⟩ = some (.int .i64 1) := (hu.rd.cells 1 (by simp)).1
           clear hv hu hD)
        | (go_at_call 23; refine (largest_any _ HD.out.1.row).mono ?_; rintro e w4 ⟨rfl, h⟩; obtain rfl : w3 = w4 := h.symm)
        | (go_at_call 24; refine (out_any _ _ _ _ HOk.out HD.out.1).mono ?_; rintro e w5 ⟨o, rfl, ho, hb5⟩
           have HL5 := Lib.hid (HD.out.1.below hb5)
           have HB5 := Lib.hid (HBk.out.trans (hb5.mono HBk.out.size))
           obtain ⟨oa, oc, rfl, _, _⟩ := ho.slice
           clear ho hb5)
        | (go_at_call 19; refine (due_any _ _ _ _ _ HOk.out HL5.out).mono ?_; rw [al_due]; rintro e w6 ⟨rfl, hb6⟩))
      go_ret
      exact ⟨rfl, HB5.out.trans (hb6.mono HB5.out.size)⟩
end Go.Proofs.Ytobalbaieakcmaa
