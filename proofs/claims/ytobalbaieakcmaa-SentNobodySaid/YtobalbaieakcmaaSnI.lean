/- The law Nobody. -/
import Derived.Test.YtobalbaieakcmaaSnJ
set_option linter.unusedSimpArgs false
set_option linter.unusedVariables false
namespace Go.Proofs.Ytobalbaieakcmaa
open Go.RowKit Go.Maps

theorem cellAt {w : World} {b : Nat} {cs : Array Value} {T : TypeId} (h : w.heap[b]? = some (.cells cs T (0, 0))) (j : Nat) {v : Value} (hj : j < cs.size) (hv : cs[j] = v) : w.cell? ⟨b, j, none⟩ = some v := by
  simp [World.cell?, h, hv, hj]
/-- a row of one datagram, and its number written over -/
theorem OwnP.one {w : World} {B : Nat} {v : Value} {p : Pk} (h : OwnP 54 w B v [p]) : ∃ g c, v = .slice (some ⟨g, 0, none⟩) 1 c ∧ B ≤ g ∧ g < w.heap.size := by
  rcases h.2 with ⟨_, hz⟩ | ⟨g, cap, cur, rfl, hB, hb, _⟩
  · cases hz
  · exact ⟨g, cap, rfl, hB, (Array.getElem?_eq_some_iff.1 hb).1⟩
theorem OwnP.store {w : World} {B g c : Nat} {p : Pk} (h : OwnP 54 w B (.slice (some ⟨g, 0, none⟩) 1 c) [p]) (x : Int) :
    OwnP 54 (w.setCell ⟨g, 0, none⟩ (.int .i64 x)) B (.slice (some ⟨g, 0, none⟩) 1 c) [⟨x, p.t, p.s⟩] := (World.ownsRow.stored h 0 (.int .i64 x)).1
theorem OwnP.cell0 {w : World} {B g c : Nat} {p : Pk} (h : OwnP 54 w B (.slice (some ⟨g, 0, none⟩) 1 c) [p]) : w.cell? ⟨g, 0, none⟩ = some (.int .i64 p.n) ∧ w.frozen? ⟨g, 0, none⟩ = false :=
  ⟨by have := (h.rd.cells 0 (by simp)).1; simpa using this, World.ownsRow.frozenAt h 0⟩
def q1L : Lg := ⟨[⟨1, 2, 3⟩], 1, 2, -1⟩
theorem q1_sent : sentE fresh 1 2 3 = (q1L, 0) := by rfl
theorem q1_ok : Ok q1L := by
  have := sent_ok fresh_ok 1 2 3
  rwa [q1_sent] at this

set_option maxRecDepth 100000 in
set_option maxHeartbeats 12800000 in
/-- P8.4, R4 -/
theorem nobody_walk (kk n now size wt : Int) (sp : Value) (ss : List (Int × Int)) (w : World) (hr : RdS w sp ss) :
    Calls Try.prog 7 #[.agg #[.int .u8 kk, .int .i64 n, .int .i64 now, .int .i64 size, .int .i64 wt, sp]] w (Yes w) := by
  obtain ⟨sa, sc, rfl, _, _⟩ := hr.isSlice
  have B1 := Lib.hid (below_one w (.cells #[.int .u8 kk, .int .i64 n, .int .i64 now, .int .i64 size, .int .i64 wt, .slice sa ss.length sc] 32))
  have CB : Hid ((w.alloc (.cells #[.int .u8 kk, .int .i64 n, .int .i64 now, .int .i64 size, .int .i64 wt, .slice sa ss.length sc] 32)).heap[w.heap.size]? = some (.cells #[.int .u8 kk, .int .i64 n, .int .i64 now, .int .i64 size, .int .i64 wt, .slice sa ss.length sc] 32 (0, 0))) := by
    show (w.heap.push _)[w.heap.size]? = _; simp
  clear hr
  go_enter Try.func7, Try.ntmps7
  go_upto_region 1 with fail
  generalize w.alloc (.cells #[.int .u8 kk, .int .i64 n, .int .i64 now, .int .i64 size, .int .i64 wt, .slice sa ss.length sc] 32) = W1 at B1 CB ⊢
  go_wp2_with fail
  have b2 : Below W1.heap.size W1 ((W1.alloc (.cells #[.map none, .int .i64 0, .int .i64 0, .int .i64 0] 58)).alloc (.cells #[.pointer none, .pointer (some ⟨W1.heap.size, 0, none⟩)] 23)) := ((Below.refl _ W1).alloc (Nat.le_refl _) _).alloc (by simp) _
  have HZ3 : Hid (((W1.alloc (.cells #[.map none, .int .i64 0, .int .i64 0, .int .i64 0] 58)).alloc (.cells #[.pointer none, .pointer (some ⟨W1.heap.size, 0, none⟩)] 23)).heap[W1.heap.size]? = some (.cells #[.map none, .int .i64 0, .int .i64 0, .int .i64 0] 58 (0, 0))) := by
    show ((W1.heap.push _).push _)[W1.heap.size]? = _
    rw [Array.getElem?_push, if_neg (by simp), Array.getElem?_push, if_pos rfl]
  have HR3 : Hid (((W1.alloc (.cells #[.map none, .int .i64 0, .int .i64 0, .int .i64 0] 58)).alloc (.cells #[.pointer none, .pointer (some ⟨W1.heap.size, 0, none⟩)] 23)).heap[W1.heap.size + 1]? = some (.cells #[.pointer none, .pointer (some ⟨W1.heap.size, 0, none⟩)] 23 (0, 0))) := by
    show ((W1.heap.push _).push _)[W1.heap.size + 1]? = _
    rw [Array.getElem?_push, if_pos (by simp)]
  have hw1 : w.heap.size < W1.heap.size := (Array.getElem?_eq_some_iff.1 CB.out).1
  have HA3 := Lib.hid ((b2.block w.heap.size hw1).trans CB.out)
  have HB3 := Lib.hid (B1.out.trans (b2.mono B1.out.size))
  clear b2
  generalize (W1.alloc (.cells #[.map none, .int .i64 0, .int .i64 0, .int .i64 0] 58)).alloc (.cells #[.pointer none, .pointer (some ⟨W1.heap.size, 0, none⟩)] 23) = W3 at HZ3 HR3 HA3 HB3 ⊢
  have N0 := Lib.hid (noOne_nil W3)
  have N1 := Lib.hid (noOne_zero W1.heap.size W3 (Array.getElem?_eq_some_iff.1 HZ3.out).1 (cellAt HZ3.out 0 (by simp) rfl))
  go_loopw [17] (fun i wr => ∃ (k : Nat), i = .int .i64 k ∧ k ≤ 2 ∧ Below W3.heap.size W3 wr) (fun i _ => 2 - (intOf i).toNat)
  case atStart => exact ⟨0, rfl, by omega, Below.refl _ _⟩
  case round =>
    obtain ⟨k, rfl, hk, hbel⟩ := hrel
    have HBe := Lib.hid hbel
    have HR := Lib.hid ((hbel.block (W1.heap.size + 1) (Array.getElem?_eq_some_iff.1 HR3.out).1).trans HR3.out)
    have HA := Lib.hid ((hbel.block w.heap.size (Array.getElem?_eq_some_iff.1 HA3.out).1).trans HA3.out)
    clear hbel
    by_cases hlt : k < 2
    · obtain rfl | rfl : k = 0 ∨ k = 1 := by omega
      · have hp : wr.cell? ⟨W1.heap.size + 1, 0, none⟩ = some (.pointer none) := cellAt HR.out 0 (by simp) rfl
        have HN := Lib.hid (N0.out.below HBe.out)
        have c2 : wr.cell? ⟨w.heap.size, 2, none⟩ = some (.int .i64 now) := cellAt HA.out 2 (by simp) rfl
        have c4 : wr.cell? ⟨w.heap.size, 4, none⟩ = some (.int .i64 wt) := cellAt HA.out 4 (by simp) rfl
        have c5 : wr.cell? ⟨w.heap.size, 5, none⟩ = some (.slice sa ss.length sc) := cellAt HA.out 5 (by simp) rfl
        go_wp2_with (first
          | (go_at_call 13; refine (ack_no _ _ _ _ _ ⟨_, _, _, rfl⟩ HN.out).mono ?_; rintro e w5 ⟨rfl, hb5⟩
             have HN5 := Lib.hid (HN.out.below hb5)
             have HB5 := Lib.hid (HBe.out.trans (hb5.mono HBe.out.size))
             have HA5 := Lib.hid ((hb5.block w.heap.size (Array.getElem?_eq_some_iff.1 HA.out).1).trans HA.out)
             clear hb5 c2 c4 c5
             have c1 : w5.cell? ⟨w.heap.size, 1, none⟩ = some (.int .i64 n) := cellAt HA5.out 1 (by simp) rfl
             have c2 : w5.cell? ⟨w.heap.size, 2, none⟩ = some (.int .i64 now) := cellAt HA5.out 2 (by simp) rfl
             have c3 : w5.cell? ⟨w.heap.size, 3, none⟩ = some (.int .i64 size) := cellAt HA5.out 3 (by simp) rfl
             have c4 : w5.cell? ⟨w.heap.size, 4, none⟩ = some (.int .i64 wt) := cellAt HA5.out 4 (by simp) rfl)
          | (go_at_call 11; refine (sent_no _ _ _ _ _ HN5.out).mono ?_; rintro e w9 ⟨rfl, h⟩; obtain rfl : w5 = w9 := h.symm)
          | (go_at_call 17; refine (lose_no _ _ _ _ HN5.out).mono ?_; rintro e w6 ⟨rfl, hb6⟩
             have HN6 := Lib.hid (HN5.out.below hb6)
             have HB6 := Lib.hid (HB5.out.trans (hb6.mono HB5.out.size))
             have HA6 := Lib.hid ((hb6.block w.heap.size (Array.getElem?_eq_some_iff.1 HA5.out).1).trans HA5.out)
             clear hb6 c1 c2 c3 c4
             have c4 : w6.cell? ⟨w.heap.size, 4, none⟩ = some (.int .i64 wt) := cellAt HA6.out 4 (by simp) rfl)
          | (go_at_call 19; refine (due_no _ _ _ HN6.out).mono ?_; rintro e w9 ⟨rfl, h⟩; obtain rfl : w6 = w9 := h.symm)
          | (go_at_call 24; refine (out_no _ _ HN6.out).mono ?_; rintro e w9 ⟨rfl, h⟩; obtain rfl : w6 = w9 := h.symm)
          | (go_at_call 23; refine (largest_no _ _ HN6.out).mono ?_; rintro e w9 ⟨rfl, h⟩; obtain rfl : w6 = w9 := h.symm)
          | (go_at_call 21; refine (drop_no _ _ HN6.out).mono ?_; rintro e w9 ⟨rfl, h⟩; obtain rfl : w6 = w9 := h.symm))
        exact ⟨⟨1, by go_num, by omega, HB6.out⟩, by simp [intOf]⟩
      · have hp : wr.cell? ⟨W1.heap.size + 1, 1, none⟩ = some (.pointer (some ⟨W1.heap.size, 0, none⟩)) := cellAt HR.out 1 (by simp) rfl
        have HN := Lib.hid (N1.out.below HBe.out)
        have c2 : wr.cell? ⟨w.heap.size, 2, none⟩ = some (.int .i64 now) := cellAt HA.out 2 (by simp) rfl
        have c4 : wr.cell? ⟨w.heap.size, 4, none⟩ = some (.int .i64 wt) := cellAt HA.out 4 (by simp) rfl
        have c5 : wr.cell? ⟨w.heap.size, 5, none⟩ = some (.slice sa ss.length sc) := cellAt HA.out 5 (by simp) rfl
        go_wp2_with (first
          | (go_at_call 13; refine (ack_no _ _ _ _ _ ⟨_, _, _, rfl⟩ HN.out).mono ?_; rintro e w5 ⟨rfl, hb5⟩
             have HN5 := Lib.hid (HN.out.below hb5)
             have HB5 := Lib.hid (HBe.out.trans (hb5.mono HBe.out.size))
             have HA5 := Lib.hid ((hb5.block w.heap.size (Array.getElem?_eq_some_iff.1 HA.out).1).trans HA.out)
             clear hb5 c2 c4 c5
             have c1 : w5.cell? ⟨w.heap.size, 1, none⟩ = some (.int .i64 n) := cellAt HA5.out 1 (by simp) rfl
             have c2 : w5.cell? ⟨w.heap.size, 2, none⟩ = some (.int .i64 now) := cellAt HA5.out 2 (by simp) rfl
             have c3 : w5.cell? ⟨w.heap.size, 3, none⟩ = some (.int .i64 size) := cellAt HA5.out 3 (by simp) rfl
             have c4 : w5.cell? ⟨w.heap.size, 4, none⟩ = some (.int .i64 wt) := cellAt HA5.out 4 (by simp) rfl)
          | (go_at_call 11; refine (sent_no _ _ _ _ _ HN5.out).mono ?_; rintro e w9 ⟨rfl, h⟩; obtain rfl : w5 = w9 := h.symm)
          | (go_at_call 17; refine (lose_no _ _ _ _ HN5.out).mono ?_; rintro e w6 ⟨rfl, hb6⟩
             have HN6 := Lib.hid (HN5.out.below hb6)
             have HB6 := Lib.hid (HB5.out.trans (hb6.mono HB5.out.size))
             have HA6 := Lib.hid ((hb6.block w.heap.size (Array.getElem?_eq_some_iff.1 HA5.out).1).trans HA5.out)
             clear hb6 c1 c2 c3 c4
             have c4 : w6.cell? ⟨w.heap.size, 4, none⟩ = some (.int .i64 wt) := cellAt HA6.out 4 (by simp) rfl)
          | (go_at_call 19; refine (due_no _ _ _ HN6.out).mono ?_; rintro e w9 ⟨rfl, h⟩; obtain rfl : w6 = w9 := h.symm)
          | (go_at_call 24; refine (out_no _ _ HN6.out).mono ?_; rintro e w9 ⟨rfl, h⟩; obtain rfl : w6 = w9 := h.symm)
          | (go_at_call 23; refine (largest_no _ _ HN6.out).mono ?_; rintro e w9 ⟨rfl, h⟩; obtain rfl : w6 = w9 := h.symm)
          | (go_at_call 21; refine (drop_no _ _ HN6.out).mono ?_; rintro e w9 ⟨rfl, h⟩; obtain rfl : w6 = w9 := h.symm))
        exact ⟨⟨2, by go_num, by omega, HB6.out⟩, by simp [intOf]⟩
    · obtain rfl : k = 2 := by omega
      have HB := Lib.hid (HB3.out.trans (HBe.out.mono HB3.out.size))
      have tok : True := trivial
      have hz := HB.out.size
      go_upto_region 12 with (first
        | (go_at_call 8; refine (new_any _).mono ?_; rintro e w4 ⟨rfl, hL, hb⟩
           have HL4 := Lib.hid hL
           have HB4 := Lib.hid (HB.out.trans (hb.mono HB.out.size))
           clear hL hb)
        | (go_at_call 11; refine (sent_eq _ _ fresh q1L 1 2 3 0 q1_sent _ fresh_ok HL4.out).mono ?_; rintro e w5 ⟨rfl, hD⟩
           have HL5 := Lib.hid hD.1
           have HB5 := Lib.hid (HB4.out.trans (hD.2.to_below (fun i hi => by simp at hi; omega) HB4.out.size))
           clear hD)
        | (go_at_call 24; have _t := tok; refine (out_any _ _ q1L _ q1_ok HL5.out).mono ?_; rintro e w6 ⟨o1, rfl, ho, hb⟩
           have HL6 := Lib.hid (HL5.out.below hb)
           have HB6 := Lib.hid (HB5.out.trans (hb.mono HB5.out.size))
           obtain ⟨g1, d1, rfl, hg1, hg1'⟩ := OwnP.one ho
           have HO6 := Lib.hid ho
           have hl5 := HL5.out.row.lt
           clear ho hb tok)
        | (go_at_call 24; refine (out_any _ _ q1L _ q1_ok HL6.out).mono ?_; rintro e w7 ⟨o2, rfl, ho, hb⟩
           have HL7 := Lib.hid (HL6.out.below hb)
           have HB7 := Lib.hid (HB6.out.trans (hb.mono HB6.out.size))
           obtain ⟨g2, d2, rfl, hg2, hg2'⟩ := OwnP.one ho
           have HO7 := Lib.hid ho
           have HO7' := Lib.hid (HO6.out.keep (Keep.of_below (S := []) hb) (by simp))
           clear ho hb))
      obtain ⟨wo, hwo⟩ : ∃ wo, wo = wr := ⟨_, rfl⟩
      subst hwo
      have hR10 : Hid ((w7.alloc (.cells #[.slice (some ⟨g1, 0, none⟩) 1 d1, .slice (some ⟨g2, 0, none⟩) 1 d2] 36)).heap[w7.heap.size]? = some (.cells #[.slice (some ⟨g1, 0, none⟩) 1 d1, .slice (some ⟨g2, 0, none⟩) 1 d2] 36 (0, 0))) := by
        show (w7.heap.push _)[w7.heap.size]? = _; simp
      have b10 : Below w7.heap.size w7 (w7.alloc (.cells #[.slice (some ⟨g1, 0, none⟩) 1 d1, .slice (some ⟨g2, 0, none⟩) 1 d2] 36)) := (Below.refl _ w7).alloc (Nat.le_refl _) _
      have HB10 := Lib.hid (HB7.out.trans (b10.mono HB7.out.size))
      have HL10 := Lib.hid (HL7.out.below b10)
      have HP1 := Lib.hid (HO7'.out.keep (Keep.of_below (S := []) b10) (by simp))
      have HP2 := Lib.hid (HO7.out.keep (Keep.of_below (S := []) b10) (by simp))
      have h10 : w7.heap.size < (w7.alloc (.cells #[.slice (some ⟨g1, 0, none⟩) 1 d1, .slice (some ⟨g2, 0, none⟩) 1 d2] 36)).heap.size := by simp
      have h56 := HL5.out.row.lt
      clear b10
      generalize w7.alloc (.cells #[.slice (some ⟨g1, 0, none⟩) 1 d1, .slice (some ⟨g2, 0, none⟩) 1 d2] 36) = w10 at hR10 HB10 HL10 HP1 HP2 h10 ⊢
      have TRACE := trivial
      go_loopw [103] (fun i wr => ∃ (k : Nat) (p1 p2 : Pk), i = .int .i64 k ∧ k ≤ 2 ∧ OwnP 54 wr w5.heap.size (.slice (some ⟨g1, 0, none⟩) 1 d1) [p1] ∧ OwnP 54 wr w6.heap.size (.slice (some ⟨g2, 0, none⟩) 1 d2) [p2] ∧ Keep [g1, g2] w10 wr) (fun i _ => 2 - (intOf i).toNat)
      case atStart => exact ⟨0, _, _, rfl, by omega, HP1.out, HP2.out, Keep.refl _ _⟩
      case round =>
        obtain ⟨k, p1, p2, rfl, hk, ho1, ho2, hK⟩ := hrel
        have HO1 := Lib.hid ho1
        have HO2 := Lib.hid ho2
        have HK := Lib.hid hK
        have HRr := Lib.hid ((hK.block w7.heap.size h10 (by simp; omega)).trans hR10.out)
        clear ho1 ho2 hK
        by_cases hlt : k < 2
        · obtain rfl | rfl : k = 0 ∨ k = 1 := by omega
          · have hp : wr.cell? ⟨w7.heap.size, 0, none⟩ = some (.slice (some ⟨g1, 0, none⟩) 1 d1) := cellAt HRr.out 0 (by simp) rfl
            obtain ⟨x0, z0⟩ := HO1.out.cell0
            go_wp2_with fail
            refine wp_loop_rounds 2 ?_
            repeat any_goals (rw [rounds_succ]; go_wp2_with fail)
            exact ⟨⟨1, ⟨99, p1.t, p1.s⟩, p2, by go_num, by omega, HO1.out.store 99, HO2.out.keep (keep_set g1 0 wr _) (fun j hj hn => by simp [Value.ownBlock] at hj; simp at hn; omega), (HK.out.trans (keep_set g1 0 wr _) (fun i hi => .inl (by simp at hi; simp [hi])))⟩, by simp [intOf]⟩
          · have hp : wr.cell? ⟨w7.heap.size, 1, none⟩ = some (.slice (some ⟨g2, 0, none⟩) 1 d2) := cellAt HRr.out 1 (by simp) rfl
            obtain ⟨x0, z0⟩ := HO2.out.cell0
            go_wp2_with fail
            refine wp_loop_rounds 2 ?_
            repeat any_goals (rw [rounds_succ]; go_wp2_with fail)
            exact ⟨⟨2, p1, ⟨99, p2.t, p2.s⟩, by go_num, by omega, HO1.out.keep (keep_set g2 0 wr _) (fun j hj hn => by simp [Value.ownBlock] at hj; simp at hn; omega), HO2.out.store 99, (HK.out.trans (keep_set g2 0 wr _) (fun i hi => .inl (by simp at hi; simp [hi])))⟩, by simp [intOf]⟩
        · obtain rfl : k = 2 := by omega
          have HLr := Lib.hid (HL10.out.keep HK.out (by simp; omega) (by simp; omega))
          have HBr := Lib.hid (HB10.out.trans (HK.out.to_below (fun i hi => by simp at hi; omega) HB10.out.size))
          go_wp2_with (first
            | (go_at_call 24; refine (out_any _ _ q1L _ q1_ok HLr.out).mono ?_; rintro e w8 ⟨o1, rfl, ho, hb⟩
               have HB8 := Lib.hid (HBr.out.trans (hb.mono HBr.out.size))
               obtain ⟨g3, d3, rfl, hg3, hg3'⟩ := OwnP.one ho
               have x0 : w8.cell? ⟨g3, 0, none⟩ = some (.int .i64 1) := ho.cell0.1
               clear ho hb)
            | (go_at_call 10; refine (alive_any _).mono ?_; rintro e w9 ⟨rfl, hb⟩
               have HB9 := Lib.hid (HB8.out.trans (hb.mono HB8.out.size))
               clear hb))
          set_option maxRecDepth 100000 in go_ret
          exact ⟨rfl, HB9.out⟩
end Go.Proofs.Ytobalbaieakcmaa
