/- Walks of layer 8: Ack. -/
import Derived.Test.YtobalbaieakcmaaSnF
set_option linter.unusedSimpArgs false
set_option linter.unusedVariables false
namespace Go.Proofs.Ytobalbaieakcmaa
open Go.RowKit Go.Maps

/-- what Ack hands back, and what it leaves -/
def Acks (b mb : Nat) (r : Lg × List Pk × List Pk × Int) (w : World) (e : Ending) (w' : World) : Prop :=
  ∃ v u, e = .returned (.tuple #[v, u, .int .i64 r.2.2.2]) ∧ OwnP 54 w' w.heap.size v r.2.1 ∧ OwnP 54 w' w.heap.size u r.2.2.1 ∧ Does b mb r.1 w w'

theorem ack_split {ss : List (Int × Int)} {now wait : Int} (h : ackB ss now wait = false) : ss = [] ∨ (ss ≠ [] ∧ rightB ss = false) ∨ (ss ≠ [] ∧ rightB ss = true ∧ nowB now = false) ∨ (ss ≠ [] ∧ rightB ss = true ∧ nowB now = true ∧ waitB wait = false) := by
  unfold ackB waitsB at h
  by_cases h0 : ss = []
  · exact .inl h0
  rw [decide_eq_true h0, Bool.true_and] at h
  cases h1 : rightB ss
  · exact .inr (.inl ⟨h0, rfl⟩)
  cases h2 : nowB now
  · exact .inr (.inr (.inl ⟨h0, rfl, rfl⟩))
  · rw [h1, h2] at h
    exact .inr (.inr (.inr ⟨h0, rfl, rfl, by simpa using h⟩))

set_option maxRecDepth 100000 in
set_option maxHeartbeats 3200000 in
theorem ack_bad (b mb : Nat) (q : Lg) (v : Value) (ss : List (Int × Int)) (now wait : Int) (w : World) (hL : Led b mb q w) (hr : RdS w v ss) (hb : ackB ss now wait = false) :
    Calls Try.prog 13 #[.pointer (some ⟨b, 0, none⟩), v, .int .i64 now, .int .i64 wait] w (Acks b mb (q, [], [], 1) w) := by
  obtain ⟨va, vc, rfl, _, _⟩ := hr.isSlice
  have BB := Lib.hid (below_one w (.cells #[.slice va ss.length vc] 30))
  have HL := Lib.hid (hL.below BB.out)
  have HS := Lib.hid (hr.below BB.out)
  have HX : Hid ((w.alloc (.cells #[.slice va ss.length vc] 30)).cell? ⟨w.heap.size, 0, none⟩ = some (.slice va ss.length vc)) := by
    show _ = _; rw [World.cell?_alloc_at _ _ _ _ rfl]; rfl
  have hsp := ack_split hb
  clear hL hr hb
  rcases hsp with h0 | ⟨h0, h1⟩ | ⟨h0, h1, h2⟩ | ⟨h0, h1, h2, h3⟩
  · have h0' : ss.length = 0 := by rw [h0]; rfl
    have e0 : ((ss.length : Int) == 0) = true := by simp [h0']
    have e0' : (ss.length == 0) = true := by simp [h0']
    clear h0 h0'
    go_enter Try.func13, Try.ntmps13
    go_upto_region 1 with fail
    have x0 := HX.out
    generalize w.alloc (.cells #[.slice va ss.length vc] 30) = W at *
    go_wp2_with (go_at_call 26; refine (made_any _ HL.out.row).mono ?_; rintro e w2 ⟨rfl, h⟩; obtain rfl : W = w2 := h.symm)
    go_ret3
    exact ⟨_, _, rfl, OwnP.nil _ _ _, OwnP.nil _ _ _, HL.out, Keep.of_below BB.out⟩
  all_goals
    have e0 : ((ss.length : Int) == 0) = false := by have := List.length_pos_iff.2 h0; simp; omega
    have e0' : (ss.length == 0) = false := by have := List.length_pos_iff.2 h0; simp; omega
    have H1 := Lib.hid h1
    clear h0 h1
  · go_enter Try.func13, Try.ntmps13
    go_upto_region 1 with fail
    have x0 := HX.out
    generalize w.alloc (.cells #[.slice va ss.length vc] 30) = W at *
    go_wp2_with (first
      | (go_at_call 26; refine (made_any _ HL.out.row).mono ?_; rintro e w2 ⟨rfl, h⟩; obtain rfl : W = w2 := h.symm)
      | (go_at_call 30; refine (right_any _ ss _ HS.out).mono ?_; rw [H1.out]; rintro e w3 ⟨rfl, hb3⟩))
    go_ret3
    exact ⟨_, _, rfl, OwnP.nil _ _ _, OwnP.nil _ _ _, HL.out.below hb3, Keep.of_below (BB.out.trans (hb3.mono BB.out.size))⟩
  · have H2 := Lib.hid h2
    clear h2
    go_enter Try.func13, Try.ntmps13
    go_upto_region 1 with fail
    have x0 := HX.out
    generalize w.alloc (.cells #[.slice va ss.length vc] 30) = W at *
    go_wp2_with (first
      | (go_at_call 26; refine (made_any _ HL.out.row).mono ?_; rintro e w2 ⟨rfl, h⟩; obtain rfl : W = w2 := h.symm)
      | (go_at_call 30; refine (right_any _ ss _ HS.out).mono ?_; rw [H1.out]; rintro e w3 ⟨rfl, hb3⟩; have HB3 := Lib.hid hb3; clear hb3)
      | (go_at_call 28; refine (mayNow_b _ _ H2.out _).mono ?_; rintro e w4 ⟨rfl, h⟩; obtain rfl : w3 = w4 := h.symm))
    go_ret3
    exact ⟨_, _, rfl, OwnP.nil _ _ _, OwnP.nil _ _ _, HL.out.below HB3.out, Keep.of_below (BB.out.trans (HB3.out.mono BB.out.size))⟩
  · have H2 := Lib.hid h2
    have H3 := Lib.hid h3
    clear h2 h3
    go_enter Try.func13, Try.ntmps13
    go_upto_region 1 with fail
    have x0 := HX.out
    generalize w.alloc (.cells #[.slice va ss.length vc] 30) = W at *
    go_wp2_with (first
      | (go_at_call 26; refine (made_any _ HL.out.row).mono ?_; rintro e w2 ⟨rfl, h⟩; obtain rfl : W = w2 := h.symm)
      | (go_at_call 30; refine (right_any _ ss _ HS.out).mono ?_; rw [H1.out]; rintro e w3 ⟨rfl, hb3⟩; have HB3 := Lib.hid hb3; clear hb3)
      | (go_at_call 28; refine (mayNow_b _ _ H2.out _).mono ?_; rintro e w4 ⟨rfl, h⟩; obtain rfl : w3 = w4 := h.symm)
      | (go_at_call 31; refine (mayWait_b _ _ H3.out _).mono ?_; rintro e w4 ⟨rfl, h⟩; obtain rfl : w3 = w4 := h.symm))
    go_ret3
    exact ⟨_, _, rfl, OwnP.nil _ _ _, OwnP.nil _ _ _, HL.out.below HB3.out, Keep.of_below (BB.out.trans (HB3.out.mono BB.out.size))⟩

theorem keepS {b mb : Nat} {T : TypeId} {w w' : World} {B : Nat} {v : Value} {l : List Pk} (h : OwnP T w B v l) (k : Keep [b, mb] w w') (hb : b < B) (hm : mb < B) : OwnP T w' B v l :=
  h.keep k fun j hj hn => by
    have := h.blk j hj
    simp at hn; omega

theorem Mp.no_cell {w : World} {mb : Nat} {l : List Pk} (h : Mp w mb l) (o : Nat) : w.cell? ⟨mb, o, none⟩ = none := by
  obtain ⟨es, clock, e, _⟩ := h
  simp [World.cell?, e]
set_option maxRecDepth 100000 in
set_option maxHeartbeats 3200000 in
theorem ack_any (b mb : Nat) (q : Lg) (v : Value) (ss : List (Int × Int)) (now wait : Int) (w : World) (hq : Ok q) (hL : Led b mb q w) (hr : RdS w v ss) :
    Calls Try.prog 13 #[.pointer (some ⟨b, 0, none⟩), v, .int .i64 now, .int .i64 wait] w (Acks b mb (ackE q ss now wait) w) := by
  cases hb : ackB ss now wait
  · have e : ackE q ss now wait = (q, [], [], 1) := by unfold ackE; rw [if_pos hb]
    rw [e]
    exact ack_bad b mb q v ss now wait w hL hr hb
  have hw : (ss ≠ [] ∧ rightB ss = true) ∧ nowB now = true ∧ waitB wait = true := by simpa only [ackB, waitsB, Bool.and_eq_true, decide_eq_true_eq] using hb
  obtain ⟨⟨h0, h1⟩, h2, h3⟩ := hw
  obtain ⟨sb, so, vc, rfl, hsb⟩ := hr.form h0
  have hne : sb ≠ mb := fun e => by
    have q0 := (hr.cells rfl 0 (List.length_pos_iff.2 h0)).1
    rw [e, hL.map.no_cell] at q0; cases q0
  have hR : ss.length ≤ 256 ∧ riseB 0 ss = true := by simpa [rightB] using h1
  have hlp := List.length_pos_iff.2 h0
  have hl2 := hR.1
  have BB := Lib.hid (below_one w (.cells #[.slice (some ⟨sb, so, none⟩) ss.length vc] 30))
  have HL := Lib.hid (hL.below BB.out)
  have HS := Lib.hid (hr.below BB.out)
  have hbm := hL.ne
  have kb := hL.row.lt
  have km := hL.map.lt
  have HX : Hid ((w.alloc (.cells #[.slice (some ⟨sb, so, none⟩) ss.length vc] 30)).cell? ⟨w.heap.size, 0, none⟩ = some (.slice (some ⟨sb, so, none⟩) ss.length vc)) := by
    show _ = _; rw [World.cell?_alloc_at _ _ _ _ rfl]; rfl
  have hsz : (w.alloc (.cells #[.slice (some ⟨sb, so, none⟩) ss.length vc] 30)).heap.size = w.heap.size + 1 := by simp
  have e0 : ((ss.length : Int) == 0) = false := by simp; omega
  have e0' : (ss.length == 0) = false := by simp; omega
  have H1 := Lib.hid h1
  have H2 := Lib.hid h2
  have H3 := Lib.hid h3
  have hi3 : (0 : Int) ≤ (ss.length : Int) - 1 := by omega
  have hi4 : (ss.length : Int) - 1 < (ss.length : Int) := by omega
  have hi5 : ((ss.length : Int) - 1).toNat = ss.length - 1 := by omega
  have hw3 : IntKind.i64.wrap ((ss.length : Int) - 1) = (ss.length : Int) - 1 := wraps_i64' _ (by omega) (by omega)
  have HT : Hid (∀ W, RdS W (.slice (some ⟨sb, so, none⟩) ss.length vc) ss → W.cell? ⟨sb, so + (ss.length - 1) * 2 + 1, none⟩ = some (.int .i64 (topI ss))) := fun W h => (h.cells rfl (ss.length - 1) (by omega)).2
  by_cases h4 : q.last < topI ss
  · have e : ackE q ss now wait = (q, [], [], 14) := by unfold ackE; rw [if_neg (by rw [hb]; decide), if_pos h4]
    rw [e]
    generalize topI ss = top at HT h4
    obtain ⟨l, last, time, big⟩ := q
    simp only at h4
    have e4 : decide (top > last) = true := decide_eq_true h4
    clear e hL hr hb h0 h1 h2 h3 hR h4 hq
    go_enter Try.func13, Try.ntmps13
    go_upto_region 1 with fail
    have x0 := HX.out
    generalize w.alloc (.cells #[.slice (some ⟨sb, so, none⟩) ss.length vc] 30) = W at *
    go_wp2_with (first
      | (go_at_call 26; refine (made_any _ HL.out.row).mono ?_; rintro e w2 ⟨rfl, h⟩; obtain rfl : W = w2 := h.symm)
      | (go_at_call 30; refine (right_any _ ss _ HS.out).mono ?_; rw [H1.out]; rintro e w3 ⟨rfl, hb3⟩
         have HB3 := Lib.hid hb3
         have x3 : w3.cell? ⟨w.heap.size, 0, none⟩ = some (.slice (some ⟨sb, so, none⟩) ss.length vc) := (hb3.cell (p := ⟨w.heap.size, 0, none⟩) (by simp only; omega)).trans x0
         have x5 := HT.out w3 (HS.out.below hb3)
         obtain ⟨y0, y1, y2, y3⟩ := (HL.out.row.below hb3).facts
         clear hb3)
      | (go_at_call 28; refine (mayNow_b _ _ H2.out _).mono ?_; rintro e w4 ⟨rfl, h⟩; obtain rfl : w3 = w4 := h.symm)
      | (go_at_call 31; refine (mayWait_b _ _ H3.out _).mono ?_; rintro e w4 ⟨rfl, h⟩; obtain rfl : w3 = w4 := h.symm))
    go_ret3
    exact ⟨_, _, rfl, OwnP.nil _ _ _, OwnP.nil _ _ _, HL.out.below HB3.out, Keep.of_below (BB.out.trans (HB3.out.mono BB.out.size))⟩
  have hcq := came_ok hq hR.2 h0 (by omega)
  have htp := top_in hR.2 h0
  have e : ackE q ss now wait = ((loseE (cameQ q ss) now wait).1, q.l.filter (fun p => inB p.n ss), (loseE (cameQ q ss) now wait).2, 0) := by unfold ackE; rw [if_neg (by rw [hb]; decide), if_neg h4]
  rw [e]
  have HSet : Hid (∀ W3, Below (w.alloc (.cells #[.slice (some ⟨sb, so, none⟩) ss.length vc] 30)).heap.size (w.alloc (.cells #[.slice (some ⟨sb, so, none⟩) ss.length vc] 30)) W3 →
      Calls Try.prog 32 #[.pointer (some ⟨b, 0, none⟩), .func (.func 33) #[] #[.pointer (some ⟨w.heap.size, 0, none⟩)]] W3 fun e w' =>
        ∃ v, e = .returned v ∧ OwnP 54 w' W3.heap.size v (q.l.filter fun p => inB p.n ss) ∧ Mp w' mb (q.l.filter fun p => !inB p.n ss) ∧ W3.grownBy w' (some mb)) := fun W3 hB => by
    have s3 := hB.size
    exact settle_any 33 #[.pointer (some ⟨w.heap.size, 0, none⟩)] (fun p => inB p.n ss) b mb q.last q.time q.big q.l W3 (enters_of Try.func33 (by kernel_rfl) rfl)
      (HL.out.below hB).row (HL.out.below hB).map hq.up hq.nums hq.few hbm (fun W p _ hg => by
        have s4 := hg.size
        have hc := ackcl_any p (.slice (some ⟨sb, so, none⟩) ss.length vc) ss w.heap.size W (by omega) (hg.cell ((hB.cell (p := ⟨w.heap.size, 0, none⟩) (by simp only; omega)).trans HX.out) (by simp; omega)) (RdC.kept (HS.out.below hB) hg (fun j hj e => by simp only [Value.ownBlock, Option.some.injEq] at hj; cases e; subst hj; exact hne rfl))
        rw [h1, Bool.true_and] at hc
        exact hc)
  have HLose : Hid (∀ W, Led b mb (cameQ q ss) W → Calls Try.prog 17 #[.pointer (some ⟨b, 0, none⟩), .int .i64 now, .int .i64 wait] W (Gives b mb (loseE (cameQ q ss) now wait).1 (loseE (cameQ q ss) now wait).2 W)) := fun W h => lose_any b mb _ now wait W hcq h
  clear e
  generalize loseE (cameQ q ss) now wait = R at HLose ⊢
  unfold cameQ at HLose
  generalize topI ss = top at HT h4 htp HLose
  obtain ⟨l, last, time, big⟩ := q
  simp only at h4 HLose HSet
  have e4 : decide (top > last) = false := decide_eq_false h4
  clear hL hr hb h0 h1 h2 h3 hR h4 hq htp hcq
  go_enter Try.func13, Try.ntmps13
  go_upto_region 1 with fail
  have x0 := HX.out
  generalize w.alloc (.cells #[.slice (some ⟨sb, so, none⟩) ss.length vc] 30) = W at *
  go_wp2_with (first
    | (go_at_call 26; refine (made_any _ HL.out.row).mono ?_; rintro e w2 ⟨rfl, h⟩; obtain rfl : W = w2 := h.symm)
    | (go_at_call 30; refine (right_any _ ss _ HS.out).mono ?_; rw [H1.out]; rintro e w3 ⟨rfl, hb3⟩
       have HB3 := Lib.hid hb3
       have x3 : w3.cell? ⟨w.heap.size, 0, none⟩ = some (.slice (some ⟨sb, so, none⟩) ss.length vc) := (hb3.cell (p := ⟨w.heap.size, 0, none⟩) (by simp only; omega)).trans x0
       have x5 := HT.out w3 (HS.out.below hb3)
       obtain ⟨y0, y1, y2, y3⟩ := (HL.out.row.below hb3).facts
       clear hb3)
    | (go_at_call 28; refine (mayNow_b _ _ H2.out _).mono ?_; rintro e w4 ⟨rfl, h⟩; obtain rfl : w3 = w4 := h.symm)
    | (go_at_call 31; refine (mayWait_b _ _ H3.out _).mono ?_; rintro e w4 ⟨rfl, h⟩; obtain rfl : w3 = w4 := h.symm)
    | (go_at_call 32; refine (HSet.out w3 HB3.out).mono ?_; rintro e w5 ⟨v5, rfl, hO5, hM5, hg5⟩
       have HO5 := Lib.hid hO5
       have HM5 := Lib.hid hM5
       have HG5 := Lib.hid hg5
       have HC5 := Lib.hid ((HL.out.row.below HB3.out).grown hg5 (by simpa using hbm))
       obtain ⟨g0, g1, g2, g3⟩ := HC5.out.facts
       obtain ⟨z0, z1, z2, z3⟩ := HC5.out.free
       clear hO5 hM5 hg5 y0 y1 y2 y3)
    | (go_at_call 17; refine (HLose.out _ ⟨HC5.out.set3 (max big top), HM5.out.block (by have : b ≠ mb := hbm; simp [World.setCell, Array.getElem?_modify, this])⟩).mono ?_; rintro e w7 ⟨u7, rfl, hO7, hD7⟩))
  go_ret3
  have s1 := BB.out.size
  have s3 := HB3.out.size
  have s5 := HG5.out.size
  have k6 := keep_set b 3 w5 (.int .i64 (max big top))
  have hO6 := (HO5.out.keep k6 (fun j hj hn => by have := HO5.out.blk j hj; simp at hn; omega))
  refine ⟨v5, u7, rfl, (keepS hO6 hD7.2 (by omega) (by omega)).mono (by omega), hO7.mono (by simp only [World.setCell, Array.size_modify]; omega), hD7.1, ?_⟩
  have kk : Keep [b, mb] w w5 := (Keep.of_below (S := [b, mb]) (BB.out.trans (HB3.out.mono BB.out.size))).trans (S' := [mb]) (Keep.of_grown HG5.out (fun j hj => .inl (by cases hj; simp))) (fun i hi => .inl (by simp at hi; simp [hi]))
  exact (kk.trans k6 (fun i hi => .inl (by simp at hi; simp [hi]))).trans hD7.2 (fun i hi => .inl hi)
end Go.Proofs.Ytobalbaieakcmaa
