/- Walks of layer 8: the document's Lose and Ack. -/
import Derived.Test.YtobalbaieakcmaaSnU
set_option linter.unusedSimpArgs false
set_option linter.unusedVariables false
namespace Go.Proofs.Ytobalbaieakcmaa
open Go.RowKit Go.Maps

theorem take_filter (f : Pk → Bool) {l : List Pk} {k : Nat} (h : k < l.length) : (l.take (k + 1)).filter f = (l.take k).filter f ++ (if f (l.getD k default) = true then [l.getD k default] else []) := by
  have e : l.getD k default = l[k] := by simp [List.getD, h]
  rw [List.take_succ_eq_append_getElem h, List.filter_append, e]
  congr 1
  by_cases hf : f l[k] = true
  · rw [if_pos hf, List.filter_cons_of_pos hf]; rfl
  · rw [if_neg hf, List.filter_cons_of_neg hf]; rfl
theorem take_flen (f : Pk → Bool) {l : List Pk} (k : Nat) (h : l.length ≤ 512) : ((l.take k).filter f).length ≤ 512 := by
  refine Nat.le_trans (List.length_filter_le _ _) ?_
  rw [List.length_take]; omega
set_option maxRecDepth 100000 in
set_option maxHeartbeats 3200000 in
theorem rlose_any (rb B : Nat) (q : Lg) (now wait : Int) (w : World) (hq : Ok q) (hB : rb < B) (hBs : B ≤ w.heap.size) (hL : RLed rb B q w) :
    Calls Try.prog 18 #[.pointer (some ⟨rb, 0, none⟩), .int .i64 now, .int .i64 wait] w fun e w' => ∃ v, e = .returned v ∧ OwnP 67 w' w.heap.size v (loseE q now wait).2 ∧ RDoes rb B (loseE q now wait).1 w w' := by
  have HLed := Lib.hid hL
  unfold loseE
  cases h1 : waitsB now wait
  · have H1 := Lib.hid h1
    rw [if_pos rfl]
    clear h1 hL hq
    go_enter Try.func18, Try.ntmps18
    go_wp2_with (go_at_call 36; refine (waits_b _ _ _ H1.out _).mono ?_; rintro e w2 ⟨rfl, h⟩; obtain rfl : w = w2 := h.symm)
    go_ret
    exact ⟨_, rfl, OwnP.nil _ _ _, HLed.out, Keep.refl _ _⟩
  rw [if_neg (by decide)]
  have H1 := Lib.hid h1
  have hnow : 0 ≤ now ∧ now ≤ 1099511627776 := by
    have : nowB now = true := by unfold waitsB at h1; rw [Bool.and_eq_true] at h1; exact h1.1
    exact within_iff.1 this
  obtain ⟨v, hR, hO⟩ := hL
  have HN := Lib.hid (fun (p : Pk) (hp : p ∈ q.l) => (⟨hq.nums p hp, (hq.each p hp).2.2⟩ : ((0 : Int) ≤ p.n ∧ p.n ≤ 4611686018427387903) ∧ (0 : Int) ≤ p.t ∧ p.t ≤ 1099511627776))
  have hbig : -1 ≤ q.big ∧ q.big ≤ 4611686018427387903 := by have := hq.big; have := hq.last; omega
  have hl := hq.few
  have HR := Lib.hid hR
  have HO := Lib.hid hO
  obtain ⟨va, vc, rfl, _, _⟩ := hO.slice
  obtain ⟨l, last, time, big⟩ := q
  simp only at HN hbig hl HR HO ⊢
  generalize hF : lostB big now wait = F
  have hrb := hR.lt
  clear h1 hR hO hq HLed
  go_enter Try.func18, Try.ntmps18
  go_wp2_with (go_at_call 36; refine (waits_b _ _ _ H1.out _).mono ?_; rintro e w2 ⟨rfl, h⟩; obtain rfl : w = w2 := h.symm)
  go_loopw [7, 8, 9] (fun ga gc i wr => ∃ (k : Nat), i = .int .i64 k ∧ k ≤ l.length ∧ OwnP 67 wr w.heap.size ga ((l.take k).filter F) ∧ OwnP 67 wr w.heap.size gc ((l.take k).filter fun p => !F p) ∧ (∀ j, ga.ownBlock = some j → gc.ownBlock ≠ some j) ∧ w.grownBy wr none) (fun _ _ i _ => l.length - (intOf i).toNat)
  case atStart => exact ⟨0, rfl, Nat.zero_le _, by rw [List.take_zero]; exact OwnP.nil _ _ _, by rw [List.take_zero]; exact OwnP.nil _ _ _, fun j hj => (by cases hj), World.grownBy.refl _ _⟩
  case round =>
    obtain ⟨k, rfl, hk, hA, hC, hD, hg⟩ := hrel
    have HA := Lib.hid hA
    have HC := Lib.hid hC
    have HD := Lib.hid hD
    have HG := Lib.hid hg
    have hsz := hg.size
    have HRr := Lib.hid (HR.out.grown hg (by simp))
    obtain ⟨c0, c1, c2, c3⟩ := HRr.out.facts
    by_cases hlt : k < l.length
    · have h0 : l ≠ [] := fun e => by rw [e] at hlt; simp at hlt
      obtain ⟨lb, lo, lc, e, hlb⟩ := HO.out.rd.form h0
      simp only [Value.slice.injEq, true_and] at e
      obtain ⟨rfl, rfl⟩ := e
      have HLr := Lib.hid (HO.out.rd.kept (grownBy_none hg) (fun j hj => by simp) (row := none))
      obtain ⟨q0, q1, q2⟩ := HLr.out.cells k hlt
      have hi1 : (k : Int) < (l.length : Int) := by omega
      have hi2 : (0 : Int) ≤ (k : Int) := by omega
      have hw1 : IntKind.i64.wrap ((k : Int) + 1) = (k : Int) + 1 := wraps_i64' _ (by omega) (by omega)
      have hmem : l.getD k default ∈ l := by rw [List.getD_eq_getElem?_getD, List.getElem?_eq_getElem hlt]; exact List.getElem_mem hlt
      have TF := Lib.hid (take_filter F hlt)
      have TG := Lib.hid (take_filter (fun p => !F p) hlt)
      have LA := take_flen F (l := l) k hl
      have LC := take_flen (fun p => !F p) (l := l) k hl
      have CALL := Lib.hid (rlost_any (l.getD k default) rb (.slice (some ⟨lb, lo, none⟩) l.length vc) big last time now wait wr (HN.out _ hmem).1 (HN.out _ hmem).2 hbig hnow HRr.out)
      rw [hF] at CALL
      generalize l.getD k default = x at q0 q1 q2 TF TG CALL
      obtain ⟨x0, x1, x2⟩ := x
      simp only at q0 q1 q2 TF TG CALL
      clear hA hC hD h0 hmem
      cases hf : F ⟨x0, x1, x2⟩
      all_goals
        rw [hf] at TF TG CALL
        simp only [Bool.not_true, Bool.not_false, if_true, Bool.false_eq_true, if_false, List.append_nil] at TF TG
        clear hf
      · go_wp2_with (first
          | (go_at_call 39; refine CALL.out.mono ?_; rintro e w2 ⟨rfl, hb2⟩
             have HB2 := Lib.hid (grownBy_of_below (row := none) hb2)
             have HG2 := Lib.hid (HG.out.andThen HB2.out (by simp))
             have HR2 := Lib.hid (HR.out.grown HG2.out (by simp))
             obtain ⟨y0, y1, y2, y3⟩ := HR2.out.facts
             have HL2 := Lib.hid (HLr.out.kept HB2.out (fun j hj => by simp))
             have p0 : w2.cell? ⟨lb, lo + k * 3, none⟩ = some (.int .i64 x0) := HB2.out.cell q0 (by simp)
             have p1 : w2.cell? ⟨lb, lo + k * 3 + 1, none⟩ = some (.int .i64 x1) := HB2.out.cell q1 (by simp)
             have p2 : w2.cell? ⟨lb, lo + k * 3 + 2, none⟩ = some (.int .i64 x2) := HB2.out.cell q2 (by simp)
             have HA2 := Lib.hid (HA.out.kept HB2.out (by simp))
             have HC2 := Lib.hid (HC.out.kept HB2.out (by simp))
             clear hb2 q0 q1 q2 c0 c1 c2 c3)
          | (at_builtin; refine wpList_append_pkR_at _ rfl _ _ rfl w.heap.size u8 ((l.take k).filter (fun p => !F p)) rfl (HC2.out.kept (grownBy_of_below (row := none) (below_one w2 _)) (by simp)) w2.heap.size ⟨x0, x1, x2⟩ rfl (RdP.built w2 ⟨x0, x1, x2⟩ _) (by omega) (by have := HG2.out.size; simp; omega) ?_; intro v' w6 hO6 hg6 hloc))
        have b5 := grownBy_of_below (row := none) (below_one w2 (.cells #[.int .i64 x0, .int .i64 x1, .int .i64 x2] 67))
        have hlow : ∀ j, u8.ownBlock = some j → w.heap.size ≤ j := HC2.out.blk
        have h5 := HG2.out.andThen b5 (by simp)
        rw [← TG.out] at hO6
        refine ⟨⟨k + 1, by go_num, hlt, ?_, hO6, fun j hj hj2 => ?_, h5.andThen hg6 (fun j hj => .inl (hlow j hj))⟩, by simp [intOf, hw1]; omega⟩
        · rw [TF.out]
          exact (HA2.out.kept b5 (by simp)).kept hg6 (fun j hj e => HD.out j hj e)
        · rcases hloc with h | h
          · exact HD.out j hj (h.symm.trans hj2)
          · have := HA2.out.blt j hj
            rw [hj2] at h; simp at h; omega
      · go_wp2_with (first
          | (go_at_call 39; refine CALL.out.mono ?_; rintro e w2 ⟨rfl, hb2⟩
             have HB2 := Lib.hid (grownBy_of_below (row := none) hb2)
             have HG2 := Lib.hid (HG.out.andThen HB2.out (by simp))
             have HR2 := Lib.hid (HR.out.grown HG2.out (by simp))
             obtain ⟨y0, y1, y2, y3⟩ := HR2.out.facts
             have HL2 := Lib.hid (HLr.out.kept HB2.out (fun j hj => by simp))
             have p0 : w2.cell? ⟨lb, lo + k * 3, none⟩ = some (.int .i64 x0) := HB2.out.cell q0 (by simp)
             have p1 : w2.cell? ⟨lb, lo + k * 3 + 1, none⟩ = some (.int .i64 x1) := HB2.out.cell q1 (by simp)
             have p2 : w2.cell? ⟨lb, lo + k * 3 + 2, none⟩ = some (.int .i64 x2) := HB2.out.cell q2 (by simp)
             have HA2 := Lib.hid (HA.out.kept HB2.out (by simp))
             have HC2 := Lib.hid (HC.out.kept HB2.out (by simp))
             clear hb2 q0 q1 q2 c0 c1 c2 c3)
          | (at_builtin; refine wpList_append_pkR_at _ rfl _ _ rfl w.heap.size u7 ((l.take k).filter F) rfl (HA2.out.kept (grownBy_of_below (row := none) (below_one w2 _)) (by simp)) w2.heap.size ⟨x0, x1, x2⟩ rfl (RdP.built w2 ⟨x0, x1, x2⟩ _) (by omega) (by have := HG2.out.size; simp; omega) ?_; intro v' w6 hO6 hg6 hloc))
        have b5 := grownBy_of_below (row := none) (below_one w2 (.cells #[.int .i64 x0, .int .i64 x1, .int .i64 x2] 67))
        have hlow : ∀ j, u7.ownBlock = some j → w.heap.size ≤ j := HA2.out.blk
        have h5 := HG2.out.andThen b5 (by simp)
        rw [← TF.out] at hO6
        refine ⟨⟨k + 1, by go_num, hlt, hO6, ?_, fun j hj hj2 => ?_, h5.andThen hg6 (fun j hj => .inl (hlow j hj))⟩, by simp [intOf, hw1]; omega⟩
        · rw [TG.out]
          exact (HC2.out.kept b5 (by simp)).kept hg6 (fun j hj e => HD.out j e hj)
        · rcases hloc with h | h
          · exact HD.out j (h.symm.trans hj) hj2
          · have := HC2.out.blt j hj2
            rw [hj] at h; simp at h; omega
    · have hi1 : ¬ ((k : Int) < (l.length : Int)) := by omega
      have hkl : k = l.length := by omega
      have HT : Hid (l.take k = l) := by show _ = _; rw [hkl, List.take_length]
      rw [HT.out] at HA HC
      obtain ⟨a8, n8, c8, rfl⟩ : ∃ a8 n8 c8, u8 = .slice a8 n8 c8 := by
        obtain ⟨a2, c2, e2, _⟩ := hC.slice
        exact ⟨_, _, _, e2⟩
      obtain ⟨z0, z1, z2, z3⟩ := HRr.out.free
      clear hkl hA hC hD
      go_wp2
      go_ret
      have ks := keep_set rb 0 wr (.slice a8 n8 c8)
      have nb : ∀ {T : TypeId} {v : Value} {l : List Pk}, OwnP T wr w.heap.size v l → OwnP T (wr.setCell ⟨rb, 0, none⟩ (.slice a8 n8 c8)) w.heap.size v l := fun h => h.keep ks fun j hj hn => by
        have := h.blk j hj
        simp only [List.mem_singleton] at hn
        omega
      exact ⟨_, rfl, nb HA.out, ⟨_, HRr.out.set0 _, (nb HC.out).mono hBs⟩, (Keep.of_grown HG.out (fun j hj => by cases hj)).trans ks (fun i hi => .inl hi)⟩
/-- what the document's Ack hands back, and what it leaves -/
def RAcks (rb B : Nat) (r : Lg × List Pk × List Pk × Int) (w : World) (e : Ending) (w' : World) : Prop :=
  ∃ v u, e = .returned (.tuple #[v, u, .int .i64 r.2.2.2]) ∧ OwnP 67 w' w.heap.size v r.2.1 ∧ OwnP 67 w' w.heap.size u r.2.2.1 ∧ RDoes rb B r.1 w w'

theorem ack_split2 {ss : List (Int × Int)} {now wait : Int} (h : ackB ss now wait = false) : rightB ss = false ∨ (rightB ss = true ∧ ss = []) ∨ (rightB ss = true ∧ ss ≠ [] ∧ waitsB now wait = false) := by
  unfold ackB at h
  cases h1 : rightB ss
  · exact .inl rfl
  by_cases h0 : ss = []
  · exact .inr (.inl ⟨rfl, h0⟩)
  rw [decide_eq_true h0, Bool.true_and, h1, Bool.true_and] at h
  exact .inr (.inr ⟨rfl, h0, h⟩)
theorem kept_below {S : List Nat} {w w' : World} (h : Below w.heap.size w w') : Keep S w w' := Keep.of_below h

set_option maxRecDepth 100000 in
set_option maxHeartbeats 3200000 in
theorem rack_bad (rb B : Nat) (q : Lg) (v : Value) (ss : List (Int × Int)) (now wait : Int) (w : World) (hL : RLed rb B q w) (hBs : B ≤ w.heap.size) (hB : rb < B) (hr : RdS w v ss) (hb : ackB ss now wait = false) :
    Calls Try.prog 14 #[.pointer (some ⟨rb, 0, none⟩), v, .int .i64 now, .int .i64 wait] w (RAcks rb B (q, [], [], 1) w) := by
  have HL := Lib.hid hL
  have HS := Lib.hid hr
  obtain ⟨sa, sc, rfl, _, _⟩ := hr.isSlice
  have keepL : Hid (∀ w2, Below w.heap.size w w2 → RLed rb B q w2) := fun w2 h => HL.out.keep (Keep.of_below (S := []) h) (by simp) (fun i hi => by cases hi)
  have hsp := ack_split2 hb
  clear hL hr hb
  rcases hsp with h1 | ⟨h1, h0⟩ | ⟨h1, h0, h2⟩
  · have H1 := Lib.hid h1
    clear h1
    go_enter Try.func14, Try.ntmps14
    go_wp2_with (go_at_call 35; refine (rright_any _ ss _ HS.out).mono ?_; rw [H1.out]; rintro e w2 ⟨rfl, hb2⟩)
    go_ret3
    exact ⟨_, _, rfl, OwnP.nil _ _ _, OwnP.nil _ _ _, keepL.out w2 hb2, Keep.of_below hb2⟩
  · have H1 := Lib.hid h1
    have h0' : ss.length = 0 := by rw [h0]; rfl
    have e0 : ((ss.length : Int) == 0) = true := by simp [h0']
    have e0' : (ss.length == 0) = true := by simp [h0']
    clear h1 h0 h0'
    go_enter Try.func14, Try.ntmps14
    go_wp2_with (go_at_call 35; refine (rright_any _ ss _ HS.out).mono ?_; rw [H1.out]; rintro e w2 ⟨rfl, hb2⟩)
    go_ret3
    exact ⟨_, _, rfl, OwnP.nil _ _ _, OwnP.nil _ _ _, keepL.out w2 hb2, Keep.of_below hb2⟩
  · have H1 := Lib.hid h1
    have H2 := Lib.hid h2
    have hlp := List.length_pos_iff.2 h0
    have e0 : ((ss.length : Int) == 0) = false := by simp; omega
    have e0' : (ss.length == 0) = false := by simp; omega
    clear h1 h0 h2 hlp
    go_enter Try.func14, Try.ntmps14
    go_wp2_with (first
      | (go_at_call 35; refine (rright_any _ ss _ HS.out).mono ?_; rw [H1.out]; rintro e w2 ⟨rfl, hb2⟩; have HB2 := Lib.hid hb2; clear hb2)
      | (go_at_call 36; refine (waits_b _ _ _ H2.out _).mono ?_; rintro e w3 ⟨rfl, h⟩; obtain rfl : w2 = w3 := h.symm))
    go_ret3
    exact ⟨_, _, rfl, OwnP.nil _ _ _, OwnP.nil _ _ _, keepL.out w2 HB2.out, Keep.of_below HB2.out⟩

set_option maxRecDepth 100000 in
set_option maxHeartbeats 3200000 in
theorem rack_any (rb B : Nat) (q : Lg) (v : Value) (ss : List (Int × Int)) (now wait : Int) (w : World) (hq : Ok q) (hB : rb < B) (hBs : B ≤ w.heap.size) (hL : RLed rb B q w) (hr : RdS w v ss) :
    Calls Try.prog 14 #[.pointer (some ⟨rb, 0, none⟩), v, .int .i64 now, .int .i64 wait] w (RAcks rb B (ackE q ss now wait) w) := by
  cases hb : ackB ss now wait
  · have e : ackE q ss now wait = (q, [], [], 1) := by unfold ackE; rw [if_pos hb]
    rw [e]
    exact rack_bad rb B q v ss now wait w hL hBs hB hr hb
  have hw : (ss ≠ [] ∧ rightB ss = true) ∧ waitsB now wait = true := by simpa only [ackB, Bool.and_eq_true, decide_eq_true_eq] using hb
  obtain ⟨⟨h0, h1⟩, h2⟩ := hw
  obtain ⟨sb, so, sc, rfl, hsb⟩ := hr.form h0
  have hR : ss.length ≤ 256 ∧ riseB 0 ss = true := by simpa [rightB] using h1
  have hlp := List.length_pos_iff.2 h0
  have hl2 := hR.1
  have HLed := Lib.hid hL
  have HS0 := Lib.hid hr
  have e0 : ((ss.length : Int) == 0) = false := by simp; omega
  have e0' : (ss.length == 0) = false := by simp; omega
  have H1 := Lib.hid h1
  have H2 := Lib.hid h2
  have hi3 : (0 : Int) ≤ (ss.length : Int) - 1 := by omega
  have hi4 : (ss.length : Int) - 1 < (ss.length : Int) := by omega
  have hi5 : ((ss.length : Int) - 1).toNat = ss.length - 1 := by omega
  have hw3 : IntKind.i64.wrap ((ss.length : Int) - 1) = (ss.length : Int) - 1 := wraps_i64' _ (by omega) (by omega)
  have HT : Hid (∀ W, RdS W (.slice (some ⟨sb, so, none⟩) ss.length sc) ss → W.cell? ⟨sb, so + (ss.length - 1) * 2 + 1, none⟩ = some (.int .i64 (topI ss))) := fun W h => (h.cells rfl (ss.length - 1) (by omega)).2
  by_cases h4 : q.last < topI ss
  · have e : ackE q ss now wait = (q, [], [], 14) := by unfold ackE; rw [if_neg (by rw [hb]; decide), if_pos h4]
    rw [e]
    generalize topI ss = top at HT h4
    obtain ⟨l, last, time, big⟩ := q
    simp only at h4
    have e4 : decide (top > last) = true := decide_eq_true h4
    clear e hL hr hb h0 h1 h2 hR h4 hq
    go_enter Try.func14, Try.ntmps14
    go_wp2_with (first
      | (go_at_call 35; refine (rright_any _ ss _ HS0.out).mono ?_; rw [H1.out]; rintro e w2 ⟨rfl, hb2⟩
         have HB2 := Lib.hid hb2
         have x5 := HT.out w2 (HS0.out.below hb2)
         obtain ⟨v2, hR2, hO2⟩ := HLed.out.keep (Keep.of_below (S := []) hb2) (by simp) (fun i hi => by cases hi)
         obtain ⟨y0, y1, y2, y3⟩ := hR2.facts
         clear hb2 hR2 hO2)
      | (go_at_call 36; refine (waits_b _ _ _ H2.out _).mono ?_; rintro e w3 ⟨rfl, h⟩; obtain rfl : w2 = w3 := h.symm))
    go_ret3
    exact ⟨_, _, rfl, OwnP.nil _ _ _, OwnP.nil _ _ _, HLed.out.keep (Keep.of_below (S := []) HB2.out) (by simp) (fun i hi => by cases hi), Keep.of_below HB2.out⟩
  have hcq := came_ok hq hR.2 h0 (by omega)
  have e : ackE q ss now wait = ((loseE (cameQ q ss) now wait).1, q.l.filter (fun p => inB p.n ss), (loseE (cameQ q ss) now wait).2, 0) := by unfold ackE; rw [if_neg (by rw [hb]; decide), if_neg h4]
  rw [e]
  obtain ⟨F, hF0⟩ : ∃ F, F = fun p : Pk => inB p.n ss := ⟨_, rfl⟩
  have HLose : Hid (∀ W, B ≤ W.heap.size → RLed rb B ⟨q.l.filter (fun p => !F p), q.last, q.time, max q.big (topI ss)⟩ W →
      Calls Try.prog 18 #[.pointer (some ⟨rb, 0, none⟩), .int .i64 now, .int .i64 wait] W fun e w' => ∃ v, e = .returned v ∧ OwnP 67 w' W.heap.size v (loseE (cameQ q ss) now wait).2 ∧ RDoes rb B (loseE (cameQ q ss) now wait).1 W w') := by
    rw [hF0]
    exact fun W h1 h2 => rlose_any rb B (cameQ q ss) now wait W hcq hB h1 h2
  rw [← hF0]
  have hF := Lib.hid hF0
  clear hF0 e
  generalize loseE (cameQ q ss) now wait = R at HLose ⊢
  generalize topI ss = top at HT h4 HLose
  have hl := hq.few
  obtain ⟨v, hRr, hO⟩ := hL
  have HR0 := Lib.hid hRr
  have HO0 := Lib.hid hO
  obtain ⟨va, vc, rfl, _, _⟩ := hO.slice
  obtain ⟨l, last, time, big⟩ := q
  simp only at h4 HLose hl HR0 HO0 ⊢
  have e4 : decide (top > last) = false := decide_eq_false h4
  have hrb := hRr.lt
  clear hr hb h0 h1 h2 hR h4 hq hcq hRr hO HLed
  go_enter Try.func14, Try.ntmps14
  go_wp2_with (first
    | (go_at_call 35; refine (rright_any _ ss _ HS0.out).mono ?_; rw [H1.out]; rintro e w2 ⟨rfl, hb2⟩
       have HB2 := Lib.hid (grownBy_of_below (row := none) hb2)
       have x5 := HT.out w2 (HS0.out.below hb2)
       obtain ⟨y0, y1, y2, y3⟩ := (HR0.out.below hb2).facts
       clear hb2)
    | (go_at_call 36; refine (waits_b _ _ _ H2.out _).mono ?_; rintro e w3 ⟨rfl, h⟩; obtain rfl : w2 = w3 := h.symm))
  have HR := HR0
  have HO := HO0
  have HS := HS0
  clear y0 y1 y2 y3 x5
  go_loopw [12, 13, 14] (fun ga gc i wr => ∃ (k : Nat), i = .int .i64 k ∧ k ≤ l.length ∧ OwnP 67 wr w.heap.size ga ((l.take k).filter F) ∧ OwnP 67 wr w.heap.size gc ((l.take k).filter fun p => !F p) ∧ (∀ j, ga.ownBlock = some j → gc.ownBlock ≠ some j) ∧ w.grownBy wr none) (fun _ _ i _ => l.length - (intOf i).toNat)
  case atStart => exact ⟨0, rfl, Nat.zero_le _, by rw [List.take_zero]; exact OwnP.nil _ _ _, by rw [List.take_zero]; exact OwnP.nil _ _ _, fun j hj => (by cases hj), HB2.out⟩
  case round =>
    obtain ⟨k, rfl, hk, hA, hC, hD, hg⟩ := hrel
    have HA := Lib.hid hA
    have HC := Lib.hid hC
    have HD := Lib.hid hD
    have HG := Lib.hid hg
    have hsz := hg.size
    have HRr := Lib.hid (HR.out.grown hg (by simp))
    obtain ⟨c0, c1, c2, c3⟩ := HRr.out.facts
    by_cases hlt : k < l.length
    · have h0 : l ≠ [] := fun e => by rw [e] at hlt; simp at hlt
      obtain ⟨lb, lo, lc, e, hlb⟩ := HO.out.rd.form h0
      simp only [Value.slice.injEq, true_and] at e
      obtain ⟨rfl, rfl⟩ := e
      have HLr := Lib.hid (HO.out.rd.kept (grownBy_none hg) (fun j hj => by simp) (row := none))
      obtain ⟨q0, q1, q2⟩ := HLr.out.cells k hlt
      have hi1 : (k : Int) < (l.length : Int) := by omega
      have hi2 : (0 : Int) ≤ (k : Int) := by omega
      have hw1 : IntKind.i64.wrap ((k : Int) + 1) = (k : Int) + 1 := wraps_i64' _ (by omega) (by omega)
      have hmem : l.getD k default ∈ l := by rw [List.getD_eq_getElem?_getD, List.getElem?_eq_getElem hlt]; exact List.getElem_mem hlt
      have TF := Lib.hid (take_filter F hlt)
      have TG := Lib.hid (take_filter (fun p => !F p) hlt)
      have LA := take_flen F (l := l) k hl
      have LC := take_flen (fun p => !F p) (l := l) k hl
      have CALL := Lib.hid (rhas_any (.slice (some ⟨sb, so, none⟩) ss.length sc) ss (l.getD k default).n wr (RdC.kept HS.out hg (fun j hj => by simp)))
      rw [H1.out, Bool.true_and, show inB (l.getD k default).n ss = F (l.getD k default) from by rw [hF.out]] at CALL
      generalize l.getD k default = x at q0 q1 q2 TF TG CALL
      obtain ⟨x0, x1, x2⟩ := x
      simp only at q0 q1 q2 TF TG CALL
      clear hA hC hD h0 hmem
      cases hf : F ⟨x0, x1, x2⟩
      all_goals
        rw [hf] at TF TG CALL
        simp only [Bool.not_true, Bool.not_false, if_true, Bool.false_eq_true, if_false, List.append_nil] at TF TG
        clear hf
      · go_wp2_with (first
          | (go_at_call 37; refine CALL.out.mono ?_; rintro e w2 ⟨rfl, hb2⟩
             have HB2 := Lib.hid (grownBy_of_below (row := none) hb2)
             have HG2 := Lib.hid (HG.out.andThen HB2.out (by simp))
             have HR2 := Lib.hid (HR.out.grown HG2.out (by simp))
             obtain ⟨y0, y1, y2, y3⟩ := HR2.out.facts
             have HL2 := Lib.hid (HLr.out.kept HB2.out (fun j hj => by simp))
             have p0 : w2.cell? ⟨lb, lo + k * 3, none⟩ = some (.int .i64 x0) := HB2.out.cell q0 (by simp)
             have p1 : w2.cell? ⟨lb, lo + k * 3 + 1, none⟩ = some (.int .i64 x1) := HB2.out.cell q1 (by simp)
             have p2 : w2.cell? ⟨lb, lo + k * 3 + 2, none⟩ = some (.int .i64 x2) := HB2.out.cell q2 (by simp)
             have HA2 := Lib.hid (HA.out.kept HB2.out (by simp))
             have HC2 := Lib.hid (HC.out.kept HB2.out (by simp))
             clear hb2 q0 q1 q2 c0 c1 c2 c3)
          | (at_builtin; refine wpList_append_pkR_at _ rfl _ _ rfl w.heap.size u13 ((l.take k).filter (fun p => !F p)) rfl (HC2.out.kept (grownBy_of_below (row := none) (below_one w2 _)) (by simp)) w2.heap.size ⟨x0, x1, x2⟩ rfl (RdP.built w2 ⟨x0, x1, x2⟩ _) (by omega) (by have := HG2.out.size; simp; omega) ?_; intro v' w6 hO6 hg6 hloc))
        have b5 := grownBy_of_below (row := none) (below_one w2 (.cells #[.int .i64 x0, .int .i64 x1, .int .i64 x2] 67))
        have hlow : ∀ j, u13.ownBlock = some j → w.heap.size ≤ j := HC2.out.blk
        have h5 := HG2.out.andThen b5 (by simp)
        rw [← TG.out] at hO6
        refine ⟨⟨k + 1, by go_num, hlt, ?_, hO6, fun j hj hj2 => ?_, h5.andThen hg6 (fun j hj => .inl (hlow j hj))⟩, by simp [intOf, hw1]; omega⟩
        · rw [TF.out]
          exact (HA2.out.kept b5 (by simp)).kept hg6 (fun j hj e => HD.out j hj e)
        · rcases hloc with h | h
          · exact HD.out j hj (h.symm.trans hj2)
          · have := HA2.out.blt j hj
            rw [hj2] at h; simp at h; omega
      · go_wp2_with (first
          | (go_at_call 37; refine CALL.out.mono ?_; rintro e w2 ⟨rfl, hb2⟩
             have HB2 := Lib.hid (grownBy_of_below (row := none) hb2)
             have HG2 := Lib.hid (HG.out.andThen HB2.out (by simp))
             have HR2 := Lib.hid (HR.out.grown HG2.out (by simp))
             obtain ⟨y0, y1, y2, y3⟩ := HR2.out.facts
             have HL2 := Lib.hid (HLr.out.kept HB2.out (fun j hj => by simp))
             have p0 : w2.cell? ⟨lb, lo + k * 3, none⟩ = some (.int .i64 x0) := HB2.out.cell q0 (by simp)
             have p1 : w2.cell? ⟨lb, lo + k * 3 + 1, none⟩ = some (.int .i64 x1) := HB2.out.cell q1 (by simp)
             have p2 : w2.cell? ⟨lb, lo + k * 3 + 2, none⟩ = some (.int .i64 x2) := HB2.out.cell q2 (by simp)
             have HA2 := Lib.hid (HA.out.kept HB2.out (by simp))
             have HC2 := Lib.hid (HC.out.kept HB2.out (by simp))
             clear hb2 q0 q1 q2 c0 c1 c2 c3)
          | (at_builtin; refine wpList_append_pkR_at _ rfl _ _ rfl w.heap.size u12 ((l.take k).filter F) rfl (HA2.out.kept (grownBy_of_below (row := none) (below_one w2 _)) (by simp)) w2.heap.size ⟨x0, x1, x2⟩ rfl (RdP.built w2 ⟨x0, x1, x2⟩ _) (by omega) (by have := HG2.out.size; simp; omega) ?_; intro v' w6 hO6 hg6 hloc))
        have b5 := grownBy_of_below (row := none) (below_one w2 (.cells #[.int .i64 x0, .int .i64 x1, .int .i64 x2] 67))
        have hlow : ∀ j, u12.ownBlock = some j → w.heap.size ≤ j := HA2.out.blk
        have h5 := HG2.out.andThen b5 (by simp)
        rw [← TF.out] at hO6
        refine ⟨⟨k + 1, by go_num, hlt, hO6, ?_, fun j hj hj2 => ?_, h5.andThen hg6 (fun j hj => .inl (hlow j hj))⟩, by simp [intOf, hw1]; omega⟩
        · rw [TG.out]
          exact (HC2.out.kept b5 (by simp)).kept hg6 (fun j hj e => HD.out j e hj)
        · rcases hloc with h | h
          · exact HD.out j (h.symm.trans hj) hj2
          · have := HC2.out.blt j hj2
            rw [hj] at h; simp at h; omega
    · have hi1 : ¬ ((k : Int) < (l.length : Int)) := by omega
      have hkl : k = l.length := by omega
      have HT : Hid (l.take k = l) := by show _ = _; rw [hkl, List.take_length]
      rw [HT.out] at HA HC
      obtain ⟨a8, n8, c8, rfl⟩ : ∃ a8 n8 c8, u13 = .slice a8 n8 c8 := by
        obtain ⟨a2, c2, e2, _⟩ := hC.slice
        exact ⟨_, _, _, e2⟩
      obtain ⟨z0, z1, z2, z3⟩ := HRr.out.free
      clear hkl hA hC hD
      have ks := (keep_set rb 0 wr (.slice a8 n8 c8)).trans (keep_set rb 1 _ (.int .i64 (max big top))) (fun i hi => .inl hi)
      have HKs := Lib.hid ks
      have nb : Hid (∀ {T : TypeId} {v : Value} {l : List Pk}, OwnP T wr w.heap.size v l → OwnP T ((wr.setCell ⟨rb, 0, none⟩ (.slice a8 n8 c8)).setCell ⟨rb, 1, none⟩ (.int .i64 (max big top))) w.heap.size v l) := fun h => h.keep ks fun j hj hn => by
        have := h.blk j hj
        simp only [List.mem_singleton] at hn
        omega
      have HW5 : Hid (B ≤ ((wr.setCell ⟨rb, 0, none⟩ (.slice a8 n8 c8)).setCell ⟨rb, 1, none⟩ (.int .i64 (max big top))).heap.size) := by
        have := ks.size
        show B ≤ _; omega
      have HLL := Lib.hid (HLose.out _ HW5.out ⟨_, (HRr.out.set0 (.slice a8 n8 c8)).set1 (max big top), (nb.out HC.out).mono hBs⟩)
      clear ks
      go_wp2_with (go_at_call 18; refine HLL.out.mono ?_; rintro e w7 ⟨u7, rfl, hO7, hD7⟩)
      go_ret3
      have hsz5 := HKs.out.size
      have hA7 := (nb.out HA.out).keep hD7.2 (fun j hj hn => by
        have := HA.out.blk j hj
        simp only [List.mem_singleton] at hn
        omega)
      exact ⟨_, u7, rfl, hA7, hO7.mono (by omega), hD7.1, ((Keep.of_grown HG.out (fun j hj => by cases hj)).trans HKs.out (fun i hi => .inl hi)).trans hD7.2 (fun i hi => .inl hi)⟩
end Go.Proofs.Ytobalbaieakcmaa
