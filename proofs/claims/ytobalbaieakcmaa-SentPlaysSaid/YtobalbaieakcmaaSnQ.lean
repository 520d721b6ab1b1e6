/- The law Plays. -/
import Derived.Test.YtobalbaieakcmaaSnB8
import Derived.Deep.RegionHeld3
set_option linter.unusedSimpArgs false
set_option linter.unusedVariables false
namespace Go.Proofs.Ytobalbaieakcmaa
open Go.RowKit Go.Maps

/-- the document's ledger beside ours: its time is 0 where nothing was sent -/
def rq (q : Lg) : Lg := ⟨q.l, q.last, if q.time < 0 then 0 else q.time, q.big⟩
theorem rq_sent {q : Lg} (hq : Ok q) (n t s : Int) : sentE (rq q) n t s = (rq (sentE q n t s).1, (sentE q n t s).2) := by
  unfold sentE
  by_cases h1 : sendB n t s = false
  · rw [if_pos h1, if_pos h1]
  rw [if_neg h1, if_neg h1]
  have ht : 0 ≤ t := by
    have : (withinB n 0 4611686018427387903 = true ∧ nowB t = true) ∧ withinB s 1 1200 = true := by simpa only [sendB, Bool.not_eq_false, Bool.and_eq_true] using h1
    exact (within_iff.1 this.1.2).1
  have htm := hq.time
  have e : ((rq q).last = q.last) ∧ (t < (rq q).time ↔ t < q.time) := by
    refine ⟨rfl, ?_⟩
    unfold rq
    simp only
    split <;> omega
  by_cases h2 : n ≤ q.last ∨ t < q.time
  · rw [if_pos h2, if_pos (by rw [e.1, e.2]; exact h2)]
  rw [if_neg h2, if_neg (by rw [e.1, e.2]; exact h2)]
  by_cases h3 : 512 ≤ q.l.length
  · rw [if_pos h3, if_pos (show 512 ≤ (rq q).l.length from h3)]
  rw [if_neg h3, if_neg (show ¬ 512 ≤ (rq q).l.length from h3)]
  unfold rq
  simp only [Prod.mk.injEq, and_true, Lg.mk.injEq, true_and]
  rw [if_neg (by omega)]
theorem rq_lose (q : Lg) (now wait : Int) : loseE (rq q) now wait = (rq (loseE q now wait).1, (loseE q now wait).2) := by
  unfold loseE
  cases waitsB now wait <;> rfl
theorem rq_ack (q : Lg) (ss : List (Int × Int)) (now wait : Int) : ackE (rq q) ss now wait = (rq (ackE q ss now wait).1, (ackE q ss now wait).2) := by
  unfold ackE
  by_cases h1 : ackB ss now wait = false
  · rw [if_pos h1, if_pos h1]
  rw [if_neg h1, if_neg h1]
  by_cases h2 : q.last < topI ss
  · rw [if_pos h2, if_pos (show (rq q).last < topI ss from h2)]
  rw [if_neg h2, if_neg (show ¬ (rq q).last < topI ss from h2), show cameQ (rq q) ss = rq (cameQ q ss) from rfl, rq_lose]
  rfl
theorem rq_drop (q : Lg) : dropE (rq q) = (rq (dropE q).1, (dropE q).2) := rfl
theorem rq_due (q : Lg) (wait : Int) : dueE (rq q) wait = dueE q wait := rfl
theorem rq_ok {q : Lg} (hq : Ok q) : Ok (rq q) := by
  obtain ⟨hu, he, hl, ht, hb, hf⟩ := hq
  refine ⟨hu, he, hl, ?_, hb, hf⟩
  unfold rq
  simp only
  split <;> omega
theorem rsent_q (rb B : Nat) (q : Lg) (n t s : Int) (w : World) (hq : Ok q) (hB : rb < B) (hBs : B ≤ w.heap.size) (hL : RLed rb B (rq q) w) :
    Calls Try.prog 12 #[.pointer (some ⟨rb, 0, none⟩), .int .i64 n, .int .i64 t, .int .i64 s] w fun e w' => e = .returned (.int .i64 (sentE q n t s).2) ∧ RDoes rb B (rq (sentE q n t s).1) w w' := by
  have := rsent_any rb B (rq q) n t s w hq.few hB hBs hL
  rwa [rq_sent hq] at this
theorem rack_q (rb B : Nat) (q : Lg) (v : Value) (ss : List (Int × Int)) (now wait : Int) (w : World) (hq : Ok q) (hB : rb < B) (hBs : B ≤ w.heap.size) (hL : RLed rb B (rq q) w) (hr : RdS w v ss) :
    Calls Try.prog 14 #[.pointer (some ⟨rb, 0, none⟩), v, .int .i64 now, .int .i64 wait] w (RAcks rb B (rq (ackE q ss now wait).1, (ackE q ss now wait).2) w) := by
  have := rack_any rb B (rq q) v ss now wait w (rq_ok hq) hB hBs hL hr
  rwa [rq_ack] at this
theorem rlose_q (rb B : Nat) (q : Lg) (now wait : Int) (w : World) (hq : Ok q) (hB : rb < B) (hBs : B ≤ w.heap.size) (hL : RLed rb B (rq q) w) :
    Calls Try.prog 18 #[.pointer (some ⟨rb, 0, none⟩), .int .i64 now, .int .i64 wait] w fun e w' => ∃ v, e = .returned v ∧ OwnP 67 w' w.heap.size v (loseE q now wait).2 ∧ RDoes rb B (rq (loseE q now wait).1) w w' := by
  have := rlose_any rb B (rq q) now wait w (rq_ok hq) hB hBs hL
  rwa [rq_lose] at this
/-- what was sent before a ledger's list stands still where other blocks turn -/
theorem RLed.size {rb B : Nat} {q : Lg} {w : World} (h : RLed rb B q w) : rb < w.heap.size := by
  obtain ⟨v, h1, _⟩ := h
  exact h1.lt

theorem cell_of {w : World} {b : Nat} {cs : Array Value} {T : TypeId} (h : w.heap[b]? = some (.cells cs T (0, 0))) (j : Nat) {v : Value} (hj : j < cs.size) (hv : cs[j] = v) : w.cell? ⟨b, j, none⟩ = some v := by
  simp [World.cell?, h, hv, hj]
theorem Led.drew {b mb : Nat} {q : Lg} {w : World} (h : Led b mb q w) : Led b mb q w.drew := ⟨h.row, h.map⟩
theorem RLed.drew {rb B : Nat} {q : Lg} {w : World} (h : RLed rb B q w) : RLed rb B q w.drew := h
theorem ack_few {q : Lg} (h : Ok q) (ss : List (Int × Int)) (now wait : Int) : (ackE q ss now wait).2.1.length ≤ 512 ∧ (ackE q ss now wait).2.2.1.length ≤ 512 := ack_lens h ss now wait
set_option maxRecDepth 100000 in
set_option maxHeartbeats 12800000 in
theorem plays_some (b o c : Nat) (l : List ActV) (w : World) (hR : RdA w (.slice (some ⟨b, o, none⟩) l.length c) l) (hb : b < w.heap.size) (hc : l.length ≤ c) (hm : c ≤ maxLen) (hok : ∀ x ∈ l, ActOk w x) : Calls Try.prog 3 #[.slice (some ⟨b, o, none⟩) l.length c] w (Yes w) := by
  unfold maxLen at hm
  have AT := Lib.hid (fun k (hk : k < l.length) W hW => hR.at hb k hk W hW)
  have OK := Lib.hid (fun k (hk : k < l.length) => hok _ (List.getElem_mem hk))
  clear hR hok hb
  go_enter Try.func3, Try.ntmps3
  go_upto_region 3 with (first
    | (go_at_call 8; refine (new_any _).mono ?_; rintro e w1 ⟨rfl, hL1, hb1⟩
       have HL1 := Lib.hid hL1
       have HB1 := Lib.hid hb1
       clear hL1 hb1)
    | (go_at_call 9; refine (rnew_any _).mono ?_; rintro e w2 ⟨rfl, hb2⟩
       have HL2 := Lib.hid (HL1.out.below hb2)
       have HB2 := Lib.hid (HB1.out.trans (hb2.mono HB1.out.size))
       clear hb2))
  have b3 := below_one w2 (.cells #[.slice none 0 0, .int .i64 (-1), .int .i64 (-1), .int .i64 0] 27)
  have HL3 := Lib.hid (HL2.out.below b3)
  have HB3 := Lib.hid (HB2.out.trans (b3.mono HB2.out.size))
  have HF3 : Hid (RLed w2.heap.size (w2.heap.size + 1) (rq fresh) (w2.alloc (.cells #[.slice none 0 0, .int .i64 (-1), .int .i64 (-1), .int .i64 0] 27))) := ⟨.slice none 0 0, ⟨27, by show (w2.heap.push _)[w2.heap.size]? = _; rw [Array.getElem?_push, if_pos rfl]; rfl⟩, OwnP.nil _ _ _⟩
  have hrb : w.heap.size + 1 < w2.heap.size := HL2.out.row.lt
  clear b3 HL1 HB1 HL2 HB2
  generalize w2.alloc (.cells #[.slice none 0 0, .int .i64 (-1), .int .i64 (-1), .int .i64 0] 27) = w3 at HL3 HB3 HF3 ⊢
  generalize w2.heap.size = rb at HF3 hrb ⊢
  go_wp2_with (first
    | (go_at_call 10; refine (alive_any _).mono ?_; rintro e w4 ⟨rfl, hb4⟩
       have HL4 := Lib.hid (HL3.out.below hb4)
       have HF4 := Lib.hid (HF3.out.keep (Keep.of_below (S := []) hb4) (by simp) (fun i hi => by cases hi))
       have HB4 := Lib.hid (HB3.out.trans (hb4.mono HB3.out.size))
       clear hb4))
  go_loopw [24] (fun i wr => ∃ (k : Nat) (q : Lg), i = .int .i64 k ∧ k ≤ l.length ∧ Ok q ∧ Led (w.heap.size + 1) w.heap.size q wr ∧ RLed rb (rb + 1) (rq q) wr ∧ Below w.heap.size w wr) (fun i _ => l.length - (intOf i).toNat)
  case atStart => exact ⟨0, fresh, rfl, Nat.zero_le _, fresh_ok, HL4.out, HF4.out, HB4.out⟩
  case round =>
    obtain ⟨k, q, rfl, hk, hq, hL, hF, hbel⟩ := hrel
    have HL := Lib.hid hL
    have HF := Lib.hid hF
    have HB := Lib.hid hbel
    have HQ := Lib.hid hq
    have hz := hbel.size
    have hrq := hF.size
    by_cases hlt : k < l.length
    · clear hL hF hbel hq
      have hi1 : (k : Int) < (l.length : Int) := by omega
      have hw1 : IntKind.i64.wrap ((k : Int) + 1) = (k : Int) + 1 := wraps_i64' _ (by omega) (by omega)
      obtain ⟨a0, a1, a2, a3, a4, a5⟩ := AT.out k hlt wr HB.out
      have hcc := OK.out k hlt
      generalize l[k] = cc at a0 a1 a2 a3 a4 a5 hcc
      obtain ⟨kk, n, now, size, wt, sp, ss⟩ := cc
      obtain ⟨hkk, hsp⟩ := hcc
      simp only at a0 a1 a2 a3 a4 a5 hkk hsp
      obtain ⟨sa, sc, rfl, _, _⟩ := hsp.isSlice
      have b6 := below_one wr (.cells #[.int .u8 kk, .int .i64 n, .int .i64 now, .int .i64 size, .int .i64 wt, .slice sa ss.length sc] 32)
      have HB6 := Lib.hid (HB.out.trans (b6.mono HB.out.size))
      have HL6 := Lib.hid (HL.out.below b6)
      have HS6 := Lib.hid (hsp.below HB6.out)
      have CB : Hid ((wr.alloc (.cells #[.int .u8 kk, .int .i64 n, .int .i64 now, .int .i64 size, .int .i64 wt, .slice sa ss.length sc] 32)).heap[wr.heap.size]? = some (.cells #[.int .u8 kk, .int .i64 n, .int .i64 now, .int .i64 size, .int .i64 wt, .slice sa ss.length sc] 32 (0, 0))) := by
        show (wr.heap.push _)[wr.heap.size]? = _; simp
      have HMod : Hid (kk.tmod 5 = kk % 5) := Int.tmod_eq_emod_of_nonneg hkk.1
      have hways := mod_ways hkk.1
      have HF6 := Lib.hid (HF.out.keep (Keep.of_below (S := []) b6) (by simp) (fun i hi => by cases hi))
      have HS0 := Lib.hid hsp
      clear hkk
      clear hsp b6
      go_upto_region 8 with fail
      generalize wr.alloc (.cells #[.int .u8 kk, .int .i64 n, .int .i64 now, .int .i64 size, .int .i64 wt, .slice sa ss.length sc] 32) = w6 at HB6 HL6 HS6 CB HF6 ⊢
      have c0 : w6.cell? ⟨wr.heap.size, 0, none⟩ = some (.int .u8 kk) := by simp [World.cell?, CB.out]
      have c1 : w6.cell? ⟨wr.heap.size, 1, none⟩ = some (.int .i64 n) := by simp [World.cell?, CB.out]
      have c2 : w6.cell? ⟨wr.heap.size, 2, none⟩ = some (.int .i64 now) := by simp [World.cell?, CB.out]
      have c3 : w6.cell? ⟨wr.heap.size, 3, none⟩ = some (.int .i64 size) := by simp [World.cell?, CB.out]
      have c4 : w6.cell? ⟨wr.heap.size, 4, none⟩ = some (.int .i64 wt) := by simp [World.cell?, CB.out]
      have c5 : w6.cell? ⟨wr.heap.size, 5, none⟩ = some (.slice sa ss.length sc) := by simp [World.cell?, CB.out]
      clear a0 a1 a2 a3 a4 a5
      have HL := HL6
      have HF := HF6
      have HB := HB6
      clear HS6 HL6 HF6 HB6
      rcases hways with hk5 | hk5 | hk5 | hk5 | hk5
      · have m0 : (kk.tmod 5 == 0) = true := by rw [HMod.out, hk5]; rfl
        have hok' := sent_ok HQ.out n now size
        have C1 := Lib.hid (fun W hL => sent_any (w.heap.size + 1) w.heap.size q n now size W HQ.out hL)
        have C2 := Lib.hid (fun W hB hF => rsent_q rb (rb + 1) q n now size W HQ.out (Nat.lt_succ_self _) hB hF)
        generalize sentE q n now size = R at hok' C1 C2
        obtain ⟨q', e0⟩ := R
        simp only at hok' C1 C2
        have HOk := Lib.hid hok'
        have ee : (e0 == e0) = true := by simp
        clear hok' hk5
        go_wp2_with fail
        have HL := Lib.hid (Led.drew HL.out)
        have HF := Lib.hid (RLed.drew HF.out)
        have HB := Lib.hid (HB.out.drew)
        have CB : Hid (w6.drew.heap[wr.heap.size]? = some (.cells #[.int .u8 kk, .int .i64 n, .int .i64 now, .int .i64 size, .int .i64 wt, .slice sa ss.length sc] 32 (0, 0))) := CB.out
        have c1 := cell_of CB.out 1 (v := .int .i64 n) (by simp) rfl
        have c2 := cell_of CB.out 2 (v := .int .i64 now) (by simp) rfl
        have c3 := cell_of CB.out 3 (v := .int .i64 size) (by simp) rfl
        go_region_held3 (fun w' => w'.cell? ⟨wr.heap.size, 1, none⟩ = some (.int .i64 n) ∧ w'.cell? ⟨wr.heap.size, 2, none⟩ = some (.int .i64 now) ∧ w'.cell? ⟨wr.heap.size, 3, none⟩ = some (.int .i64 size))
            (first
              | (with_reducible exact ⟨c1, c2, c3⟩))
            (first
              | (go_at_call 11; refine (C1.out _ HL.out).mono ?_; rintro e wn ⟨rfl, hD⟩
                 have HF := Lib.hid (HF.out.keep hD.2 (by simp; omega) (fun i hi => by simp at hi; omega))
                 have HB := Lib.hid (HB.out.trans (hD.2.to_below (fun i hi => by simp at hi; omega) HB.out.size))
                 have CB := Lib.hid ((hD.2.block wr.heap.size (Array.getElem?_eq_some_iff.1 CB.out).1 (by simp; omega)).trans CB.out)
                 have HL := Lib.hid hD.1
                 clear hD
                 have c1 := cell_of CB.out 1 (v := .int .i64 n) (by simp) rfl
                 have c2 := cell_of CB.out 2 (v := .int .i64 now) (by simp) rfl
                 have c3 := cell_of CB.out 3 (v := .int .i64 size) (by simp) rfl)
              | (go_at_call 12; refine (C2.out _ (by have := HF.out.size; omega) HF.out).mono ?_; rintro e wn ⟨rfl, hD⟩
                 have HL := Lib.hid (HL.out.keep hD.2 (by simp; omega) (by simp; omega))
                 have HB := Lib.hid (HB.out.trans (hD.2.to_below (fun i hi => by simp at hi; omega) HB.out.size))
                 have CB := Lib.hid ((hD.2.block wr.heap.size (Array.getElem?_eq_some_iff.1 CB.out).1 (by simp; omega)).trans CB.out)
                 have HF := Lib.hid hD.1
                 clear hD
                 have c1 := cell_of CB.out 1 (v := .int .i64 n) (by simp) rfl
                 have c2 := cell_of CB.out 2 (v := .int .i64 now) (by simp) rfl
                 have c3 := cell_of CB.out 3 (v := .int .i64 size) (by simp) rfl))
        all_goals
          go_wp2_with fail
          have HL := Lib.hid (Led.drew HL.out)
          have HF := Lib.hid (RLed.drew HF.out)
          have HB := Lib.hid (HB.out.drew)
          obtain ⟨rv, hRR, hRO⟩ := HF.out
          obtain ⟨ra, rc, rfl, _, _⟩ := hRO.slice
          have HV := Lib.hid hRO.rd
          have HRR := Lib.hid hRR
          obtain ⟨y0, y1, _, _⟩ := HRR.out.facts
          have big0 : (q'.big != (rq q').big) = false := by simp [rq]
          have hfew : q'.l.length ≤ 5000 := by have := HOk.out.few; omega
          clear hRR hRO
          go_region_held3 (fun w' => w'.cell? ⟨rb, 0, none⟩ = some (.slice ra (rq q').l.length rc) ∧ w'.cell? ⟨rb, 1, none⟩ = some (.int .i64 (rq q').big))
              (first
                | (with_reducible exact ⟨y0, y1⟩))
              (first
                | (go_at_call 23; refine (largest_any _ HL.out.row).mono ?_; rintro e wn ⟨rfl, rfl⟩
                   skip)
                | (go_at_call 24; refine (out_any (w.heap.size + 1) w.heap.size q' _ HOk.out HL.out).mono ?_; rintro e wn ⟨ov, rfl, ho, hb⟩
                   have HL := Lib.hid (HL.out.below hb)
                   have HF := Lib.hid (HF.out.keep (Keep.of_below (S := []) hb) (by simp) (fun i hi => by cases hi))
                   have HB := Lib.hid (HB.out.trans (hb.mono HB.out.size))
                   have HV := Lib.hid (HV.out.below hb)
                   have HRR := Lib.hid (HRR.out.below hb)
                   have HO := Lib.hid ho.rd
                   clear ho hb
                   obtain ⟨y0, y1, _, _⟩ := HRR.out.facts)
                | (go_at_call 16; refine (ours_any _ q'.l _ HO.out hfew).mono ?_; rintro e wn ⟨u, rfl, hu, hb⟩
                   have HL := Lib.hid (HL.out.below hb)
                   have HF := Lib.hid (HF.out.keep (Keep.of_below (S := []) hb) (by simp) (fun i hi => by cases hi))
                   have HB := Lib.hid (HB.out.trans (hb.mono HB.out.size))
                   have HV := Lib.hid (HV.out.below hb)
                   have HRR := Lib.hid (HRR.out.below hb)
                   have HU := Lib.hid hu.rd
                   clear hu hb
                   obtain ⟨y0, y1, _, _⟩ := HRR.out.facts)
                | (go_at_call 15; refine (rsame_any _ _ q'.l _ HU.out HV.out).mono ?_; rintro e wn ⟨rfl, hb⟩
                   have HL := Lib.hid (HL.out.below hb)
                   have HF := Lib.hid (HF.out.keep (Keep.of_below (S := []) hb) (by simp) (fun i hi => by cases hi))
                   have HB := Lib.hid (HB.out.trans (hb.mono HB.out.size))
                   have HV := Lib.hid (HV.out.below hb)
                   have HRR := Lib.hid (HRR.out.below hb)
                   clear hb
                   obtain ⟨y0, y1, _, _⟩ := HRR.out.facts))
          all_goals
            go_wp2
            exact ⟨⟨k + 1, q', by go_num, hlt, HOk.out, HL.out, HF.out, HB.out⟩, by simp [intOf, hw1]; omega⟩
      · have m0 : (kk.tmod 5 == 0) = false := by rw [HMod.out, hk5]; rfl
        have m1 : (kk.tmod 5 == 1) = true := by rw [HMod.out, hk5]; rfl
        have hok' := ack_ok HQ.out ss now wt
        have hx := ack_few HQ.out ss now wt
        have C1 := Lib.hid (fun W hL hS => ack_any (w.heap.size + 1) w.heap.size q (.slice sa ss.length sc) ss now wt W HQ.out hL hS)
        have C2 := Lib.hid (fun W hB hF hS => rack_q rb (rb + 1) q (.slice sa ss.length sc) ss now wt W HQ.out (Nat.lt_succ_self _) hB hF hS)
        generalize ackE q ss now wt = R at hok' hx C1 C2
        obtain ⟨q', X, Y, e0⟩ := R
        simp only at hok' hx C1 C2
        have HOk := Lib.hid hok'
        have HX512 := Lib.hid hx
        have ee : (e0 == e0) = true := by simp
        have tok1 : True := trivial
        have tok2 : True := trivial
        clear hok' hx hk5
        go_wp2_with (first
          | (go_at_call 13; refine (C1.out _ HL.out (HS0.out.below HB.out)).mono ?_; rintro e w7 ⟨v7, u7, rfl, hv, hu, hD⟩
             have HB8 := Lib.hid HF.out.size
             have HX := Lib.hid hv
             have HY := Lib.hid hu
             have HF := Lib.hid (HF.out.keep hD.2 (by simp; omega) (fun i hi => by simp at hi; omega))
             have HB := Lib.hid (HB.out.trans (hD.2.to_below (fun i hi => by simp at hi; omega) HB.out.size))
             have CB := Lib.hid ((hD.2.block wr.heap.size (Array.getElem?_eq_some_iff.1 CB.out).1 (by simp; omega)).trans CB.out)
             have HL := Lib.hid hD.1
             clear hv hu hD
             have c2 := cell_of CB.out 2 (v := .int .i64 now) (by simp) rfl
             have c4 := cell_of CB.out 4 (v := .int .i64 wt) (by simp) rfl
             have c5 := cell_of CB.out 5 (v := .slice sa ss.length sc) (by simp) rfl)
          | (go_at_call 14; refine (C2.out _ (by have := HF.out.size; omega) HF.out (HS0.out.below HB.out)).mono ?_; rintro e w8 ⟨v8, u8, rfl, hv8, hu8, hD⟩
             have HX := Lib.hid ((HX.out.keep hD.2 (fun j hj hn => by have := HX.out.blk j hj; have := HB8.out; simp at hn; omega)).rd)
             have HY := Lib.hid ((HY.out.keep hD.2 (fun j hj hn => by have := HY.out.blk j hj; have := HB8.out; simp at hn; omega)).rd)
             have HX8 := Lib.hid hv8.rd
             have HY8 := Lib.hid hu8.rd
             have HL := Lib.hid (HL.out.keep hD.2 (by simp; omega) (by simp; omega))
             have HB := Lib.hid (HB.out.trans (hD.2.to_below (fun i hi => by simp at hi; omega) HB.out.size))
             have CB := Lib.hid ((hD.2.block wr.heap.size (Array.getElem?_eq_some_iff.1 CB.out).1 (by simp; omega)).trans CB.out)
             have HF := Lib.hid hD.1
             clear hv8 hu8 hD)
          | (go_at_call 16; have _t := tok1; refine (ours_any _ X _ HX.out (by have := HX512.out.1; omega)).mono ?_; rintro e w9 ⟨o9, rfl, ho, hb⟩
             have HO9 := Lib.hid ho.rd
             have HL := Lib.hid (HL.out.below hb)
             have HF := Lib.hid (HF.out.keep (Keep.of_below (S := []) hb) (by simp) (fun i hi => by cases hi))
             have HB := Lib.hid (HB.out.trans (hb.mono HB.out.size))
             have CB := Lib.hid ((hb.block wr.heap.size (Array.getElem?_eq_some_iff.1 CB.out).1).trans CB.out)
             have HX := Lib.hid (HX.out.below hb)
             have HY := Lib.hid (HY.out.below hb)
             have HX8 := Lib.hid (HX8.out.below hb)
             have HY8 := Lib.hid (HY8.out.below hb)
             clear ho hb tok1)
          | (go_at_call 15; have _t := tok2; refine (rsame_any _ _ X _ HO9.out HX8.out).mono ?_; rintro e w10 ⟨rfl, hb⟩
             have HL := Lib.hid (HL.out.below hb)
             have HF := Lib.hid (HF.out.keep (Keep.of_below (S := []) hb) (by simp) (fun i hi => by cases hi))
             have HB := Lib.hid (HB.out.trans (hb.mono HB.out.size))
             have CB := Lib.hid ((hb.block wr.heap.size (Array.getElem?_eq_some_iff.1 CB.out).1).trans CB.out)
             have HX := Lib.hid (HX.out.below hb)
             have HY := Lib.hid (HY.out.below hb)
             have HX8 := Lib.hid (HX8.out.below hb)
             have HY8 := Lib.hid (HY8.out.below hb)
             clear hb tok2)
          | (go_at_call 16; refine (ours_any _ Y _ HY.out (by have := HX512.out.2; omega)).mono ?_; rintro e w11 ⟨o11, rfl, ho, hb⟩
             have HO11 := Lib.hid ho.rd
             have HL := Lib.hid (HL.out.below hb)
             have HF := Lib.hid (HF.out.keep (Keep.of_below (S := []) hb) (by simp) (fun i hi => by cases hi))
             have HB := Lib.hid (HB.out.trans (hb.mono HB.out.size))
             have CB := Lib.hid ((hb.block wr.heap.size (Array.getElem?_eq_some_iff.1 CB.out).1).trans CB.out)
             have HX := Lib.hid (HX.out.below hb)
             have HY := Lib.hid (HY.out.below hb)
             have HX8 := Lib.hid (HX8.out.below hb)
             have HY8 := Lib.hid (HY8.out.below hb)
             clear ho hb)
          | (go_at_call 15; refine (rsame_any _ _ Y _ HO11.out HY8.out).mono ?_; rintro e w12 ⟨rfl, hb⟩
             have HL := Lib.hid (HL.out.below hb)
             have HF := Lib.hid (HF.out.keep (Keep.of_below (S := []) hb) (by simp) (fun i hi => by cases hi))
             have HB := Lib.hid (HB.out.trans (hb.mono HB.out.size))
             have CB := Lib.hid ((hb.block wr.heap.size (Array.getElem?_eq_some_iff.1 CB.out).1).trans CB.out)
             clear hb))
        have HL := Lib.hid (Led.drew HL.out)
        have HF := Lib.hid (RLed.drew HF.out)
        have HB := Lib.hid (HB.out.drew)
        obtain ⟨rv, hRR, hRO⟩ := HF.out
        obtain ⟨ra, rc, rfl, _, _⟩ := hRO.slice
        have HV := Lib.hid hRO.rd
        have HRR := Lib.hid hRR
        obtain ⟨y0, y1, _, _⟩ := HRR.out.facts
        have big0 : (q'.big != (rq q').big) = false := by simp [rq]
        have hfew : q'.l.length ≤ 5000 := by have := HOk.out.few; omega
        clear hRR hRO
        go_region_held3 (fun w' => w'.cell? ⟨rb, 0, none⟩ = some (.slice ra (rq q').l.length rc) ∧ w'.cell? ⟨rb, 1, none⟩ = some (.int .i64 (rq q').big))
            (first
              | (with_reducible exact ⟨y0, y1⟩))
            (first
              | (go_at_call 23; refine (largest_any _ HL.out.row).mono ?_; rintro e wn ⟨rfl, rfl⟩
                 skip)
              | (go_at_call 24; refine (out_any (w.heap.size + 1) w.heap.size q' _ HOk.out HL.out).mono ?_; rintro e wn ⟨ov, rfl, ho, hb⟩
                 have HL := Lib.hid (HL.out.below hb)
                 have HF := Lib.hid (HF.out.keep (Keep.of_below (S := []) hb) (by simp) (fun i hi => by cases hi))
                 have HB := Lib.hid (HB.out.trans (hb.mono HB.out.size))
                 have HV := Lib.hid (HV.out.below hb)
                 have HRR := Lib.hid (HRR.out.below hb)
                 have HO := Lib.hid ho.rd
                 clear ho hb
                 obtain ⟨y0, y1, _, _⟩ := HRR.out.facts)
              | (go_at_call 16; refine (ours_any _ q'.l _ HO.out hfew).mono ?_; rintro e wn ⟨u, rfl, hu, hb⟩
                 have HL := Lib.hid (HL.out.below hb)
                 have HF := Lib.hid (HF.out.keep (Keep.of_below (S := []) hb) (by simp) (fun i hi => by cases hi))
                 have HB := Lib.hid (HB.out.trans (hb.mono HB.out.size))
                 have HV := Lib.hid (HV.out.below hb)
                 have HRR := Lib.hid (HRR.out.below hb)
                 have HU := Lib.hid hu.rd
                 clear hu hb
                 obtain ⟨y0, y1, _, _⟩ := HRR.out.facts)
              | (go_at_call 15; refine (rsame_any _ _ q'.l _ HU.out HV.out).mono ?_; rintro e wn ⟨rfl, hb⟩
                 have HL := Lib.hid (HL.out.below hb)
                 have HF := Lib.hid (HF.out.keep (Keep.of_below (S := []) hb) (by simp) (fun i hi => by cases hi))
                 have HB := Lib.hid (HB.out.trans (hb.mono HB.out.size))
                 have HV := Lib.hid (HV.out.below hb)
                 have HRR := Lib.hid (HRR.out.below hb)
                 clear hb
                 obtain ⟨y0, y1, _, _⟩ := HRR.out.facts))
        all_goals
          go_wp2
          exact ⟨⟨k + 1, q', by go_num, hlt, HOk.out, HL.out, HF.out, HB.out⟩, by simp [intOf, hw1]; omega⟩
      · have m0 : (kk.tmod 5 == 0) = false := by rw [HMod.out, hk5]; rfl
        have m1 : (kk.tmod 5 == 1) = false := by rw [HMod.out, hk5]; rfl
        have m2 : (kk.tmod 5 == 2) = true := by rw [HMod.out, hk5]; rfl
        have hok' := lose_ok HQ.out now wt
        have hx := lose_len HQ.out now wt
        have C1 := Lib.hid (fun W hL => lose_any (w.heap.size + 1) w.heap.size q now wt W HQ.out hL)
        have C2 := Lib.hid (fun W hB hF => rlose_q rb (rb + 1) q now wt W HQ.out (Nat.lt_succ_self _) hB hF)
        generalize loseE q now wt = R at hok' hx C1 C2
        obtain ⟨q', X⟩ := R
        simp only at hok' hx C1 C2
        have HOk := Lib.hid hok'
        have HX512 := Lib.hid hx
        clear hok' hx hk5
        go_wp2_with fail
        have HL := Lib.hid (Led.drew HL.out)
        have HF := Lib.hid (RLed.drew HF.out)
        have HB := Lib.hid (HB.out.drew)
        have CB : Hid (w6.drew.heap[wr.heap.size]? = some (.cells #[.int .u8 kk, .int .i64 n, .int .i64 now, .int .i64 size, .int .i64 wt, .slice sa ss.length sc] 32 (0, 0))) := CB.out
        have c2 := cell_of CB.out 2 (v := .int .i64 now) (by simp) rfl
        have c4 := cell_of CB.out 4 (v := .int .i64 wt) (by simp) rfl
        go_region_held3 (fun w' => w'.cell? ⟨wr.heap.size, 2, none⟩ = some (.int .i64 now) ∧ w'.cell? ⟨wr.heap.size, 4, none⟩ = some (.int .i64 wt))
            (first
              | (with_reducible exact ⟨c2, c4⟩))
            (first
              | (go_at_call 17; refine (C1.out _ HL.out).mono ?_; rintro e wn ⟨v7, rfl, hv, hD⟩
                 have HX := Lib.hid hv.rd
                 have HXo := Lib.hid (fun j hj => hv.blk j hj)
                 have HF := Lib.hid (HF.out.keep hD.2 (by simp; omega) (fun i hi => by simp at hi; omega))
                 have HB := Lib.hid (HB.out.trans (hD.2.to_below (fun i hi => by simp at hi; omega) HB.out.size))
                 have CB := Lib.hid ((hD.2.block wr.heap.size (Array.getElem?_eq_some_iff.1 CB.out).1 (by simp; omega)).trans CB.out)
                 have HL := Lib.hid hD.1
                 clear hv hD
                 have c2 := cell_of CB.out 2 (v := .int .i64 now) (by simp) rfl
                 have c4 := cell_of CB.out 4 (v := .int .i64 wt) (by simp) rfl)
              | (go_at_call 16; refine (ours_any _ X _ HX.out (by have := HX512.out; omega)).mono ?_; rintro e wn ⟨u, rfl, hu, hb⟩
                 have HB8 := Lib.hid HF.out.size
                 have HL := Lib.hid (HL.out.below hb)
                 have HF := Lib.hid (HF.out.keep (Keep.of_below (S := []) hb) (by simp) (fun i hi => by cases hi))
                 have HB := Lib.hid (HB.out.trans (hb.mono HB.out.size))
                 have CB := Lib.hid ((hb.block wr.heap.size (Array.getElem?_eq_some_iff.1 CB.out).1).trans CB.out)
                 have HU := Lib.hid hu
                 clear hu hb
                 have c2 := cell_of CB.out 2 (v := .int .i64 now) (by simp) rfl
                 have c4 := cell_of CB.out 4 (v := .int .i64 wt) (by simp) rfl)
              | (go_at_call 18; refine (C2.out _ (by have := HF.out.size; omega) HF.out).mono ?_; rintro e wn ⟨y, rfl, hy, hD⟩
                 have HU := Lib.hid ((HU.out.keep hD.2 (fun j hj hn => by have := HU.out.blk j hj; have := HB8.out; simp at hn; omega)).rd)
                 have HY := Lib.hid hy.rd
                 have HL := Lib.hid (HL.out.keep hD.2 (by simp; omega) (by simp; omega))
                 have HB := Lib.hid (HB.out.trans (hD.2.to_below (fun i hi => by simp at hi; omega) HB.out.size))
                 have CB := Lib.hid ((hD.2.block wr.heap.size (Array.getElem?_eq_some_iff.1 CB.out).1 (by simp; omega)).trans CB.out)
                 have HF := Lib.hid hD.1
                 clear hy hD
                 have c2 := cell_of CB.out 2 (v := .int .i64 now) (by simp) rfl
                 have c4 := cell_of CB.out 4 (v := .int .i64 wt) (by simp) rfl)
              | (go_at_call 15; refine (rsame_any _ _ X _ HU.out HY.out).mono ?_; rintro e wn ⟨rfl, hb⟩
                 have HL := Lib.hid (HL.out.below hb)
                 have HF := Lib.hid (HF.out.keep (Keep.of_below (S := []) hb) (by simp) (fun i hi => by cases hi))
                 have HB := Lib.hid (HB.out.trans (hb.mono HB.out.size))
                 have CB := Lib.hid ((hb.block wr.heap.size (Array.getElem?_eq_some_iff.1 CB.out).1).trans CB.out)
                 clear hb
                 have c2 := cell_of CB.out 2 (v := .int .i64 now) (by simp) rfl
                 have c4 := cell_of CB.out 4 (v := .int .i64 wt) (by simp) rfl))
        all_goals
          go_wp2_with fail
          have HL := Lib.hid (Led.drew HL.out)
          have HF := Lib.hid (RLed.drew HF.out)
          have HB := Lib.hid (HB.out.drew)
          obtain ⟨rv, hRR, hRO⟩ := HF.out
          obtain ⟨ra, rc, rfl, _, _⟩ := hRO.slice
          have HV := Lib.hid hRO.rd
          have HRR := Lib.hid hRR
          obtain ⟨y0, y1, _, _⟩ := HRR.out.facts
          have big0 : (q'.big != (rq q').big) = false := by simp [rq]
          have hfew : q'.l.length ≤ 5000 := by have := HOk.out.few; omega
          clear hRR hRO
          go_region_held3 (fun w' => w'.cell? ⟨rb, 0, none⟩ = some (.slice ra (rq q').l.length rc) ∧ w'.cell? ⟨rb, 1, none⟩ = some (.int .i64 (rq q').big))
              (first
                | (with_reducible exact ⟨y0, y1⟩))
              (first
                | (go_at_call 23; refine (largest_any _ HL.out.row).mono ?_; rintro e wn ⟨rfl, rfl⟩
                   skip)
                | (go_at_call 24; refine (out_any (w.heap.size + 1) w.heap.size q' _ HOk.out HL.out).mono ?_; rintro e wn ⟨ov, rfl, ho, hb⟩
                   have HL := Lib.hid (HL.out.below hb)
                   have HF := Lib.hid (HF.out.keep (Keep.of_below (S := []) hb) (by simp) (fun i hi => by cases hi))
                   have HB := Lib.hid (HB.out.trans (hb.mono HB.out.size))
                   have HV := Lib.hid (HV.out.below hb)
                   have HRR := Lib.hid (HRR.out.below hb)
                   have HO := Lib.hid ho.rd
                   clear ho hb
                   obtain ⟨y0, y1, _, _⟩ := HRR.out.facts)
                | (go_at_call 16; refine (ours_any _ q'.l _ HO.out hfew).mono ?_; rintro e wn ⟨u, rfl, hu, hb⟩
                   have HL := Lib.hid (HL.out.below hb)
                   have HF := Lib.hid (HF.out.keep (Keep.of_below (S := []) hb) (by simp) (fun i hi => by cases hi))
                   have HB := Lib.hid (HB.out.trans (hb.mono HB.out.size))
                   have HV := Lib.hid (HV.out.below hb)
                   have HRR := Lib.hid (HRR.out.below hb)
                   have HU := Lib.hid hu.rd
                   clear hu hb
                   obtain ⟨y0, y1, _, _⟩ := HRR.out.facts)
                | (go_at_call 15; refine (rsame_any _ _ q'.l _ HU.out HV.out).mono ?_; rintro e wn ⟨rfl, hb⟩
                   have HL := Lib.hid (HL.out.below hb)
                   have HF := Lib.hid (HF.out.keep (Keep.of_below (S := []) hb) (by simp) (fun i hi => by cases hi))
                   have HB := Lib.hid (HB.out.trans (hb.mono HB.out.size))
                   have HV := Lib.hid (HV.out.below hb)
                   have HRR := Lib.hid (HRR.out.below hb)
                   clear hb
                   obtain ⟨y0, y1, _, _⟩ := HRR.out.facts))
          all_goals
            go_wp2
            exact ⟨⟨k + 1, q', by go_num, hlt, HOk.out, HL.out, HF.out, HB.out⟩, by simp [intOf, hw1]; omega⟩
      · have m0 : (kk.tmod 5 == 0) = false := by rw [HMod.out, hk5]; rfl
        have m1 : (kk.tmod 5 == 1) = false := by rw [HMod.out, hk5]; rfl
        have m2 : (kk.tmod 5 == 2) = false := by rw [HMod.out, hk5]; rfl
        have m3 : (kk.tmod 5 == 3) = true := by rw [HMod.out, hk5]; rfl
        have HOk := HQ
        obtain ⟨q', hq'⟩ : ∃ q' : Lg, q' = q := ⟨_, rfl⟩
        subst hq'
        have ee : (dueE q' wt == dueE (rq q') wt) = true := by simp [rq_due]
        clear hk5
        go_wp2_with fail
        have HL := Lib.hid (Led.drew HL.out)
        have HF := Lib.hid (RLed.drew HF.out)
        have HB := Lib.hid (HB.out.drew)
        have CB : Hid (w6.drew.heap[wr.heap.size]? = some (.cells #[.int .u8 kk, .int .i64 n, .int .i64 now, .int .i64 size, .int .i64 wt, .slice sa ss.length sc] 32 (0, 0))) := CB.out
        have c4 := cell_of CB.out 4 (v := .int .i64 wt) (by simp) rfl
        go_region_held3 (fun w' => w'.cell? ⟨wr.heap.size, 4, none⟩ = some (.int .i64 wt))
            (first
              | (with_reducible exact c4))
            (first
              | (go_at_call 19; refine (due_any (w.heap.size + 1) w.heap.size q' wt _ HQ.out HL.out).mono ?_; rintro e wn ⟨rfl, hb⟩
                 have HL := Lib.hid (HL.out.below hb)
                 have HF := Lib.hid (HF.out.keep (Keep.of_below (S := []) hb) (by simp) (fun i hi => by cases hi))
                 have HB := Lib.hid (HB.out.trans (hb.mono HB.out.size))
                 have CB := Lib.hid ((hb.block wr.heap.size (Array.getElem?_eq_some_iff.1 CB.out).1).trans CB.out)
                 clear hb
                 have c4 := cell_of CB.out 4 (v := .int .i64 wt) (by simp) rfl)
              | (go_at_call 20; refine (rdue_any rb (rb + 1) (rq q') wt _ (rq_ok HQ.out) (Nat.lt_succ_self _) HF.out).mono ?_; rintro e wn ⟨rfl, hb⟩
                 have HL := Lib.hid (HL.out.below hb)
                 have HF := Lib.hid (HF.out.keep (Keep.of_below (S := []) hb) (by simp) (fun i hi => by cases hi))
                 have HB := Lib.hid (HB.out.trans (hb.mono HB.out.size))
                 have CB := Lib.hid ((hb.block wr.heap.size (Array.getElem?_eq_some_iff.1 CB.out).1).trans CB.out)
                 clear hb
                 have c4 := cell_of CB.out 4 (v := .int .i64 wt) (by simp) rfl))
        all_goals
          go_wp2_with fail
          have HL := Lib.hid (Led.drew HL.out)
          have HF := Lib.hid (RLed.drew HF.out)
          have HB := Lib.hid (HB.out.drew)
          obtain ⟨rv, hRR, hRO⟩ := HF.out
          obtain ⟨ra, rc, rfl, _, _⟩ := hRO.slice
          have HV := Lib.hid hRO.rd
          have HRR := Lib.hid hRR
          obtain ⟨y0, y1, _, _⟩ := HRR.out.facts
          have big0 : (q'.big != (rq q').big) = false := by simp [rq]
          have hfew : q'.l.length ≤ 5000 := by have := HOk.out.few; omega
          clear hRR hRO
          go_region_held3 (fun w' => w'.cell? ⟨rb, 0, none⟩ = some (.slice ra (rq q').l.length rc) ∧ w'.cell? ⟨rb, 1, none⟩ = some (.int .i64 (rq q').big))
              (first
                | (with_reducible exact ⟨y0, y1⟩))
              (first
                | (go_at_call 23; refine (largest_any _ HL.out.row).mono ?_; rintro e wn ⟨rfl, rfl⟩
                   skip)
                | (go_at_call 24; refine (out_any (w.heap.size + 1) w.heap.size q' _ HOk.out HL.out).mono ?_; rintro e wn ⟨ov, rfl, ho, hb⟩
                   have HL := Lib.hid (HL.out.below hb)
                   have HF := Lib.hid (HF.out.keep (Keep.of_below (S := []) hb) (by simp) (fun i hi => by cases hi))
                   have HB := Lib.hid (HB.out.trans (hb.mono HB.out.size))
                   have HV := Lib.hid (HV.out.below hb)
                   have HRR := Lib.hid (HRR.out.below hb)
                   have HO := Lib.hid ho.rd
                   clear ho hb
                   obtain ⟨y0, y1, _, _⟩ := HRR.out.facts)
                | (go_at_call 16; refine (ours_any _ q'.l _ HO.out hfew).mono ?_; rintro e wn ⟨u, rfl, hu, hb⟩
                   have HL := Lib.hid (HL.out.below hb)
                   have HF := Lib.hid (HF.out.keep (Keep.of_below (S := []) hb) (by simp) (fun i hi => by cases hi))
                   have HB := Lib.hid (HB.out.trans (hb.mono HB.out.size))
                   have HV := Lib.hid (HV.out.below hb)
                   have HRR := Lib.hid (HRR.out.below hb)
                   have HU := Lib.hid hu.rd
                   clear hu hb
                   obtain ⟨y0, y1, _, _⟩ := HRR.out.facts)
                | (go_at_call 15; refine (rsame_any _ _ q'.l _ HU.out HV.out).mono ?_; rintro e wn ⟨rfl, hb⟩
                   have HL := Lib.hid (HL.out.below hb)
                   have HF := Lib.hid (HF.out.keep (Keep.of_below (S := []) hb) (by simp) (fun i hi => by cases hi))
                   have HB := Lib.hid (HB.out.trans (hb.mono HB.out.size))
                   have HV := Lib.hid (HV.out.below hb)
                   have HRR := Lib.hid (HRR.out.below hb)
                   clear hb
                   obtain ⟨y0, y1, _, _⟩ := HRR.out.facts))
          all_goals
            go_wp2
            exact ⟨⟨k + 1, q', by go_num, hlt, HOk.out, HL.out, HF.out, HB.out⟩, by simp [intOf, hw1]; omega⟩
      · have m0 : (kk.tmod 5 == 0) = false := by rw [HMod.out, hk5]; rfl
        have m1 : (kk.tmod 5 == 1) = false := by rw [HMod.out, hk5]; rfl
        have m2 : (kk.tmod 5 == 2) = false := by rw [HMod.out, hk5]; rfl
        have m3 : (kk.tmod 5 == 3) = false := by rw [HMod.out, hk5]; rfl
        have HOk := Lib.hid (drop_ok HQ.out)
        clear hk5
        go_wp2_with (first
          | (go_at_call 21; refine (drop_any (w.heap.size + 1) w.heap.size q _ HQ.out HL.out).mono ?_; rintro e w7 ⟨v7, rfl, hv, hD⟩
             have HX := Lib.hid hv.rd
             have HF := Lib.hid (HF.out.keep hD.2 (by simp; omega) (fun i hi => by simp at hi; omega))
             have HB := Lib.hid (HB.out.trans (hD.2.to_below (fun i hi => by simp at hi; omega) HB.out.size))
             have CB := Lib.hid ((hD.2.block wr.heap.size (Array.getElem?_eq_some_iff.1 CB.out).1 (by simp; omega)).trans CB.out)
             have HL := Lib.hid hD.1
             clear hv hD)
          | (go_at_call 16; refine (ours_any _ q.l _ HX.out (by have := HQ.out.few; omega)).mono ?_; rintro e w8 ⟨u8, rfl, hu, hb⟩
             have HB8 := Lib.hid HF.out.size
             have HL := Lib.hid (HL.out.below hb)
             have HF := Lib.hid (HF.out.keep (Keep.of_below (S := []) hb) (by simp) (fun i hi => by cases hi))
             have HB := Lib.hid (HB.out.trans (hb.mono HB.out.size))
             have CB := Lib.hid ((hb.block wr.heap.size (Array.getElem?_eq_some_iff.1 CB.out).1).trans CB.out)
             have HU := Lib.hid hu
             clear hu hb)
          | (go_at_call 22; refine (rdrop_any rb (rb + 1) (rq q) _ (Nat.lt_succ_self _) HF.out).mono ?_; rintro e w9 ⟨y9, rfl, hy, hD⟩
             have HU := Lib.hid ((HU.out.keep hD.2 (fun j hj hn => by have := HU.out.blk j hj; have := HB8.out; simp at hn; omega)).rd)
             have HY : Hid (RdP w9 y9 q.l) := hy.rd
             have HF0 : Hid (RDoes rb (rb + 1) (rq (dropE q).1) _ w9) := hD
             have HL := Lib.hid (HL.out.keep hD.2 (by simp; omega) (by simp; omega))
             have HB := Lib.hid (HB.out.trans (hD.2.to_below (fun i hi => by simp at hi; omega) HB.out.size))
             have CB := Lib.hid ((hD.2.block wr.heap.size (Array.getElem?_eq_some_iff.1 CB.out).1 (by simp; omega)).trans CB.out)
             have HF := Lib.hid hD.1
             have HF : Hid (RLed rb (rb + 1) (rq (dropE q).1) w9) := HF.out
             clear hy hD HF0)
          | (go_at_call 15; refine (rsame_any _ _ q.l _ HU.out HY.out).mono ?_; rintro e w10 ⟨rfl, hb⟩
             have HL := Lib.hid (HL.out.below hb)
             have HF := Lib.hid (HF.out.keep (Keep.of_below (S := []) hb) (by simp) (fun i hi => by cases hi))
             have HB := Lib.hid (HB.out.trans (hb.mono HB.out.size))
             have CB := Lib.hid ((hb.block wr.heap.size (Array.getElem?_eq_some_iff.1 CB.out).1).trans CB.out)
             clear hb))
        generalize (dropE q).1 = q' at HOk HL HF
        have HL := Lib.hid (Led.drew HL.out)
        have HF := Lib.hid (RLed.drew HF.out)
        have HB := Lib.hid (HB.out.drew)
        obtain ⟨rv, hRR, hRO⟩ := HF.out
        obtain ⟨ra, rc, rfl, _, _⟩ := hRO.slice
        have HV := Lib.hid hRO.rd
        have HRR := Lib.hid hRR
        obtain ⟨y0, y1, _, _⟩ := HRR.out.facts
        have big0 : (q'.big != (rq q').big) = false := by simp [rq]
        have hfew : q'.l.length ≤ 5000 := by have := HOk.out.few; omega
        clear hRR hRO
        go_region_held3 (fun w' => w'.cell? ⟨rb, 0, none⟩ = some (.slice ra (rq q').l.length rc) ∧ w'.cell? ⟨rb, 1, none⟩ = some (.int .i64 (rq q').big))
            (first
              | (with_reducible exact ⟨y0, y1⟩))
            (first
              | (go_at_call 23; refine (largest_any _ HL.out.row).mono ?_; rintro e wn ⟨rfl, rfl⟩
                 skip)
              | (go_at_call 24; refine (out_any (w.heap.size + 1) w.heap.size q' _ HOk.out HL.out).mono ?_; rintro e wn ⟨ov, rfl, ho, hb⟩
                 have HL := Lib.hid (HL.out.below hb)
                 have HF := Lib.hid (HF.out.keep (Keep.of_below (S := []) hb) (by simp) (fun i hi => by cases hi))
                 have HB := Lib.hid (HB.out.trans (hb.mono HB.out.size))
                 have HV := Lib.hid (HV.out.below hb)
                 have HRR := Lib.hid (HRR.out.below hb)
                 have HO := Lib.hid ho.rd
                 clear ho hb
                 obtain ⟨y0, y1, _, _⟩ := HRR.out.facts)
              | (go_at_call 16; refine (ours_any _ q'.l _ HO.out hfew).mono ?_; rintro e wn ⟨u, rfl, hu, hb⟩
                 have HL := Lib.hid (HL.out.below hb)
                 have HF := Lib.hid (HF.out.keep (Keep.of_below (S := []) hb) (by simp) (fun i hi => by cases hi))
                 have HB := Lib.hid (HB.out.trans (hb.mono HB.out.size))
                 have HV := Lib.hid (HV.out.below hb)
                 have HRR := Lib.hid (HRR.out.below hb)
                 have HU := Lib.hid hu.rd
                 clear hu hb
                 obtain ⟨y0, y1, _, _⟩ := HRR.out.facts)
              | (go_at_call 15; refine (rsame_any _ _ q'.l _ HU.out HV.out).mono ?_; rintro e wn ⟨rfl, hb⟩
                 have HL := Lib.hid (HL.out.below hb)
                 have HF := Lib.hid (HF.out.keep (Keep.of_below (S := []) hb) (by simp) (fun i hi => by cases hi))
                 have HB := Lib.hid (HB.out.trans (hb.mono HB.out.size))
                 have HV := Lib.hid (HV.out.below hb)
                 have HRR := Lib.hid (HRR.out.below hb)
                 clear hb
                 obtain ⟨y0, y1, _, _⟩ := HRR.out.facts))
        all_goals
          go_wp2
          exact ⟨⟨k + 1, q', by go_num, hlt, HOk.out, HL.out, HF.out, HB.out⟩, by simp [intOf, hw1]; omega⟩
    · have hi1 : ¬ ((k : Int) < (l.length : Int)) := by omega
      go_wp2
      go_ret
      exact ⟨rfl, HB.out⟩
set_option maxRecDepth 100000 in
set_option maxHeartbeats 1600000 in
theorem plays_none (a : Option Addr) (c : Nat) (w : World) : Calls Try.prog 3 #[.slice a 0 c] w (Yes w) := by
  go_enter Try.func3, Try.ntmps3
  go_upto_region 3 with (first
    | (go_at_call 8; refine (new_any _).mono ?_; rintro e w1 ⟨rfl, hL1, hb1⟩
       have HL1 := Lib.hid hL1
       have HB1 := Lib.hid hb1
       clear hL1 hb1)
    | (go_at_call 9; refine (rnew_any _).mono ?_; rintro e w2 ⟨rfl, hb2⟩
       have HL2 := Lib.hid (HL1.out.below hb2)
       have HB2 := Lib.hid (HB1.out.trans (hb2.mono HB1.out.size))
       clear hb2))
  have b3 := below_one w2 (.cells #[.slice none 0 0, .int .i64 (-1), .int .i64 (-1), .int .i64 0] 27)
  have HL3 := Lib.hid (HL2.out.below b3)
  have HB3 := Lib.hid (HB2.out.trans (b3.mono HB2.out.size))
  have HF3 : Hid (RLed w2.heap.size (w2.heap.size + 1) (rq fresh) (w2.alloc (.cells #[.slice none 0 0, .int .i64 (-1), .int .i64 (-1), .int .i64 0] 27))) := ⟨.slice none 0 0, ⟨27, by show (w2.heap.push _)[w2.heap.size]? = _; rw [Array.getElem?_push, if_pos rfl]; rfl⟩, OwnP.nil _ _ _⟩
  have hrb : w.heap.size + 1 < w2.heap.size := HL2.out.row.lt
  clear b3 HL1 HB1 HL2 HB2
  generalize w2.alloc (.cells #[.slice none 0 0, .int .i64 (-1), .int .i64 (-1), .int .i64 0] 27) = w3 at HL3 HB3 HF3 ⊢
  generalize w2.heap.size = rb at HF3 hrb ⊢
  go_wp2_with (first
    | (go_at_call 10; refine (alive_any _).mono ?_; rintro e w4 ⟨rfl, hb4⟩
       have HL4 := Lib.hid (HL3.out.below hb4)
       have HF4 := Lib.hid (HF3.out.keep (Keep.of_below (S := []) hb4) (by simp) (fun i hi => by cases hi))
       have HB4 := Lib.hid (HB3.out.trans (hb4.mono HB3.out.size))
       clear hb4))
  refine wp_loop_rounds 1 ?_
  rw [rounds_succ]
  go_wp2
  go_ret
  exact ⟨rfl, HB4.out⟩
/-- P8.1 to P8.4 -/
theorem plays_walk (v : Value) (l : List ActV) (w : World) (hR : RdA w v l) (hok : ∀ x ∈ l, ActOk w x) : Calls Try.prog 3 #[v] w (Yes w) := by
  rcases hR.form with ⟨_, a, c, rfl⟩ | ⟨b, o, c, rfl, hb, hc, hm⟩
  · exact plays_none a c w
  · exact plays_some b o c l w hR hb hc hm hok
end Go.Proofs.Ytobalbaieakcmaa
