/- Walks of layer 14, the document's decoder: Feed, where all goes well. -/
import Derived.Test.YtbkbabaoockigaaGreatDoorQmD
set_option maxRecDepth 100000
set_option linter.unusedSimpArgs false
set_option linter.unusedVariables false
namespace Go.Proofs.YtbkbabaoockigaaGreatDoor
open Go.RowKit

/-- Feed under way -/
structure RFw (b : Nat) (v : Value) (q : TQ) (g : Nat) (vx : Value) (xs : List Int) (q' : TQ) (w w2 wr : World) (qk : TQ) (a : Nat) (vk : Value) : Prop where
  togo : feedE qk xs a = (q', 0, 0)
  few : a ≤ xs.length
  cnt : countN qk ≤ countN q + a
  ok : TOk qk
  rf : RF g b vk qk vx xs a wr
  own : qk.l ≠ [] → ∀ j, vk.ownBlock = some j → (q.l ≠ [] ∧ v.ownBlock = some j) ∨ w2.heap.size ≤ j
  keep : Keep [b] w wr
  res : Cs wr w.heap.size [.int .i64 0, .int .i64 0]
  sz : w2.heap.size ≤ wr.heap.size
section
variable {b : Nat} {v : Value} {q : TQ} {g : Nat} {vx : Value} {xs : List Int} {q' : TQ} {w w2 wr : World} {qk : TQ} {a : Nat} {vk : Value}
theorem RFw.good (F : RFw b v q g vx xs q' w w2 wr qk a vk) (ha : a < xs.length) : (insE qk xs a).2.2 = 0 := by
  by_cases h : (insE qk xs a).2.2 = 0
  · exact h
  · have := F.togo
    rw [feed_bad ha h] at this
    simp only [Prod.mk.injEq] at this
    exact this.2.1
theorem RFw.step (F : RFw b v q g vx xs q' w w2 wr qk a vk) (hx : Bts xs) (hg : w.heap.size < g) (hb : b < w.heap.size) (ha : a < xs.length) {w' : World} (h : ROne g b vk qk (insE qk xs a).1 vx xs (insE qk xs a).2.1 wr w') :
    ∃ v', RFw b v q g vx xs q' w w2 w' (insE qk xs a).1 (insE qk xs a).2.1 v' := by
  obtain ⟨v', h1, h2, h3⟩ := h
  have hy := F.good ha
  have hok := ins_ok hx hy
  have hcc := insE_count qk xs a
  refine ⟨v', (feed_step hx hy).symm.trans F.togo, hok.2.1, by have := F.cnt; omega, insE_okT F.ok _ _, h1, fun h0 j hj => ?_, F.keep.trans h3 (fun i hi => ?_), F.res.keep h3 (by simp; omega), Nat.le_trans F.sz h3.size⟩
  · rcases h2 h0 j hj with ⟨h4, h5⟩ | h4
    · exact F.own h4 j h5
    · exact .inr (Nat.le_trans F.sz h4)
  · simp only [List.mem_cons, List.not_mem_nil, or_false] at hi
    rcases hi with e | e
    · exact .inl (by simp [e])
    · exact .inr (by omega)
theorem RFw.fin (F : RFw b v q g vx xs q' w w2 wr qk a vk) (h : RTb b v q w) (hz : w.heap.size < w2.heap.size) (he : xs.length ≤ a) (x y : Value) : RDid b v q q' w ((wr.setCell ⟨w.heap.size, 0, none⟩ x).setCell ⟨w.heap.size, 1, none⟩ y) := by
  have e := F.togo
  rw [feed_end he] at e
  simp only [Prod.mk.injEq] at e
  obtain rfl := e.1
  have hb := h.lt
  have k : Keep [w.heap.size] wr ((wr.setCell ⟨w.heap.size, 0, none⟩ x).setCell ⟨w.heap.size, 1, none⟩ y) := (keep_set _ _ _ _).trans (keep_set _ _ _ _) (by simp)
  refine ⟨vk, F.rf.tb.keep k (by simp; omega) (fun h0 j hj => ?_), fun h0 j hj => (F.own h0 j hj).imp id (fun h => by omega), F.keep.trans k (fun i hi => .inr (by simp at hi; omega))⟩
  rcases F.own h0 j hj with ⟨h4, h5⟩ | h4
  · have := h.vlt h4 j h5; simp; omega
  · simp; omega
end
theorem rfeed_results {W : World} {tmps : Array Value} {A : Nat} {v0 v1 : Value} (h4 : tmps[4]?.getD undef = .pointer (some ⟨A, 0, none⟩))
    (c0 : W.cell? ⟨A, 0, none⟩ = some v0) (c1 : W.cell? ⟨A, 1, none⟩ = some v1) : (results Tryz.f14 tmps).run Tryz.prog W = .ok (.agg #[v0, v1]) W := by
  have hr : Tryz.f14.results = #[.cell 4 42] := rfl
  simp only [results, hr]
  go_simp

set_option maxHeartbeats 6400000 in
theorem rfeed_yes {b : Nat} {v : Value} {q : TQ} {vx : Value} {xs : List Int} (w : World) (h : RTb b v q w) (hr : Rd .u8 w vx xs) (hv : xs ≠ [] → ∀ j, vx.ownBlock = some j → j ≠ b) (hx : Bts xs) (hl : xs.length ≤ 1048576) (ho : TOk q) (hc : countN q + xs.length ≤ 4611686018427387000) {q' : TQ} (hF : feedE q xs 0 = (q', 0, 0)) :
    Calls Tryz.prog 14 #[.pointer (some ⟨b, 0, none⟩), vx] w fun e w' => e = .returned (.agg #[.int .i64 0, .int .i64 0]) ∧ RDid b v q q' w w' := by
  have hbz := h.lt
  obtain ⟨w1, hw1⟩ : ∃ W, W = w.alloc (.cells #[.int .i64 0, .int .i64 0] 42) := ⟨_, rfl⟩
  have hb1 : Below w.heap.size w w1 := by rw [hw1]; exact below1 w _
  have hs1 : w1.heap.size = w.heap.size + 1 := by rw [hw1]; simp
  have hq1 : Cs w1 w.heap.size [.int .i64 0, .int .i64 0] := by rw [hw1]; exact Cs.made w #[.int .i64 0, .int .i64 0] 42
  obtain ⟨va, vc, rfl⟩ := hr.isSlice
  obtain ⟨w2, hw2⟩ : ∃ W, W = w1.alloc (.cells #[.slice va xs.length vc, .int .i64 0, .int .i64 0] 79) := ⟨_, rfl⟩
  have hb2 : Below w1.heap.size w1 w2 := by rw [hw2]; exact below1 w1 _
  have hq2 : Cs w2 w1.heap.size [.slice va xs.length vc, .int .i64 0, .int .i64 0] := by
    have := Cs.made w1 #[.slice va xs.length vc, .int .i64 0, .int .i64 0] 79
    rw [hw2]; exact this
  have hbb : Below w.heap.size w w2 := hb1.trans (hb2.mono hb1.size)
  have hs2 : w2.heap.size = w.heap.size + 1 + 1 := by rw [hw2]; simp [hs1]
  have F0 : Hid (RFw b v q w1.heap.size (.slice va xs.length vc) xs q' w w2 w2 q 0 v) :=
    ⟨hF, Nat.zero_le _, Nat.le_refl _, ho, ⟨h.below hbb, ⟨hq2, rfl, rfl, hr.below hbb, fun h0 j hj => by have := hr.blt h0 j hj; omega⟩, by omega, fun h0 j hj => by have := h.vlt h0 j hj; omega, hv⟩, fun h0 j hj => .inl ⟨h0, hj⟩, Keep.of_below hbb, hq1.below hb2, Nat.le_refl _⟩
  have HB := Lib.hid hbb
  have HS : Hid (w2.heap.size = w.heap.size + 1 + 1 ∧ w1.heap.size = w.heap.size + 1) := ⟨hs2, hs1⟩
  have HXC : Hid (Bts xs ∧ countN q + xs.length ≤ 4611686018427387000) := ⟨hx, hc⟩
  have HH := Lib.hid h
  have HBZ := Lib.hid hbz
  have HW1 := Lib.hid hw1
  have HW2 := Lib.hid hw2
  clear hw1 hw2 h hr hb1 hb2 hs1 hs2 hq1 hq2 hbb hv hc hF hbz
  go_enter Tryz.func14, Tryz.ntmps14
  go_upto_region 1 with fail
  rw [← HW1.out]
  go_upto_region 2 with fail
  rw [← HW2.out]
  go_loopw [] (fun wr => ∃ qk a vk, RFw b v q w1.heap.size (.slice va xs.length vc) xs q' w w2 wr qk a vk) (fun wr => xs.length - posAt w1.heap.size 0 wr)
  case atStart => exact ⟨q, 0, v, F0.out⟩
  case round =>
    obtain ⟨qk, a, vk, hfw⟩ := hrel
    have FW := Lib.hid hfw
    clear hfw F0
    obtain ⟨c0, c1, _, _⟩ := FW.out.rf.rd.facts
    by_cases ha : a < xs.length
    · have hI : insE qk xs a = ((insE qk xs a).1, (insE qk xs a).2.1, 0) := by
        have := FW.out.good ha
        exact Prod.ext rfl (Prod.ext rfl this)
      have HDO := Lib.hid (rone_yes wr FW.out.rf HXC.out.1 hl FW.out.ok (by have := FW.out.cnt; have := HXC.out.2; omega) ha hI)
      have d1 : decide ((a : Int) < (xs.length : Int)) = true := decide_eq_true (by omega)
      have d1n : decide (a < xs.length) = true := decide_eq_true (by omega)
      have HA := Lib.hid ha
      have HG : Hid (w.heap.size < w1.heap.size) := (by have := HS.out.2; omega : w.heap.size < w1.heap.size)
      clear ha hI
      go_wp2_with (go_at_call 29; refine HDO.out.mono ?_; rintro e w7 ⟨rfl, hq⟩; obtain ⟨v2, F2⟩ := FW.out.step HXC.out.1 HG.out HBZ.out HA.out hq; have HF2 := Lib.hid F2; clear F2 hq)
      refine ⟨⟨_, _, v2, HF2.out⟩, ?_⟩
      rw [posAt_is FW.out.rf.rd, posAt_is HF2.out.rf.rd]
      have := ins_ok HXC.out.1 (FW.out.good HA.out)
      omega
    · have d1 : decide ((a : Int) < (xs.length : Int)) = false := decide_eq_false (by omega)
      have d1n : decide (a < xs.length) = false := decide_eq_false (by omega)
      have QB := Lib.hid FW.out.res
      have x0 := QB.out.get 0 _ rfl
      have x1 := QB.out.get 1 _ rfl
      have z0 := QB.out.free 0
      have z1 := QB.out.free 1
      have hlz := QB.out.lt
      have HE : Hid (xs.length ≤ a) := (by omega : xs.length ≤ a)
      clear ha
      go_wp2_with fail
      have QD := (QB.out.set 0 (.int .i64 0)).set 1 (.int .i64 0)
      refine bodyPost_ret (rfeed_results rfl (QD.get 0 _ rfl) (QD.get 1 _ rfl)) rfl ⟨rfl, ?_⟩
      exact FW.out.fin HH.out (by have := HS.out.1; omega) HE.out _ _
end Go.Proofs.YtbkbabaoockigaaGreatDoor
