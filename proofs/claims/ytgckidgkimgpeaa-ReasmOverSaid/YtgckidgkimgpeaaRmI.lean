/- Walks of layer 9: alive. -/
import Derived.Test.YtgckidgkimgpeaaRmH
import Derived.Lib.SlBytesConst
set_option linter.unusedSimpArgs false
set_option linter.unusedVariables false
namespace Go.Proofs.Ytgckidgkimgpeaa
open Go.RowKit

/-- a stream of the call's own (from block B on) -/
def Mine (B b r m : Nat) (q : St) (w0 w : World) : Prop := Ok q ∧ Str b r m q w ∧ (B ≤ b ∧ B ≤ r ∧ B ≤ m) ∧ Below B w0 w
theorem Mine.low {B b r m : Nat} {q : St} {w0 w : World} (h : Mine B b r m q w0 w) : B ≤ w.heap.size := by have := h.2.1.lt; have := h.2.2.1; omega
theorem Mine.step {B b r m : Nat} {q q' : St} {w0 w w' : World} (h : Mine B b r m q w0 w) (hq : Ok q') (hd : Does b r m q' w w') : Mine B b r m q' w0 w' :=
  ⟨hq, hd.1, h.2.2.1, h.2.2.2.trans (hd.2.to_below (fun i hi => by have := h.2.2.1; simp at hi; omega) h.low)⟩
theorem Mine.below {B b r m : Nat} {q : St} {w0 w w' : World} (h : Mine B b r m q w0 w) (hb : Below w.heap.size w w') : Mine B b r m q w0 w' :=
  ⟨h.1, h.2.1.below hb, h.2.2.1, h.2.2.2.trans (hb.mono h.low)⟩
theorem Mine.drewN {B b r m : Nat} {q : St} {w0 w : World} (h : Mine B b r m q w0 w) (n : Nat) : Mine B b r m q w0 (w.drewN n) := ⟨h.1, h.2.1.drewN n, h.2.2.1, below_drewN h.2.2.2 n⟩
theorem new_yes (n : Int) (w : World) (hn : withinB n 1 4096 = true) :
    Calls Try.prog 8 #[.int .i64 n] w fun e w' => ∃ b r m, e = .returned (.tuple #[.pointer (some ⟨b, 0, none⟩), .int .i64 0]) ∧ Mine w.heap.size b r m (fresh n.toNat) w w' := by
  refine (new_any n w).mono ?_
  rintro e w' (⟨h, _⟩ | ⟨_, b, r, m, rfl, hs, hl, hb⟩)
  · rw [hn] at h; cases h
  · have := within_iff.1 hn
    exact ⟨b, r, m, rfl, fresh_ok _ (by omega) (by omega), hs, hl, hb⟩
theorem new_not (n : Int) (w : World) (hn : withinB n 1 4096 = false) :
    Calls Try.prog 8 #[.int .i64 n] w fun e w' => e = .returned (.tuple #[.pointer none, .int .i64 1]) ∧ w' = w := by
  refine (new_any n w).mono ?_
  rintro e w' (⟨_, h⟩ | ⟨h, _⟩)
  · exact h
  · rw [hn] at h; cases h
theorem data_mine {B b r m : Nat} {q : St} {w0 w : World} (h : Mine B b r m q w0 w) (off : Int) (bv : Value) (bs : List Int) (fin : Bool) (hR : Rd .u8 w bv bs) (ha : bs ≠ [] → ∀ j, bv.ownBlock = some j → j ≠ b ∧ j ≠ r ∧ j ≠ m) :
    Calls Try.prog 10 #[.pointer (some ⟨b, 0, none⟩), .int .i64 off, bv, .bool fin] w fun e w' => e = .returned (.int .i64 (dataE q off bs fin).2) ∧ Mine B b r m (dataE q off bs fin).1 w0 w' ∧ Keep [b, r, m] w w' :=
  (data_any b r m q off bv bs fin w h.1 h.2.1 hR ha).mono fun e w' hh => ⟨hh.1, h.step (data_ok h.1 off bs fin) hh.2, hh.2.2⟩
theorem reset_mine {B b r m : Nat} {q : St} {w0 w : World} (h : Mine B b r m q w0 w) (x : Int) :
    Calls Try.prog 15 #[.pointer (some ⟨b, 0, none⟩), .int .i64 x] w fun e w' => e = .returned (.int .i64 (resetE q x).2) ∧ Mine B b r m (resetE q x).1 w0 w' ∧ Keep [b, r, m] w w' :=
  (reset_any b r m q x w h.1 h.2.1).mono fun e w' hh => ⟨hh.1, h.step (reset_ok h.1 x) hh.2, hh.2.2⟩
theorem read_mine {B b r m : Nat} {q : St} {w0 w : World} (h : Mine B b r m q w0 w) (n : Int) :
    Calls Try.prog 11 #[.pointer (some ⟨b, 0, none⟩), .int .i64 n] w fun e w' => ∃ v, e = .returned v ∧ Given w' w.heap.size v (readE q n).2 ∧ Mine B b r m (readE q n).1 w0 w' ∧ Keep [b, r, m] w w' :=
  (read_any b r m q n w h.1 h.2.1).mono fun e w' ⟨v, h1, h2, h3⟩ => ⟨v, h1, h2, h.step (read_ok h.1 n) h3, h3.2⟩

theorem al_is : ∃ a1 a2 a3 : St, dataE (fresh 8) 2 [99] false = (a1, 0) ∧ dataE a1 0 [97, 98] false = (a2, 0) ∧ readyN a2 = 3 ∧ readE a2 9 = (a3, [97, 98, 99]) ∧ (a3.p : Int) + (a3.row.length : Int) = 11 ∧ overB a3 = false :=
  ⟨_, _, _, rfl, rfl, rfl, rfl, rfl, rfl⟩
theorem strN3 : strOfNums [97, 98, 99] = ⟨#[97, 98, 99]⟩ := by rfl

theorem Rd.mark {e : TypeId} {w : World} (xs : List Int) (h0 : xs ≠ []) (n : Nat) (hn : n = xs.length) (hm : n ≤ maxLen) (cs : Array Value) (fr : Nat × Nat) (hc : cs = (xs.map (Value.int .u8)).toArray) :
    Rd .u8 (w.alloc (.cells cs e fr)) (.slice (some ⟨w.heap.size, 0, none⟩) n n) xs := by
  subst hn; subst hc
  refine .inr ⟨h0, w.heap.size, 0, xs.length, rfl, Nat.le_refl _, hm, by simp, fun i hi => ?_⟩
  rw [World.cell?_alloc_mark]
  simp [List.getD, List.getElem?_eq_getElem hi]

set_option maxRecDepth 100000 in
set_option maxHeartbeats 3200000 in
theorem alive_any (w : World) : Calls Try.prog 9 #[] w fun e w' => e = .returned (.bool true) ∧ Below w.heap.size w w' := by
  obtain ⟨a1, a2, a3, q1, q2, q3, q4, q5, q6⟩ := al_is
  have Q1 := Lib.hid q1
  have Q2 := Lib.hid q2
  have Q3 := Lib.hid q3
  have Q4 := Lib.hid q4
  have Q5 := Lib.hid q5
  have Q6 := Lib.hid q6
  clear q1 q2 q3 q4 q5 q6
  have tok1 : True := trivial
  go_enter Try.func9, Try.ntmps9
  go_wp2_with (first
    | (go_at_call 8; refine (new_yes 8 _ (by decide)).mono ?_; rintro e w1 ⟨b, r, m, rfl, hM1⟩
       have hM1' : Mine w.heap.size b r m (fresh 8) w w1 := hM1
       have hm1 := hM1.2.1.lt
       have hd1 := data_mine (hM1'.below (below1 w1 (.cells #[.int .u8 99] 5 (1, 2)))) 2 (.slice (some ⟨w1.heap.size, 0, none⟩) 1 1) [99] false (Rd.mark [99] (by simp) 1 rfl (by unfold maxLen; omega) _ _ rfl) (fun _ j hj => by simp only [Value.ownBlock, Option.some.injEq] at hj; subst hj; exact ⟨by omega, by omega, by omega⟩)
       rw [Q1.out] at hd1
       have HD1 := Lib.hid hd1
       have kc1 := Lib.run_convert_bytes_const (P := Try.prog) w1 22 5 #[.int .u8 99] 1 1 Try.underlying22 Try.underlying5
       clear hM1 hM1' hm1 hd1)
    | (go_at_call 10; have _t := tok1; refine HD1.out.mono ?_; rintro e w2 ⟨rfl, hM2, _⟩
       clear tok1
       have hm2 := hM2.2.1.lt
       have hd2 := data_mine (hM2.below (below1 w2 (.cells #[.int .u8 97, .int .u8 98] 5 (2, 3)))) 0 (.slice (some ⟨w2.heap.size, 0, none⟩) 2 2) [97, 98] false (Rd.mark [97, 98] (by simp) 2 rfl (by unfold maxLen; omega) _ _ rfl) (fun _ j hj => by simp only [Value.ownBlock, Option.some.injEq] at hj; subst hj; exact ⟨by omega, by omega, by omega⟩)
       rw [Q2.out] at hd2
       have HD2 := Lib.hid hd2
       have kc2 := Lib.run_convert_bytes_const (P := Try.prog) w2 22 5 #[.int .u8 97, .int .u8 98] 2 2 Try.underlying22 Try.underlying5
       clear hM2 hm2 hd2)
    | (go_at_call 10; refine HD2.out.mono ?_; rintro e w3 ⟨rfl, hM3, _⟩
       have HM3 := Lib.hid hM3
       have hr3 := ready_any w3 hM3.1 hM3.2.1
       rw [Q3.out] at hr3
       have HR3 := Lib.hid hr3
       have hd3 := read_mine hM3 9
       rw [Q4.out] at hd3
       have HD3 := Lib.hid hd3
       clear hM3 hr3 hd3)
    | (go_at_call 17; refine HR3.out.mono ?_; rintro e w4 ⟨rfl, h⟩; obtain rfl : w3 = w4 := h.symm)
    | (go_at_call 11; refine HD3.out.mono ?_; rintro e w5 ⟨v5, rfl, hG5, hM5, _⟩
       have HM5 := Lib.hid hM5
       have hl5 := limit_i w5 hM5.1 hM5.2.1
       rw [Q5.out] at hl5
       have HL5 := Lib.hid hl5
       have hcv := Rd.conv hG5.rd Try.underlying22 Try.underlying5 Try.underlying9
       rw [strN3] at hcv
       have hs5 : ∃ a c, v5 = .slice a 3 c := hG5.shape
       obtain ⟨a5, c5, rfl⟩ := hs5
       clear hM5 hG5 hl5)
    | (go_at_call 14; refine HL5.out.mono ?_; rintro e w6 ⟨rfl, n6, rfl⟩
       have ho6 := over_any (w5.drewN n6) (HM5.out.2.1.drewN n6)
       rw [Q6.out] at ho6
       have HO6 := Lib.hid ho6
       clear ho6)
    | (go_at_call 13; refine HO6.out.mono ?_; rintro e w7 ⟨rfl, n7, rfl⟩))
  go_ret
  exact ⟨rfl, below_drewN HM5.out.2.2.2 _⟩
end Go.Proofs.Ytgckidgkimgpeaa
