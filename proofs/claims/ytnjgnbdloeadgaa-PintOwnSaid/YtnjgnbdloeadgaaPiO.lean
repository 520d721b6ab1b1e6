/- Walks of layer 11: the law Own. -/
import Derived.Test.YtnjgnbdloeadgaaPiN
set_option maxRecDepth 100000
namespace Go.Proofs.Ytnjgnbdloeadgaa
open Go.RowKit

theorem getD_zeros12 (xs : List Int) (j : Nat) (h : j < 12) : (xs ++ List.replicate 12 (0 : Int)).getD (xs.length + j) 0 = 0 := by
  rw [List.getD, List.getElem?_append_right (by omega), List.getElem?_replicate, if_pos (by omega)]; rfl

set_option maxHeartbeats 4000000 in
theorem pintOwn_walk (v : Value) (xs : List Int) (f k n : Int) (w : World) (hr : Rd .u8 w v xs) (hl : xs.length ≤ 140737488351232) :
    Calls Try.prog 7 #[v, .agg #[.int .i64 f, .int .i64 k, .int .i64 n]] w (Yes w) := by
  have bW := Lib.hid ((Below.refl w.heap.size w).alloc (Nat.le_refl _) (.cells #[.int .i64 f, .int .i64 k, .int .i64 n] 24))
  have HA := Lib.hid (held3_last f k n 24 w)
  have hR := Lib.hid (hr.below bW.out)
  obtain ⟨va, vc, rfl⟩ := hr.isSlice
  clear hr
  go_enter Try.func7, Try.ntmps7
  go_upto_region 1 with fail
  generalize w.alloc (.cells #[.int .i64 f, .int .i64 k, .int .i64 n] 24) = w0 at bW HA hR ⊢
  have h1 := hR.out.conv Try.underlying22 Try.underlying5 Try.underlying9
  go_wp2_with (first
    | (at_make; refine wpList_make_cap _ rfl _ _ _ rfl elemU8 Try.underlying22 .i64 .i64 _ (xs.length + 12) rfl rfl (by simp) (by omega) (by unfold maxLen; omega) w0.heap.size (Nat.le_refl _) ?_; intro w1 o1 g1; have b1 : Below w0.heap.size w0 w1 := (Below.refl _ _).grown g1 (Nat.le_refl _) (by simp); have r1 := hR.out.below b1; have z1 := b1.size; clear h1)
    | (at_builtin; ((with_reducible refine wpList_append_room _ ?_ (.tmp 18) (.tmp 19) 22 ?_ elemU8 Try.underlying22 w0.heap.size w0.heap.size 0 (xs.length + 12) (List.replicate (xs.length + 12) 0) ?_ o1 (.slice va xs.length vc) xs ?_ r1 ?_ ?_); rfl; rfl; rfl; rfl; (simp); intro w2 o2 g2; have b2 : Below w0.heap.size w0 w2 := b1.grown g2 z1 (by simp); have z2 := b2.size; have HA := Lib.hid (HA.out.below b2); obtain ⟨a0, a1, a2⟩ := HA.out.facts; rw [Nat.zero_add])))
  have o2' : Own .u8 5 w2 w0.heap.size (.slice (some ⟨w0.heap.size, 0, none⟩) (xs.length + 12) (xs.length + 12)) (xs ++ List.replicate 12 0) := by
    simpa using o2
  have rc : Rd .u8 w2 (.slice (some ⟨w0.heap.size, 0, none⟩) xs.length (xs.length + 12)) xs := by
    have := o2'.front xs.length (by simp)
    simpa using this
  have hw2 : w0.heap.size < w2.heap.size := by
    have := o2'.blt w0.heap.size rfl; exact this
  have O2 := Lib.hid o2'
  have RC := Lib.hid rc
  clear o2 o2' rc o1 g1 g2 r1
  refine (put_any _ xs f k n w2 RC.out hl).mono ?_
  rintro e w3 ⟨u, y, c, rfl, o3, b3, _⟩
  have z3 := b3.size
  obtain ⟨ua, uc, hu⟩ := o3.len
  have yl : y.length ≤ 9223372036854775807 := o3.rd.len
  subst hu
  have O3 := Lib.hid o3
  clear o3 a0 a1 a2
  go_wp2_with fail
  go_loopw [34] (fun i wr => ∃ (k : Nat) (zs : List Int), k ≤ y.length ∧ zs.length = y.length ∧ i = .int .i64 k ∧ Own .u8 5 wr w2.heap.size (.slice ua y.length uc) zs ∧ Below w2.heap.size w2 wr) (fun i _ => y.length - (intOf i).toNat)
  case atStart => exact ⟨0, y, Nat.zero_le _, rfl, rfl, O3.out, b3⟩
  case round =>
    obtain ⟨k, zs, hk, hzl, rfl, ho, hb⟩ := hrel
    have HZ := Lib.hid hzl
    clear hzl
    by_cases hlt : k < y.length
    · obtain ⟨g2, rfl, hg2⟩ := ho.shape (by rw [HZ.out]; omega)
      obtain ⟨hcell, hfr⟩ := ho.at k (by rw [HZ.out]; exact hlt)
      go_wp2_with fail
      go_roundw
      case rel => exact ⟨k + 1, zs.set k _, by omega, by rw [List.length_set]; exact HZ.out, by go_num, ho.set k _, hb.setCell hg2 _⟩
      case measure => simp [intOf]; omega
    · have oc := O2.out.keep hb
      have hzr := hb.size
      have BR : Below w0.heap.size w0 wr := b2.trans (hb.mono z2)
      have k1 := ((RC.out).below hb).conv Try.underlying22 Try.underlying5 Try.underlying9
      have k2 := (hR.out.below BR).conv Try.underlying22 Try.underlying5 Try.underlying9
      have OC := Lib.hid oc
      have BZ : Hid (Below w.heap.size w wr) := Lib.hid (bW.out.trans (BR.mono bW.out.size))
      clear oc ho hb
      go_wp2_with fail
      obtain ⟨wq, hwq⟩ : ∃ wq : World, wq = wr := ⟨_, rfl⟩
      subst hwq
      go_loop [54] (fun i => ∃ j : Nat, j ≤ 12 ∧ i = .int .i64 j) (fun i => 12 - (intOf i).toNat)
      case atStart => exact ⟨0, by omega, rfl⟩
      case round =>
        obtain ⟨j, hj, rfl⟩ := hrel
        by_cases hjl : j < 12
        · have hcell := (OC.out.at (xs.length + j) (by simp; omega)).1
          have h0 : (xs ++ List.replicate 12 (0 : Int)).getD (xs.length + j) 0 = 0 := getD_zeros12 xs j hjl
          rw [h0] at hcell
          clear h0
          go_wp2_with fail
          go_round
          case rel => exact ⟨j + 1, by omega, by go_num⟩
          case measure => simp [intOf]; omega
        · go_wp2_with fail
          refine (alive_any _).mono ?_
          rintro e w5 ⟨rfl, b5⟩
          go_wp2_with fail
          go_ret
          exact ⟨rfl, BZ.out.trans (b5.mono BZ.out.size)⟩
end Go.Proofs.Ytnjgnbdloeadgaa
