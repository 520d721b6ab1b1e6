/- The walk of VintOwn. -/
import Derived.Test.YtkalncahelnamaaDoorVintR
namespace Go.Proofs.YtkalncahelnamaaDoor
open Go.RowKit

theorem getD_zeros (xs : List Int) (j : Nat) (h : j < 9) : (xs ++ List.replicate 9 (0 : Int)).getD (xs.length + j) 0 = 0 := by
  rw [List.getD, List.getElem?_append_right (by omega), List.getElem?_replicate, if_pos (by omega)]; rfl
set_option maxHeartbeats 2000000 in
theorem vintOwn_walk (v : Value) (xs : List Int) (n : Int) (w : World) (ht : Tab w) (hr : Rd .u8 w v xs) (hl : xs.length ≤ 140737488351232) :
    Calls Tryd.prog 9 #[v, .int .i64 n] w (Yes w) := by
  have hp := ht.pos
  have hT := Lib.hid ht
  have hR := Lib.hid hr
  have h1 := hr.conv Tryd.underlying22 Tryd.underlying5 Tryd.underlying9
  obtain ⟨va, vc, rfl⟩ := hr.isSlice
  clear ht hr
  go_enter Tryd.func9, Tryd.ntmps9
  go_wp2_with (first
    | (at_make; refine wpList_make_cap _ rfl _ _ _ rfl elemU8 Tryd.underlying22 .i64 .i64 _ (xs.length + 9) rfl rfl (by simp) (by omega) (by unfold maxLen; omega) w.heap.size (Nat.le_refl _) ?_; intro w1 o1 g1; have b1 : Below w.heap.size w w1 := (Below.refl _ _).grown g1 (Nat.le_refl _) (by simp); have r1 := hR.out.below b1; have z1 := b1.size; clear h1)
    | (at_builtin; ((with_reducible refine wpList_append_room _ ?_ (.tmp 18) (.tmp 19) 22 ?_ elemU8 Tryd.underlying22 w.heap.size w.heap.size 0 (xs.length + 9) (List.replicate (xs.length + 9) 0) ?_ o1 (.slice va xs.length vc) xs ?_ r1 ?_ ?_); rfl; rfl; rfl; rfl; (simp); intro w2 o2 g2; have b2 : Below w.heap.size w w2 := b1.grown g2 z1 (by simp); have z2 := b2.size; rw [Nat.zero_add])))
  have o2' : Own .u8 5 w2 w.heap.size (.slice (some ⟨w.heap.size, 0, none⟩) (xs.length + 9) (xs.length + 9)) (xs ++ List.replicate 9 0) := by
    simpa using o2
  have rc : Rd .u8 w2 (.slice (some ⟨w.heap.size, 0, none⟩) xs.length (xs.length + 9)) xs := by
    have := o2'.front xs.length (by simp)
    simpa using this
  have hw2 : w.heap.size < w2.heap.size := by
    have := o2'.blt w.heap.size rfl; exact this
  have O2 := Lib.hid o2'
  have RC := Lib.hid rc
  clear o2 o2' rc o1 g1 g2 r1
  refine (put_any _ xs n w2 (hT.out.below b2 hp) RC.out hl).mono ?_
  rintro e w3 ⟨u, y, c, rfl, o3, b3, _⟩
  have z3 := b3.size
  obtain ⟨ua, uc, hu⟩ := o3.len
  have yl : y.length ≤ 9223372036854775807 := o3.rd.len
  subst hu
  have B3 : Below w.heap.size w w3 := b2.trans (b3.mono z2)
  have O3 := Lib.hid o3
  clear o3
  go_wp2_with fail
  go_loopw [29] (fun i wr => ∃ (k : Nat) (zs : List Int), k ≤ y.length ∧ zs.length = y.length ∧ i = .int .i64 k ∧ Own .u8 5 wr w2.heap.size (.slice ua y.length uc) zs ∧ Below w2.heap.size w2 wr) (fun i _ => y.length - (intOf i).toNat)
  case atStart => exact ⟨0, y, Nat.zero_le _, rfl, rfl, O3.out, b3⟩
  case round =>
    obtain ⟨k, zs, hk, hzl, rfl, ho, hb⟩ := hrel
    have HZ := Lib.hid hzl
    clear hzl
    by_cases hlt : k < y.length
    · obtain ⟨g2, rfl, hg2⟩ := ho.shape (by rw [HZ.out]; omega)
      obtain ⟨hcell, hfr⟩ := ho.at k (by rw [HZ.out]; exact hlt)
      go_wp2_with fail
      go_roundw
      case rel => exact ⟨k + 1, zs.set k _, by omega, by rw [List.length_set]; exact HZ.out, by go_num, ho.set k _, hb.setCell hg2 _⟩
      case measure => simp [intOf]; omega
    · have oc := O2.out.keep hb
      have hzr := hb.size
      have BR : Below w.heap.size w wr := b2.trans (hb.mono z2)
      have k1 := ((RC.out).below hb).conv Tryd.underlying22 Tryd.underlying5 Tryd.underlying9
      have k2 := (hR.out.below BR).conv Tryd.underlying22 Tryd.underlying5 Tryd.underlying9
      have OC := Lib.hid oc
      have hTr : Hid (Tab wr) := hT.out.below BR hp
      clear oc ho hb
      go_wp2_with fail
      obtain ⟨wq, hwq⟩ : ∃ wq : World, wq = wr := ⟨_, rfl⟩
      subst hwq
      go_loop [49] (fun i => ∃ j : Nat, j ≤ 9 ∧ i = .int .i64 j) (fun i => 9 - (intOf i).toNat)
      case atStart => exact ⟨0, by omega, rfl⟩
      case round =>
        obtain ⟨j, hj, rfl⟩ := hrel
        by_cases hjl : j < 9
        · have hcell := (OC.out.at (xs.length + j) (by simp; omega)).1
          have h0 : (xs ++ List.replicate 9 (0 : Int)).getD (xs.length + j) 0 = 0 := getD_zeros xs j hjl
          rw [h0] at hcell
          clear h0
          go_wp2_with fail
          go_round
          case rel => exact ⟨j + 1, by omega, by go_num⟩
          case measure => simp [intOf]; omega
        · go_wp2_with fail
          refine (alive_any _ hTr.out).mono ?_
          rintro e w5 ⟨rfl, b5⟩
          go_wp2_with fail
          go_ret
          exact ⟨rfl, BR.trans (b5.mono BR.size)⟩
end Go.Proofs.YtkalncahelnamaaDoor
