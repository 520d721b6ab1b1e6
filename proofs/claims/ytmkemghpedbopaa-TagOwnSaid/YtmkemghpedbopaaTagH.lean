/- The walk of layer 2's law TagOwn. -/
import Derived.Test.YtmkemghpedbopaaTagF
namespace Go.Proofs.Ytmkemghpedbopaa
open Go.RowKit

theorem getD_zeros12 (xs : List Int) (j : Nat) (h : j < 12) : (xs ++ List.replicate 12 (0 : Int)).getD (xs.length + j) 0 = 0 := by
  rw [List.getD, List.getElem?_append_right (by omega), List.getElem?_replicate, if_pos (by omega)]; rfl

set_option maxRecDepth 100000 in
set_option maxHeartbeats 4000000 in
theorem tagOwn_walk (key : Int) (v : Value) (xs : List Int) (w : World) (hr : Rd .u8 w v xs) (hx : Bts xs) (hl : xs.length ≤ 140737488351232) :
    Calls Try.prog 9 #[.int .u64 key, v] w (Yes w) := by
  have hR := Lib.hid hr
  have h1 := hr.conv Try.underlying23 Try.underlying5 Try.underlying9
  obtain ⟨va, vc, rfl⟩ := hr.isSlice
  clear hr
  go_enter Try.func9, Try.ntmps9
  go_wp2_with (first
    | (at_make; refine wpList_make_cap _ rfl _ _ _ rfl elemU8 Try.underlying23 .i64 .i64 _ (xs.length + 12) rfl rfl (by simp) (by omega) (by unfold maxLen; omega) w.heap.size (Nat.le_refl _) ?_; intro w1 o1 g1; have b1 : Below w.heap.size w w1 := (Below.refl _ _).grown g1 (Nat.le_refl _) (by simp); have r1 := hR.out.below b1; have z1 := b1.size; clear h1)
    | (at_builtin; ((with_reducible refine wpList_append_room _ ?_ (.tmp 22) (.tmp 23) 23 ?_ elemU8 Try.underlying23 w.heap.size w.heap.size 0 (xs.length + 12) (List.replicate (xs.length + 12) 0) ?_ o1 (.slice va xs.length vc) xs ?_ r1 ?_ ?_); rfl; rfl; rfl; rfl; (simp); intro w2 o2 g2; have b2 : Below w.heap.size w w2 := b1.grown g2 z1 (by simp); have z2 := b2.size; rw [Nat.zero_add])))
  have o2' : Own .u8 5 w2 w.heap.size (.slice (some ⟨w.heap.size, 0, none⟩) (xs.length + 12) (xs.length + 12)) (xs ++ List.replicate 12 0) := by
    simpa using o2
  have rc : Rd .u8 w2 (.slice (some ⟨w.heap.size, 0, none⟩) xs.length (xs.length + 12)) xs := by
    have := o2'.front xs.length (by simp)
    simpa using this
  have hw2 : w.heap.size < w2.heap.size := by
    have := o2'.blt w.heap.size rfl; exact this
  have O2 := Lib.hid o2'
  have RC := Lib.hid rc
  clear o2 o2' rc o1 g1 g2 r1
  refine (seal_any key _ xs w2 RC.out hx (by omega)).mono ?_
  rintro e w3 ⟨u3, rfl, o3, b3⟩
  have z3 := b3.size
  go_wp2_with fail
  refine (open_any key u3 (sealL key xs) w3 o3.rd (sealL_bts key hx) (by rw [sealL_len]; omega)).mono ?_
  rintro e w4 ⟨u4, y4, c4, rfl, o4, b4, d4⟩
  obtain ⟨hy, rfl⟩ := OpenIs.one (ys := xs) (c := 0) (.inl ⟨open_seal key xs, rfl⟩) d4
  obtain rfl : xs = y4 := hy.symm
  clear d4
  have O3 := Lib.hid o3
  obtain ⟨ua, uc, rfl⟩ := o4.len
  have O4 := Lib.hid o4
  clear o3 o4
  go_wp2_with fail
  go_loopw [36] (fun i wr => ∃ (k : Nat) (zs : List Int), k ≤ xs.length ∧ zs.length = xs.length ∧ i = .int .i64 k ∧ Own .u8 5 wr w3.heap.size (.slice ua xs.length uc) zs ∧ Below w3.heap.size w3 wr) (fun i _ => xs.length - (intOf i).toNat)
  case atStart => exact ⟨0, xs, Nat.zero_le _, rfl, rfl, O4.out, b4⟩
  case round =>
    obtain ⟨k, zs, hk, hzl, rfl, ho, hb⟩ := hrel
    have HZ := Lib.hid hzl
    clear hzl
    by_cases hlt : k < xs.length
    · obtain ⟨g2, rfl, hg2⟩ := ho.shape (by rw [HZ.out]; omega)
      obtain ⟨hcell, hfr⟩ := ho.at k (by rw [HZ.out]; exact hlt)
      go_wp2_with fail
      go_roundw
      case rel => exact ⟨k + 1, zs.set k _, by omega, by rw [List.length_set]; exact HZ.out, by go_num, ho.set k _, hb.setCell hg2 _⟩
      case measure => simp [intOf]; omega
    · have b2r : Below w2.heap.size w2 wr := b3.trans (hb.mono z3)
      have BR : Below w.heap.size w wr := b2.trans (b2r.mono z2)
      have z4 := hb.size
      have z5 := b2r.size
      clear ho
      go_wp2_with fail
      refine (seal_any key _ xs wr (hR.out.below BR) hx (by omega)).mono ?_
      rintro e w5 ⟨u5, rfl, o5, b5⟩
      have b25 : Below w2.heap.size w2 w5 := b2r.trans (b5.mono z5)
      have O35 : Hid (Own .u8 5 w5 w2.heap.size u3 (sealL key xs)) := O3.out.below (hb.trans (b5.mono z4))
      have O5 := Lib.hid o5
      clear o5
      go_wp2_with fail
      refine (same_yes u3 u5 _ _ O35.out.rd O5.out.rd (sealL_bts key hx)).mono ?_
      rintro e w6 ⟨rfl, rfl⟩
      obtain ⟨ub, ud, hub⟩ := O35.out.len
      have hsl := sealL_len key xs
      rw [hsl] at hub
      subst hub
      have HSL := Lib.hid hsl
      clear hsl
      obtain ⟨g3, hg3, hg3'⟩ := O35.out.shape (by rw [HSL.out]; omega)
      subst hg3
      go_wp2_with fail
      have O35' : Own .u8 5 w5 w2.heap.size (.slice (some ⟨g3, 0, none⟩) (xs.length + 8) ud) (sealL key xs) := O35.out
      have O35 := Lib.hid O35'
      clear O35' hy
      go_loopw [54] (fun i wr => ∃ (k : Nat) (zs : List Int), k ≤ xs.length + 8 ∧ zs.length = xs.length + 8 ∧ i = .int .i64 k ∧ Own .u8 5 wr w2.heap.size (.slice (some ⟨g3, 0, none⟩) (xs.length + 8) ud) zs ∧ Below w2.heap.size w2 wr) (fun i _ => xs.length + 8 - (intOf i).toNat)
      case atStart => exact ⟨0, sealL key xs, Nat.zero_le _, HSL.out, rfl, O35.out, b25⟩
      case round =>
        obtain ⟨k2, zs2, hk2, hzl2, rfl, ho2, hb2⟩ := hrel
        have HZ2 := Lib.hid hzl2
        clear hzl2
        by_cases hlt2 : k2 < xs.length + 8
        · obtain ⟨hcell, hfr⟩ := ho2.at k2 (by rw [HZ2.out]; exact hlt2)
          go_wp2_with fail
          go_roundw
          case rel => exact ⟨k2 + 1, zs2.set k2 _, by omega, by rw [List.length_set]; exact HZ2.out, by go_num, ho2.set k2 _, hb2.setCell hg3' _⟩
          case measure => simp [intOf]; omega
        · have BR2 : Below w.heap.size w wr := b2.trans (hb2.mono z2)
          have OC := Lib.hid (O2.out.keep hb2)
          have k1 := ((RC.out).below hb2).conv Try.underlying23 Try.underlying5 Try.underlying9
          have k3 := (hR.out.below BR2).conv Try.underlying23 Try.underlying5 Try.underlying9
          have hle : (xs.length : Int) ≤ (xs.length : Int) + 12 := by omega
          clear ho2
          go_wp2_with fail
          obtain ⟨wq, hwq⟩ : ∃ wq : World, wq = wr := ⟨_, rfl⟩
          subst hwq
          go_loop [12, 74] (fun q i => ∃ j : Nat, j ≤ 12 ∧ i = .int .i64 j ∧ q = .bool true) (fun _ i => 12 - (intOf i).toNat)
          case atStart => exact ⟨0, by omega, rfl, rfl⟩
          case round =>
            obtain ⟨j, hj, rfl, rfl⟩ := hrel
            by_cases hjl : j < 12
            · have hcell := (OC.out.at (xs.length + j) (by simp; omega)).1
              have h0 : (xs ++ List.replicate 12 (0 : Int)).getD (xs.length + j) 0 = 0 := getD_zeros12 xs j hjl
              rw [h0] at hcell
              clear h0
              go_wp2_with fail
              go_round
              case rel => exact ⟨j + 1, by omega, by go_num, rfl⟩
              case measure => simp [intOf]; omega
            · go_wp2_with fail
              refine (alive_any _).mono ?_
              rintro e w7 ⟨rfl, b7⟩
              go_wp2_with fail
              go_ret
              exact ⟨rfl, BR2.trans (b7.mono BR2.size)⟩
end Go.Proofs.Ytmkemghpedbopaa
