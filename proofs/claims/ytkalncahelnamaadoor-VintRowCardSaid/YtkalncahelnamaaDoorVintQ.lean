/- The walks of VintBack and VintRow. -/
import Derived.Test.YtkalncahelnamaaDoorVintP
namespace Go.Proofs.YtkalncahelnamaaDoor
open Go.RowKit

set_option maxHeartbeats 1000000 in
theorem vintBack_walk (v z : Value) (xs zs : List Int) (n width : Int) (w : World) (ht : Tab w) (hr : Rd .u8 w v xs) (hz : Rd .u8 w z zs) (hx : Bts xs) (hzb : Bts zs) (hl : xs.length + zs.length ≤ 140737488351232) :
    Calls Tryd.prog 6 #[v, z, .agg #[.int .i64 n, .int .i64 width]] w (Yes w) := by
  have hp := ht.pos
  have hT := Lib.hid ht
  have hR := Lib.hid hr
  have hZ := Lib.hid hz
  have hX := Lib.hid hx
  have hZB := Lib.hid hzb
  obtain ⟨va, vc, rfl⟩ := hr.isSlice
  clear ht hr hx hz hzb
  go_enter Tryd.func6, Tryd.ntmps6
  go_wp2_with fail
  go_quiet (fail)
  go_wp2_with fail
  have bW : Below w.heap.size w ((w.alloc (.cells #[.int .i64 n, .int .i64 width] 44)).drewN nq) := below_drewN ((Below.refl _ _).alloc (Nat.le_refl _) _) _
  have sW : ((w.alloc (.cells #[.int .i64 n, .int .i64 width] 44)).drewN nq).heap.size = w.heap.size + 1 := by simp [World.drewN]
  refine (putWide_any _ xs n width _ (hT.out.below bW hp) (hR.out.below bW) (by omega)).mono ?_
  rintro e w1 ⟨u1, y1, c1, rfl, o1, b1, d1⟩
  rw [sW] at o1 b1
  have B1 : Below w.heap.size w w1 := bW.trans (b1.mono (by omega))
  have z1 := B1.size
  have hT1 : Hid (Tab w1) := hT.out.below B1 hp
  clear sW bW b1
  rcases d1 with ⟨q, hq, rfl, rfl⟩ | ⟨hq, rfl, rfl⟩
  · have hlen : y1.length = xs.length + width.toNat ∧ okW width ∧ fitsB n width = true ∧ y1 = xs ++ enc n width := by
      unfold putL at hq
      split at hq
      · rename_i h
        cases hq
        exact ⟨by rw [List.length_append, enc_len n width h.2], h.2, h.1, rfl⟩
      · cases hq
    obtain ⟨hyl, hokw, hfw, hy⟩ := hlen
    have hyb : y1.length ≤ xs.length + 8 := by rcases hokw with h | h | h | h <;> rw [h] at hyl <;> simp at hyl <;> omega
    have HY := Lib.hid hy
    have HYL := Lib.hid hyl
    have HO := Lib.hid hokw
    have HF := Lib.hid hfw
    clear hq hy hyl hokw hfw
    obtain ⟨ua, uc, rfl⟩ := o1.len
    go_wp2_with (first
      | (at_builtin; ((with_reducible refine wpList_append_rd _ ?_ (.const (.slice none 0 0)) (.tmp 34) 22 ?_ elemU8 Tryd.underlying22 w1.heap.size (.slice none 0 0) [] ?_ (Own.nil _ _ _ _) (.slice ua y1.length uc) y1 ?_ o1.rd ?_ ?_ ?_ ?_)); rfl; rfl; rfl; rfl; (simp; omega); (simp; unfold maxLen; omega); (exact Nat.le_refl _); intro v2 w2 o2 g2; have b2 : Below w1.heap.size w1 w2 := (Below.refl _ _).grown g2 (Nat.le_refl _) (by simp [Value.ownBlock]); have z2 := b2.size)
      | (at_builtin; ((with_reducible refine wpList_append_rd _ ?_ (.tmp 35) (.tmp 36) 22 ?_ elemU8 Tryd.underlying22 w1.heap.size _ _ ?_ o2 z zs ?_ (hZ.out.below (B1.trans (b2.mono z1))) ?_ ?_ ?_ ?_)); rfl; rfl; rfl; rfl; (simp; omega); (simp; unfold maxLen; omega); (exact b2.size); intro v3 w3 o3 g3; have b3 : Below w1.heap.size w1 w3 := b2.grown g3 z2 o2.blk))
    have hL : Hid (getS ([] ++ y1 ++ zs) xs.length = some (n, width.toNat)) := by
      have h0 : [] ++ y1 ++ zs = xs ++ (enc n width ++ zs) := by rw [HY.out]; simp
      rw [h0]; exact getS_enc xs zs n width HO.out HF.out
    have hLb : Bts ([] ++ y1 ++ zs) := by
      rw [List.nil_append, HY.out]; exact (hX.out.append (enc_bts _ _)).append hZB.out
    have hpos : 0 < width.toNat := by rcases HO.out with h | h | h | h <;> rw [h] <;> decide
    have hLl : xs.length < ([] ++ y1 ++ zs).length := by rw [List.nil_append, List.length_append, HYL.out]; omega
    have B3 : Below w.heap.size w w3 := B1.trans (b3.mono z1)
    have hT3 : Hid (Tab w3) := hT.out.below B3 hp
    have z3 := b3.size
    refine (get_at v3 ([] ++ y1 ++ zs) xs.length w3 hT3.out o3.rd hLb hLl).mono ?_
    rintro e w4 hget
    rcases hget with ⟨n', W', hg, _, _, he⟩ | ⟨hg, he⟩
    · rw [hL.out] at hg
      cases hg
      obtain ⟨rfl, b4⟩ := he
      have z4 := b4.size
      have hw8 : ((width.toNat : Nat) : Int) = width := by rcases HO.out with h | h | h | h <;> rw [h] <;> rfl
      have e1 : ((xs.length + width.toNat : Nat) : Int) = xs.length + width := by rw [← hw8]; simp
      have hyl' : (y1.length : Int) = xs.length + width := by rw [HYL.out, e1]
      rw [e1]
      have B4 : Below w.heap.size w w4 := B3.trans (b4.mono (by omega))
      have hT4 : Hid (Tab (w4.alloc (.cells #[.int .i64 0, .int .i64 0] 35))) := hT.out.below (B4.alloc (by omega) _) hp
      have hwlo : 0 ≤ width ∧ width ≤ 8 := by rcases HO.out with h | h | h | h <;> rw [h] <;> decide
      have hbq : ((y1.length : Int) == (xs.length : Int) + width) = true := by rw [hyl']; simp
      have hyl'' := Lib.hid hyl'
      clear hw8 e1 hyl' hLb hLl
      go_wp2_with fail
      refine (alive_any _ hT4.out).mono ?_
      rintro e w5 ⟨rfl, b5⟩
      go_wp2_with fail
      go_ret
      exact ⟨rfl, (B4.alloc (by omega) _).trans (b5.mono (by simp; omega))⟩
    · rw [hL.out] at hg
      cases hg
  · obtain ⟨ua, uc, rfl⟩ := o1.len
    go_wp2_with fail
    refine (alive_any _ hT1.out).mono ?_
    rintro e w5 ⟨rfl, b5⟩
    go_wp2_with fail
    go_ret
    exact ⟨rfl, B1.trans (b5.mono z1)⟩
end Go.Proofs.YtkalncahelnamaaDoor
