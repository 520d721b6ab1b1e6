/- Walks of layer 11: the law Back. -/
import Derived.Test.YtnjgnbdloeadgaaPiL
import Derived.Test.YtnjgnbdloeadgaaRow
set_option maxRecDepth 100000
namespace Go.Proofs.Ytnjgnbdloeadgaa
open Go.RowKit

theorem drop_mid (xs ys zs : List Int) : (xs ++ ys ++ zs).drop xs.length = ys ++ zs := by rw [List.append_assoc, List.drop_append, List.drop_of_length_le (Nat.le_refl _)]; simp
theorem flags_back {k f x : Int} (hk : IsW k) (hf : OkF f k) (h0 : 0 ≤ x) (h1 : x ≤ fullI k) : (f + x) % (fullI k + 1) = x := by
  obtain ⟨f0, f1, f2⟩ := hf
  rcases hk.cases with rfl | rfl | rfl | rfl | rfl | rfl | rfl | rfl <;> simp only [fullI, Int.reduceAdd, Int.reduceEq, ↓reduceIte] at * <;> omega
/-- WHAT WAS PUT IS GOT -/
theorem get_enc (xs zs : List Int) (f k n : Int) (hok : OkP f k n) : getP (xs ++ encP f k n ++ zs) xs.length k = (f, n, (xs.length : Int) + sizeN k n, 0, 0) := by
  obtain ⟨hk, hf, n0, n1⟩ := hok
  have f0 := fullI_pos k
  have hel := encP_len f k n
  have hsp := sizeN_pos k n
  unfold getP
  rw [if_neg (by rintro (h | h | h); · omega
                 · simp only [List.length_append] at h; omega
                 · exact h hk), if_neg (by simp only [List.length_append]; omega)]
  simp only [Int.toNat_natCast]
  by_cases hs : n < fullI k
  · have he : encP f k n = [f + n] := by unfold encP; rw [if_pos hs]
    have hh : (xs ++ encP f k n ++ zs).getD xs.length 0 = f + n := by rw [he]; simp [List.getD]
    rw [hh, flags_back hk hf n0 (by omega), if_pos hs, sizeN_lt hs]
    simp
  · have he : encP f k n = (f + fullI k) :: grp (n - fullI k).toNat := by unfold encP; rw [if_neg hs]
    have hh : (xs ++ encP f k n ++ zs).getD xs.length 0 = f + fullI k := by rw [he]; simp [List.getD]
    have hd : (xs ++ encP f k n ++ zs).drop (xs.length + 1) = grp (n - fullI k).toNat ++ zs := by
      rw [he, List.append_assoc, List.drop_append, List.drop_of_length_le (by omega), show xs.length + 1 - xs.length = 1 by omega]; simp
    rw [hh, flags_back hk hf (by omega) (Int.le_refl _), if_neg (by omega), hd]
    have hg := addG_grp (n - fullI k).toNat 0 (fullI k) zs (by omega) (by
      have e : ((128 ^ 0 : Nat) : Int) = 1 := rfl
      rw [e]; omega) (.inl rfl)
    have e : fullI k + ((n - fullI k).toNat : Int) * ((128 ^ 0 : Nat) : Int) = n := by
      have e : ((128 ^ 0 : Nat) : Int) = 1 := rfl
      rw [e]; omega
    rw [hg, e, sizeN_ge hs]
    simp
    omega

theorem below_of_grown {w w' : World} {row : Option Nat} (h : w.grownBy w' row) (hr : ∀ k, row = some k → w.heap.size ≤ k) : Below w.heap.size w w' := (Below.refl _ _).grown h (Nat.le_refl _) hr

theorem below_zeros {B b : Nat} {y z : Int} {w W : World} (h : Below B w W) (_ : Held2 b y z W) (hb : B ≤ b) : Below B w ((W.setCell ⟨b, 0, none⟩ (.int .i64 0)).setCell ⟨b, 1, none⟩ (.int .i64 0)) := (h.setCell hb _).setCell hb _

theorem below_undrew {B : Nat} {w w' : World} (h : Below B w.drew w') : Below B w w' := ⟨h.os, h.tape, h.output, h.size, h.block⟩

set_option maxHeartbeats 3200000 in
theorem pintBack_walk (v z : Value) (xs zs : List Int) (f k n : Int) (w : World) (hr : Rd .u8 w v xs) (hz : Rd .u8 w z zs) (hx : Bts xs) (hzb : Bts zs) (hl : xs.length + zs.length ≤ 140737488351232) :
    Calls Try.prog 4 #[v, z, .agg #[.int .i64 f, .int .i64 k, .int .i64 n]] w (Yes w) := by
  have hR := Lib.hid hr
  have hZ := Lib.hid hz
  have hX := Lib.hid hx
  have hZB := Lib.hid hzb
  obtain ⟨va, vc, rfl⟩ := hr.isSlice
  clear hr hz hx hzb
  have bW : Below w.heap.size w (w.alloc (.cells #[.int .i64 f, .int .i64 k, .int .i64 n] 24)) := (Below.refl _ _).alloc (Nat.le_refl _) _
  have HA := Lib.hid (held3_last f k n 24 w)
  go_enter Try.func4, Try.ntmps4
  go_wp2_with fail
  refine (put_any _ xs f k n _ (hR.out.below bW) (by omega)).mono ?_
  intro e w1 hp1
  by_cases hok : OkP f k n
  · obtain ⟨u, rfl, o1, b1⟩ := PutIs.bytes (zs := xs ++ encP f k n) (by unfold putO; rw [if_pos hok]) hp1
    have HA := Lib.hid (HA.out.below b1)
    have B1 := Lib.hid (bW.trans (b1.mono (by simp)))
    clear hp1 b1 bW
    obtain ⟨a0, a1, a2⟩ := HA.out.facts
    obtain ⟨ua, uc, rfl⟩ := o1.len
    have hel : Hid ((xs ++ encP f k n).length = xs.length + sizeN k n) := by show _ = _; rw [List.length_append, encP_len]
    have hs9 := sizeN_le (w := k) hok.2.2.2
    obtain ⟨Y, hY⟩ : ∃ Y, Y = xs ++ encP f k n := ⟨_, rfl⟩
    rw [← hY] at o1 hel ⊢
    have hYl : Y.length ≤ xs.length + 10 := by rw [hel.out]; omega
    have HY := Lib.hid hY
    clear hY
    have hYz : Y.length + zs.length ≤ 140737488355328 := by omega
    have hFull : Hid (getP ([] ++ Y ++ zs) xs.length k = (f, n, (xs.length : Int) + sizeN k n, 0, 0)) := by
      show _ = _
      rw [List.nil_append, HY.out]; exact get_enc xs zs f k n hok
    have hBt : Hid (Bts ([] ++ Y ++ zs)) := by
      show Bts _
      rw [List.nil_append, HY.out]; exact (hX.out.append (encP_bts hok)).append hZB.out
    have hSz : Hid (∀ W : World, Calls Try.prog 11 #[.int .i64 k, .int .i64 n] W fun e w' => e = .returned (.int .i64 (sizeN k n)) ∧ W = w') := fun W => by
      have := size_any k n W
      unfold sizeP at this
      rw [if_pos ((okP_iff _ _ _).1 hok).1] at this; exact this
    have RX : Hid (∀ W, Below w1.heap.size w1.drew W → Rd .u8 W (.slice ua Y.length uc) Y) := fun W hW => o1.drew.rd.below hW
    have RZ : Hid (∀ W, Below w1.heap.size w1.drew W → Rd .u8 W z zs) := fun W hW => Rd.below (w := w1.drew) (hZ.out.below B1.out.drew) hW
    have HX : Hid (∀ W, Below w1.heap.size w1.drew W → Held3 w.heap.size f k n W) := fun W hW => Held3.below (W := w1.drew) HA.out hW
    have SX : Hid (∀ W, Below w1.heap.size w1.drew W → W.cell? ⟨w.heap.size, 1, none⟩ = some (.int .i64 k)) := fun W hW => (HX.out W hW).facts.2.1
    have LW : Hid (w.heap.size ≤ w1.heap.size) := B1.out.size
    clear o1 hok
    go_upto_region 4 with fail
    go_cut [9, 10, 11, 12] (fun t9 t10 t11 t12 wx => ∃ q : Nat, t9 = .int .i64 f ∧ t10 = .int .i64 n ∧ t11 = .int .i64 ((xs.length : Int) + sizeN k n) ∧ t12 = .pointer (some ⟨q, 0, none⟩) ∧ Held2 q 0 0 wx ∧ Below w1.heap.size w1.drew wx)
    case first =>
      have BB : Hid (Below w1.heap.size w1.drew w1.drew) := Lib.hid (Below.refl _ _)
      have S0 := SX.out _ BB.out
      have NS : Hid (w1.heap.size + 1 ≤ (w1.alloc (.cells #[.int .i64 0, .int .i64 0] 35)).drew.heap.size) := by
        show _ ≤ (w1.alloc (.cells #[.int .i64 0, .int .i64 0] 35)).heap.size
        simp
      have NB : Hid (∀ w' : World, (w1.alloc (.cells #[.int .i64 0, .int .i64 0] 35)).drew.grownBy w' none → Held2 w1.heap.size 0 0 w' ∧ Below w1.heap.size w1.drew w') := fun w' hg => by
        have h1 : Below (w1.alloc (.cells #[.int .i64 0, .int .i64 0] 35)).heap.size (w1.alloc (.cells #[.int .i64 0, .int .i64 0] 35)) w' := ((Below.refl _ (w1.alloc (.cells #[.int .i64 0, .int .i64 0] 35))).drew).grown hg (Nat.le_refl _) (fun _ h => by cases h)
        have h2 := ((Below.refl w1.heap.size w1).alloc (Nat.le_refl _) (.cells #[.int .i64 0, .int .i64 0] 35)).trans (h1.mono (by simp))
        exact ⟨(held2_last 0 0 35 w1).below h1, ⟨h2.os, h2.tape, h2.output, h2.size, h2.block⟩⟩
      have BW : Hid (∀ W, Below w1.heap.size w1.drew W → ∀ o, Below w1.heap.size w1.drew (W.alloc o)) := fun W hW o => hW.alloc hW.size o
      have LZ : Hid (∀ W, Below w1.heap.size w1.drew W → w1.heap.size ≤ W.heap.size) := fun W hW => hW.size
      have K3 := SX.out (w1.alloc (.cells #[.int .i64 0, .int .i64 0] 35)).drew (show Below w1.heap.size w1.drew (w1.drew.alloc (.cells #[.int .i64 0, .int .i64 0] 35)) from BB.out.alloc (Nat.le_refl _) _)
      go_region_held3 (fun w' => w'.cell? ⟨w.heap.size, 1, none⟩ = some (.int .i64 k))
        (first
          | (with_reducible exact S0)
          | (with_reducible exact K3)
          | (with_reducible exact K5)
          | (with_reducible exact SX.out _ BB.out)
          | (with_reducible exact SX.out _ (BW.out _ BB.out _))
          | (with_reducible exact K5))
        (first
          | (refine step_append_rd rfl (.const (.slice none 0 0)) (.tmp 33) 22 rfl elemU8 Try.underlying22 w1.heap.size (.slice none 0 0) [] rfl (Own.nil _ _ _ _) (.slice ua Y.length uc) Y rfl (RX.out _ BB.out) ?_ ?_ ?_ ?_; (simp; omega); (simp; unfold maxLen; omega); (exact LZ.out _ BB.out); intro v2 w2 o2 g2; have BB := Lib.hid (BB.out.grown g2 (Nat.le_refl _) (by simp [Value.ownBlock])))
          | (refine step_append_rd rfl (.const (.slice none 0 0)) (.tmp 33) 22 rfl elemU8 Try.underlying22 (w1.heap.size + 1) (.slice none 0 0) [] rfl (Own.nil _ _ _ _) (.slice ua Y.length uc) Y rfl (RX.out _ (BW.out _ BB.out (.cells #[.int .i64 0, .int .i64 0] 35))) ?_ ?_ ?_ ?_; (simp; omega); (simp; unfold maxLen; omega); (exact NS.out); intro v2 w2 o2 g2; have HN := Lib.hid (NB.out w2 g2).1; have LQ : Hid (w1.heap.size ≤ w1.heap.size) := Lib.hid (Nat.le_refl _); have BB := Lib.hid (NB.out w2 g2).2)
          | (have HN0 := HN; refine step_append_rd rfl (.tmp 34) (.tmp 35) 22 rfl elemU8 Try.underlying22 (w1.heap.size + 1) v2 ([] ++ Y) rfl o2 z zs rfl (RZ.out _ BB.out) ?_ ?_ ?_ ?_; (simp; omega); (simp; unfold maxLen; omega); (exact (Lib.hid HN.out.lt).out); intro v3 w3 o3 g3; have HN : Hid (Held2 w1.heap.size 0 0 w3) := Lib.hid (HN.out.kept g3 (fun h => by have := o2.blk _ h; omega)); have BB := Lib.hid (BB.out.grown g3 (LZ.out _ BB.out) (fun j h => Nat.le_of_succ_le (o2.blk j h))))
          | (refine step_append_rd rfl (.tmp 34) (.tmp 35) 22 rfl elemU8 Try.underlying22 w1.heap.size v2 ([] ++ Y) rfl o2 z zs rfl (RZ.out _ BB.out) ?_ ?_ ?_ ?_; (simp; omega); (simp; unfold maxLen; omega); (exact LZ.out _ BB.out); intro v3 w3 o3 g3; have BB := Lib.hid (BB.out.grown g3 (LZ.out _ BB.out) o2.blk))
          | (refine step_append_rd rfl (.tmp 34) (.tmp 35) 22 rfl elemU8 Try.underlying22 w1.heap.size v2 ([] ++ Y) rfl (o2.alloc _) z zs rfl (RZ.out _ (BW.out _ BB.out _)) ?_ ?_ ?_ ?_; (simp; omega); (simp; unfold maxLen; omega); (exact Nat.le_trans (LZ.out _ BB.out) (by simp)); intro v3 w3 o3 g3; have HN : Hid (Held2 w2.heap.size 0 0 w3) := Lib.hid ((held2_last 0 0 35 w2).kept g3 (fun h => by have := o2.blt _ h; omega)); have LQ : Hid (w1.heap.size ≤ w2.heap.size) := Lib.hid (LZ.out _ BB.out); have BB := Lib.hid ((BW.out _ BB.out (.cells #[.int .i64 0, .int .i64 0] 35)).grown g3 (Nat.le_trans (LZ.out _ BB.out) (by simp)) o2.blk))
          | (go_at_call 14; have HN0 := HN; refine (get_at v3 ([] ++ Y ++ zs) xs.length k _ (o3.rd) hBt.out hFull.out).mono ?_; rintro e w4 ⟨rfl, bn⟩; have HN := Lib.hid (HN.out.below bn); have BB := Lib.hid (BB.out.trans (bn.mono (LZ.out _ BB.out))); obtain ⟨y0, y1⟩ := HN.out.free; obtain ⟨x0, x1⟩ := HN.out.facts; have HF := Lib.hid HN.out.zeros; have BF := Lib.hid (below_zeros BB.out HN.out LQ.out); have K5 := SX.out _ BF.out)
          | (go_at_call 14; refine (get_at v3 ([] ++ Y ++ zs) xs.length k _ (o3.rd) hBt.out hFull.out).mono ?_; rintro e w4 ⟨rfl, bn⟩; have BB := Lib.hid (BB.out.trans (bn.mono (LZ.out _ BB.out))); obtain ⟨y0, y1⟩ := (held2_last 0 0 35 w4).free; have BF := Lib.hid (BW.out _ BB.out (.cells #[.int .i64 0, .int .i64 0] 35)); have K5 := SX.out _ BF.out; have HF := Lib.hid (held2_last 0 0 35 w4))
          | (go_at_call 14; refine (get_at v3 ([] ++ Y ++ zs) xs.length k _ ((o3.alloc _).rd) hBt.out hFull.out).mono ?_; rintro e w4 ⟨rfl, bn⟩; have LQ : Hid (w1.heap.size ≤ w3.heap.size) := Lib.hid (LZ.out _ BB.out); have HN : Hid (Held2 w3.heap.size 0 0 w4) := Lib.hid (Held2.below (held2_last 0 0 35 w3) bn); have BB := Lib.hid ((BW.out _ BB.out (.cells #[.int .i64 0, .int .i64 0] 35)).trans (bn.mono (Nat.le_trans (LZ.out _ BB.out) (by simp)))); obtain ⟨y0, y1⟩ := HN.out.free; obtain ⟨x0, x1⟩ := HN.out.facts; have HF := Lib.hid HN.out.zeros; have BF := Lib.hid (below_zeros BB.out HN.out LQ.out); have K5 := SX.out _ BF.out))
      all_goals
        go_wp2_with fail
        go_meet
        exact ⟨_, rfl, rfl, rfl, rfl, HF.out, BF.out⟩
    case rest =>
      obtain ⟨q, rfl, rfl, rfl, rfl, hq, bx⟩ := hcut
      obtain ⟨a0, a1, a2⟩ := (HX.out _ bx).facts
      obtain ⟨c0, c1⟩ := hq.facts
      have hqz := hq.lt
      have BX := Lib.hid (B1.out.trans ((below_undrew bx).mono LW.out))
      obtain ⟨s, hs⟩ : ∃ s, s = sizeN k n := ⟨_, rfl⟩
      have hel' := hel.out
      have HSZ := hSz
      rw [← hs] at hel' HSZ hs9 ⊢
      have e1 : (((xs.length : Int) + (s : Int)) == (Y.length : Int)) = true := by rw [hel']; simp
      have e2 : IntKind.i64.wrap ((Y.length : Int) - xs.length) = s := by rw [hel', IntKind.wrap_i64]; omega
      clear hel' hel hs hSz HX SX RX RZ HA hq bx
      go_wp2_with (first
        | (go_at_call 11; refine (HSZ.out _).mono ?_; rintro e wn ⟨rfl, rfl⟩)
        | (go_at_call 13; refine (alive_any _).mono ?_; rintro e w5 ⟨rfl, b5⟩))
      go_ret
      exact ⟨rfl, BX.out.trans (b5.mono BX.out.size)⟩
  · have hn : putO xs f k n = none := if_neg hok
    obtain ⟨u, ys, c, rfl, o1, b1, hd⟩ := hp1
    have B1 := Lib.hid (bW.trans (b1.mono (by simp)))
    rcases hd with ⟨zs', h, _⟩ | ⟨_, rfl, rfl⟩
    · rw [hn] at h; cases h
    obtain ⟨ua, uc, rfl⟩ := o1.len
    clear o1 b1 bW HA hn hok
    go_wp2_with fail
    refine (alive_any _).mono ?_
    rintro e w5 ⟨rfl, b5⟩
    go_wp2_with fail
    go_ret
    exact ⟨rfl, B1.out.trans (b5.mono B1.out.size)⟩
end Go.Proofs.Ytnjgnbdloeadgaa
