/- Walks of layer 2: the laws TagTurned, TagUnlike. -/
import Derived.Test.YtmkemghpedbopaaTagF
import Derived.Deep.QuietTactic
import Derived.BigQuiet
namespace Go.Proofs.Ytmkemghpedbopaa
open Go.RowKit

theorem xor8 {a b : Int} (ha : 0 ≤ a ∧ a < 256) (hb : 0 ≤ b ∧ b < 256) : (0 ≤ bits .xor .u8 a b ∧ bits .xor .u8 a b < 256) ∧ (b ≠ 0 → a ≠ bits .xor .u8 a b) ∧ (b = 0 → bits .xor .u8 a b = a) := by
  rw [u8_xor a b ha.1 ha.2 hb.1 hb.2]
  obtain ⟨x, rfl⟩ := Int.eq_ofNat_of_zero_le ha.1
  obtain ⟨y, rfl⟩ := Int.eq_ofNat_of_zero_le hb.1
  simp only [Int.toNat_natCast]
  have h1 : x ^^^ y < 2 ^ 8 := Nat.xor_lt_two_pow (by omega) (by omega)
  refine ⟨⟨by omega, by omega⟩, fun h he => h ?_, fun h => ?_⟩
  · have e : x ^^^ y = x := by omega
    have e2 := congrArg (x ^^^ ·) e
    simp only [← Nat.xor_assoc, Nat.xor_self, Nat.zero_xor] at e2
    omega
  · obtain rfl : y = 0 := by omega
    rw [Nat.xor_zero]

/-- the place, taken modulo -/
theorem place_in (at_ L : Int) (h : 0 < L) : ∃ (m : Int) (i : Nat), at_.tmod L = m ∧ -L < m ∧ m < L ∧ (m + L).tmod L = (i : Int) ∧ (m + L) % L = (i : Int) ∧ (i : Int) < L := by
  have h1 := Int.tmod_lt_of_pos at_ h
  have h2 := Int.tmod_lt_of_pos (-at_) h
  rw [Int.neg_tmod] at h2
  have h3 : 0 ≤ at_.tmod L + L := by omega
  have h4 := Int.emod_nonneg (at_.tmod L + L) (show L ≠ 0 by omega)
  have h5 := Int.emod_lt_of_pos (at_.tmod L + L) h
  exact ⟨_, ((at_.tmod L + L) % L).toNat, rfl, by omega, h1, by rw [Int.tmod_eq_emod_of_nonneg h3]; omega, by omega, by omega⟩

set_option maxHeartbeats 1600000 in
theorem tagTurned_walk (key at_ by_ : Int) (v : Value) (xs : List Int) (w : World) (hr : Rd .u8 w v xs) (hx : Bts xs) (hl : xs.length ≤ 140737488351232) (ha : -9223372036854775808 ≤ at_ ∧ at_ ≤ 9223372036854775807) (hb : 0 ≤ by_ ∧ by_ < 256) :
    Calls Try.prog 6 #[.int .u64 key, v, .agg #[.int .i64 at_, .int .u8 by_]] w (Yes w) := by
  have hR := Lib.hid hr
  obtain ⟨va, vc, rfl⟩ := hr.isSlice
  clear hr
  obtain ⟨ha0, ha1⟩ := ha
  obtain ⟨hb0, hb1⟩ := hb
  go_enter Try.func6, Try.ntmps6
  go_wp2
  go_quiet (fail)
  go_wp2_with fail
  have bq : Below w.heap.size w ((w.alloc (.cells #[.int .i64 at_, .int .u8 by_] 35)).drewN nq) := below_drewN ((Below.refl _ _).alloc (Nat.le_refl _) _) _
  refine (seal_any key _ xs _ (hR.out.below bq) hx (by omega)).mono ?_
  rintro e w1 ⟨u1, rfl, o1, b1⟩
  have z1 := b1.size
  have b2 : Below w.heap.size w w1 := bq.trans (b1.mono bq.size)
  obtain ⟨ua, uc, rfl⟩ := o1.len
  obtain ⟨g, rfl, hg⟩ := o1.shape (by rw [sealL_len]; omega)
  have hgs : w.heap.size ≤ g := Nat.le_trans bq.size hg
  obtain ⟨m, i, e1, e2, e3, e4, e5, e6⟩ := place_in at_ ((xs.length : Int) + 8) (by omega)
  have hi : i < xs.length + 8 := by omega
  have hzl := sealL_len key xs
  have hsb := sealL_bts key hx
  obtain ⟨zs, hzs⟩ : ∃ zs, zs = sealL key xs := ⟨_, rfl⟩
  rw [← hzs] at o1 hzl hsb ⊢
  obtain ⟨hc0, hf0⟩ := o1.at i (by omega)
  rw [hzl] at o1 ⊢
  obtain ⟨x, hxe⟩ : ∃ x, x = zs.getD i 0 := ⟨_, rfl⟩
  have hxb := getD_bts hsb i
  rw [← hxe] at hc0 hxb
  have HX := xor8 hxb ⟨hb0, hb1⟩
  obtain ⟨y, hye⟩ : ∃ y, y = bits .xor .u8 x by_ := ⟨_, rfl⟩
  rw [← hye] at HX
  have hye' := hye.symm
  have HXe := Lib.hid hxe
  have HZS := Lib.hid hzs
  have HZL := Lib.hid hzl
  have OW := Lib.hid o1
  have HX := Lib.hid HX
  have hL : ((xs.length : Int) + 8 == 0) = false := by simp; omega
  clear hxe hzs hzl hye o1
  go_wp2_with fail
  have o2 := OW.out.set i y
  have b3 : Below w.heap.size w (w1.setCell ⟨g, i, none⟩ (.int .u8 y)) := b2.setCell hgs _
  have hsb2 : Bts (zs.set i y) := by
    intro z hz
    rcases List.mem_or_eq_of_mem_set hz with h | rfl
    · exact hsb z h
    · exact HX.out.1
  have hl2 : (zs.set i y).length = xs.length + 8 := by rw [List.length_set]; exact HZL.out
  refine (open_any key _ (zs.set i y) _ o2.rd hsb2 (by omega)).mono ?_
  rintro e w4 ⟨u4, y4, c4, rfl, o4, b4, d4⟩
  have b5 : Below w.heap.size w w4 := b3.trans (b4.mono b3.size)
  obtain ⟨ua4, uc4, rfl⟩ := o4.len
  have hi' : i < (sealL key xs).length := by rw [← HZS.out, HZL.out]; exact hi
  have hx0 : (sealL key xs).getD i 0 = x := by rw [← HZS.out]; exact HXe.out.symm
  clear hye' hc0 hf0 e1 e4 e5 o2 OW o4 hl2 hsb2 hsb
  by_cases hb0' : by_ = 0
  · have d5 : openL key (zs.set i y) = some xs := by
      rw [HX.out.2.2 hb0', HXe.out, HZS.out]
      have : (sealL key xs).set i ((sealL key xs).getD i 0) = sealL key xs := by
        rw [List.getD, List.getElem?_eq_getElem hi']; simp
      rw [this]; exact open_seal key xs
    obtain ⟨_, rfl⟩ := OpenIs.one (ys := xs) (c := 0) (.inl ⟨d5, rfl⟩) d4
    subst hb0'
    clear d4 d5 HX HXe HZS HZL hx0
    go_wp2_with fail
    refine (alive_any _).mono ?_
    rintro e w5 ⟨rfl, b6⟩
    go_wp2_with fail
    go_ret
    exact ⟨rfl, b5.trans (b6.mono b5.size)⟩
  · have d5 : openL key (zs.set i y) = none := by
      rw [HZS.out]
      exact open_turned hx hi' HX.out.1 (by rw [hx0]; exact HX.out.2.1 hb0')
    obtain ⟨rfl, rfl⟩ := OpenIs.one (ys := []) (c := 4) (.inr ⟨d5, rfl, rfl⟩) d4
    have hbf : (by_ == 0) = false := by simpa using hb0'
    clear d4 d5 HX HXe HZS HZL hx0 hb0'
    go_wp2_with fail
    refine (alive_any _).mono ?_
    rintro e w5 ⟨rfl, b6⟩
    go_wp2_with fail
    go_ret
    exact ⟨rfl, b5.trans (b6.mono b5.size)⟩

set_option maxHeartbeats 1600000 in
theorem tagUnlike_few (key at_ by_ : Int) (v : Value) (xs : List Int) (w : World) (hr : Rd .u8 w v xs) (hb : xs.length = 0 ∨ by_ = 0) :
    Calls Try.prog 8 #[.int .u64 key, v, .agg #[.int .i64 at_, .int .u8 by_]] w (Yes w) := by
  obtain ⟨va, vc, rfl⟩ := hr.isSlice
  clear hr
  by_cases h0 : xs.length = 0
  · rw [h0]
    clear hb h0
    go_enter Try.func8, Try.ntmps8
    go_wp2
    go_quiet (fail)
    go_wp2_with fail
    have bq : Below w.heap.size w ((w.alloc (.cells #[.int .i64 at_, .int .u8 by_] 35)).drewN nq) := below_drewN ((Below.refl _ _).alloc (Nat.le_refl _) _) _
    refine (alive_any _).mono ?_
    rintro e w5 ⟨rfl, b6⟩
    go_wp2_with fail
    go_ret
    exact ⟨rfl, bq.trans (b6.mono bq.size)⟩
  · obtain rfl : by_ = 0 := hb.resolve_left h0
    have h1 : ((xs.length : Int) == 0) = false := by simp; intro h; exact h0 (by rw [h]; rfl)
    clear hb h0
    go_enter Try.func8, Try.ntmps8
    go_wp2
    go_quiet (fail)
    go_wp2_with fail
    have bq : Below w.heap.size w ((w.alloc (.cells #[.int .i64 at_, .int .u8 0] 35)).drewN nq) := below_drewN ((Below.refl _ _).alloc (Nat.le_refl _) _) _
    refine (alive_any _).mono ?_
    rintro e w5 ⟨rfl, b6⟩
    go_wp2_with fail
    go_ret
    exact ⟨rfl, bq.trans (b6.mono bq.size)⟩

set_option maxHeartbeats 1600000 in
theorem tagUnlike_many (key at_ by_ : Int) (v : Value) (xs : List Int) (w : World) (hr : Rd .u8 w v xs) (hx : Bts xs) (hl : xs.length ≤ 140737488351232) (ha : -9223372036854775808 ≤ at_ ∧ at_ ≤ 9223372036854775807) (hb : 0 ≤ by_ ∧ by_ < 256) (h0 : xs.length ≠ 0) (hb0' : by_ ≠ 0) :
    Calls Try.prog 8 #[.int .u64 key, v, .agg #[.int .i64 at_, .int .u8 by_]] w (Yes w) := by
  have hR := Lib.hid hr
  obtain ⟨va, vc, rfl⟩ := hr.isSlice
  clear hr
  obtain ⟨ha0, ha1⟩ := ha
  obtain ⟨hb0, hb1⟩ := hb
  obtain ⟨m, i, e1, e2, e3, e4, e5, e6⟩ := place_in at_ (xs.length : Int) (by omega)
  have hi : i < xs.length := by omega
  have h1 : ((xs.length : Int) == 0) = false := by simp; intro h; exact h0 (by rw [h]; rfl)
  have h2 : (by_ == 0) = false := by simpa using hb0'
  obtain ⟨x, hxe⟩ : ∃ x, x = xs.getD i 0 := ⟨_, rfl⟩
  have hxb := getD_bts hx i
  rw [← hxe] at hxb
  have HX := xor8 hxb ⟨hb0, hb1⟩
  obtain ⟨y, hye⟩ : ∃ y, y = bits .xor .u8 x by_ := ⟨_, rfl⟩
  rw [← hye] at HX
  have hye' := hye.symm
  have HXe := Lib.hid hxe
  have hne : Hid (tagB key (xs.set i y) ≠ tagB key xs) := fun h => HX.2.1 hb0' (by rw [hxe]; exact tagB_set hx HX.1 hi h)
  have hq : (tagI key xs != tagI key (xs.set i y)) = true := by
    rw [bne_iff_ne]
    intro h
    apply hne.out
    apply BitVec.eq_of_toNat_eq
    unfold tagI at h
    omega
  have hsb2 : Hid (Bts (xs.set i y)) := by
    intro z hz
    rcases List.mem_or_eq_of_mem_set hz with h | rfl
    · exact hx z h
    · exact HX.1
  have HQ := Lib.hid hq
  clear hxe hye hne hq HX h0 hb0'
  go_enter Try.func8, Try.ntmps8
  go_wp2
  go_quiet (fail)
  have bq : Below w.heap.size w ((w.alloc (.cells #[.int .i64 at_, .int .u8 by_] 35)).drewN nq) := below_drewN ((Below.refl _ _).alloc (Nat.le_refl _) _) _
  have zq := bq.size
  have rq := Lib.hid (hR.out.below bq)
  go_wp2_with (at_builtin; ((with_reducible refine wpList_append_rd _ ?_ (.const (.slice none 0 0)) (.tmp 22) 23 ?_ elemU8 Try.underlying23 w.heap.size (.slice none 0 0) [] ?_ (Own.nil _ _ _ _) (.slice va xs.length vc) xs ?_ rq.out ?_ ?_ ?_ ?_); rfl; rfl; rfl; rfl; (simp only [List.length_nil]; omega); (simp only [List.length_nil]; unfold maxLen; omega); (exact zq); intro v9 w9 o9 g9; rw [List.nil_append] at o9; obtain ⟨ua, uc, rfl⟩ := o9.len; obtain ⟨g, rfl, hg⟩ := o9.shape (by omega); obtain ⟨hc0, hf0⟩ := o9.at i hi; rw [← HXe.out] at hc0; have OW := Lib.hid o9; clear o9; have b9 : Below w.heap.size w w9 := bq.grown g9 zq (by simp [Value.ownBlock])))
  have b10 : Below w.heap.size w (w9.setCell ⟨g, i, none⟩ (.int .u8 y)) := b9.setCell hg _
  have r10 := hR.out.below b10
  have o10 := (OW.out.set i y).rd
  have hlen : (xs.set i y).length = xs.length := List.length_set ..
  have R10 := Lib.hid r10
  have O10 := Lib.hid o10
  clear r10 o10 hc0 hf0 e1 e4 e5 hye' g9 hlen
  refine (of_any key _ xs _ R10.out hx).mono ?_
  rintro e w' ⟨rfl, rfl⟩
  go_wp2_with fail
  refine (of_any key _ (xs.set i y) _ O10.out hsb2.out).mono ?_
  rintro e w' ⟨rfl, rfl⟩
  have hq := HQ.out
  go_wp2_with fail
  refine (alive_any _).mono ?_
  rintro e w5 ⟨rfl, b6⟩
  clear hq
  go_wp2_with fail
  go_ret
  exact ⟨rfl, b10.trans (b6.mono b10.size)⟩

theorem tagUnlike_walk (key at_ by_ : Int) (v : Value) (xs : List Int) (w : World) (hr : Rd .u8 w v xs) (hx : Bts xs) (hl : xs.length ≤ 140737488351232) (ha : -9223372036854775808 ≤ at_ ∧ at_ ≤ 9223372036854775807) (hb : 0 ≤ by_ ∧ by_ < 256) :
    Calls Try.prog 8 #[.int .u64 key, v, .agg #[.int .i64 at_, .int .u8 by_]] w (Yes w) := by
  by_cases h : xs.length = 0 ∨ by_ = 0
  · exact tagUnlike_few key at_ by_ v xs w hr h
  · exact tagUnlike_many key at_ by_ v xs w hr hx hl ha hb (fun e => h (.inl e)) (fun e => h (.inr e))
end Go.Proofs.Ytmkemghpedbopaa
