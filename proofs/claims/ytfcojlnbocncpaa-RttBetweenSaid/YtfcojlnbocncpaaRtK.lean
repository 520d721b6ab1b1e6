/- Walks of layer 6: play. -/
import Derived.Test.YtfcojlnbocncpaaRtJ
import Derived.Deep.RegionHeld3
set_option linter.unusedSimpArgs false
set_option linter.unusedVariables false
namespace Go.Proofs.Ytfcojlnbocncpaa
open Go.RowKit

theorem own_up {w : World} {v : Value} {xs : List Int} {m : Nat} (h : Own .i64 3 w (m + 2) v xs) : Own .i64 3 w m v xs := h.mono (by omega)

set_option maxHeartbeats 1600000 in
theorem play_nil (a : Option Addr) (c : Nat) (d : Int) (w : World) :
    Calls Try.prog 20 #[.slice a 0 c, .int .i64 d] w (PlayIs w d []) := by
  have RT := Lib.hid (fun w => right_b false 0 0 0 0 _ right_nul w)
  have W0 : Below w.heap.size w ((w.alloc (.cells #[.bool false, .int .i64 0, .int .i64 0, .int .i64 0, .int .i64 0] 24)).alloc (.cells #[.bool false, .int .i64 0, .int .i64 0, .int .i64 0, .int .i64 0] 24)) := below_two _ _ _
  have HP0 := held_second false 0 0 0 0 24 w (.cells #[.bool false, .int .i64 0, .int .i64 0, .int .i64 0, .int .i64 0] 24)
  have HR0 := held_first false 0 0 0 0 24 w (.cells #[.bool false, .int .i64 0, .int .i64 0, .int .i64 0, .int .i64 0] 24)
  have HZ0 : ((w.alloc (.cells #[.bool false, .int .i64 0, .int .i64 0, .int .i64 0, .int .i64 0] 24)).alloc (.cells #[.bool false, .int .i64 0, .int .i64 0, .int .i64 0, .int .i64 0] 24)).heap.size = w.heap.size + 2 := by simp
  have HW0 := Lib.hid W0
  have HHP0 := Lib.hid HP0
  have HHR0 := Lib.hid HR0
  have HHZ0 := Lib.hid HZ0
  clear W0 HP0 HR0 HZ0
  go_enter Try.func20, Try.ntmps20
  go_wp2_with fail
  generalize (w.alloc (.cells #[.bool false, .int .i64 0, .int .i64 0, .int .i64 0, .int .i64 0] 24)).alloc (.cells #[.bool false, .int .i64 0, .int .i64 0, .int .i64 0, .int .i64 0] 24) = w0 at HW0 HHP0 HHR0 HHZ0 ⊢
  refine wp_loop_rounds 1 ?_
  rw [rounds_succ]
  have HP := Lib.hid (show Held (w.heap.size + 1) false 0 0 0 0 w0.drew from HHP0.out)
  have HR := Lib.hid (show Held w.heap.size false 0 0 0 0 w0.drew from HHR0.out)
  have OW := Lib.hid (show Own .i64 3 w0.drew (w.heap.size + 2) (.slice none 0 0) [] from Own.nil _ _ _ _)
  have BB := Lib.hid (show Below w.heap.size w w0.drew from (HW0.out).drew)
  obtain ⟨p0, p1, p2, p3, p4⟩ := HP.out.facts
  go_wp2_with fail
  go_region_held3 (fun w' => w'.cell? ⟨w.heap.size + 1, 0, none⟩ = some (.bool false) ∧ w'.cell? ⟨w.heap.size + 1, 1, none⟩ = some (.int .i64 0) ∧ w'.cell? ⟨w.heap.size + 1, 2, none⟩ = some (.int .i64 0) ∧ w'.cell? ⟨w.heap.size + 1, 3, none⟩ = some (.int .i64 0) ∧ w'.cell? ⟨w.heap.size + 1, 4, none⟩ = some (.int .i64 0))
    (first
      | (with_reducible exact ⟨p0, p1, p2, p3, p4⟩)
      | (with_reducible exact K5))
    (first
      | (go_at_call 13; refine (RT.out _).mono ?_; rintro e wn ⟨rfl, bn⟩; have HP := Lib.hid (HP.out.below bn); have HR := Lib.hid (HR.out.below bn); have OW := Lib.hid (OW.out.below bn); have BB := Lib.hid (BB.out.trans (bn.mono BB.out.size)); clear bn; obtain ⟨p0, p1, p2, p3, p4⟩ := HP.out.facts; obtain ⟨r0, r1, r2, r3, r4⟩ := HR.out.facts; obtain ⟨f0, f1, f2, f3, f4⟩ := HR.out.free; have K5 := (HP.out.others w.heap.size (Nat.succ_ne_self _) (.bool false) (.int .i64 0) (.int .i64 0) (.int .i64 0) (.int .i64 0)).facts))
  all_goals
    go_wp2
    refine bodyPost_ret (v := .tuple #[.agg #[.bool false, .int .i64 0, .int .i64 0, .int .i64 0, .int .i64 0], (.slice none 0 0), .bool true]) (by simp [results, Try.results20, go_sem, r0, r1, r2, r3, r4]) rfl ?_
    exact ⟨_, rfl, own_up (own_five OW.out _ (by omega) _ _ _ _ _), below_five BB.out _ (Nat.le_refl _) _ _ _ _ _⟩

set_option maxHeartbeats 6400000 in
theorem play_some (b o c : Nat) (xs : List Int) (d : Int) (w : World) (hb : b < w.heap.size) (hc : xs.length ≤ c) (hm : c ≤ maxLen) (hcell : ∀ i, i < xs.length → w.cell? ⟨b, o + i, none⟩ = some (.int .i64 (xs.getD i 0))) (hl : xs.length * 8 ≤ 140737488351232) :
    Calls Try.prog 20 #[.slice (some ⟨b, o, none⟩) xs.length c, .int .i64 d] w (PlayIs w d xs) := by
  unfold maxLen at hm
  have HC := Lib.hid hcell
  clear hcell
  have W0 : Below w.heap.size w ((w.alloc (.cells #[.bool false, .int .i64 0, .int .i64 0, .int .i64 0, .int .i64 0] 24)).alloc (.cells #[.bool false, .int .i64 0, .int .i64 0, .int .i64 0, .int .i64 0] 24)) := below_two _ _ _
  have HP0 := held_second false 0 0 0 0 24 w (.cells #[.bool false, .int .i64 0, .int .i64 0, .int .i64 0, .int .i64 0] 24)
  have HR0 := held_first false 0 0 0 0 24 w (.cells #[.bool false, .int .i64 0, .int .i64 0, .int .i64 0, .int .i64 0] 24)
  have HZ0 : ((w.alloc (.cells #[.bool false, .int .i64 0, .int .i64 0, .int .i64 0, .int .i64 0] 24)).alloc (.cells #[.bool false, .int .i64 0, .int .i64 0, .int .i64 0, .int .i64 0] 24)).heap.size = w.heap.size + 2 := by simp
  have HW0 := Lib.hid W0
  have HHP0 := Lib.hid HP0
  have HHR0 := Lib.hid HR0
  have HHZ0 := Lib.hid HZ0
  clear W0 HP0 HR0 HZ0
  go_enter Try.func20, Try.ntmps20
  go_wp2_with fail
  generalize (w.alloc (.cells #[.bool false, .int .i64 0, .int .i64 0, .int .i64 0, .int .i64 0] 24)).alloc (.cells #[.bool false, .int .i64 0, .int .i64 0, .int .i64 0, .int .i64 0] 24) = w0 at HW0 HHP0 HHR0 HHZ0 ⊢
  go_loopw [8, 16] (fun u i wr => ∃ (k : Nat) (h : Bool) (l s v t : Int) (ys : List Int), i = .int .i64 k ∧ AtPlay d xs k h l s v t ys ∧ Held (w.heap.size + 1) h l s v t wr ∧ Held w.heap.size false 0 0 0 0 wr ∧ Own .i64 3 wr (w.heap.size + 2) u ys ∧ Below w.heap.size w wr ∧ w.heap.size + 2 ≤ wr.heap.size) (fun _ i _ => xs.length - (intOf i).toNat)
  case atStart => exact ⟨0, false, 0, 0, 0, 0, [], rfl, ⟨rfl, rfl, Nat.zero_le _⟩, HHP0.out, HHR0.out, Own.nil _ _ _ _, HW0.out, by rw [HHZ0.out]; exact Nat.le_refl _⟩
  case round =>
    obtain ⟨k, h, l, s, v, t, ys, rfl, hat, hp, hr, hown, hbel, hz⟩ := hrel
    have hrt := hat.right
    have HP := Lib.hid hp
    have HR := Lib.hid hr
    have OW := Lib.hid hown
    have BB := Lib.hid hbel
    obtain ⟨p0, p1, p2, p3, p4⟩ := hp.facts
    clear hp hr hown
    by_cases hlt : k < xs.length
    · have hi1 : (k : Int) < (xs.length : Int) := by omega
      have hw1 : IntKind.i64.wrap ((k : Int) + 1) = (k : Int) + 1 := wraps_i64' _ (by omega) (by omega)
      have x0 : wr.cell? ⟨b, o + k, none⟩ = some (.int .i64 (xs.getD k 0)) := (hbel.cell (p := ⟨b, o + k, none⟩) hb).trans (HC.out k hlt)
      obtain ⟨x, hxe⟩ : ∃ x, xs.getD k 0 = x := ⟨_, rfl⟩
      rw [hxe] at x0
      have HX := Lib.hid hxe
      clear hxe hbel
      cases hx : tickB x
      · have HS := Lib.hid (fun w => sample_eq (sampleE_b (n := x) (d := d) hrt (by rw [hx]; rfl)) w)
        have TX := Lib.hid (fun w => tick_b x _ w hx)
        have HAT := Lib.hid (hat.skip hlt (by rw [HX.out, hx]; rfl))
        clear hrt hat hx
        go_wp2_with fail
        refine (HS.out _).mono ?_
        rintro e w2 ⟨rfl, bn⟩
        have HP := Lib.hid (HP.out.below bn)
        have HR := Lib.hid (HR.out.below bn)
        have OW := Lib.hid (OW.out.below bn)
        have BB := Lib.hid (BB.out.trans (bn.mono BB.out.size))
        have hz2 := Nat.le_trans hz bn.size
        have b3 := (Below.refl w2.heap.size w2).alloc (Nat.le_refl _) (.cells #[.bool false, .int .i64 0, .int .i64 0, .int .i64 0, .int .i64 0] 24)
        have HP := Lib.hid (HP.out.below b3)
        have HR := Lib.hid (HR.out.below b3)
        have OW := Lib.hid (OW.out.below b3)
        have BB := Lib.hid (BB.out.trans (b3.mono BB.out.size))
        have hz3 := Nat.le_trans hz2 b3.size
        clear bn b3 HS
        go_wp2_with fail
        refine (TX.out _).mono ?_
        rintro e w3 ⟨rfl, rfl⟩
        clear TX
        go_wp2
        exact ⟨⟨k + 1, h, l, s, v, t, ys, by go_num, HAT.out, HP.out, HR.out, OW.out, BB.out, by simpa using hz3⟩, by simp [intOf, hw1]; omega⟩
      cases hd : tickB d
      · have HS := Lib.hid (fun w => sample_eq (sampleE_b (n := x) (d := d) hrt (by rw [hx, hd]; rfl)) w)
        have TX := Lib.hid (fun w => tick_b x _ w hx)
        have TD := Lib.hid (fun w => tick_b d _ w hd)
        have HAT := Lib.hid (hat.skip hlt (by rw [HX.out, hx, hd]; rfl))
        clear hrt hat hx
        go_wp2_with fail
        refine (HS.out _).mono ?_
        rintro e w2 ⟨rfl, bn⟩
        have HP := Lib.hid (HP.out.below bn)
        have HR := Lib.hid (HR.out.below bn)
        have OW := Lib.hid (OW.out.below bn)
        have BB := Lib.hid (BB.out.trans (bn.mono BB.out.size))
        have hz2 := Nat.le_trans hz bn.size
        have b3 := (Below.refl w2.heap.size w2).alloc (Nat.le_refl _) (.cells #[.bool false, .int .i64 0, .int .i64 0, .int .i64 0, .int .i64 0] 24)
        have HP := Lib.hid (HP.out.below b3)
        have HR := Lib.hid (HR.out.below b3)
        have OW := Lib.hid (OW.out.below b3)
        have BB := Lib.hid (BB.out.trans (b3.mono BB.out.size))
        have hz3 := Nat.le_trans hz2 b3.size
        clear bn b3 HS
        go_wp2_with fail
        refine (TX.out _).mono ?_
        rintro e w3 ⟨rfl, rfl⟩
        clear TX
        go_wp2_with fail
        refine (TD.out _).mono ?_
        rintro e w4 ⟨rfl, rfl⟩
        go_wp2
        exact ⟨⟨k + 1, h, l, s, v, t, ys, by go_num, HAT.out, HP.out, HR.out, OW.out, BB.out, by simpa using hz3⟩, by simp [intOf, hw1]; omega⟩
      · have hrt2 := sample_right hrt (show (tickB x && tickB d) = true by rw [hx, hd]; rfl)
        obtain ⟨⟨⟨h', l', s', v', t'⟩, e'⟩, hE⟩ : ∃ r, sampleE ⟨h, l, s, v, t⟩ x d = r := ⟨_, rfl⟩
        rw [hE] at hrt2
        obtain rfl : e' = 0 := hrt2.2
        have HS := Lib.hid (fun w => sample_eq hE w)
        have TX := Lib.hid (fun w => tick_b x _ w hx)
        have TD := Lib.hid (fun w => tick_b d _ w hd)
        have HAT := Lib.hid (hat.more (h' := h') (l' := l') (s' := s') (v' := v') (t' := t') (e' := 0) hlt (by rw [HX.out, hx, hd]; rfl) (by rw [HX.out]; exact hE))
        rw [HX.out] at HAT
        have hroom := hat.few
        have hroom2 : (ys.length + 1) * 8 ≤ 140737488355328 := by omega
        have hroom3 : ys.length + 1 ≤ 9223372036854775807 := by omega
        clear hrt hrt2 hE hat hx
        go_wp2_with fail
        refine (HS.out _).mono ?_
        rintro e w2 ⟨rfl, bn⟩
        have HP := Lib.hid (HP.out.below bn)
        have HR := Lib.hid (HR.out.below bn)
        have OW := Lib.hid (OW.out.below bn)
        have BB := Lib.hid (BB.out.trans (bn.mono BB.out.size))
        have hz2 := Nat.le_trans hz bn.size
        have b3 := (Below.refl w2.heap.size w2).alloc (Nat.le_refl _) (.cells #[.bool h', .int .i64 l', .int .i64 s', .int .i64 v', .int .i64 t'] 24)
        have HP := Lib.hid (HP.out.below b3)
        have HR := Lib.hid (HR.out.below b3)
        have OW := Lib.hid (OW.out.below b3)
        have BB := Lib.hid (BB.out.trans (b3.mono BB.out.size))
        have HT := Lib.hid (held_last h' l' s' v' t' 24 w2)
        have hz3 := Nat.le_trans hz2 b3.size
        clear bn b3 HS
        go_wp2_with fail
        refine (TX.out _).mono ?_
        rintro e w3 ⟨rfl, rfl⟩
        clear TX
        go_wp2_with fail
        refine (TD.out _).mono ?_
        rintro e w4 ⟨rfl, rfl⟩
        clear TD
        generalize w2.alloc (.cells #[.bool h', .int .i64 l', .int .i64 s', .int .i64 v', .int .i64 t'] 24) = w4 at HP HR OW BB HT hz3 ⊢
        generalize hq : w2.heap.size = q at hz2 HT ⊢
        clear hq
        obtain ⟨q0, q1, q2, q3, q4⟩ := HT.out.facts
        obtain ⟨p0, p1, p2, p3, p4⟩ := HP.out.facts
        obtain ⟨g0, g1, g2, g3, g4⟩ := HP.out.free
        have hn1 : q ≠ w.heap.size + 1 := by omega
        have hn2 : w.heap.size + 1 ≠ q := by omega
        have HP5 := Lib.hid (HP.out.set h' l' s' v' t')
        have HR5 := Lib.hid (((((HR.out.other (p := ⟨w.heap.size + 1, 0, none⟩) (by simp) (.bool h')).other (p := ⟨w.heap.size + 1, 1, none⟩) (by simp) (.int .i64 l')).other (p := ⟨w.heap.size + 1, 2, none⟩) (by simp) (.int .i64 s')).other (p := ⟨w.heap.size + 1, 3, none⟩) (by simp) (.int .i64 v')).other (p := ⟨w.heap.size + 1, 4, none⟩) (by simp) (.int .i64 t'))
        have OW5 := Lib.hid (own_five OW.out (w.heap.size + 1) (by omega) (.bool h') (.int .i64 l') (.int .i64 s') (.int .i64 v') (.int .i64 t'))
        have BB5 := Lib.hid (below_five BB.out (w.heap.size + 1) (Nat.le_succ _) (.bool h') (.int .i64 l') (.int .i64 s') (.int .i64 v') (.int .i64 t'))
        go_upto_region 11 with fail
        have hz5 : w.heap.size + 2 ≤ (((((w4.setCell ⟨w.heap.size + 1, 0, none⟩ (.bool h')).setCell ⟨w.heap.size + 1, 1, none⟩ (.int .i64 l')).setCell ⟨w.heap.size + 1, 2, none⟩ (.int .i64 s')).setCell ⟨w.heap.size + 1, 3, none⟩ (.int .i64 v')).setCell ⟨w.heap.size + 1, 4, none⟩ (.int .i64 t')).heap.size := by simpa using hz3
        clear HP HR OW BB p0 p1 p2 p3 p4 g0 g1 g2 g3 g4 q0 q1 q2 q3 q4 HT hn1 hn2
        generalize ((((w4.setCell ⟨w.heap.size + 1, 0, none⟩ (.bool h')).setCell ⟨w.heap.size + 1, 1, none⟩ (.int .i64 l')).setCell ⟨w.heap.size + 1, 2, none⟩ (.int .i64 s')).setCell ⟨w.heap.size + 1, 3, none⟩ (.int .i64 v')).setCell ⟨w.heap.size + 1, 4, none⟩ (.int .i64 t') = w5 at HP5 HR5 OW5 BB5 hz5 ⊢
        have O1 := Lib.hid (OW5.out.alloc (.cells #[.int .i64 x] 3))
        have b6 := (Below.refl w5.heap.size w5).alloc (Nat.le_refl _) (.cells #[.int .i64 x] 3)
        have HP6 := Lib.hid (HP5.out.below b6)
        have HR6 := Lib.hid (HR5.out.below b6)
        have BB6 := Lib.hid (BB5.out.trans (b6.mono BB5.out.size))
        have hz6 := Nat.le_trans hz5 b6.size
        clear b6
        go_wp2_with (at_builtin; go_loud ((with_reducible refine wpList_append_rd _ ?_ (.tmp 40) (.tmp 42) 43 ?_ elemInt Try.underlying43 (w.heap.size + 2) _ _ ?_ O1.out (.slice (some ⟨w5.heap.size, 0, none⟩) 1 1) [x] ?_ (Rd.one' .i64 3 w5 x w5.heap.size rfl) ?_ ?_ ?_ ?_)); rfl; rfl; go_loud (rfl); go_loud (rfl); go_loud (simp only [List.length_singleton]; omega); go_loud (simp only [List.length_singleton]; unfold maxLen; omega); go_loud (simpa using hz6); intro v7 w7 o7 g7)
        have hb7 := O1.out.blk
        have HP7 := HP6.out.grown g7 (fun e => by have := hb7 _ e; omega)
        have HR7 := HR6.out.grown g7 (fun e => by have := hb7 _ e; omega)
        have BB7 := BB6.out.grown g7 BB6.out.size (fun k hk => by have := hb7 k hk; omega)
        have hz7 := Nat.le_trans hz6 g7.size
        have HX7 : Hid (Held (w.heap.size + 1) h' l' s' v' t' w7 ∧ Held w.heap.size false 0 0 0 0 w7 ∧ Own .i64 3 w7 (w.heap.size + 2) v7 (ys ++ [x]) ∧ Below w.heap.size w w7 ∧ w.heap.size + 2 ≤ w7.heap.size) := ⟨HP7, HR7, o7, BB7, hz7⟩
        clear HP7 HR7 BB7 hz7 o7 g7 hb7 HP6 HR6 BB6 hz6 O1 HP5 HR5 OW5 BB5 hz5
        go_wp2
        exact ⟨⟨k + 1, h', l', s', v', t', ys ++ [x], by go_num, HAT.out, HX7.out.1, HX7.out.2.1, HX7.out.2.2.1, HX7.out.2.2.2.1, HX7.out.2.2.2.2⟩, by simp [intOf, hw1]; omega⟩
    · have HD := Lib.hid (hat.done hlt)
      have RT := Lib.hid (fun w => right_b h l s v t _ hrt w)
      have hi1 : ¬ (k : Int) < (xs.length : Int) := by omega
      clear hat hrt hbel p0 p1 p2 p3 p4
      have HP := Lib.hid (show Held (w.heap.size + 1) h l s v t wr.drew from HP.out)
      have HR := Lib.hid (show Held w.heap.size false 0 0 0 0 wr.drew from HR.out)
      have OW := Lib.hid (show Own .i64 3 wr.drew (w.heap.size + 2) u8 ys from OW.out)
      have BB := Lib.hid (show Below w.heap.size w wr.drew from (BB.out).drew)
      obtain ⟨p0, p1, p2, p3, p4⟩ := HP.out.facts
      go_wp2_with fail
      go_region_held3 (fun w' => w'.cell? ⟨w.heap.size + 1, 0, none⟩ = some (.bool h) ∧ w'.cell? ⟨w.heap.size + 1, 1, none⟩ = some (.int .i64 l) ∧ w'.cell? ⟨w.heap.size + 1, 2, none⟩ = some (.int .i64 s) ∧ w'.cell? ⟨w.heap.size + 1, 3, none⟩ = some (.int .i64 v) ∧ w'.cell? ⟨w.heap.size + 1, 4, none⟩ = some (.int .i64 t))
        (first
          | (with_reducible exact ⟨p0, p1, p2, p3, p4⟩)
          | (with_reducible exact K5))
        (first
          | (go_at_call 13; refine (RT.out _).mono ?_; rintro e wn ⟨rfl, bn⟩; have HP := Lib.hid (HP.out.below bn); have HR := Lib.hid (HR.out.below bn); have OW := Lib.hid (OW.out.below bn); have BB := Lib.hid (BB.out.trans (bn.mono BB.out.size)); clear bn; obtain ⟨p0, p1, p2, p3, p4⟩ := HP.out.facts; obtain ⟨r0, r1, r2, r3, r4⟩ := HR.out.facts; obtain ⟨f0, f1, f2, f3, f4⟩ := HR.out.free; have K5 := (HP.out.others w.heap.size (Nat.succ_ne_self _) (.bool h) (.int .i64 l) (.int .i64 s) (.int .i64 v) (.int .i64 t)).facts))
      all_goals
        go_wp2
        refine bodyPost_ret (v := .tuple #[.agg #[.bool h, .int .i64 l, .int .i64 s, .int .i64 v, .int .i64 t], u8, .bool true]) (by simp [results, Try.results20, go_sem, r0, r1, r2, r3, r4]) rfl ?_
        refine ⟨u8, ?_, ?_, ?_⟩
        · rw [HD.out.1]
        · rw [HD.out.2]; exact own_up (own_five OW.out _ (by omega) _ _ _ _ _)
        · exact below_five BB.out _ (Nat.le_refl _) _ _ _ _ _

/-- PLAY -/
theorem play_any (v : Value) (xs : List Int) (d : Int) (w : World) (hr : Rd .i64 w v xs) (hl : xs.length * 8 ≤ 140737488351232) :
    Calls Try.prog 20 #[v, .int .i64 d] w (PlayIs w d xs) := by
  rcases hr with ⟨rfl, a, c, rfl, _, _⟩ | ⟨_, b, o, c, rfl, hc, hm, hb, hcell⟩
  · exact play_nil a c d w
  · exact play_some b o c xs d w hb hc hm hcell hl
end Go.Proofs.Ytfcojlnbocncpaa
