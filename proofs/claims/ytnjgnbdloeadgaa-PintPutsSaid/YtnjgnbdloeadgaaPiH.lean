/- Walks of layer 11: the reference's Put and Size. -/
import Derived.Test.YtnjgnbdloeadgaaPiG
set_option maxRecDepth 100000
namespace Go.Proofs.Ytnjgnbdloeadgaa
open Go.RowKit

set_option maxHeartbeats 4000000 in
theorem rput_small (v : Value) (xs : List Int) (f k n : Int) (w : World) (hr : Rd .u8 w v xs) (hl : xs.length ≤ 140737488351232) (hok : OkP f k n) (hs : n < fullI k) :
    Calls Try.prog 9 #[v, .int .i64 f, .int .i64 k, .int .i64 n] w (BytesOf w (xs ++ [f + n])) := by
  obtain ⟨hk, hf, n0, n1⟩ := hok
  have hfb := first_byte hk hf n0 (by omega)
  obtain ⟨h0, h1, h2⟩ := hf
  have dk : decide (IsW k) = true := decide_eq_true hk
  have d1 : decide (f < 0) = false := decide_eq_false (by omega)
  have d2 : decide (f > 255) = false := decide_eq_false (by omega)
  have d3 : decide (n < 0) = false := decide_eq_false (by omega)
  have d4 : decide (n > 4611686018427387903) = false := decide_eq_false (by omega)
  have d5 : decide (n < fullI k) = true := decide_eq_true hs
  have dm : f % (fullI k + 1) = 0 := h2
  have dt : f.tmod (fullI k + 1) = 0 := by rw [Int.tmod_eq_emod_of_nonneg h0]; exact h2
  have hw : (f + n) % 256 = f + n := by omega
  have hrl := hr.len
  have hml : maxLen = 9223372036854775807 := rfl
  rw [hml] at hrl
  have hR := Lib.hid hr
  obtain ⟨va, vc, rfl⟩ := hr.isSlice
  clear hml hr h2 hs
  rcases hk.cases with rfl | rfl | rfl | rfl | rfl | rfl | rfl | rfl
  all_goals
    simp only [fullI] at dm dt d5
    simp only [Int.reduceAdd, Int.reduceEq, ↓reduceIte] at dm dt d5
    go_enter Try.func9, Try.ntmps9
    go_wp2_with (first
      | (go_at_call 18; refine (rwidth_any _ _).mono ?_; rintro e w' ⟨rfl, rfl⟩; rw [dk])
      | (at_builtin; ((with_reducible refine wpList_append_rd _ ?_ (.const (.slice none 0 0)) (.tmp 38) 22 ?_ elemU8 Try.underlying22 w.heap.size (.slice none 0 0) [] ?_ (Own.nil _ _ _ _) (.slice va xs.length vc) xs ?_ hR.out ?_ ?_ ?_ ?_)); rfl; rfl; rfl; rfl; (simp; omega); (simp; unfold maxLen; omega); (exact Nat.le_refl _); intro v2 w2 o2 g2; have b2 : Below w.heap.size w w2 := (Below.refl _ _).grown g2 (Nat.le_refl _) (by simp [Value.ownBlock]); have z2 := b2.size; rw [List.nil_append] at o2)
      | (at_builtin; ((with_reducible refine wpList_append_rd _ ?_ (.tmp 46) (.tmp 51) 22 ?_ elemU8 Try.underlying22 w.heap.size v2 xs ?_ (o2.alloc _) (.slice (some ⟨w2.heap.size, 0, none⟩) 1 1) [f + n] ?_ (Rd.one .u8 5 w2 (f + n)) ?_ ?_ ?_ ?_)); rfl; rfl; rfl; rfl; (simp; omega); (simp; unfold maxLen; omega); (simp; omega); intro v3 w3 o3 g3; have b3 : Below w.heap.size w w3 := (b2.alloc z2 _).grown g3 (by simp; omega) o2.blk))
    go_ret2
    exact ⟨_, rfl, o3, b3⟩

set_option maxHeartbeats 4000000 in
theorem rput_large (v : Value) (xs : List Int) (f k n : Int) (w : World) (hr : Rd .u8 w v xs) (hl : xs.length ≤ 140737488351232) (hok : OkP f k n) (hs : ¬ n < fullI k) :
    Calls Try.prog 9 #[v, .int .i64 f, .int .i64 k, .int .i64 n] w (BytesOf w (xs ++ (f + fullI k) :: grp (n - fullI k).toNat)) := by
  obtain ⟨hk, hf, n0, n1⟩ := hok
  have hfb := first_byte hk hf (x := fullI k) (by have := fullI_pos k; omega) (by omega)
  obtain ⟨h0, h1, h2⟩ := hf
  have dk : decide (IsW k) = true := decide_eq_true hk
  have d1 : decide (f < 0) = false := decide_eq_false (by omega)
  have d2 : decide (f > 255) = false := decide_eq_false (by omega)
  have d3 : decide (n < 0) = false := decide_eq_false (by omega)
  have d4 : decide (n > 4611686018427387903) = false := decide_eq_false (by omega)
  have d5 : decide (n < fullI k) = false := decide_eq_false hs
  have dm : f % (fullI k + 1) = 0 := h2
  have dt : f.tmod (fullI k + 1) = 0 := by rw [Int.tmod_eq_emod_of_nonneg h0]; exact h2
  have hw : (f + fullI k) % 256 = f + fullI k := by omega
  have F1 := fullI_pos k
  have hsub : IntKind.i64.wrap (n - fullI k) = n - fullI k := wrap_small _ (by omega) (by omega)
  obtain ⟨m, hm⟩ : ∃ m : Nat, m = (n - fullI k).toNat := ⟨_, rfl⟩
  have hme : n - fullI k = (m : Int) := by omega
  have hm9 : m ≤ 4611686018427387903 := by omega
  obtain ⟨T, hT⟩ : ∃ T, T = xs ++ (f + fullI k) :: grp m := ⟨_, rfl⟩
  have hTl : T.length ≤ xs.length + 10 := by
    have := grp_len9 hm9
    rw [hT]; simp; omega
  have HT : Hid (xs ++ [f + fullI k] ++ grp m = T) := by
    show _ = T
    rw [hT]; simp
  rw [← hm, ← hT]
  have HM := Lib.hid hme
  clear hm hT hme
  have hrl := hr.len
  have hml : maxLen = 9223372036854775807 := rfl
  rw [hml] at hrl
  have hR := Lib.hid hr
  obtain ⟨va, vc, rfl⟩ := hr.isSlice
  clear hml hr h2 hs
  have HTl := Lib.hid hTl
  clear hTl
  rcases hk.cases with rfl | rfl | rfl | rfl | rfl | rfl | rfl | rfl
  all_goals
    simp only [fullI] at dm dt d5 hw hsub HT hfb HM
    simp only [Int.reduceAdd, Int.reduceEq, ↓reduceIte] at dm dt d5 hw hsub HT hfb HM
    go_enter Try.func9, Try.ntmps9
    go_wp2_with (first
      | (go_at_call 18; refine (rwidth_any _ _).mono ?_; rintro e w' ⟨rfl, rfl⟩; rw [dk])
      | (at_builtin; ((with_reducible refine wpList_append_rd _ ?_ (.const (.slice none 0 0)) (.tmp 38) 22 ?_ elemU8 Try.underlying22 w.heap.size (.slice none 0 0) [] ?_ (Own.nil _ _ _ _) (.slice va xs.length vc) xs ?_ hR.out ?_ ?_ ?_ ?_)); rfl; rfl; rfl; rfl; (simp; omega); (simp; unfold maxLen; omega); (exact Nat.le_refl _); intro v2 w2 o2 g2; have b2 : Below w.heap.size w w2 := (Below.refl _ _).grown g2 (Nat.le_refl _) (by simp [Value.ownBlock]); have z2 := b2.size; rw [List.nil_append] at o2)
      | (at_builtin; ((with_reducible refine wpList_append_rd _ ?_ (.tmp 53) (.tmp 58) 22 ?_ elemU8 Try.underlying22 w.heap.size v2 xs ?_ (o2.alloc _) (.slice (some ⟨w2.heap.size, 0, none⟩) 1 1) [_] ?_ (Rd.one .u8 5 w2 _) ?_ ?_ ?_ ?_)); rfl; rfl; rfl; rfl; (simp; omega); (simp; unfold maxLen; omega); (simp; omega); intro v3 w3 o3 g3; have b3 : Below w.heap.size w w3 := (b2.alloc z2 _).grown g3 (by simp; omega) o2.blk))
    go_loopw [3, 10] (fun i u wr => ∃ (m' : Nat) (L : List Int), m' ≤ 4611686018427387903 ∧ i = .int .i64 m' ∧ Own .u8 5 wr w.heap.size u L ∧ Below w.heap.size w wr ∧ Hid (L ++ grp m' = T)) (fun i _ _ => (intOf i).toNat)
    case atStart => exact ⟨m, _, hm9, congrArg (Value.int IntKind.i64) HM.out, o3, b3, HT⟩
    case round =>
      obtain ⟨m', L, hm', rfl, ho, hb, hL⟩ := hrel
      have hll : L.length + (grp m').length ≤ xs.length + 10 := by
        have := congrArg List.length hL.out
        rw [List.length_append] at this
        have := HTl.out
        omega
      have hgp := grp_pos m'
      have hbz := hb.size
      clear b3 o3 b2 o2
      by_cases h128 : m' < 128
      · have d6 : decide ((m' : Int) ≥ 128) = false := decide_eq_false (by omega)
        have hv : (m' : Int) % 256 = m' := by omega
        have hG : Hid (L ++ [(m' : Int)] = T) := by
          have := hL.out; rw [grp_lt h128] at this; exact this
        clear hL h128
        go_wp2_with (at_builtin; ((with_reducible refine wpList_append_rd _ ?_ (.tmp 74) (.tmp 77) 22 ?_ elemU8 Try.underlying22 w.heap.size _ L ?_ (ho.alloc _) (.slice (some ⟨wr.heap.size, 0, none⟩) 1 1) [_] ?_ (Rd.one .u8 5 wr _) ?_ ?_ ?_ ?_)); rfl; rfl; rfl; rfl; (simp; omega); (simp; unfold maxLen; omega); (simp; omega); intro v4 w4 o4 g4; have b4 : Below w.heap.size w w4 := (hb.alloc hbz _).grown g4 (by simp; omega) ho.blk)
        go_ret2
        exact ⟨_, rfl, by rw [← hG.out]; exact o4, b4⟩
      · have d6 : decide ((m' : Int) ≥ 128) = true := decide_eq_true (by omega)
        have hv : (128 + (m' : Int) % 128) % 256 = 128 + (m' : Int) % 128 := by omega
        have hG : Hid (L ++ [128 + (m' : Int) % 128] ++ grp (m' / 128) = T) := by
          have := hL.out; rw [grp_ge h128] at this; show _ = T; rw [← this]; simp
        have hq : m' / 128 ≤ 4611686018427387903 := by omega
        have hlt : m' / 128 < m' := by omega
        have hL1 : L.length ≤ xs.length + 9 := by omega
        clear hL h128
        go_wp2_with (at_builtin; ((with_reducible refine wpList_append_rd _ ?_ (.tmp 65) (.tmp 70) 22 ?_ elemU8 Try.underlying22 w.heap.size _ L ?_ (ho.alloc _) (.slice (some ⟨wr.heap.size, 0, none⟩) 1 1) [_] ?_ (Rd.one .u8 5 wr _) ?_ ?_ ?_ ?_)); rfl; rfl; rfl; rfl; (simp; omega); (simp; unfold maxLen; omega); (simp; omega); intro v4 w4 o4 g4; have b4 : Below w.heap.size w w4 := (hb.alloc hbz _).grown g4 (by simp; omega) ho.blk)
        go_roundw
        case rel => exact ⟨m' / 128, _, hq, by simp, o4, b4, hG⟩
        case measure => simp [intOf]; omega

theorem rput_any (v : Value) (xs : List Int) (f k n : Int) (w : World) (hr : Rd .u8 w v xs) (hl : xs.length ≤ 140737488351232) :
    Calls Try.prog 9 #[v, .int .i64 f, .int .i64 k, .int .i64 n] w (PutIs w (putO xs f k n)) := by
  by_cases hk : IsW k
  · by_cases hf : OkF f k
    · by_cases h5 : n < 0
      · exact (rput_5 v f k n w hk hf h5).mono fun e w' x => PutIs.no (if_neg fun h => by have := h.2.2.1; omega) x
      · by_cases h6 : 4611686018427387903 < n
        · exact (rput_6 v f k n w hk hf h6).mono fun e w' x => PutIs.no (if_neg fun h => by have := h.2.2.2; omega) x
        · have h : OkP f k n := ⟨hk, hf, by omega, by omega⟩
          by_cases hs : n < fullI k
          · exact (rput_small v xs f k n w hr hl h hs).mono fun e w' x => PutIs.yes (if_pos h) (by unfold encP; rw [if_pos hs]) x
          · exact (rput_large v xs f k n w hr hl h hs).mono fun e w' x => PutIs.yes (if_pos h) (by unfold encP; rw [if_neg hs]) x
    · by_cases h2 : f < 0
      · exact (rput_2 v f k n w hk h2).mono fun e w' x => PutIs.no (if_neg fun h => hf h.2.1) x
      · by_cases h3 : 255 < f
        · exact (rput_3 v f k n w hk h3).mono fun e w' x => PutIs.no (if_neg fun h => hf h.2.1) x
        · exact (rput_4 v f k n w hk (by omega) (by omega) (fun h => hf ⟨by omega, by omega, h⟩)).mono fun e w' x => PutIs.no (if_neg fun h => hf h.2.1) x
  · exact (rput_1 v f k n w hk).mono fun e w' x => PutIs.no (if_neg fun h => hk h.1) x

theorem okF_0 (k : Int) (hk : IsW k) : OkF 0 k := by
  rcases hk.cases with rfl | rfl | rfl | rfl | rfl | rfl | rfl | rfl <;> decide
theorem rsize_any (k n : Int) (w : World) : Calls Try.prog 12 #[.int .i64 k, .int .i64 n] w fun e w' => e = .returned (.int .i64 (sizeP k n)) ∧ Below w.heap.size w w' := by
  have H := Lib.hid (rput_any (.slice none 0 0) [] 0 k n w (Rd.nil _ _) (by simp))
  go_enter Try.func12, Try.ntmps12
  go_wp2_with fail
  refine H.out.mono ?_
  rintro e w1 ⟨u, ys, c, rfl, o1, b1, hd⟩
  have hlen : Hid ((ys.length : Int) = sizeP k n) := by
    show _ = _
    rcases hd with ⟨zs, h, rfl, _⟩ | ⟨h, rfl, _⟩
    · unfold putO at h
      split at h
      · rename_i hok
        cases h
        unfold sizeP
        rw [if_pos ((okP_iff _ _ _).1 hok).1, List.nil_append, encP_len]
      · cases h
    · unfold putO at h
      split at h
      · cases h
      · rename_i hno
        unfold sizeP
        rw [if_neg fun h => hno ((okP_iff _ _ _).2 ⟨h, okF_0 k h.1⟩)]; rfl
  obtain ⟨ua, uc, rfl⟩ := o1.len
  clear hd o1
  go_wp2_with fail
  go_ret
  exact ⟨ret_int hlen.out, b1⟩
end Go.Proofs.Ytnjgnbdloeadgaa
