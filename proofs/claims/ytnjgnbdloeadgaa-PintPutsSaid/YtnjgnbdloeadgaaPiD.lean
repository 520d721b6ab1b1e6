/- Walks of layer 11: Put. -/
import Derived.Test.YtnjgnbdloeadgaaPiC
set_option maxRecDepth 100000
namespace Go.Proofs.Ytnjgnbdloeadgaa
open Go.RowKit

theorem or_flags {f k x : Int} (hk : IsW k) (hf : OkF f k) (h0 : 0 ≤ x) (h1 : x ≤ fullI k) : bits .or .i64 f x = f + x := by
  obtain ⟨f0, f1, f2⟩ := hf
  have W : ∀ n : Int, 0 ≤ n → n < 2 ^ 63 → IntKind.i64.wrap n = n := fun n a b => wrap_small n a (by omega)
  rcases hk.cases with rfl | rfl | rfl | rfl | rfl | rfl | rfl | rfl
  · exact bits_join .i64 63 (by decide) W 1 _ _ f0 (by simpa [fullI] using f2) (by omega) h0 (by simp [fullI] at h1; omega) (by simp [fullI] at h1; omega)
  · exact bits_join .i64 63 (by decide) W 2 _ _ f0 (by simpa [fullI] using f2) (by omega) h0 (by simp [fullI] at h1; omega) (by simp [fullI] at h1; omega)
  · exact bits_join .i64 63 (by decide) W 3 _ _ f0 (by simpa [fullI] using f2) (by omega) h0 (by simp [fullI] at h1; omega) (by simp [fullI] at h1; omega)
  · exact bits_join .i64 63 (by decide) W 4 _ _ f0 (by simpa [fullI] using f2) (by omega) h0 (by simp [fullI] at h1; omega) (by simp [fullI] at h1; omega)
  · exact bits_join .i64 63 (by decide) W 5 _ _ f0 (by simpa [fullI] using f2) (by omega) h0 (by simp [fullI] at h1; omega) (by simp [fullI] at h1; omega)
  · exact bits_join .i64 63 (by decide) W 6 _ _ f0 (by simpa [fullI] using f2) (by omega) h0 (by simp [fullI] at h1; omega) (by simp [fullI] at h1; omega)
  · exact bits_join .i64 63 (by decide) W 7 _ _ f0 (by simpa [fullI] using f2) (by omega) h0 (by simp [fullI] at h1; omega) (by simp [fullI] at h1; omega)
  · exact bits_join .i64 63 (by decide) W 8 _ _ f0 (by simpa [fullI] using f2) (by omega) h0 (by simp [fullI] at h1; omega) (by simp [fullI] at h1; omega)
/-- the byte in which a number begins -/
theorem first_byte {f k x : Int} (hk : IsW k) (hf : OkF f k) (h0 : 0 ≤ x) (h1 : x ≤ fullI k) : 0 ≤ f + x ∧ f + x < 256 := by
  obtain ⟨f0, f1, f2⟩ := hf
  rcases hk.cases with rfl | rfl | rfl | rfl | rfl | rfl | rfl | rfl <;> simp [fullI] at f2 h1 <;> omega

def BytesOf (w : World) (xs : List Int) (e : Ending) (w' : World) : Prop :=
  ∃ u, e = .returned (.tuple #[u, .int .i64 0]) ∧ Own .u8 5 w' w.heap.size u xs ∧ Below w.heap.size w w'

set_option maxHeartbeats 2000000 in
theorem put_small (v : Value) (xs : List Int) (f k n : Int) (w : World) (hr : Rd .u8 w v xs) (hl : xs.length ≤ 140737488351232) (hok : OkP f k n) (hs : n < fullI k) :
    Calls Try.prog 8 #[v, .int .i64 f, .int .i64 k, .int .i64 n] w (BytesOf w (xs ++ [f + n])) := by
  have hSz : sizeP k n = 1 := by
    have := (okP_iff f k n).1 hok
    unfold sizeP; rw [if_pos this.1, sizeN_lt hs]; rfl
  obtain ⟨hk, hf, n0, n1⟩ := hok
  have hfb := first_byte hk hf n0 (by omega)
  have hor := or_flags hk hf n0 (x := n) (by omega)
  have hF : Hid (OkF f k) := hf
  have dF : decide (OkF f k) = true := decide_eq_true hf
  have S1 : Hid (∀ W : World, Calls Try.prog 11 #[.int .i64 k, .int .i64 n] W fun e w' => e = .returned (.int .i64 1) ∧ W = w') := fun W => by
    have := size_any k n W; rw [hSz] at this; exact this
  have hmin : min n (fullI k) = n := by omega
  have f0 := fullI_pos k
  have f1 := fullI_le k
  have hw : IntKind.i64.wrap (n - fullI k) = n - fullI k := by rw [IntKind.wrap_i64]; omega
  have hR := Lib.hid hr
  have hrl := hr.len
  have hml : maxLen = 9223372036854775807 := rfl
  rw [hml] at hrl
  obtain ⟨va, vc, rfl⟩ := hr.isSlice
  clear hml hr hSz hf
  have hwf : (f + n) % 256 = f + n := by omega
  go_enter Try.func8, Try.ntmps8
  go_wp2_with (first
    | (go_at_call 11; refine (S1.out _).mono ?_; rintro e w' ⟨rfl, rfl⟩)
    | (go_at_call 15; refine (areFlags_any f k _ hk).mono ?_; rintro e w' ⟨rfl, rfl⟩; rw [dF])
    | (go_at_call 16; refine (ones_any k _ hk).mono ?_; rintro e w' ⟨rfl, rfl⟩)
    | (at_make; refine wpList_make_nums _ rfl _ _ _ rfl elemU8 Try.underlying22 .i64 .i64 _ _ (xs.length + 1) rfl rfl (by simp) (by simp) (by omega) (by unfold maxLen; omega) w.heap.size (Nat.le_refl _) ?_; intro w1 hown hgr; have hb1 : Below w.heap.size w w1 := (Below.refl _ _).grown hgr (Nat.le_refl _) (by simp); have hr1 := hR.out.below hb1)
    | ((with_reducible refine wpList_copy_rd _ ?_ (.tmp 30) (.tmp 31) 22 22 ?_ elemU8 Try.underlying22 w.heap.size (.slice (some ⟨w.heap.size, 0, none⟩) (xs.length + 1) (xs.length + 1)) (List.replicate (xs.length + 1) 0) ?_ hown (.slice va xs.length vc) xs ?_ hr1 ?_ ?_); rfl; rfl; rfl; rfl; (simp); intro w2 hown2 hgr2; have hb2 : Below w.heap.size w w2 := hb1.grown hgr2 hb1.size hown.blk; have hcell := (hown2.at xs.length (by simp)).1; have hfr := (hown2.at xs.length (by simp)).2)
    | (go_at_call 17; refine (putGroups_none _ _ _ _).mono ?_; rintro e w' ⟨rfl, rfl⟩))
  go_ret2
  refine ⟨_, rfl, ?_, hb2.setCell (by simp) _⟩
  have h1 := hown2.set xs.length (f + n)
  have e : (xs ++ List.drop xs.length (List.replicate (xs.length + 1) 0)).set xs.length (f + n) = xs ++ [f + n] := by
    rw [List.set_append_right _ _ (Nat.le_refl _)]; simp
  rw [e] at h1
  exact h1
theorem set_tail (xs : List Int) (K : Nat) (x : Int) : (xs ++ List.drop xs.length (List.replicate (xs.length + (K + 1)) 0)).set xs.length x = xs ++ x :: List.replicate K 0 := by
  rw [List.set_append_right _ _ (Nat.le_refl _), List.drop_replicate, show xs.length + (K + 1) - xs.length = K + 1 by omega, List.replicate_succ]; simp
set_option maxHeartbeats 2000000 in
theorem put_more (v : Value) (xs : List Int) (f k n : Int) (w : World) (hr : Rd .u8 w v xs) (hl : xs.length ≤ 140737488351232) (hok : OkP f k n) (hs : ¬ n < fullI k) (hq : fullI k < n) :
    Calls Try.prog 8 #[v, .int .i64 f, .int .i64 k, .int .i64 n] w (BytesOf w (xs ++ (f + fullI k) :: grp (n - fullI k).toNat)) := by
  have hSz : sizeP k n = (grp (n - fullI k).toNat).length + 1 := by
    have := (okP_iff f k n).1 hok
    unfold sizeP; rw [if_pos this.1, sizeN_ge hs]; omega
  obtain ⟨hk, hf, n0, n1⟩ := hok
  have hfb := first_byte hk hf (x := fullI k) (by have := fullI_pos k; omega) (by omega)
  have hor := or_flags hk hf (x := fullI k) (by have := fullI_pos k; omega) (by omega)
  obtain ⟨m, hm⟩ : ∃ m : Nat, m = (n - fullI k).toNat := ⟨_, rfl⟩
  have hme : n - fullI k = (m : Int) := by omega
  have hm9 : m ≤ 4611686018427387903 := by have := fullI_pos k; omega
  rw [← hm] at hSz ⊢
  obtain ⟨K, hKe⟩ : ∃ K, K = (grp m).length := ⟨_, rfl⟩
  have hK1 : 1 ≤ K := by rw [hKe]; exact grp_pos m
  have hK9 : K ≤ 9 := by rw [hKe]; exact grp_len9 hm9
  rw [← hKe] at hSz
  have PG := Lib.hid (fun B g a N L W h1 h2 h3 => putGroups_any B g a N m L W hm9 h1 h2 h3)
  rw [← hKe] at PG
  have HK := Lib.hid hKe
  have dz : (((K : Int) + 1) == 0) = false := by simp; omega
  clear hm hKe
  have hF : Hid (OkF f k) := hf
  have dF : decide (OkF f k) = true := decide_eq_true hf
  have S1 : Hid (∀ W : World, Calls Try.prog 11 #[.int .i64 k, .int .i64 n] W fun e w' => e = .returned (.int .i64 ((K : Int) + 1)) ∧ W = w') := fun W => by
    have := size_any k n W; rw [hSz] at this; exact this
  have hmin : min n (fullI k) = fullI k := by omega
  have f0 := fullI_pos k
  have f1 := fullI_le k
  have hw : IntKind.i64.wrap (n - fullI k) = (m : Int) := by rw [IntKind.wrap_i64]; omega
  have hR := Lib.hid hr
  have hrl := hr.len
  have hml : maxLen = 9223372036854775807 := rfl
  rw [hml] at hrl
  obtain ⟨va, vc, rfl⟩ := hr.isSlice
  clear hml hr hSz hf
  have hwf : (f + fullI k) % 256 = f + fullI k := by omega
  go_enter Try.func8, Try.ntmps8
  go_wp2_with (first
    | (go_at_call 11; refine (S1.out _).mono ?_; rintro e w' ⟨rfl, rfl⟩)
    | (go_at_call 15; refine (areFlags_any f k _ hk).mono ?_; rintro e w' ⟨rfl, rfl⟩; rw [dF])
    | (go_at_call 16; refine (ones_any k _ hk).mono ?_; rintro e w' ⟨rfl, rfl⟩)
    | (at_make; refine wpList_make_nums _ rfl _ _ _ rfl elemU8 Try.underlying22 .i64 .i64 _ _ (xs.length + (K + 1)) rfl rfl (by omega) (by omega) (by omega) (by unfold maxLen; omega) w.heap.size (Nat.le_refl _) ?_; intro w1 hown hgr; have hb1 : Below w.heap.size w w1 := (Below.refl _ _).grown hgr (Nat.le_refl _) (by simp); have hr1 := hR.out.below hb1)
    | ((with_reducible refine wpList_copy_rd _ ?_ (.tmp 30) (.tmp 31) 22 22 ?_ elemU8 Try.underlying22 w.heap.size (.slice (some ⟨w.heap.size, 0, none⟩) (xs.length + (K + 1)) (xs.length + (K + 1))) (List.replicate (xs.length + (K + 1)) 0) ?_ hown (.slice va xs.length vc) xs ?_ hr1 ?_ ?_); rfl; rfl; rfl; rfl; (simp); intro w2 hown2 hgr2; have hb2 : Below w.heap.size w w2 := hb1.grown hgr2 hb1.size hown.blk; have hcell := (hown2.at xs.length (by simp only [List.length_append, List.length_drop, List.length_replicate]; omega)).1; have hfr := (hown2.at xs.length (by simp only [List.length_append, List.length_drop, List.length_replicate]; omega)).2)
    | (go_at_call 17; have hown3 := hown2.set xs.length (f + fullI k); rw [set_tail] at hown3; refine (PG.out w.heap.size w.heap.size (xs.length + 1) (xs.length + (K + 1)) _ _ hown3 (Nat.le_refl _) (by simp; omega)).mono ?_; rintro e w3 ⟨rfl, hown4, hb3⟩))
  go_ret2
  refine ⟨_, rfl, ?_, (hb2.setCell (by simp) _).trans hb3⟩
  have e : List.take (xs.length + 1) (xs ++ (f + fullI k) :: List.replicate K 0) ++ grp m = xs ++ (f + fullI k) :: grp m := by
    rw [List.take_append, List.take_of_length_le (by omega), show xs.length + 1 - xs.length = 1 by omega]; simp
  rw [e] at hown4
  have hle : (xs ++ (f + fullI k) :: grp m).length = xs.length + (K + 1) := by rw [HK.out]; simp
  unfold Own at hown4 ⊢
  rw [hle] at hown4 ⊢
  exact hown4

set_option maxHeartbeats 2000000 in
theorem put_even (v : Value) (xs : List Int) (f k n : Int) (w : World) (hr : Rd .u8 w v xs) (hl : xs.length ≤ 140737488351232) (hok : OkP f k n) (hs : ¬ n < fullI k) (hq : ¬ fullI k < n) :
    Calls Try.prog 8 #[v, .int .i64 f, .int .i64 k, .int .i64 n] w (BytesOf w (xs ++ (f + fullI k) :: grp (n - fullI k).toNat)) := by
  have hSz : sizeP k n = (grp (n - fullI k).toNat).length + 1 := by
    have := (okP_iff f k n).1 hok
    unfold sizeP; rw [if_pos this.1, sizeN_ge hs]; omega
  obtain ⟨hk, hf, n0, n1⟩ := hok
  have hfb := first_byte hk hf (x := fullI k) (by have := fullI_pos k; omega) (by omega)
  have hor : bits .or .i64 f n = f + fullI k := by
    have e : n = fullI k := by omega
    rw [e]; exact or_flags hk hf (x := fullI k) (by have := fullI_pos k; omega) (by omega)
  obtain ⟨m, hm⟩ : ∃ m : Nat, m = (n - fullI k).toNat := ⟨_, rfl⟩
  have hme : n - fullI k = (m : Int) := by omega
  have hm9 : m ≤ 4611686018427387903 := by have := fullI_pos k; omega
  rw [← hm] at hSz ⊢
  obtain ⟨K, hKe⟩ : ∃ K, K = (grp m).length := ⟨_, rfl⟩
  have hK1 : 1 ≤ K := by rw [hKe]; exact grp_pos m
  have hK9 : K ≤ 9 := by rw [hKe]; exact grp_len9 hm9
  rw [← hKe] at hSz
  have PG := Lib.hid (fun B g a N L W h1 h2 h3 => putGroups_any B g a N m L W hm9 h1 h2 h3)
  rw [← hKe] at PG
  have HK := Lib.hid hKe
  have dz : (((K : Int) + 1) == 0) = false := by simp; omega
  clear hm hKe
  have hF : Hid (OkF f k) := hf
  have dF : decide (OkF f k) = true := decide_eq_true hf
  have S1 : Hid (∀ W : World, Calls Try.prog 11 #[.int .i64 k, .int .i64 n] W fun e w' => e = .returned (.int .i64 ((K : Int) + 1)) ∧ W = w') := fun W => by
    have := size_any k n W; rw [hSz] at this; exact this
  have hmin : min n (fullI k) = fullI k := by omega
  have f0 := fullI_pos k
  have f1 := fullI_le k
  have hw : IntKind.i64.wrap (n - fullI k) = (m : Int) := by rw [IntKind.wrap_i64]; omega
  have hR := Lib.hid hr
  have hrl := hr.len
  have hml : maxLen = 9223372036854775807 := rfl
  rw [hml] at hrl
  obtain ⟨va, vc, rfl⟩ := hr.isSlice
  clear hml hr hSz hf
  have hwf : (f + fullI k) % 256 = f + fullI k := by omega
  go_enter Try.func8, Try.ntmps8
  go_wp2_with (first
    | (go_at_call 11; refine (S1.out _).mono ?_; rintro e w' ⟨rfl, rfl⟩)
    | (go_at_call 15; refine (areFlags_any f k _ hk).mono ?_; rintro e w' ⟨rfl, rfl⟩; rw [dF])
    | (go_at_call 16; refine (ones_any k _ hk).mono ?_; rintro e w' ⟨rfl, rfl⟩)
    | (at_make; refine wpList_make_nums _ rfl _ _ _ rfl elemU8 Try.underlying22 .i64 .i64 _ _ (xs.length + (K + 1)) rfl rfl (by omega) (by omega) (by omega) (by unfold maxLen; omega) w.heap.size (Nat.le_refl _) ?_; intro w1 hown hgr; have hb1 : Below w.heap.size w w1 := (Below.refl _ _).grown hgr (Nat.le_refl _) (by simp); have hr1 := hR.out.below hb1)
    | ((with_reducible refine wpList_copy_rd _ ?_ (.tmp 30) (.tmp 31) 22 22 ?_ elemU8 Try.underlying22 w.heap.size (.slice (some ⟨w.heap.size, 0, none⟩) (xs.length + (K + 1)) (xs.length + (K + 1))) (List.replicate (xs.length + (K + 1)) 0) ?_ hown (.slice va xs.length vc) xs ?_ hr1 ?_ ?_); rfl; rfl; rfl; rfl; (simp); intro w2 hown2 hgr2; have hb2 : Below w.heap.size w w2 := hb1.grown hgr2 hb1.size hown.blk; have hcell := (hown2.at xs.length (by simp only [List.length_append, List.length_drop, List.length_replicate]; omega)).1; have hfr := (hown2.at xs.length (by simp only [List.length_append, List.length_drop, List.length_replicate]; omega)).2)
    | (go_at_call 17; have hown3 := hown2.set xs.length (f + fullI k); rw [set_tail] at hown3; refine (PG.out w.heap.size w.heap.size (xs.length + 1) (xs.length + (K + 1)) _ _ hown3 (Nat.le_refl _) (by simp; omega)).mono ?_; rintro e w3 ⟨rfl, hown4, hb3⟩))
  go_ret2
  refine ⟨_, rfl, ?_, (hb2.setCell (by simp) _).trans hb3⟩
  have e : List.take (xs.length + 1) (xs ++ (f + fullI k) :: List.replicate K 0) ++ grp m = xs ++ (f + fullI k) :: grp m := by
    rw [List.take_append, List.take_of_length_le (by omega), show xs.length + 1 - xs.length = 1 by omega]; simp
  rw [e] at hown4
  have hle : (xs ++ (f + fullI k) :: grp m).length = xs.length + (K + 1) := by rw [HK.out]; simp
  unfold Own at hown4 ⊢
  rw [hle] at hown4 ⊢
  exact hown4

theorem put_refused (v : Value) (f k n : Int) (w : World) (hno : ¬ OkP f k n) :
    Calls Try.prog 8 #[v, .int .i64 f, .int .i64 k, .int .i64 n] w fun e w' => e = .returned (.tuple #[.slice none 0 0, .int .i64 1]) ∧ w = w' := by
  by_cases hs : OkS k n
  · have hF : ¬ OkF f k := fun h => hno ((okP_iff f k n).2 ⟨hs, h⟩)
    have dF : decide (OkF f k) = false := decide_eq_false hF
    have hk := hs.1
    have hz : (sizeP k n == 0) = false := by
      unfold sizeP; rw [if_pos hs]; have := sizeN_pos k n; simp; omega
    clear hs hF hno
    go_enter Try.func8, Try.ntmps8
    go_wp2_with (first
      | (go_at_call 11; refine (size_any k n _).mono ?_; rintro e w' ⟨rfl, rfl⟩)
      | (go_at_call 15; refine (areFlags_any f k _ hk).mono ?_; rintro e w' ⟨rfl, rfl⟩; rw [dF]))
    go_ret2
    exact ⟨rfl, rfl⟩
  · have hz : sizeP k n = 0 := if_neg hs
    have S1 : Hid (∀ W : World, Calls Try.prog 11 #[.int .i64 k, .int .i64 n] W fun e w' => e = .returned (.int .i64 0) ∧ W = w') := fun W => by
      have := size_any k n W; rw [hz] at this; exact this
    clear hz hs hno
    go_enter Try.func8, Try.ntmps8
    go_wp2_with (go_at_call 11; refine (S1.out _).mono ?_; rintro e w' ⟨rfl, rfl⟩)
    go_ret2
    exact ⟨rfl, rfl⟩

/-- what is put, or none -/
def putO (xs : List Int) (f k n : Int) : Option (List Int) := if OkP f k n then some (xs ++ encP f k n) else none
/-- no error: the bytes; else nothing and error 1: of both texts alike -/
def PutIs (w : World) (l : Option (List Int)) (e : Ending) (w' : World) : Prop :=
  ∃ u ys c, e = .returned (.tuple #[u, .int .i64 c]) ∧ Own .u8 5 w' w.heap.size u ys ∧ Below w.heap.size w w' ∧ ((∃ zs, l = some zs ∧ ys = zs ∧ c = 0) ∨ (l = none ∧ ys = [] ∧ c = 1))
theorem PutIs.yes {w : World} {xs zs : List Int} {l : Option (List Int)} (hl : l = some zs) (hz : xs = zs) {e : Ending} {w' : World} (h : BytesOf w xs e w') : PutIs w l e w' := by
  obtain ⟨u, h1, h2, h3⟩ := h
  exact ⟨u, xs, 0, h1, h2, h3, .inl ⟨zs, hl, hz, rfl⟩⟩
theorem PutIs.no {w : World} {l : Option (List Int)} (hl : l = none) {e : Ending} {w' : World} (h : e = .returned (.tuple #[.slice none 0 0, .int .i64 1]) ∧ w = w') : PutIs w l e w' := by
  obtain ⟨h1, rfl⟩ := h
  exact ⟨_, [], 1, h1, Own.nil _ _ _ _, Below.refl _ _, .inr ⟨hl, rfl, rfl⟩⟩
theorem put_any (v : Value) (xs : List Int) (f k n : Int) (w : World) (hr : Rd .u8 w v xs) (hl : xs.length ≤ 140737488351232) :
    Calls Try.prog 8 #[v, .int .i64 f, .int .i64 k, .int .i64 n] w (PutIs w (putO xs f k n)) := by
  by_cases h : OkP f k n
  · by_cases hs : n < fullI k
    · exact (put_small v xs f k n w hr hl h hs).mono fun e w' x => PutIs.yes (if_pos h) (by unfold encP; rw [if_pos hs]) x
    · by_cases hq : fullI k < n
      · exact (put_more v xs f k n w hr hl h hs hq).mono fun e w' x => PutIs.yes (if_pos h) (by unfold encP; rw [if_neg hs]) x
      · exact (put_even v xs f k n w hr hl h hs hq).mono fun e w' x => PutIs.yes (if_pos h) (by unfold encP; rw [if_neg hs]) x
  · exact (put_refused v f k n w h).mono fun e w' x => PutIs.no (if_neg h) x
theorem PutIs.one {l : Option (List Int)} {ys ys' : List Int} {c c' : Int} (h : (∃ zs, l = some zs ∧ ys = zs ∧ c = 0) ∨ (l = none ∧ ys = [] ∧ c = 1)) (h' : (∃ zs, l = some zs ∧ ys' = zs ∧ c' = 0) ∨ (l = none ∧ ys' = [] ∧ c' = 1)) : ys' = ys ∧ c' = c := by
  rcases h with ⟨zs, rfl, rfl, rfl⟩ | ⟨rfl, rfl, rfl⟩
  · rcases h' with ⟨zs', e, rfl, rfl⟩ | ⟨e, _⟩
    · cases e; exact ⟨rfl, rfl⟩
    · cases e
  · rcases h' with ⟨zs', e, _⟩ | ⟨_, rfl, rfl⟩
    · cases e
    · exact ⟨rfl, rfl⟩
theorem PutIs.bts {xs ys : List Int} {f k n c : Int} (hx : Bts xs) (h : (∃ zs, putO xs f k n = some zs ∧ ys = zs ∧ c = 0) ∨ (putO xs f k n = none ∧ ys = [] ∧ c = 1)) : Bts ys := by
  rcases h with ⟨zs, h, rfl, _⟩ | ⟨_, rfl, _⟩
  · unfold putO at h
    split at h
    · rename_i hok
      cases h; exact hx.append (encP_bts hok)
    · cases h
  · intro x hx; simp at hx
end Go.Proofs.Ytnjgnbdloeadgaa
