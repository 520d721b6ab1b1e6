/- Walks of layer 1: what both sides' calls give, in one (layer 1 beneath a later layer). -/
import Derived.Test.YtfkkimaebhjneaaDoorVintJ
import Derived.Test.YtfkkimaebhjneaaDoorVintG
set_option linter.unusedSimpArgs false
set_option linter.unusedVariables false
namespace Go.Proofs.YtfkkimaebhjneaaDoor
open Go.RowKit

/-- WHAT Get ANSWERS, of both texts -/
theorem gets_same (v : Value) (xs : List Int) (a : Int) (hx : Bts xs) : ∃ n m y z : Int,
    (∀ w, Tab w → Rd .u8 w v xs → Calls Tryd.prog 57 #[v, .int .i64 a] w (GetIs w n m y z)) ∧
    (∀ w, Rd .u8 w v xs → Calls Tryd.prog 60 #[v, .int .i64 a] w (GetIs w n m y z)) := by
  by_cases h0 : a < 0
  · exact ⟨0, 0, 1, a, fun w _ _ => get_low v a w h0, fun w _ => rget_low v a w h0⟩
  by_cases h1 : xs.length < a
  · exact ⟨0, 0, 1, a, fun w _ hr => get_high v xs a w hr (by omega) h1, fun w hr => rget_high v xs a w hr (by omega) h1⟩
  obtain ⟨i, rfl⟩ := Int.eq_ofNat_of_zero_le (show 0 ≤ a by omega)
  by_cases h2 : i = xs.length
  · subst h2
    exact ⟨0, 0, 3, xs.length, fun w _ hr => get_end v xs w hr, fun w hr => rget_end v xs w hr⟩
  by_cases h3 : xs.length < i + widN (xs.getD i 0)
  · exact ⟨0, 0, 3, xs.length, fun w ht hr => get_short v xs i w ht hr hx (by omega) h3, fun w hr => rget_short v xs i w hr hx (by omega) h3⟩
  have hc := getD_bts hx i
  have hq : xs.getD i 0 / 64 = 0 ∨ xs.getD i 0 / 64 = 1 ∨ xs.getD i 0 / 64 = 2 ∨ xs.getD i 0 / 64 = 3 := by omega
  unfold widN at h3
  rcases hq with hq | hq | hq | hq
  · rw [if_pos hq] at h3
    exact ⟨acc xs i 0, i + 1, 0, 0, fun w ht hr => get_ok1 v xs i w ht hr hx (by omega) hq, fun w hr => rget_ok1 v xs i w hr hx (by omega) hq⟩
  · rw [if_neg (by omega), if_pos hq] at h3
    exact ⟨acc xs i 1, i + 2, 0, 0, fun w ht hr => get_ok2 v xs i w ht hr hx (by omega) hq, fun w hr => rget_ok2 v xs i w hr hx (by omega) hq⟩
  · rw [if_neg (by omega), if_neg (by omega), if_pos hq] at h3
    exact ⟨acc xs i 3, i + 4, 0, 0, fun w ht hr => get_ok4 v xs i w ht hr hx (by omega) hq, fun w hr => rget_ok4 v xs i w hr hx (by omega) hq⟩
  · rw [if_neg (by omega), if_neg (by omega), if_neg (by omega)] at h3
    exact ⟨acc xs i 7, i + 8, 0, 0, fun w ht hr => get_ok8 v xs i w ht hr hx (by omega) hq, fun w hr => rget_ok8 v xs i w hr hx (by omega) hq⟩

theorem rputWide_yes (v : Value) (xs : List Int) (n width : Int) (w : World) (hr : Rd .u8 w v xs) (hl : xs.length ≤ 140737488351232) (hn : n ≤ 9223372036854775807) (hw : okW width) (hf : fitsB n width = true) :
    Calls Tryd.prog 63 #[v, .int .i64 n, .int .i64 width] w (BytesOf w (xs ++ enc n width)) := by
  have hfl := fits_lt hf
  rcases hw with rfl | rfl | rfl | rfl
  all_goals
    simp only [Int.reduceMul, Int.reduceSub, Int.reduceToNat, Int.reducePow] at hfl
    obtain ⟨n0, n1⟩ := hfl
  · exact rputWide_1 v xs n w hr hl n0 n1 hn hf
  · exact rputWide_2 v xs n w hr hl n0 n1 hn hf
  · exact rputWide_4 v xs n w hr hl n0 n1 hn hf
  · exact rputWide_8 v xs n w hr hl n0 n1 hn hf

theorem rput_yes (v : Value) (xs : List Int) (n : Int) (w : World) (hr : Rd .u8 w v xs) (hl : xs.length ≤ 140737488351232) (hn : n ≤ 9223372036854775807) (hf : fitsB n 8 = true) :
    Calls Tryd.prog 56 #[v, .int .i64 n] w (BytesOf w (xs ++ enc n (sizeI n))) := by
  have H := Lib.hid (rputWide_yes v xs n (sizeI n) w hr hl hn (sizeI_in hf).1 (sizeI_in hf).2)
  clear hr hf
  go_enter Tryd.func56, Tryd.ntmps56
  go_wp2_with (first
    | (go_at_call 64; refine (rsize_any n _ hn).mono ?_; rintro e w' ⟨rfl, rfl⟩)
    | (go_at_call 63; (with_reducible refine H.out.mono ?_); rintro e w' ⟨u, rfl, hu, hb⟩))
  go_ret2
  exact ⟨_, rfl, hu, hb⟩

theorem rput_no (v : Value) (n : Int) (w : World) (hn : n ≤ 9223372036854775807) (hf : fitsB n 8 = false) :
    Calls Tryd.prog 56 #[v, .int .i64 n] w fun e w' => e = .returned (.tuple #[.slice none 0 0, .int .i64 1]) ∧ w = w' := by
  have hs := sizeI_out hf
  have H := Lib.hid (rputWide_odd v n 0 w (by unfold okW; omega))
  have H1 : Hid (Calls Tryd.prog 64 #[.int .i64 n] w fun e w' => e = .returned (.int .i64 0) ∧ w = w') := by
    have := rsize_any n w hn; rw [hs] at this; exact this
  clear hf hs
  go_enter Tryd.func56, Tryd.ntmps56
  go_wp2_with (first
    | (go_at_call 64; refine H1.out.mono ?_; rintro e w' ⟨rfl, rfl⟩)
    | (go_at_call 63; (with_reducible refine H.out.mono ?_); rintro e w' ⟨rfl, rfl⟩))
  go_ret2
  exact ⟨rfl, rfl⟩

/-- no error: the bytes; else nothing and error 1: of both texts alike -/
def PutIs (w : World) (l : Option (List Int)) (e : Ending) (w' : World) : Prop :=
  ∃ u ys c, e = .returned (.tuple #[u, .int .i64 c]) ∧ Own .u8 5 w' w.heap.size u ys ∧ Below w.heap.size w w' ∧ ((∃ zs, l = some zs ∧ ys = zs ∧ c = 0) ∨ (l = none ∧ ys = [] ∧ c = 1))
def putL (xs : List Int) (n width : Int) : Option (List Int) := if fitsB n width = true ∧ (width = 1 ∨ width = 2 ∨ width = 4 ∨ width = 8) then some (xs ++ enc n width) else none
theorem PutIs.yes {w : World} {xs zs : List Int} {l : Option (List Int)} (hl : l = some zs) (hz : xs = zs) {e : Ending} {w' : World} (h : BytesOf w xs e w') : PutIs w l e w' := by
  obtain ⟨u, h1, h2, h3⟩ := h
  exact ⟨u, xs, 0, h1, h2, h3, .inl ⟨zs, hl, hz, rfl⟩⟩
theorem PutIs.no {w : World} {l : Option (List Int)} (hl : l = none) {e : Ending} {w' : World} (h : e = .returned (.tuple #[.slice none 0 0, .int .i64 1]) ∧ w = w') : PutIs w l e w' := by
  obtain ⟨h1, rfl⟩ := h
  exact ⟨_, [], 1, h1, Own.nil _ _ _ _, Below.refl _ _, .inr ⟨hl, rfl, rfl⟩⟩

theorem putWide_any (v : Value) (xs : List Int) (n width : Int) (w : World) (ht : Tab w) (hr : Rd .u8 w v xs) (hl : xs.length ≤ 140737488351232) :
    Calls Tryd.prog 61 #[v, .int .i64 n, .int .i64 width] w (PutIs w (putL xs n width)) := by
  by_cases hw : okW width
  · cases hf : fitsB n width
    · exact (putWide_no v n width w ht hw hf).mono fun e w' h => PutIs.no (by simp [putL, hf]) h
    · exact (putWide_yes v xs n width w ht hr hl hw hf).mono fun e w' h => PutIs.yes (if_pos ⟨hf, hw⟩) rfl h
  · exact (putWide_odd v n width w ht hw).mono fun e w' h => PutIs.no (if_neg fun h => hw h.2) h
theorem rputWide_any (v : Value) (xs : List Int) (n width : Int) (w : World) (hr : Rd .u8 w v xs) (hl : xs.length ≤ 140737488351232) (hn : n ≤ 9223372036854775807) :
    Calls Tryd.prog 63 #[v, .int .i64 n, .int .i64 width] w (PutIs w (putL xs n width)) := by
  by_cases hw : okW width
  · cases hf : fitsB n width
    · exact (rputWide_no v n width w hn hw hf).mono fun e w' h => PutIs.no (by simp [putL, hf]) h
    · exact (rputWide_yes v xs n width w hr hl hn hw hf).mono fun e w' h => PutIs.yes (if_pos ⟨hf, hw⟩) rfl h
  · exact (rputWide_odd v n width w hw).mono fun e w' h => PutIs.no (if_neg fun h => hw h.2) h
def putS (xs : List Int) (n : Int) : Option (List Int) := if fitsB n 8 = true then some (xs ++ enc n (sizeI n)) else none
theorem put_any (v : Value) (xs : List Int) (n : Int) (w : World) (ht : Tab w) (hr : Rd .u8 w v xs) (hl : xs.length ≤ 140737488351232) :
    Calls Tryd.prog 55 #[v, .int .i64 n] w (PutIs w (putS xs n)) := by
  cases hf : fitsB n 8
  · exact (put_no v n w ht hf).mono fun e w' h => PutIs.no (by simp [putS, hf]) h
  · exact (put_yes v xs n w ht hr hl hf).mono fun e w' h => PutIs.yes (if_pos hf) rfl h
theorem rput_any (v : Value) (xs : List Int) (n : Int) (w : World) (hr : Rd .u8 w v xs) (hl : xs.length ≤ 140737488351232) (hn : n ≤ 9223372036854775807) :
    Calls Tryd.prog 56 #[v, .int .i64 n] w (PutIs w (putS xs n)) := by
  cases hf : fitsB n 8
  · exact (rput_no v n w hn hf).mono fun e w' h => PutIs.no (by simp [putS, hf]) h
  · exact (rput_yes v xs n w hr hl hn hf).mono fun e w' h => PutIs.yes (if_pos hf) rfl h

end Go.Proofs.YtfkkimaebhjneaaDoor
