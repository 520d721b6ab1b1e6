/- Walks of layer 1: Put; the reference's Size, PutWide, Put. -/
import Derived.Test.YtfkkimaebhjneaaDoorVintE
namespace Go.Proofs.YtfkkimaebhjneaaDoor
open Go.RowKit

theorem sizeI_in {n : Int} (h : fitsB n 8 = true) : okW (sizeI n) ∧ fitsB n (sizeI n) = true := by
  unfold sizeI
  split
  · exact ⟨.inl rfl, by assumption⟩
  · split
    · exact ⟨.inr (.inl rfl), by assumption⟩
    · split
      · exact ⟨.inr (.inr (.inl rfl)), by assumption⟩
      · exact ⟨.inr (.inr (.inr rfl)), h⟩
theorem fits_mono {n : Int} {a b : Int} (hab : (8 * a - 2).toNat ≤ (8 * b - 2).toNat) (h : fitsB n a = true) : fitsB n b = true := by
  have h1 := fits_lt h
  refine decide_eq_true ⟨h1.1, Int.lt_of_lt_of_le h1.2 ?_⟩
  exact_mod_cast Nat.pow_le_pow_right (by omega) hab
theorem sizeI_out {n : Int} (h : fitsB n 8 = false) : sizeI n = 0 := by
  have f : ∀ a, (8 * a - 2).toNat ≤ (8 * 8 - 2 : Int).toNat → ¬ fitsB n a = true := fun a ha hh => by
    have := fits_mono (b := 8) ha hh; rw [h] at this; cases this
  unfold sizeI
  rw [if_neg (f 1 (by decide)), if_neg (f 2 (by decide)), if_neg (f 4 (by decide)), if_neg (f 8 (by decide))]

theorem put_yes (v : Value) (xs : List Int) (n : Int) (w : World) (ht : Tab w) (hr : Rd .u8 w v xs) (hl : xs.length ≤ 140737488351232) (hf : fitsB n 8 = true) :
    Calls Tryd.prog 55 #[v, .int .i64 n] w (BytesOf w (xs ++ enc n (sizeI n))) := by
  have H := Lib.hid (putWide_yes v xs n (sizeI n) w ht hr hl (sizeI_in hf).1 (sizeI_in hf).2)
  have ht' := Lib.hid ht
  clear ht hr hf
  go_enter Tryd.func55, Tryd.ntmps55
  go_wp2_with (first
    | (go_at_call 62; refine (size_any n _ ht'.out).mono ?_; rintro e w' ⟨rfl, rfl⟩)
    | (go_at_call 61; (with_reducible refine H.out.mono ?_); rintro e w' ⟨u, rfl, hu, hb⟩))
  go_ret2
  exact ⟨_, rfl, hu, hb⟩

theorem put_no (v : Value) (n : Int) (w : World) (ht : Tab w) (hf : fitsB n 8 = false) :
    Calls Tryd.prog 55 #[v, .int .i64 n] w fun e w' => e = .returned (.tuple #[.slice none 0 0, .int .i64 1]) ∧ w = w' := by
  have hs := sizeI_out hf
  have H := Lib.hid (putWide_odd v n 0 w ht (by unfold okW; omega))
  have H1 : Hid (Calls Tryd.prog 62 #[.int .i64 n] w fun e w' => e = .returned (.int .i64 0) ∧ w = w') := by
    have := size_any n w ht; rw [hs] at this; exact this
  clear ht hf hs
  go_enter Tryd.func55, Tryd.ntmps55
  go_wp2_with (first
    | (go_at_call 62; refine H1.out.mono ?_; rintro e w' ⟨rfl, rfl⟩)
    | (go_at_call 61; (with_reducible refine H.out.mono ?_); rintro e w' ⟨rfl, rfl⟩))
  go_ret2
  exact ⟨rfl, rfl⟩

theorem rsize_any (n : Int) (w : World) (hi : n ≤ 9223372036854775807) : Calls Tryd.prog 64 #[.int .i64 n] w fun e w' => e = .returned (.int .i64 (sizeI n)) ∧ w = w' := by
  have hs : Hid (sizeI n = if fitsB n 1 then 1 else if fitsB n 2 then 2 else if fitsB n 4 then 4 else if fitsB n 8 then 8 else 0) := rfl
  cases h1 : fitsB n 1
  cases h2 : fitsB n 2
  cases h3 : fitsB n 4
  cases h4 : fitsB n 8
  all_goals
    go_enter Tryd.func64, Tryd.ntmps64
    go_wp2
    refine wp_loop_rounds 5 ?_
    repeat any_goals (rw [rounds_succ]; go_wp2_with (go_at_call 67; refine (room_any n _ _ hi (by decide)).mono ?_; rintro e w' ⟨rfl, rfl⟩))
    go_ret
    exact ⟨ret_int (by rw [hs.out]; simp [*]), rfl⟩

theorem rputWide_no (v : Value) (n width : Int) (w : World) (hi : n ≤ 9223372036854775807) (hw : okW width) (hf : fitsB n width = false) :
    Calls Tryd.prog 63 #[v, .int .i64 n, .int .i64 width] w fun e w' => e = .returned (.tuple #[.slice none 0 0, .int .i64 1]) ∧ w = w' := by
  rcases hw with rfl | rfl | rfl | rfl
  all_goals
    go_enter Tryd.func63, Tryd.ntmps63
    go_wp2_with (go_at_call 67; refine (room_any n _ _ hi (by decide)).mono ?_; rintro e w' ⟨rfl, rfl⟩)
    go_ret2
    exact ⟨rfl, rfl⟩

theorem rputWide_odd (v : Value) (n width : Int) (w : World) (hw : ¬ okW width) :
    Calls Tryd.prog 63 #[v, .int .i64 n, .int .i64 width] w fun e w' => e = .returned (.tuple #[.slice none 0 0, .int .i64 1]) ∧ w = w' := by
  unfold okW at hw
  have h1 : (width != (1 : Int)) = true := by simp; omega
  have h2 : (width != (2 : Int)) = true := by simp; omega
  have h3 : (width != (4 : Int)) = true := by simp; omega
  have h4 : (width != (8 : Int)) = true := by simp; omega
  clear hw
  go_enter Tryd.func63, Tryd.ntmps63
  go_wp2_with fail
  go_ret2
  exact ⟨rfl, rfl⟩
end Go.Proofs.YtfkkimaebhjneaaDoor
