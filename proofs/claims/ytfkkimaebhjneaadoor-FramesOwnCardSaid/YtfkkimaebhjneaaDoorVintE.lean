/- Walks of layer 1: PutWide, Put. -/
import Derived.Test.YtfkkimaebhjneaaDoorVintD
namespace Go.Proofs.YtfkkimaebhjneaaDoor
open Go.RowKit

def okW (width : Int) : Prop := width = 1 ∨ width = 2 ∨ width = 4 ∨ width = 8
def enc (n width : Int) : List Int := if width = 1 then be (bm1 n).toNat 1 else if width = 2 then be (bm2 n).toNat 2 else if width = 4 then be (bm4 n).toNat 4 else be (bm8 n).toNat 8
theorem enc_bts (n width : Int) : Bts (enc n width) := by unfold enc; split <;> (try split) <;> (try split) <;> exact be_bts _ _
theorem enc_len (n width : Int) (h : okW width) : (enc n width).length = width.toNat := by
  rcases h with rfl | rfl | rfl | rfl <;> simp [enc, be_len]
theorem fits_lt {n width : Int} (h : fitsB n width = true) : 0 ≤ n ∧ n < 2 ^ (8 * width - 2).toNat := of_decide_eq_true h

def BytesOf (w : World) (xs : List Int) (e : Ending) (w' : World) : Prop :=
  ∃ u, e = .returned (.tuple #[u, .int .i64 0]) ∧ Own .u8 5 w' w.heap.size u xs ∧ Below w.heap.size w w'

theorem putWide_yes (v : Value) (xs : List Int) (n width : Int) (w : World) (ht : Tab w) (hr : Rd .u8 w v xs) (hl : xs.length ≤ 140737488351232) (hw : okW width) (hf : fitsB n width = true) :
    Calls Tryd.prog 61 #[v, .int .i64 n, .int .i64 width] w (BytesOf w (xs ++ enc n width)) := by
  have hfl := fits_lt hf
  have ht' := ht
  obtain ⟨c0, c1, c2, c3⟩ := ht
  rcases hw with rfl | rfl | rfl | rfl
  all_goals
    simp only [Int.reduceMul, Int.reduceSub, Int.reduceToNat, Int.reducePow] at hfl
    obtain ⟨n0, n1⟩ := hfl
    have hr' := Lib.hid hr; clear hr
    have ht'' := Lib.hid ht'; clear ht'
    go_enter Tryd.func61, Tryd.ntmps61
    go_wp2
    refine wp_loop_rounds 5 ?_
    repeat any_goals (rw [rounds_succ]; go_wp2_with (first
      | (go_at_call 65; refine (fits_any n _ _ (by decide)).mono ?_; rintro e w' ⟨rfl, rfl⟩)
      | (go_at_call 66; first
        | ((with_reducible refine (behind_1 _ xs n _ ht''.out hr'.out hl n0 n1).mono ?_); rintro e w' ⟨u, rfl, hu, hb⟩)
        | ((with_reducible refine (behind_2 _ xs n _ ht''.out hr'.out hl n0 n1).mono ?_); rintro e w' ⟨u, rfl, hu, hb⟩)
        | ((with_reducible refine (behind_4 _ xs n _ ht''.out hr'.out hl n0 n1).mono ?_); rintro e w' ⟨u, rfl, hu, hb⟩)
        | ((with_reducible refine (behind_8 _ xs n _ ht''.out hr'.out hl n0 n1).mono ?_); rintro e w' ⟨u, rfl, hu, hb⟩))))
    go_ret2
    exact ⟨_, rfl, by simpa [enc] using hu, hb⟩

theorem putWide_no (v : Value) (n width : Int) (w : World) (ht : Tab w) (hw : okW width) (hf : fitsB n width = false) :
    Calls Tryd.prog 61 #[v, .int .i64 n, .int .i64 width] w fun e w' => e = .returned (.tuple #[.slice none 0 0, .int .i64 1]) ∧ w = w' := by
  obtain ⟨c0, c1, c2, c3⟩ := ht
  rcases hw with rfl | rfl | rfl | rfl
  all_goals
    go_enter Tryd.func61, Tryd.ntmps61
    go_wp2
    refine wp_loop_rounds 5 ?_
    repeat any_goals (rw [rounds_succ]; go_wp2_with (go_at_call 65; refine (fits_any n _ _ (by decide)).mono ?_; rintro e w' ⟨rfl, rfl⟩))
    go_ret2
    exact ⟨rfl, rfl⟩

theorem putWide_odd (v : Value) (n width : Int) (w : World) (ht : Tab w) (hw : ¬ okW width) :
    Calls Tryd.prog 61 #[v, .int .i64 n, .int .i64 width] w fun e w' => e = .returned (.tuple #[.slice none 0 0, .int .i64 1]) ∧ w = w' := by
  obtain ⟨c0, c1, c2, c3⟩ := ht
  unfold okW at hw
  have h1 : ((1 : Int) == width) = false := by simp; omega
  have h2 : ((2 : Int) == width) = false := by simp; omega
  have h3 : ((4 : Int) == width) = false := by simp; omega
  have h4 : ((8 : Int) == width) = false := by simp; omega
  clear hw
  go_enter Tryd.func61, Tryd.ntmps61
  go_wp2
  refine wp_loop_rounds 5 ?_
  repeat any_goals (rw [rounds_succ]; go_wp2_with fail)
  go_ret2
  exact ⟨rfl, rfl⟩
end Go.Proofs.YtfkkimaebhjneaaDoor
