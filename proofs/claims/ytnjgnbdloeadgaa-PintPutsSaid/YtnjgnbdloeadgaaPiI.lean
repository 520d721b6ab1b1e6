/- Walks of layer 11: alive; the laws Puts and Grows. -/
import Derived.Test.YtnjgnbdloeadgaaPiH
set_option maxRecDepth 100000
namespace Go.Proofs.Ytnjgnbdloeadgaa
open Go.RowKit

theorem PutIs.bytes {w : World} {l : Option (List Int)} {zs : List Int} (hl : l = some zs) {e : Ending} {w' : World} (h : PutIs w l e w') : BytesOf w zs e w' := by
  obtain ⟨u, ys, c, rfl, o, b, hd⟩ := h
  rcases hd with ⟨z, h, rfl, rfl⟩ | ⟨h, _, _⟩
  · rw [hl] at h; cases h; exact ⟨u, rfl, o, b⟩
  · rw [hl] at h; cases h
theorem enc_one : encP 224 5 1337 = [255, 154, 10] := by
  unfold encP
  rw [if_neg (by decide)]
  show (224 + 31 : Int) :: grp 1306 = _
  rw [grp_ge (by decide), grp_lt (by decide)]; rfl
theorem get_one : getP [255, 154, 10] 0 5 = (224, 1337, 3, 0, 0) := by decide +kernel
theorem size_one : sizeP 5 10 = 1 := by
  unfold sizeP
  rw [if_pos (by decide), sizeN_lt (by decide)]; rfl

theorem get_at (v : Value) (xs : List Int) (a k : Int) (w : World) (hr : Rd .u8 w v xs) (hx : Bts xs) {f n x y z : Int} (h : getP xs a k = (f, n, x, y, z)) :
    Calls Try.prog 14 #[v, .int .i64 a, .int .i64 k] w fun e w' => e = .returned (.tuple #[.int .i64 f, .int .i64 n, .int .i64 x, .agg #[.int .i64 y, .int .i64 z]]) ∧ Below w.heap.size w w' := by
  have := get_any v xs a k w hr hx
  rw [h] at this
  exact this

set_option maxHeartbeats 1600000 in
theorem alive_any (w : World) : Calls Try.prog 13 #[] w (Yes w) := by
  have P1 : Hid (Calls Try.prog 8 #[.slice none 0 0, .int .i64 224, .int .i64 5, .int .i64 1337] w (BytesOf w [255, 154, 10])) :=
    (put_any (.slice none 0 0) [] 224 5 1337 w (Rd.nil _ _) (by simp)).mono fun e w' h => PutIs.bytes (by unfold putO; rw [if_pos (by decide), List.nil_append, enc_one]) h
  have hB : Hid (Bts [255, 154, 10]) := by intro x hx; simp at hx; omega
  go_enter Try.func13, Try.ntmps13
  go_wp2_with fail
  refine P1.out.mono ?_
  rintro e w1 ⟨u, rfl, hu, hb⟩
  have hz := hb.size
  go_wp2_with fail
  refine (get_at _ [255, 154, 10] 0 5 _ hu.rd hB.out get_one).mono ?_
  rintro e w2 ⟨rfl, hb2⟩
  have hz2 := hb2.size
  have hbb : Below w.heap.size w w2 := hb.trans (hb2.mono (by omega))
  have hu2 : Hid (Rd .u8 w2 u [255, 154, 10]) := hu.rd.below hb2
  clear hu hb hb2
  go_wp2_with fail
  refine (same_yes u _ [255, 154, 10] _ (hu2.out.below (((Below.refl _ _).alloc (Nat.le_refl _) _).alloc (by simp) _)) (Rd.lit' [255, 154, 10] (by simp) 3 _ rfl (by decide) _ rfl (by simp)) hB.out).mono ?_
  rintro e w3 ⟨rfl, rfl⟩
  go_wp2_with fail
  refine (size_any 5 10 _).mono ?_
  rw [size_one]
  rintro e w3 ⟨rfl, rfl⟩
  go_wp2_with fail
  go_ret
  exact ⟨rfl, (hbb.alloc (by omega) _).alloc (by simp; omega) _⟩

end Go.Proofs.Ytnjgnbdloeadgaa
