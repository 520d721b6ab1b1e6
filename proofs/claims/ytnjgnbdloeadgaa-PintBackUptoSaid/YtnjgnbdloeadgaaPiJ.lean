/- Walks of layer 11: the laws Puts and Grows. -/
import Derived.Test.YtnjgnbdloeadgaaPiI
import Derived.Deep.RegionHeld3
set_option maxRecDepth 100000
namespace Go.Proofs.Ytnjgnbdloeadgaa
open Go.RowKit

/-- a block that holds three numbers -/
def Held3 (b : Nat) (x y z : Int) (W : World) : Prop := ∃ T, W.heap[b]? = some (.cells #[.int .i64 x, .int .i64 y, .int .i64 z] T (0, 0))
theorem held3_last (x y z : Int) (T : TypeId) (w : World) : Held3 w.heap.size x y z (w.alloc (.cells #[.int .i64 x, .int .i64 y, .int .i64 z] T)) := ⟨T, by show (w.heap.push _)[w.heap.size]? = _; simp⟩
theorem Held3.lt {b : Nat} {x y z : Int} {W : World} (H : Held3 b x y z W) : b < W.heap.size := by
  obtain ⟨T, e⟩ := H
  exact (Array.getElem?_eq_some_iff.1 e).1
theorem Held3.below {b : Nat} {x y z : Int} {W W' : World} (H : Held3 b x y z W) (hb : Below W.heap.size W W') : Held3 b x y z W' := by
  have k := H.lt
  obtain ⟨T, e⟩ := H
  exact ⟨T, by rw [hb.block b k]; exact e⟩
theorem Held3.facts {b : Nat} {x y z : Int} {W : World} (H : Held3 b x y z W) : W.cell? ⟨b, 0, none⟩ = some (.int .i64 x) ∧ W.cell? ⟨b, 1, none⟩ = some (.int .i64 y) ∧ W.cell? ⟨b, 2, none⟩ = some (.int .i64 z) := by
  obtain ⟨T, e⟩ := H
  simp [World.cell?, e]

set_option maxHeartbeats 3200000 in
theorem pintPuts_walk (v : Value) (xs : List Int) (f k n : Int) (w : World) (hr : Rd .u8 w v xs) (hx : Bts xs) (hl : xs.length ≤ 140737488351232) :
    Calls Try.prog 3 #[v, .agg #[.int .i64 f, .int .i64 k, .int .i64 n]] w (Yes w) := by
  have hR := Lib.hid hr
  have hX := Lib.hid hx
  clear hr hx
  have bW : Below w.heap.size w (w.alloc (.cells #[.int .i64 f, .int .i64 k, .int .i64 n] 24)) := (Below.refl _ _).alloc (Nat.le_refl _) _
  have HA := Lib.hid (held3_last f k n 24 w)
  go_enter Try.func3, Try.ntmps3
  go_wp2_with fail
  refine (put_any v xs f k n _ (hR.out.below bW) hl).mono ?_
  rintro e w1 ⟨u1, y1, c1, rfl, o1, b1, d1⟩
  have D1 := Lib.hid d1
  clear d1
  have HA := Lib.hid (HA.out.below b1)
  have B1 : Below w.heap.size w w1 := bW.trans (b1.mono (by simp))
  clear b1 bW
  obtain ⟨a0, a1, a2⟩ := HA.out.facts
  go_wp2_with fail
  refine (rput_any v xs f k n _ (hR.out.below B1) hl).mono ?_
  rintro e w2 ⟨u2, y2, c2, rfl, o2, b2, d2⟩
  obtain ⟨rfl, rfl⟩ := PutIs.one D1.out d2
  have BY := Lib.hid (PutIs.bts hX.out d2)
  clear d2 D1
  have HA := Lib.hid (HA.out.below b2)
  have BB := Lib.hid (B1.trans (b2.mono B1.size))
  have RU1 : Hid (Rd .u8 w2.drew u1 y2) := o1.rd.below b2.drew
  have RU2 : Hid (Rd .u8 w2.drew u2 y2) := o2.drew.rd
  clear b2 B1 o1 o2 a0 a1 a2
  have HA : Hid (Held3 w.heap.size f k n w2.drew) := HA
  have BB := Lib.hid (BB.out.drew)
  obtain ⟨a0, a1, a2⟩ := HA.out.facts
  go_wp2_with fail
  go_region_held3 (fun w' => w'.cell? ⟨w.heap.size, 0, none⟩ = some (.int .i64 f) ∧ w'.cell? ⟨w.heap.size, 1, none⟩ = some (.int .i64 k) ∧ w'.cell? ⟨w.heap.size, 2, none⟩ = some (.int .i64 n))
    (first
      | (exact ⟨a0, a1, a2⟩))
    (first
      | (go_at_call 10; refine (same_yes u1 u2 y2 _ RU1.out RU2.out BY.out).mono ?_; rintro e wn ⟨rfl, rfl⟩)
      | (go_at_call 11; refine (size_any k n _).mono ?_; rintro e wn ⟨rfl, rfl⟩)
      | (go_at_call 12; refine (rsize_any k n _).mono ?_; rintro e wn ⟨rfl, bn⟩; have HA := Lib.hid (HA.out.below bn); have BB := Lib.hid (BB.out.trans (bn.mono BB.out.size)); clear bn; obtain ⟨a0, a1, a2⟩ := HA.out.facts)
      | (go_at_call 13; refine (alive_any _).mono ?_; rintro e wn ⟨rfl, bn⟩; have HA := Lib.hid (HA.out.below bn); have BB := Lib.hid (BB.out.trans (bn.mono BB.out.size)); clear bn; obtain ⟨a0, a1, a2⟩ := HA.out.facts))
  all_goals
    go_wp2
    go_ret
    exact ⟨rfl, BB.out⟩
end Go.Proofs.Ytnjgnbdloeadgaa
