/- Walks of layer 1: Size, behind, PutWide, Put, and the reference's. -/
import Derived.Test.YtfkkimaebhjneaaDoorVintA
import Derived.Deep.DeepCutAuto
namespace Go.Proofs.YtfkkimaebhjneaaDoor
open Go.RowKit

/-- THE TABLE OF WIDTHS, as it is laid -/
structure Tab (w : World) : Prop where
  c0 : w.cell? ⟨0, 0, none⟩ = some (.int .i64 1)
  c1 : w.cell? ⟨0, 1, none⟩ = some (.int .i64 2)
  c2 : w.cell? ⟨0, 2, none⟩ = some (.int .i64 4)
  c3 : w.cell? ⟨0, 3, none⟩ = some (.int .i64 8)
theorem Tab.pos {w : World} (h : Tab w) : 0 < w.heap.size := World.block_lt_of_cell? w _ h.c0
theorem Tab.below {w w' : World} {B : Nat} (h : Tab w) (hb : Below B w w') (hB : 0 < B) : Tab w' :=
  ⟨(hb.cell (p := ⟨_, 0, none⟩) hB).trans h.c0, (hb.cell (p := ⟨_, 1, none⟩) hB).trans h.c1, (hb.cell (p := ⟨_, 2, none⟩) hB).trans h.c2, (hb.cell (p := ⟨_, 3, none⟩) hB).trans h.c3⟩

def sizeI (n : Int) : Int := if fitsB n 1 then 1 else if fitsB n 2 then 2 else if fitsB n 4 then 4 else if fitsB n 8 then 8 else 0

theorem size_any (n : Int) (w : World) (ht : Tab w) : Calls Tryd.prog 62 #[.int .i64 n] w fun e w' => e = .returned (.int .i64 (sizeI n)) ∧ w = w' := by
  obtain ⟨c0, c1, c2, c3⟩ := ht
  have hs : Hid (sizeI n = if fitsB n 1 then 1 else if fitsB n 2 then 2 else if fitsB n 4 then 4 else if fitsB n 8 then 8 else 0) := rfl
  cases h1 : fitsB n 1
  cases h2 : fitsB n 2
  cases h3 : fitsB n 4
  cases h4 : fitsB n 8
  all_goals
    go_enter Tryd.func62, Tryd.ntmps62
    go_wp2
    refine wp_loop_rounds 5 ?_
    repeat any_goals (rw [rounds_succ]; go_wp2_with (go_at_call 65; refine (fits_any n _ _ (by decide)).mono ?_; rintro e w' ⟨rfl, rfl⟩))
    go_ret
    exact ⟨ret_int (by rw [hs.out]; simp [*]), rfl⟩
end Go.Proofs.YtfkkimaebhjneaaDoor
