/- Walks of layer 1: Get. -/
import Derived.Test.YtfkkimaebhjneaaDoorVintB
namespace Go.Proofs.YtfkkimaebhjneaaDoor
open Go.RowKit

def fault (why at_ : Int) : Value := .agg #[.int .i64 why, .int .i64 at_]
def GetIs (w : World) (n next why at_ : Int) (e : Ending) (w' : World) : Prop := e = .returned (.tuple #[.int .i64 n, .int .i64 next, .agg #[.int .i64 why, .int .i64 at_]]) ∧ Below w.heap.size w w'

theorem get_low (v : Value) (a : Int) (w : World) (h : a < 0) :
    Calls Tryd.prog 57 #[v, .int .i64 a] w (GetIs w 0 0 1 a) := by
  have h1 : decide (a < 0) = true := by simp; omega
  go_enter Tryd.func57, Tryd.ntmps57
  go_wp2
  refine bodyPost_ret (v := .tuple #[.int .i64 0, .int .i64 0, fault 1 a]) (by simp [results, Tryd.results57, go_sem, fault]) rfl ⟨rfl, ?_⟩
  go_grown

theorem get_high (v : Value) (xs : List Int) (a : Int) (w : World) (hr : Rd .u8 w v xs) (h0 : 0 ≤ a) (h : xs.length < a) :
    Calls Tryd.prog 57 #[v, .int .i64 a] w (GetIs w 0 0 1 a) := by
  obtain ⟨p, c, rfl⟩ := hr.isSlice
  have h1 : decide (a < 0) = false := by simp; omega
  have h2 : decide ((xs.length : Int) < a) = true := by simp; omega
  clear hr
  go_enter Tryd.func57, Tryd.ntmps57
  go_wp2
  refine bodyPost_ret (v := .tuple #[.int .i64 0, .int .i64 0, fault 1 a]) (by simp [results, Tryd.results57, go_sem, fault]) rfl ⟨rfl, ?_⟩
  go_grown

theorem get_end (v : Value) (xs : List Int) (w : World) (hr : Rd .u8 w v xs) :
    Calls Tryd.prog 57 #[v, .int .i64 xs.length] w (GetIs w 0 0 3 xs.length) := by
  obtain ⟨p, c, rfl⟩ := hr.isSlice
  clear hr
  go_enter Tryd.func57, Tryd.ntmps57
  go_wp2
  go_region
  all_goals
    go_wp2
    refine bodyPost_ret (v := .tuple #[.int .i64 0, .int .i64 0, fault 3 xs.length]) (by simp [results, Tryd.results57, go_sem, fault]) rfl ⟨rfl, ?_⟩
    go_grown

/-- in how many bytes the number goes on whose first byte is c -/
def widN (c : Int) : Nat := if c / 64 = 0 then 1 else if c / 64 = 1 then 2 else if c / 64 = 2 then 4 else 8

set_option maxHeartbeats 800000 in
theorem get_short (v : Value) (xs : List Int) (a : Nat) (w : World) (ht : Tab w) (hr : Rd .u8 w v xs) (hx : Bts xs) (h : a < xs.length) (hw : xs.length < a + widN (xs.getD a 0)) :
    Calls Tryd.prog 57 #[v, .int .i64 a] w (GetIs w 0 0 3 xs.length) := by
  have hl : xs.length ≤ 9223372036854775807 := hr.len
  rcases hr with ⟨rfl, _⟩ | ⟨_, b, o, cp, rfl, h2, h3, h4, h5⟩
  · simp at h
  have hc := h5 a h
  have hcr : 0 ≤ xs.getD a 0 ∧ xs.getD a 0 < 256 := hx _ (by simp [List.getD, List.getElem?_eq_getElem h])
  clear h5 hx
  obtain ⟨c, hcc⟩ : ∃ c, c = xs.getD a 0 := ⟨_, rfl⟩
  rw [← hcc] at hc hcr hw
  clear hcc
  obtain ⟨hc0, hc1⟩ := hcr
  have hpos := ht.pos
  obtain ⟨c0, c1, c2, c3⟩ := ht
  have hne : ((a : Int) == (xs.length : Int)) = false := by simp; omega
  have hq : c / 64 = 0 ∨ c / 64 = 1 ∨ c / 64 = 2 ∨ c / 64 = 3 := by omega
  unfold widN at hw
  have t1 : decide ((a : Int) < 0) = false := by simp
  have t2 : decide (xs.length < a) = false := by simp; omega
  rcases hq with hq | hq | hq | hq
  all_goals
    simp [hq] at hw
    first
    | (exfalso; omega)
    | (
      go_enter Tryd.func57, Tryd.ntmps57
      go_wp2
      go_region
      all_goals
        go_wp2
        refine bodyPost_ret (v := .tuple #[.int .i64 0, .int .i64 0, fault 3 xs.length]) (by simp [results, Tryd.results57, go_sem, fault]) rfl ⟨rfl, ?_⟩
        go_grown)
end Go.Proofs.YtfkkimaebhjneaaDoor
