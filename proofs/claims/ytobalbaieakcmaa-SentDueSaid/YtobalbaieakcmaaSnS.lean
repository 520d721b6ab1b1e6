/- Walks of layer 8: datagrams put in order by their numbers. -/
import Derived.Test.YtobalbaieakcmaaSnC
import Derived.Test.YtobalbaieakcmaaSnS0
import Derived.Shelf.SlSortCmp.NoneTotal
set_option linter.unusedSimpArgs false
set_option linter.unusedVariables false
namespace Go.Proofs.Ytobalbaieakcmaa
open Go.RowKit Go.Sort Go.Shelf Go.Lib

theorem nan_any (x : Int) (w : World) : Calls Try.prog 53 #[.int .i64 x] w fun e w' => e = .returned (.bool false) ∧ w' = w := by
  have e0 : (x != x) = false := by simp
  go_enter Try.func53, Try.ntmps53
  go_wp2
  go_ret
  exact ⟨rfl, rfl⟩
def cmpI (x y : Int) : Int := if x < y then -1 else if y < x then 1 else 0
theorem compare_any (x y : Int) (w : World) : Calls Try.prog 47 #[.int .i64 x, .int .i64 y] w fun e w' => e = .returned (.int .i64 (cmpI x y)) ∧ w' = w := by
  unfold cmpI
  by_cases h1 : x < y
  · rw [if_pos h1]
    have e1 : decide (x < y) = true := decide_eq_true h1
    clear h1
    go_enter Try.func47, Try.ntmps47
    go_wp2_with (go_at_call 53; refine (nan_any _ _).mono ?_; rintro e w2 ⟨rfl, rfl⟩)
    go_ret
    exact ⟨rfl, rfl⟩
  · rw [if_neg h1]
    have e1 : decide (x < y) = false := decide_eq_false h1
    by_cases h2 : y < x
    · rw [if_pos h2]
      have e2 : decide (x > y) = true := decide_eq_true h2
      clear h1 h2
      go_enter Try.func47, Try.ntmps47
      go_wp2_with (go_at_call 53; refine (nan_any _ _).mono ?_; rintro e w2 ⟨rfl, rfl⟩)
      go_ret
      exact ⟨rfl, rfl⟩
    · rw [if_neg h2]
      have e2 : decide (x > y) = false := decide_eq_false h2
      clear h1 h2
      go_enter Try.func47, Try.ntmps47
      go_wp2_with (go_at_call 53; refine (nan_any _ _).mono ?_; rintro e w2 ⟨rfl, rfl⟩)
      go_ret
      exact ⟨rfl, rfl⟩

theorem bycl_any (x y : Pk) (W : World) : Calls Try.prog 46 #[.agg #[.int .i64 x.n, .int .i64 x.t, .int .i64 x.s], .agg #[.int .i64 y.n, .int .i64 y.t, .int .i64 y.s]] W fun e w' => e = .returned (.int .i64 (cmpI x.n y.n)) ∧ ∃ q os', w' = grow (W.drewN q) os' := by
  have hcon := fun W' => compare_any x.n y.n W'
  generalize cmpI x.n y.n = r at hcon ⊢
  have HC := Lib.hid hcon
  clear hcon
  go_enter Try.func46, Try.ntmps46
  go_wp2_with (go_at_call 47; refine (HC.out _).mono ?_; rintro e w' ⟨rfl, rfl⟩)
  go_ret
  exact ⟨rfl, 0, _, by rw [alloc_eq_grow, alloc_eq_grow, grow_grow]; rfl⟩
theorem cmpLaysPk (blk off size : Nat) (w : World) : CmpLays Try.prog 46 #[] pkCell 3 (fun x y => cmpI x.n y.n) blk off size w :=
  fun _ _ _ _ x y => bycl_any x y _
theorem ltPk (x y : Pk) : ltOf (fun x y : Pk => cmpI x.n y.n) x y = decide (x.n < y.n) := by
  unfold ltOf cmpI
  by_cases h1 : x.n < y.n
  · simp [h1]
  · by_cases h2 : y.n < x.n <;> simp [h1, h2]
theorem swoPk : SWO (ltOf fun x y : Pk => cmpI x.n y.n) where
  irrefl x := by rw [ltPk]; simp
  trans x y z h1 h2 := by rw [ltPk] at *; simp at *; omega
  ntrans x y z h1 h2 := by rw [ltPk] at *; simp at *; omega

set_option maxRecDepth 100000 in
set_option maxHeartbeats 1000000 in
/-- WHATEVER ORDER DATAGRAMS CAME IN, THEY STAND BY THEIR NUMBERS -/
theorem byNumber_any (v : Value) (gs l : List Pk) (B : Nat) (w : World) (hO : OwnP 54 w B v gs) (hl : Up l) (hp : gs.Perm l) (hf : l.length ≤ 100000) :
    Calls Try.prog 41 #[v] w fun e w' => e = .returned v ∧ OwnP 54 w' B v l ∧ w.grownBy w' v.ownBlock := by
  have hlen := hp.length_eq
  by_cases h0 : gs = []
  · subst h0
    obtain rfl : l = [] := List.length_eq_zero_iff.1 (by simpa using hlen.symm)
    obtain ⟨a, c, rfl, _, _⟩ := hO.slice
    have hcon := fun W => AnyF.slices_SortFunc_none (P := Try.prog) (ρ := sortPk_ren) { sortPk with } a c (.func (.func 46) #[] #[]) W
    have HC : Hid (∀ W, Calls Try.prog 45 #[.slice a 0 c, .func (.func 46) #[] #[]] W fun e w' => e = .returned (.tuple #[]) ∧ w' = W) := hcon
    have HO := Lib.hid hO
    clear hcon hO hl hp hlen
    go_enter Try.func41, Try.ntmps41
    go_wp2_with (go_at_call 45; refine (HC.out _).mono ?_; rintro e w' ⟨rfl, rfl⟩)
    go_ret
    exact ⟨rfl, HO.out, World.grownBy.refl _ _⟩
  · obtain ⟨g, c, rfl, hg⟩ : ∃ g c, v = .slice (some ⟨g, 0, none⟩) gs.length c ∧ g < w.heap.size := by
      rcases hO.2 with ⟨_, hz⟩ | ⟨g, cap, cur, rfl, _, hb, _⟩
      · exact absurd (List.length_eq_zero_iff.1 hz) h0
      · exact ⟨g, cap, rfl, (Array.getElem?_eq_some_iff.1 hb).1⟩
    have eg : ∀ args w, (callFunc 46 args).run Try.prog w = .ok (.enter 46 args) w := enters_of Try.func46 (by kernel_rfl) rfl
    have hcon := AnyQ.slices_SortFunc sortPk 3 Try.isAgg54 Try.sizeOf54 pkCell (fun _ => rfl) (fun x v hv => by simp [pkCell] at hv; rcases hv with rfl | rfl | rfl <;> rfl) (fun x y => cmpI x.n y.n) swoPk 46 #[] g 0 c gs.toArray w eg (cmpLaysPk g 0 gs.toArray.size w) (holds_pk hO) hg (by simp; omega)
    rw [List.size_toArray] at hcon
    have HC : Hid (Calls Try.prog 45 #[.slice (some ⟨g, 0, none⟩) gs.length c, .func (.func 46) #[] #[]] w fun e w' => e = .returned (.tuple #[]) ∧ OwnP 54 w' B (.slice (some ⟨g, 0, none⟩) gs.length c) l ∧ w.grownBy w' (some g)) := by
      refine Calls.mono hcon ?_
      rintro e w' ⟨rfl, d', n, os, hP, hS, rfl⟩
      have hd : d' = l.toArray := sorted_is ltPk (d := gs.toArray) (by rw [List.size_toArray]; exact hP) (by rw [List.size_toArray]; exact hS) hl (by simpa using hp)
      rw [hd]
      exact ⟨rfl, owns_sorted hO hlen.symm, grown_sorted _⟩
    clear hcon hO hl hp hlen h0 hg eg
    go_enter Try.func41, Try.ntmps41
    go_wp2_with (go_at_call 45; refine HC.out.mono ?_; rintro e w' ⟨rfl, h1, h2⟩)
    go_ret
    exact ⟨rfl, h1, h2⟩
end Go.Proofs.Ytobalbaieakcmaa
