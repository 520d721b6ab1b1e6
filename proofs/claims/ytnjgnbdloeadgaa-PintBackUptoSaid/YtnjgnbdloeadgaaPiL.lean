/- Walks of layer 11: the law Few. -/
import Derived.Test.YtnjgnbdloeadgaaPiJ
set_option maxRecDepth 100000
namespace Go.Proofs.Ytnjgnbdloeadgaa
open Go.RowKit

theorem flags_ok {k c : Int} (hk : IsW k) (h0 : 0 ≤ c) (h1 : c < 256) : OkF (c - c % (fullI k + 1)) k := by
  unfold OkF
  rcases hk.cases with rfl | rfl | rfl | rfl | rfl | rfl | rfl | rfl <;> simp only [fullI, Int.reduceAdd, Int.reduceEq, ↓reduceIte] <;> omega

/-- what is got: a fault, or what may be put in no more bytes -/
theorem getP_ways (xs : List Int) (a k : Int) (hx : Bts xs) :
    (∃ y z, getP xs a k = (0, 0, 0, y, z) ∧ y ≠ 0) ∨
    (∃ f n x, getP xs a k = (f, n, x, 0, 0) ∧ OkP f k n ∧ (sizeN k n : Int) ≤ x - a ∧ 0 ≤ a ∧ x ≤ xs.length) := by
  unfold getP
  split
  · exact .inl ⟨_, _, rfl, by decide⟩
  · rename_i hno
    have ha0 : 0 ≤ a := by omega
    have ha1 : a ≤ xs.length := by omega
    have hk : IsW k := Classical.byContradiction fun h => hno (.inr (.inr h))
    split
    · exact .inl ⟨_, _, rfl, by decide⟩
    · rename_i hne
      have hc := getD_bts hx a.toNat
      generalize xs.getD a.toNat 0 = c at hc
      have f0 := fullI_pos k
      have f1 := fullI_le k
      have m0 : 0 ≤ c % (fullI k + 1) := Int.emod_nonneg _ (by omega)
      have m1 : c % (fullI k + 1) < fullI k + 1 := Int.emod_lt_of_pos _ (by omega)
      have hf := flags_ok hk hc.1 hc.2
      simp only
      split
      · rename_i hlt
        refine .inr ⟨_, _, _, rfl, ⟨hk, hf, m0, by omega⟩, ?_, ha0, by omega⟩
        rw [sizeN_lt hlt]; omega
      · rename_i hge
        split
        · rename_i n j hg
          have hup := addG_up _ _ _ _ _ hg (by omega)
          obtain ⟨j1, j2, n1, n2, n3⟩ := hup
          rw [List.length_drop] at j2
          have hd : (n - fullI k).toNat < 128 ^ j := by
            have e : ((128 ^ 0 : Nat) : Int) = 1 := rfl
            rw [e] at n3
            omega
          refine .inr ⟨_, _, _, rfl, ⟨hk, hf, by omega, n2⟩, ?_, ha0, by omega⟩
          rw [sizeN_ge (by omega)]
          have := grp_len_le j _ hd (by omega)
          omega
        · rename_i y j hg
          refine .inl ⟨_, _, rfl, ?_⟩
          rcases addG_why _ _ _ _ _ hg with rfl | rfl <;> decide

set_option maxHeartbeats 3200000 in
theorem pintFew_walk (v : Value) (xs : List Int) (a k : Int) (w : World) (hr : Rd .u8 w v xs) (hx : Bts xs) :
    Calls Try.prog 5 #[v, .int .i64 a, .int .i64 k] w (Yes w) := by
  have hrl := hr.len
  have hml : maxLen = 9223372036854775807 := rfl
  rw [hml] at hrl
  clear hml
  rcases getP_ways xs a k hx with ⟨y, z, hg, hy⟩ | ⟨f, n, x, hg, hok, hsz, ha0, hxl⟩
  · have G := Lib.hid (get_at v xs a k w hr hx hg)
    have e1 : (y == 0) = false := by simp [hy]
    clear hr hx hg
    go_enter Try.func5, Try.ntmps5
    go_wp2_with fail
    refine G.out.mono ?_
    rintro e w1 ⟨rfl, b1⟩
    have z1 := b1.size
    go_wp2_with fail
    refine (alive_any _).mono ?_
    rintro e w2 ⟨rfl, b2⟩
    go_wp2_with fail
    go_ret
    exact ⟨rfl, (b1.alloc z1 _).trans (b2.mono (by simp; omega))⟩
  · have G := Lib.hid (get_at v xs a k w hr hx hg)
    have hp : putO [] f k n = some (encP f k n) := by unfold putO; rw [if_pos hok]; rfl
    have hs1 := sizeN_pos k n
    have hel := encP_len f k n
    clear hr hx hg
    go_enter Try.func5, Try.ntmps5
    go_wp2_with fail
    refine G.out.mono ?_
    rintro e w1 ⟨rfl, b1⟩
    have z1 := b1.size
    have B1 : Below w.heap.size w (w1.alloc (.cells #[.int .i64 0, .int .i64 0] 35)) := b1.alloc z1 _
    go_wp2_with fail
    refine (put_any (.slice none 0 0) [] f k n _ (Rd.nil _ _) (by simp)).mono ?_
    intro e w2 hp2
    obtain ⟨u, rfl, o2, b2⟩ := PutIs.bytes hp hp2
    have B2 : Below w.heap.size w w2 := B1.trans (b2.mono (by simp; omega))
    have z2 := B2.size
    obtain ⟨ua, uc, rfl⟩ := o2.len
    clear hp2 hp o2 b2 hok
    generalize (encP f k n).length = L at *
    have d1 : decide ((L : Int) ≤ x - a) = true := decide_eq_true (by omega)
    have d2 : decide ((L : Int) ≥ 1) = true := decide_eq_true (by omega)
    have d3 : decide (1 ≤ L) = true := decide_eq_true (by omega)
    have hw : IntKind.i64.wrap (x - a) = x - a := by rw [IntKind.wrap_i64]; omega
    clear hsz hs1 hel
    go_wp2_with fail
    refine (alive_any _).mono ?_
    rintro e w3 ⟨rfl, b3⟩
    go_wp2_with fail
    go_ret
    exact ⟨rfl, B2.trans (b3.mono z2)⟩
end Go.Proofs.Ytnjgnbdloeadgaa
