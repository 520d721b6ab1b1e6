/- Walks of layer 11: Get. -/
import Derived.Test.YtnjgnbdloeadgaaPiE
import Derived.Deep.RegionHeld3
import Derived.StillTailTactics
set_option maxRecDepth 100000
namespace Go.Proofs.Ytnjgnbdloeadgaa
open Go.RowKit

theorem not_1 : ∀ i : Fin 256, bits .andNot .i64 (i.val : Int) 1 = (i.val : Int) - (i.val : Int) % 2 := by decide +kernel
theorem not_2 : ∀ i : Fin 256, bits .andNot .i64 (i.val : Int) 3 = (i.val : Int) - (i.val : Int) % 4 := by decide +kernel
theorem not_3 : ∀ i : Fin 256, bits .andNot .i64 (i.val : Int) 7 = (i.val : Int) - (i.val : Int) % 8 := by decide +kernel
theorem not_4 : ∀ i : Fin 256, bits .andNot .i64 (i.val : Int) 15 = (i.val : Int) - (i.val : Int) % 16 := by decide +kernel
theorem not_5 : ∀ i : Fin 256, bits .andNot .i64 (i.val : Int) 31 = (i.val : Int) - (i.val : Int) % 32 := by decide +kernel
theorem not_6 : ∀ i : Fin 256, bits .andNot .i64 (i.val : Int) 63 = (i.val : Int) - (i.val : Int) % 64 := by decide +kernel
theorem not_7 : ∀ i : Fin 256, bits .andNot .i64 (i.val : Int) 127 = (i.val : Int) - (i.val : Int) % 128 := by decide +kernel
theorem not_8 : ∀ i : Fin 256, bits .andNot .i64 (i.val : Int) 255 = (i.val : Int) - (i.val : Int) % 256 := by decide +kernel
theorem flags_of {k c : Int} (hk : IsW k) (h0 : 0 ≤ c) (h1 : c < 256) : bits .andNot .i64 c (fullI k) = c - c % (fullI k + 1) := by
  obtain ⟨n, rfl⟩ := Int.eq_ofNat_of_zero_le h0
  rcases hk.cases with rfl | rfl | rfl | rfl | rfl | rfl | rfl | rfl
  · exact not_1 ⟨n, by omega⟩
  · exact not_2 ⟨n, by omega⟩
  · exact not_3 ⟨n, by omega⟩
  · exact not_4 ⟨n, by omega⟩
  · exact not_5 ⟨n, by omega⟩
  · exact not_6 ⟨n, by omega⟩
  · exact not_7 ⟨n, by omega⟩
  · exact not_8 ⟨n, by omega⟩

/-- a block that holds two numbers -/
def Held2 (b : Nat) (y z : Int) (W : World) : Prop := ∃ T, W.heap[b]? = some (.cells #[.int .i64 y, .int .i64 z] T (0, 0))
theorem held2_last (y z : Int) (T : TypeId) (w : World) : Held2 w.heap.size y z (w.alloc (.cells #[.int .i64 y, .int .i64 z] T)) := ⟨T, by show (w.heap.push _)[w.heap.size]? = _; simp⟩
theorem Held2.lt {b : Nat} {y z : Int} {W : World} (H : Held2 b y z W) : b < W.heap.size := by
  obtain ⟨T, e⟩ := H
  exact (Array.getElem?_eq_some_iff.1 e).1
theorem Held2.below {b : Nat} {y z : Int} {W W' : World} (H : Held2 b y z W) (hb : Below W.heap.size W W') : Held2 b y z W' := by
  have k := H.lt
  obtain ⟨T, e⟩ := H
  exact ⟨T, by rw [hb.block b k]; exact e⟩
theorem Held2.facts {b : Nat} {y z : Int} {W : World} (H : Held2 b y z W) : W.cell? ⟨b, 0, none⟩ = some (.int .i64 y) ∧ W.cell? ⟨b, 1, none⟩ = some (.int .i64 z) := by
  obtain ⟨T, e⟩ := H
  simp [World.cell?, e]
theorem Held2.free {b : Nat} {y z : Int} {W : World} (H : Held2 b y z W) : W.frozen? ⟨b, 0, none⟩ = false ∧ W.frozen? ⟨b, 1, none⟩ = false := by
  obtain ⟨T, e⟩ := H
  simp [World.frozen?, e]
theorem Held2.zeros {b : Nat} {y z : Int} {W : World} (H : Held2 b y z W) : Held2 b 0 0 ((W.setCell ⟨b, 0, none⟩ (.int .i64 0)).setCell ⟨b, 1, none⟩ (.int .i64 0)) := by
  obtain ⟨T, e⟩ := H
  exact ⟨T, by simp [World.setCell, Array.getElem?_modify, e]⟩
theorem Held2.kept {b : Nat} {y z : Int} {W W' : World} {row : Option Nat} (H : Held2 b y z W) (hg : W.grownBy W' row) (hne : row ≠ some b) : Held2 b y z W' := by
  obtain ⟨T, e⟩ := H
  exact ⟨T, (hg.block b (Array.getElem?_eq_some_iff.1 e).1 (fun h => hne h.symm)).trans e⟩

def getV (r : Int × Int × Int × Int × Int) : Value := .tuple #[.int .i64 r.1, .int .i64 r.2.1, .int .i64 r.2.2.1, fault r.2.2.2.1 r.2.2.2.2]
def GetIs (w : World) (r : Int × Int × Int × Int × Int) (e : Ending) (w' : World) : Prop := e = .returned (getV r) ∧ Below w.heap.size w w'

theorem get_low (v : Value) (a k : Int) (w : World) (h : a < 0) :
    Calls Try.prog 14 #[v, .int .i64 a, .int .i64 k] w (GetIs w (0, 0, 0, 1, a)) := by
  have h1 : decide (a < 0) = true := decide_eq_true h
  clear h
  go_enter Try.func14, Try.ntmps14
  go_wp2
  refine bodyPost_ret (v := getV (0, 0, 0, 1, a)) (by simp [results, Try.results14, go_sem, fault, getV]) rfl ⟨rfl, ?_⟩
  go_grown
theorem get_high (v : Value) (xs : List Int) (a k : Int) (w : World) (hr : Rd .u8 w v xs) (h0 : ¬ a < 0) (h : (xs.length : Int) < a) :
    Calls Try.prog 14 #[v, .int .i64 a, .int .i64 k] w (GetIs w (0, 0, 0, 1, a)) := by
  obtain ⟨p, c, rfl⟩ := hr.isSlice
  have h1 : decide (a < 0) = false := decide_eq_false h0
  have h2 : decide (a > (xs.length : Int)) = true := decide_eq_true h
  clear hr h h0
  go_enter Try.func14, Try.ntmps14
  go_wp2
  refine bodyPost_ret (v := getV (0, 0, 0, 1, a)) (by simp [results, Try.results14, go_sem, fault, getV]) rfl ⟨rfl, ?_⟩
  go_grown
theorem get_wide (v : Value) (xs : List Int) (a k : Int) (w : World) (hr : Rd .u8 w v xs) (h0 : ¬ a < 0) (h : ¬ (xs.length : Int) < a) (hk : ¬ IsW k) :
    Calls Try.prog 14 #[v, .int .i64 a, .int .i64 k] w (GetIs w (0, 0, 0, 1, a)) := by
  obtain ⟨p, c, rfl⟩ := hr.isSlice
  have h1 : decide (a < 0) = false := decide_eq_false h0
  have h2 : decide (a > (xs.length : Int)) = false := decide_eq_false h
  have h3 : decide (IsW k) = false := decide_eq_false hk
  clear hr h h0 hk
  go_enter Try.func14, Try.ntmps14
  go_wp2_with (go_at_call 19; refine (isW_any k _).mono ?_; rintro e w' ⟨rfl, rfl⟩; rw [h3])
  refine bodyPost_ret (v := getV (0, 0, 0, 1, a)) (by simp [results, Try.results14, go_sem, fault, getV]) rfl ⟨rfl, ?_⟩
  go_grown
theorem get_end (v : Value) (xs : List Int) (k : Int) (w : World) (hr : Rd .u8 w v xs) (hk : IsW k) :
    Calls Try.prog 14 #[v, .int .i64 xs.length, .int .i64 k] w (GetIs w (0, 0, 0, 3, xs.length)) := by
  obtain ⟨p, c, rfl⟩ := hr.isSlice
  have h3 : decide (IsW k) = true := decide_eq_true hk
  clear hr hk
  go_enter Try.func14, Try.ntmps14
  go_wp2_with (go_at_call 19; refine (isW_any k _).mono ?_; rintro e w' ⟨rfl, rfl⟩; rw [h3])
  refine bodyPost_ret (v := getV (0, 0, 0, 3, xs.length)) (by simp [results, Try.results14, go_sem, fault, getV]) rfl ⟨rfl, ?_⟩
  go_grown

theorem addG_why : ∀ (cs : List Int) (i : Nat) (n y : Int) (j : Nat), addG cs i n = .inr (y, j) → y = 3 ∨ y = 5 := by
  intro cs
  induction cs with
  | nil => intro i n y j h; simp [addG] at h; omega
  | cons c cs ih =>
    intro i n y j h
    rw [addG] at h
    split at h
    · simp at h; omega
    · split at h
      · cases h
      · exact ih _ _ _ _ h

set_option maxHeartbeats 2000000 in
theorem get_in (v : Value) (xs : List Int) (a : Nat) (k : Int) (w : World) (hr : Rd .u8 w v xs) (hx : Bts xs) (ha : a < xs.length) (hk : IsW k) :
    Calls Try.prog 14 #[v, .int .i64 a, .int .i64 k] w (GetIs w (getP xs a k)) := by
  have hrl := hr.len
  have hml : maxLen = 9223372036854775807 := rfl
  rw [hml] at hrl
  obtain ⟨c, hc⟩ : ∃ c, c = xs.getD a 0 := ⟨_, rfl⟩
  have hcb := getD_bts hx a
  rw [← hc] at hcb
  obtain ⟨r, hrr⟩ : ∃ r, r = getP xs a k := ⟨_, rfl⟩
  have hg : r = if c % (fullI k + 1) < fullI k then (c - c % (fullI k + 1), c % (fullI k + 1), (a : Int) + 1, 0, 0) else
      match addG (xs.drop (a + 1)) 0 (c % (fullI k + 1)) with
      | .inl (n, j) => (c - c % (fullI k + 1), n, (a : Int) + 1 + (j : Int), 0, 0)
      | .inr (y, j) => (0, 0, 0, y, (a : Int) + 1 + (j : Int)) := by
    rw [hrr]; unfold getP
    rw [if_neg (by rintro (h | h | h) <;> first | omega | exact h hk), if_neg (by omega)]
    simp only [Int.toNat_natCast, ← hc]
    rfl
  rw [← hrr]
  clear hrr
  have f0 := fullI_pos k
  have f1 := fullI_le k
  have m0 : 0 ≤ c % (fullI k + 1) := Int.emod_nonneg _ (by omega)
  have m1 : c % (fullI k + 1) < fullI k + 1 := Int.emod_lt_of_pos _ (by omega)
  have b1 := flags_of hk hcb.1 hcb.2
  have b2 := flags_and k c hk
  have dk : decide (IsW k) = true := decide_eq_true hk
  have AG : Hid (∀ W, Rd .u8 W v xs → Calls Try.prog 21 #[v, .int .i64 ((a : Int) + 1), .int .i64 (c % (fullI k + 1))] W fun e w' => e = .returned (addV (a + 1) (addG (xs.drop (a + 1)) 0 (c % (fullI k + 1)))) ∧ Below W.heap.size W w') := fun W hR => by
    have := addGroups_any v xs (a + 1) (c % (fullI k + 1)) W hR hx (by omega) m0 (by omega)
    simpa using this
  obtain ⟨m, hm⟩ : ∃ m, m = c % (fullI k + 1) := ⟨_, rfl⟩
  obtain ⟨q, hq⟩ : ∃ q, q = c - m := ⟨_, rfl⟩
  rw [← hm] at b1 b2 AG m0 m1 hg
  rw [← hq] at b1 hg
  have hR := Lib.hid hr
  obtain ⟨va, vc, rfl⟩ := hr.isSlice
  have hcell : ∃ b o, va = some ⟨b, o, none⟩ ∧ b < w.heap.size ∧ w.cell? ⟨b, o + a, none⟩ = some (.int .u8 c) := by
    rcases hr with ⟨rfl, _⟩ | ⟨_, b, o, cp, he, h2, h3, h4, h5⟩
    · simp at ha
    · simp only [Value.slice.injEq] at he
      exact ⟨b, o, he.1, h4, by rw [hc]; exact h5 _ ha⟩
  obtain ⟨b, o, rfl, hb, hcell⟩ := hcell
  have hs0 : decide ((a : Int) < 0) = false := decide_eq_false (by omega)
  have hs1 : decide ((a : Int) > (xs.length : Int)) = false := decide_eq_false (by omega)
  have hs2 : ((a : Int) == (xs.length : Int)) = false := by simp; omega
  have hM := Lib.hid hm
  have hQ := Lib.hid hq
  have hG := Lib.hid hg
  clear hm hq hg hr hx hc
  by_cases hlt : m < fullI k
  · have dl : decide (m < fullI k) = true := decide_eq_true hlt
    have HG : Hid (getV r = getV (q, m, (a : Int) + 1, 0, 0)) := by
      have := hG.out; rw [if_pos hlt] at this; exact congrArg getV this
    clear hG hlt
    go_enter Try.func14, Try.ntmps14
    go_wp2_with (first
      | (go_at_call 19; refine (isW_any k _).mono ?_; rintro e w' ⟨rfl, rfl⟩; rw [dk])
      | (go_at_call 16; refine (ones_any k _ hk).mono ?_; rintro e w' ⟨rfl, rfl⟩))
    go_quiet (fail)
    go_wp2_with fail
    refine bodyPost_ret (v := getV (q, m, (a : Int) + 1, 0, 0)) (by simp [results, Try.results14, go_sem, fault, getV]) rfl ⟨by rw [HG.out], ((below_drewN ((Below.refl _ _).alloc (Nat.le_refl _) _) _).setCell (Nat.le_refl _) _).setCell (Nat.le_refl _) _⟩
  · have dl : decide (m < fullI k) = false := decide_eq_false hlt
    have hG2 := hG.out
    rw [if_neg hlt] at hG2
    obtain ⟨S, hS⟩ : ∃ S, S = addG (xs.drop (a + 1)) 0 m := ⟨_, rfl⟩
    have hW : ∀ y j, S = .inr (y, j) → y = 3 ∨ y = 5 := fun y j h => addG_why _ _ _ _ _ (hS.symm.trans h)
    rw [← hS] at hG2 AG
    clear hS hG hlt
    rcases S with ⟨n, j⟩ | ⟨y, j⟩
    · have HG : Hid (getV r = getV (q, n, (a : Int) + 1 + (j : Int), 0, 0)) := congrArg getV hG2
      have AG' : Hid (∀ W, Rd .u8 W (.slice (some ⟨b, o, none⟩) xs.length vc) xs → Calls Try.prog 21 #[.slice (some ⟨b, o, none⟩) xs.length vc, .int .i64 ((a : Int) + 1), .int .i64 m] W fun e w' => e = .returned (.tuple #[.int .i64 n, .int .i64 ((a : Int) + 1 + (j : Int)), .agg #[.int .i64 0, .int .i64 0]]) ∧ Below W.heap.size W w') := fun W h => by
        have := AG.out W h
        simpa only [addV, fault, Int.natCast_add, Int.natCast_one] using this
      clear hG2 AG
      go_enter Try.func14, Try.ntmps14
      go_wp2_with (first
        | (go_at_call 19; refine (isW_any k _).mono ?_; rintro e w' ⟨rfl, rfl⟩; rw [dk])
        | (go_at_call 16; refine (ones_any k _ hk).mono ?_; rintro e w' ⟨rfl, rfl⟩))
      go_quiet (fail)
      have bW : Below w.heap.size w ((w.alloc (.cells #[.int .i64 0, .int .i64 0] 35)).drewN nq) := below_drewN ((Below.refl _ _).alloc (Nat.le_refl _) _) _
      have zW : w.heap.size < ((w.alloc (.cells #[.int .i64 0, .int .i64 0] 35)).drewN nq).heap.size := by simp [World.drewN]
      have H1 : Held2 w.heap.size 0 0 ((w.alloc (.cells #[.int .i64 0, .int .i64 0] 35)).drewN nq) := held2_last _ _ _ _
      go_wp2_with fail
      generalize ((w.alloc (.cells #[.int .i64 0, .int .i64 0] 35)).drewN nq) = W1 at *
      refine (AG'.out W1 (hR.out.below bW)).mono ?_
      rintro e w2 ⟨rfl, bb⟩
      have bz := bb.size
      have b3 : Below w.heap.size w w2 := bW.trans (bb.mono (by omega))
      have H2 := Lib.hid (H1.below bb)
      obtain ⟨g0', g1'⟩ := H2.out.free
      obtain ⟨c0', c1'⟩ := H2.out.facts
      obtain ⟨f0', f1'⟩ := (H2.out.below ((Below.refl _ _).alloc (Nat.le_refl _) (.cells #[.int .i64 0, .int .i64 0] 35))).free
      have z2 : w.heap.size < w2.heap.size := H2.out.lt
      have n2 : w.heap.size ≠ w2.heap.size := by omega
      have n3 : w2.heap.size ≠ w.heap.size := by omega
      clear H1
      go_wp2_with fail
      refine bodyPost_ret (v := getV (q, n, (a : Int) + 1 + (j : Int), 0, 0)) (by simp [results, Try.results14, go_sem, fault, getV, c0', c1', z2]) rfl ⟨by rw [HG.out], ?_⟩
      exact ((b3.setCell (Nat.le_refl _) _).setCell (Nat.le_refl _) _).alloc (by simp; omega) _
    · have HG : Hid (getV r = getV (0, 0, 0, y, (a : Int) + 1 + (j : Int))) := congrArg getV hG2
      have AG' : Hid (∀ W, Rd .u8 W (.slice (some ⟨b, o, none⟩) xs.length vc) xs → Calls Try.prog 21 #[.slice (some ⟨b, o, none⟩) xs.length vc, .int .i64 ((a : Int) + 1), .int .i64 m] W fun e w' => e = .returned (.tuple #[.int .i64 0, .int .i64 0, .agg #[.int .i64 y, .int .i64 ((a : Int) + 1 + (j : Int))]]) ∧ Below W.heap.size W w') := fun W h => by
        have := AG.out W h
        simpa only [addV, fault, Int.natCast_add, Int.natCast_one] using this
      have hy : (y != 0) = true := by rcases hW y j rfl with rfl | rfl <;> rfl
      clear hG2 AG hW
      go_enter Try.func14, Try.ntmps14
      go_wp2_with (first
        | (go_at_call 19; refine (isW_any k _).mono ?_; rintro e w' ⟨rfl, rfl⟩; rw [dk])
        | (go_at_call 16; refine (ones_any k _ hk).mono ?_; rintro e w' ⟨rfl, rfl⟩))
      go_quiet (fail)
      have bW : Below w.heap.size w ((w.alloc (.cells #[.int .i64 0, .int .i64 0] 35)).drewN nq) := below_drewN ((Below.refl _ _).alloc (Nat.le_refl _) _) _
      have zW : w.heap.size < ((w.alloc (.cells #[.int .i64 0, .int .i64 0] 35)).drewN nq).heap.size := by simp [World.drewN]
      have H1 : Held2 w.heap.size 0 0 ((w.alloc (.cells #[.int .i64 0, .int .i64 0] 35)).drewN nq) := held2_last _ _ _ _
      go_wp2_with fail
      generalize ((w.alloc (.cells #[.int .i64 0, .int .i64 0] 35)).drewN nq) = W1 at *
      refine (AG'.out W1 (hR.out.below bW)).mono ?_
      rintro e w2 ⟨rfl, bb⟩
      have bz := bb.size
      have b3 : Below w.heap.size w w2 := bW.trans (bb.mono (by omega))
      have H2 := Lib.hid (H1.below bb)
      obtain ⟨g0', g1'⟩ := H2.out.free
      obtain ⟨c0', c1'⟩ := H2.out.facts
      obtain ⟨f0', f1'⟩ := (H2.out.below ((Below.refl _ _).alloc (Nat.le_refl _) (.cells #[.int .i64 y, .int .i64 ((a : Int) + 1 + (j : Int))] 35))).free
      have z2 : w.heap.size < w2.heap.size := H2.out.lt
      have n2 : w.heap.size ≠ w2.heap.size := by omega
      have n3 : w2.heap.size ≠ w.heap.size := by omega
      clear H1
      go_wp2_with fail
      go_region
      all_goals (go_wp2_with fail)
      all_goals
        refine bodyPost_ret (v := getV (0, 0, 0, y, (a : Int) + 1 + (j : Int))) (by simp [results, Try.results14, go_sem, fault, getV, c0', c1', z2]) rfl ⟨by rw [HG.out], ?_⟩
        exact (((b3.setCell (Nat.le_refl _) _).setCell (Nat.le_refl _) _).alloc (by simp; omega) _).drew

theorem get_any (v : Value) (xs : List Int) (a k : Int) (w : World) (hr : Rd .u8 w v xs) (hx : Bts xs) :
    Calls Try.prog 14 #[v, .int .i64 a, .int .i64 k] w (GetIs w (getP xs a k)) := by
  by_cases h0 : a < 0
  · have e : getP xs a k = (0, 0, 0, 1, a) := by unfold getP; rw [if_pos (.inl h0)]
    rw [e]; exact get_low v a k w h0
  by_cases h1 : (xs.length : Int) < a
  · have e : getP xs a k = (0, 0, 0, 1, a) := by unfold getP; rw [if_pos (.inr (.inl h1))]
    rw [e]; exact get_high v xs a k w hr h0 h1
  by_cases hk : IsW k
  · obtain ⟨i, rfl⟩ := Int.eq_ofNat_of_zero_le (show 0 ≤ a by omega)
    by_cases h2 : i = xs.length
    · have e : getP xs i k = (0, 0, 0, 3, (xs.length : Int)) := by
        unfold getP
        rw [if_neg (by rintro (h | h | h) <;> first | omega | exact h hk), if_pos (by omega)]
      rw [e, h2]; exact get_end v xs k w hr hk
    · exact get_in v xs i k w hr hx (by omega) hk
  · have e : getP xs a k = (0, 0, 0, 1, a) := by unfold getP; rw [if_pos (.inr (.inr hk))]
    rw [e]; exact get_wide v xs a k w hr h0 h1 hk

end Go.Proofs.Ytnjgnbdloeadgaa
