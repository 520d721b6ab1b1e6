/- Layer 5's search, for layer 8. -/
import Derived.Test.YtobalbaieakcmaaSpB
set_option linter.unusedSimpArgs false
set_option linter.unusedVariables false
namespace Go.Proofs.Ytobalbaieakcmaa
open Go.RowKit

theorem upcl_any (x y n : Int) (bn : Nat) (w : World) (hb : bn < w.heap.size) (hn : w.cell? ⟨bn, 0, none⟩ = some (.int .i64 n)) :
    Calls Try.prog 49 #[.agg #[.int .i64 x, .int .i64 y], .pointer (some ⟨bn, 0, none⟩)] w fun e w' => e = .returned (.bool (!decide (y < n))) ∧ Below w.heap.size w w' := by
  have hn' : (w.alloc (.cells #[.int .i64 x, .int .i64 y] 63)).cell? ⟨bn, 0, none⟩ = some (.int .i64 n) := (Below.cell ((Below.refl w.heap.size w).alloc (Nat.le_refl _) _) (p := ⟨bn, 0, none⟩) hb).trans hn
  clear hn
  go_enter Try.func49, Try.ntmps49
  go_wp2
  go_ret
  exact ⟨ret_bool (by rw [Bool.eq_iff_iff]; simp), (Below.refl _ _).alloc (Nat.le_refl _) _⟩
set_option maxRecDepth 100000 in
set_option maxHeartbeats 800000 in
theorem fcl_any (g : Nat) (cb : Array Value) (bf bl b o c m i : Nat) (x y : Int) (r : Bool) (w : World) (eg : ∀ args w, (callFunc g args).run Try.prog w = .ok (.enter g args) w) (him : i < m) (hm : m < 4611686018427387904)
    (hf : w.cell? ⟨bf, 0, none⟩ = some (.func (.func g) #[] cb)) (hl : w.cell? ⟨bl, 0, none⟩ = some (.slice (some ⟨b, o, none⟩) m c))
    (q0 : w.cell? ⟨b, o + i * 2, none⟩ = some (.int .i64 x)) (q1 : w.cell? ⟨b, o + i * 2 + 1, none⟩ = some (.int .i64 y))
    (hc : ∀ W : World, Below w.heap.size w W → Calls Try.prog g (#[.agg #[.int .i64 x, .int .i64 y]] ++ cb) W fun e w' => e = .returned (.bool r) ∧ Below W.heap.size W w') :
    Calls Try.prog 55 #[.int .i64 i, .pointer (some ⟨bf, 0, none⟩), .pointer (some ⟨bl, 0, none⟩)] w fun e w' => e = .returned (.bool r) ∧ Below w.heap.size w w' := by
  have HC := Lib.hid hc
  have hi1 : (i : Int) < (m : Int) := by omega
  have hi2 : (0 : Int) ≤ (i : Int) := by omega
  clear hc
  go_enter Try.func55, Try.ntmps55
  go_wp2_with fail
  go_still_tail 5, (by kernel_rfl)
  change wpList _ _ _ _ _ w.drew
  have HC' := Lib.hid (HC.out w.drew (below_drewN (Below.refl _ w) 1))
  clear HC hf hl q0 q1
  have B1 : Hid (Below w.heap.size w w.drew) := below_drewN (Below.refl _ w) 1
  generalize hW : w.drew = W at HC' B1 ⊢
  clear hW
  go_wp2_with (go_at_fn g; refine HC'.out.mono ?_; rintro e w2 ⟨rfl, hb2⟩)
  go_ret
  exact ⟨rfl, B1.out.trans (hb2.mono B1.out.size)⟩

/-- what a search over spans comes to -/
def FirstIs (ss : List (Int × Int)) (q : Int × Int → Bool) (w : World) (e : Ending) (w' : World) : Prop := ∃ k : Nat, e = .returned (.int .i64 k) ∧ k ≤ ss.length ∧ (∀ t, t < k → q (ss.getD t (0, 0)) = false) ∧ (∀ t, k ≤ t → t < ss.length → q (ss.getD t (0, 0)) = true) ∧ Below w.heap.size w w'

set_option maxHeartbeats 1600000 in
theorem first_any (g : Nat) (cb : Array Value) (v : Value) (ss : List (Int × Int)) (q : Int × Int → Bool) (w : World) (eg : ∀ args w, (callFunc g args).run Try.prog w = .ok (.enter g args) w)
    (hr : RdS w v ss) (hm : ss.length < 4611686018427387904) (hmono : ∀ a b, a ≤ b → b < ss.length → q (ss.getD a (0, 0)) = true → q (ss.getD b (0, 0)) = true)
    (hc : ∀ (W : World) (x y : Int), Below w.heap.size w W → Calls Try.prog g (#[.agg #[.int .i64 x, .int .i64 y]] ++ cb) W fun e w' => e = .returned (.bool (q (x, y))) ∧ Below W.heap.size W w') :
    Calls Try.prog 48 #[v, .func (.func g) #[] cb] w (FirstIs ss q w) := by
  by_cases h0 : ss = []
  · subst h0
    obtain ⟨va, vc, rfl, _, _⟩ := hr.isSlice
    have BA : Hid (Below w.heap.size w ((w.alloc (.cells #[.slice va ([] : List (Int × Int)).length vc] 30)).alloc (.cells #[.func (.func g) #[] cb] 75))) := ((Below.refl _ w).alloc (Nat.le_refl _) _).alloc (by simp) _
    have hs := search_any 55 #[.pointer (some ⟨w.heap.size + 1, 0, none⟩), .pointer (some ⟨w.heap.size, 0, none⟩)] 0 (fun _ => true) ((w.alloc (.cells #[.slice va ([] : List (Int × Int)).length vc] 30)).alloc (.cells #[.func (.func g) #[] cb] 75)) (enters_of Try.func55 (by kernel_rfl) rfl) (by omega) (fun W i hi => by omega) (fun a b h1 h2 => by omega)
    have HS := Lib.hid hs
    clear hs hr hc hmono hm
    go_enter Try.func48, Try.ntmps48
    go_wp2_with (go_at_call 54; refine HS.out.mono ?_; rintro e w2 ⟨k, rfl, h1, _, _, hb2⟩)
    go_ret
    exact ⟨k, rfl, h1, fun t ht => by omega, fun t _ ht => by simp at ht, BA.out.trans (hb2.mono BA.out.size)⟩
  obtain ⟨b, o, c, rfl, hb⟩ := hr.form h0
  have BA : Hid (Below w.heap.size w ((w.alloc (.cells #[.slice (some ⟨b, o, none⟩) ss.length c] 30)).alloc (.cells #[.func (.func g) #[] cb] 75))) := ((Below.refl _ w).alloc (Nat.le_refl _) _).alloc (by simp) _
  have ca : ((w.alloc (.cells #[.slice (some ⟨b, o, none⟩) ss.length c] 30)).alloc (.cells #[.func (.func g) #[] cb] 75)).cell? ⟨w.heap.size, 0, none⟩ = some (.slice (some ⟨b, o, none⟩) ss.length c) :=
    (Below.cell ((Below.refl (w.heap.size + 1) (w.alloc (.cells #[.slice (some ⟨b, o, none⟩) ss.length c] 30))).alloc (by simp) _) (p := ⟨w.heap.size, 0, none⟩) (by simp)).trans (by rw [World.cell?_alloc_at _ _ _ _ rfl]; rfl)
  have cf : ((w.alloc (.cells #[.slice (some ⟨b, o, none⟩) ss.length c] 30)).alloc (.cells #[.func (.func g) #[] cb] 75)).cell? ⟨w.heap.size + 1, 0, none⟩ = some (.func (.func g) #[] cb) := by
    rw [World.cell?_alloc_at _ _ _ _ (by simp)]; rfl
  have hz : ((w.alloc (.cells #[.slice (some ⟨b, o, none⟩) ss.length c] 30)).alloc (.cells #[.func (.func g) #[] cb] 75)).heap.size = w.heap.size + 2 := by simp
  have hs := search_any 55 #[.pointer (some ⟨w.heap.size + 1, 0, none⟩), .pointer (some ⟨w.heap.size, 0, none⟩)] ss.length (fun i => q (ss.getD i (0, 0))) ((w.alloc (.cells #[.slice (some ⟨b, o, none⟩) ss.length c] 30)).alloc (.cells #[.func (.func g) #[] cb] 75)) (enters_of Try.func55 (by kernel_rfl) rfl) hm
    (fun W i hi hbW => by
      have hB : Below w.heap.size w W := BA.out.trans (hbW.mono BA.out.size)
      obtain ⟨q0, q1⟩ := (hr.below hB).cells rfl i hi
      exact fcl_any g cb (w.heap.size + 1) w.heap.size b o c ss.length i _ _ _ W eg hi hm ((hbW.cell (p := ⟨w.heap.size + 1, 0, none⟩) (by rw [hz]; exact Nat.lt_succ_self _)).trans cf) ((hbW.cell (p := ⟨w.heap.size, 0, none⟩) (by rw [hz]; exact Nat.lt_succ_of_lt (Nat.lt_succ_self _))).trans ca) q0 q1
        fun W2 hb2 => hc W2 _ _ (hB.trans (hb2.mono hB.size)))
    hmono
  have HS := Lib.hid hs
  clear hs hr hc hmono hm ca cf hz
  go_enter Try.func48, Try.ntmps48
  go_wp2_with (go_at_call 54; refine HS.out.mono ?_; rintro e w2 ⟨k, rfl, h1, h2, h3, hb2⟩)
  go_ret
  exact ⟨k, rfl, h1, h2, h3, BA.out.trans (hb2.mono BA.out.size)⟩

theorem upTo_any (v : Value) (ss : List (Int × Int)) (n : Int) (w : World) (hr : RdS w v ss) (hm : rightB ss = true) :
    Calls Try.prog 43 #[v, .int .i64 n] w fun e w' => e = .returned (.int .i64 (upN n ss)) ∧ Below w.heap.size w w' := by
  have hR : riseB 0 ss = true ∧ ss.length ≤ 256 := by simpa [rightB, and_comm] using hm
  have BA : Hid (Below w.heap.size w (w.alloc (.cells #[.int .i64 n] 3))) := (Below.refl _ w).alloc (Nat.le_refl _) _
  have hz : (w.alloc (.cells #[.int .i64 n] 3)).heap.size = w.heap.size + 1 := by simp
  have cn : (w.alloc (.cells #[.int .i64 n] 3)).cell? ⟨w.heap.size, 0, none⟩ = some (.int .i64 n) := by rw [World.cell?_alloc_at _ _ _ _ rfl]; rfl
  have hs := first_any 49 #[.pointer (some ⟨w.heap.size, 0, none⟩)] v ss (fun s => !decide (s.2 < n)) (w.alloc (.cells #[.int .i64 n] 3)) (enters_of Try.func49 (by kernel_rfl) rfl) (hr.below BA.out) (by omega)
    (fun a b hab hbl h => by
      rcases Nat.lt_or_eq_of_le hab with h1 | rfl
      · have h2 := rise_get hR.1 h1 hbl
        have h3 := rise_getD hR.1 hbl
        simp only [Bool.not_eq_true', decide_eq_false_iff_not, decide_eq_true_eq] at h ⊢; omega
      · exact h)
    (fun W x y hW => upcl_any x y n w.heap.size W (by have := hW.size; omega) ((hW.cell (p := ⟨w.heap.size, 0, none⟩) (by rw [hz]; exact Nat.lt_succ_self _)).trans cn))
  have HS := Lib.hid hs
  clear hs hr hm cn hz hR
  go_enter Try.func43, Try.ntmps43
  go_wp2_with (go_at_call 48; refine HS.out.mono ?_; rintro e w2 ⟨k, rfl, h1, h2, h3, hb2⟩)
  go_ret
  have e1 : upN n ss = k := upN_is h1 (fun t ht => by simpa using h2 t ht) (fun ht => by simpa using h3 k (Nat.le_refl _) ht)
  rw [e1]
  exact ⟨rfl, BA.out.trans (hb2.mono BA.out.size)⟩
end Go.Proofs.Ytobalbaieakcmaa
