/- Walks of layer 7: the code's Sent, Gone, Acked, Lost. -/
import Derived.Test.YtiglhdiclfknhaaCgE
import Derived.Test.YtiglhdiclfknhaaCgG
import Derived.Deep.RegionHeld3
set_option linter.unusedSimpArgs false
set_option linter.unusedVariables false
namespace Go.Proofs.Ytiglhdiclfknhaa
open Go.RowKit
/-- a block that holds a number -/
def HeldI (b : Nat) (x : Int) (W : World) : Prop := ∃ T, W.heap[b]? = some (.cells #[.int .i64 x] T (0, 0))
theorem heldI_last (x : Int) (T : TypeId) (w : World) : HeldI w.heap.size x (w.alloc (.cells #[.int .i64 x] T)) := ⟨T, by show (w.heap.push _)[w.heap.size]? = _; simp⟩
theorem HeldI.lt {b : Nat} {x : Int} {W : World} (H : HeldI b x W) : b < W.heap.size := by
  obtain ⟨T, e⟩ := H
  exact (Array.getElem?_eq_some_iff.1 e).1
theorem HeldI.below {b : Nat} {x : Int} {W W' : World} (H : HeldI b x W) (hb : Below W.heap.size W W') : HeldI b x W' := by
  have k := H.lt
  obtain ⟨T, e⟩ := H
  exact ⟨T, by rw [hb.block b k]; exact e⟩
theorem HeldI.alloc {b : Nat} {x : Int} {W : World} (H : HeldI b x W) (o : Obj) : HeldI b x (W.alloc o) := H.below ((Below.refl _ _).alloc (Nat.le_refl _) _)
theorem HeldI.cell {b : Nat} {x : Int} {W : World} (H : HeldI b x W) : W.cell? ⟨b, 0, none⟩ = some (.int .i64 x) := by
  obtain ⟨T, e⟩ := H
  simp [World.cell?, e]
theorem HeldI.other {b : Nat} {x : Int} {W : World} (H : HeldI b x W) {a : Addr} (hp : a.block ≠ b) (u : Value) : HeldI b x (W.setCell a u) := by
  obtain ⟨T, e⟩ := H
  exact ⟨T, by simp [World.setCell, Array.getElem?_modify, hp, e]⟩
theorem HeldI.others {b : Nat} {x : Int} {W : World} (H : HeldI b x W) (c : Nat) (hc : c ≠ b) (v0 v1 v2 v3 v4 : Value) :
    HeldI b x (((((W.setCell ⟨c, 0, none⟩ v0).setCell ⟨c, 1, none⟩ v1).setCell ⟨c, 2, none⟩ v2).setCell ⟨c, 3, none⟩ v3).setCell ⟨c, 4, none⟩ v4) :=
  ((((H.other hc v0).other hc v1).other hc v2).other hc v3).other hc v4
theorem heldI_at {b : Nat} (x : Int) (T : TypeId) (w : World) (hb : b = w.heap.size) : HeldI b x (w.alloc (.cells #[.int .i64 x] T)) := hb ▸ heldI_last x T w
theorem held_at {b : Nat} (z t f s p : Int) (T : TypeId) (w : World) (hb : b = w.heap.size) : Held b z t f s p (w.alloc (.cells #[.int .i64 z, .int .i64 t, .int .i64 f, .int .i64 s, .int .i64 p] T)) := hb ▸ held_last z t f s p T w
theorem bad {q : St} {n : Int} (h : ¬ (rightB q && gramB n) = true) : (rightB q = false) ∨ (rightB q = true ∧ gramB n = false) := by
  cases h1 : rightB q <;> cases h2 : gramB n <;> simp_all
theorem ask_gone (z t f s p n : Int) (b : Nat) (W : World) (hb : HeldI b n W) :
    Calls Try.prog 28 #[.agg #[.int .i64 z, .int .i64 t, .int .i64 f, .int .i64 s, .int .i64 p], .int .i64 n, .int .i64 f, .func (.func 31) #[] #[.pointer (some ⟨b, 0, none⟩)], .slice none 0 0] W (Gives W (goneE ⟨z, t, f, s, p⟩ n)) := by
  by_cases hg : (rightB ⟨z, t, f, s, p⟩ && gramB n) = true
  rotate_left
  · rw [goneE, if_neg hg]
    rcases bad hg with h | ⟨h1, h2⟩
    · exact ask_right z t f s p n _ _ _ _ W h
    · exact ask_bytes z t f s p n _ _ _ _ W h1 h2
  rw [goneE, if_pos hg]
  simp only [Bool.and_eq_true] at hg
  obtain ⟨hr, hn⟩ := hg
  obtain ⟨_, _, ⟨hf, hf'⟩, _⟩ := right_iff.1 hr
  obtain ⟨h1, h2⟩ := in_iff.1 hn
  dsimp only at hf hf'
  exact ask_none z t f s p n _ _ _ _ _ _ _ _ W (enters_of Try.func31 (by kernel_rfl) rfl) hr hn fun _ hlt W' bW => by
    have hb' := hb.below bW
    exact gonecl_any z t f s p n b W' hf hf' h1 h2 hb'.lt hb'.cell
theorem ask_sent (z t f s p n : Int) (m : Int) (hm : roomI ⟨z, t, f, s, p⟩ = m) (b : Nat) (W : World) (hb : HeldI b n W) :
    Calls Try.prog 28 #[.agg #[.int .i64 z, .int .i64 t, .int .i64 f, .int .i64 s, .int .i64 p], .int .i64 n, .int .i64 m, .func (.func 29) #[] #[.pointer (some ⟨b, 0, none⟩)], .slice none 0 0] W (Gives W (sentE ⟨z, t, f, s, p⟩ n)) := by
  by_cases hg : (rightB ⟨z, t, f, s, p⟩ && gramB n) = true
  rotate_left
  · rw [sentE, if_neg hg]
    rcases bad hg with h | ⟨h1, h2⟩
    · exact ask_right z t f s p n _ _ _ _ W h
    · exact ask_bytes z t f s p n _ _ _ _ W h1 h2
  rw [sentE, if_pos hg]
  simp only [Bool.and_eq_true] at hg
  obtain ⟨hr, hn⟩ := hg
  obtain ⟨_, _, ⟨hf, hf'⟩, _⟩ := right_iff.1 hr
  obtain ⟨h1, h2⟩ := in_iff.1 hn
  dsimp only at hf hf'
  rw [hm]
  exact ask_none z t f s p n _ _ _ _ _ _ _ _ W (enters_of Try.func29 (by kernel_rfl) rfl) hr hn fun _ hlt W' bW => by
    have hb' := hb.below bW
    exact sentcl_any z t f s p n b W' hf hf' h1 h2 hb'.lt hb'.cell
theorem ask_acked (z t f s p n a : Int) (b ba bs : Nat) (W : World) (hb : HeldI b n W) (ha : HeldI ba a W) (hs : HeldI bs a W) :
    Calls Try.prog 28 #[.agg #[.int .i64 z, .int .i64 t, .int .i64 f, .int .i64 s, .int .i64 p], .int .i64 n, .int .i64 f, .func (.func 32) #[] #[.pointer (some ⟨b, 0, none⟩), .pointer (some ⟨ba, 0, none⟩)], .slice (some ⟨bs, 0, none⟩) 1 1] W (Gives W (ackedE ⟨z, t, f, s, p⟩ n a)) := by
  by_cases hg : (rightB ⟨z, t, f, s, p⟩ && gramB n) = true
  rotate_left
  · rw [ackedE, if_neg hg]
    rcases bad hg with h | ⟨h1, h2⟩
    · exact ask_right z t f s p n _ _ _ _ W h
    · exact ask_bytes z t f s p n _ _ _ _ W h1 h2
  rw [ackedE, if_pos hg]
  simp only [Bool.and_eq_true] at hg
  obtain ⟨hr, hn⟩ := hg
  obtain ⟨_, _, ⟨hf, hf'⟩, _⟩ := right_iff.1 hr
  obtain ⟨h1, h2⟩ := in_iff.1 hn
  dsimp only at hf hf'
  have e : (if timeB a = true then (if f < n then (nul, 7) else (heardQ ⟨z, t, f, s, p⟩ n a, 0)) else (nul, 1) : St × Int) = askE [a] n f (heardQ ⟨z, t, f, s, p⟩ n a) := by simp [askE]
  dsimp only
  rw [e]
  obtain ⟨q, hq⟩ : ∃ q, heardQ ⟨z, t, f, s, p⟩ n a = q := ⟨_, rfl⟩
  rw [hq]
  obtain ⟨z', t', f', s', p'⟩ := q
  exact ask_some z t f s p n f z' t' f' s' p' bs 0 1 [a] _ _ W (enters_of Try.func32 (by kernel_rfl) rfl) hr hn hs.lt (Nat.le_refl _) (by decide) (fun i hi => by
      obtain rfl : i = 0 := by simpa using hi
      exact hs.cell) fun _ hlt W' bW => by
    have hb' := hb.below bW
    have ha' := ha.below bW
    have hl : n ≤ f := by omega
    unfold heardQ at hq
    dsimp only at hq
    by_cases hc : a < s
    · rw [if_pos hc] at hq
      simp only [lessQ, St.mk.injEq] at hq
      obtain ⟨rfl, rfl, rfl, rfl, rfl⟩ := hq
      exact ackedcl_a z t f s p n a b ba W' hf hf' h1 h2 hb'.lt hb'.cell ha'.lt ha'.cell (decide_eq_false (by omega))
    · rw [if_neg hc] at hq
      refine ackedcl_b z t f s p n a z' t' f' s' p' b ba W' hf hf' h1 h2 hb'.lt hb'.cell ha'.lt ha'.cell (decide_eq_true (by omega)) fun w => ?_
      have := grown_any z t (f - n) s p n w (less_right hr h1 hl) hn
      rw [show (⟨z, t, f - n, s, p⟩ : St) = lessQ ⟨z, t, f, s, p⟩ n from rfl, hq] at this
      exact this
theorem ask_lost (z t f s p n a now : Int) (b ba bw bs : Nat) (W : World) (hb : HeldI b n W) (ha : HeldI ba a W) (hw : HeldI bw now W) (hs : bs < W.heap.size) (hs0 : W.cell? ⟨bs, 0, none⟩ = some (.int .i64 a)) (hs1 : W.cell? ⟨bs, 1, none⟩ = some (.int .i64 now)) :
    Calls Try.prog 28 #[.agg #[.int .i64 z, .int .i64 t, .int .i64 f, .int .i64 s, .int .i64 p], .int .i64 n, .int .i64 f, .func (.func 36) #[] #[.pointer (some ⟨b, 0, none⟩), .pointer (some ⟨ba, 0, none⟩), .pointer (some ⟨bw, 0, none⟩)], .slice (some ⟨bs, 0, none⟩) 2 2] W (Gives W (lostE ⟨z, t, f, s, p⟩ n a now)) := by
  by_cases hg : (rightB ⟨z, t, f, s, p⟩ && gramB n) = true
  rotate_left
  · rw [lostE, if_neg hg]
    rcases bad hg with h | ⟨h1, h2⟩
    · exact ask_right z t f s p n _ _ _ _ W h
    · exact ask_bytes z t f s p n _ _ _ _ W h1 h2
  rw [lostE, if_pos hg]
  simp only [Bool.and_eq_true] at hg
  obtain ⟨hr, hn⟩ := hg
  obtain ⟨_, _, ⟨hf, hf'⟩, _⟩ := right_iff.1 hr
  obtain ⟨h1, h2⟩ := in_iff.1 hn
  dsimp only at hf hf'
  have e : (if (timeB a && timeB now) = true then (if f < n then (nul, 7) else (lostQ ⟨z, t, f, s, p⟩ n a now, 0)) else (nul, 1) : St × Int) = askE [a, now] n f (lostQ ⟨z, t, f, s, p⟩ n a now) := by simp [askE]
  dsimp only
  rw [e]
  obtain ⟨q, hq⟩ : ∃ q, lostQ ⟨z, t, f, s, p⟩ n a now = q := ⟨_, rfl⟩
  rw [hq]
  obtain ⟨z', t', f', s', p'⟩ := q
  exact ask_some z t f s p n f z' t' f' s' p' bs 0 2 [a, now] _ _ W (enters_of Try.func36 (by kernel_rfl) rfl) hr hn hs (Nat.le_refl _) (by decide) (fun i hi => by
      rcases (show i = 0 ∨ i = 1 by simp only [List.length_cons, List.length_nil] at hi; omega) with rfl | rfl
      · exact hs0
      · exact hs1) fun hall hlt W' bW => by
    have hb' := hb.below bW
    have ha' := ha.below bW
    have hw' := hw.below bW
    have hl : n ≤ f := by omega
    have hnow : timeB now = true := by
      simp only [List.all_cons, List.all_nil, Bool.and_true, Bool.and_eq_true] at hall
      exact hall.2
    unfold lostQ at hq
    dsimp only at hq
    by_cases hc : a < s
    · rw [if_pos hc] at hq
      simp only [lessQ, St.mk.injEq] at hq
      obtain ⟨rfl, rfl, rfl, rfl, rfl⟩ := hq
      exact lostcl_a z t f s p n a now b ba bw W' hf hf' h1 h2 hb'.lt hb'.cell ha'.lt ha'.cell hw'.lt hw'.cell (decide_eq_false (by omega))
    · rw [if_neg hc] at hq
      refine lostcl_b z t f s p n a now z' t' f' s' p' b ba bw W' hf hf' h1 h2 hb'.lt hb'.cell ha'.lt ha'.cell hw'.lt hw'.cell (decide_eq_true (by omega)) fun w => ?_
      have := fallen_any z t (f - n) s p now w (less_right hr h1 hl) hnow
      rw [show (⟨z, t, f - n, s, p⟩ : St) = lessQ ⟨z, t, f, s, p⟩ n from rfl, hq] at this
      exact this
end Go.Proofs.Ytiglhdiclfknhaa
