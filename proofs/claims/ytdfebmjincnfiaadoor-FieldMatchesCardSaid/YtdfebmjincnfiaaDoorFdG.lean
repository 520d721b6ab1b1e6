/- Layer 17: Match. -/
import Derived.Test.YtdfebmjincnfiaaDoorFdF
import Derived.Test.YtdfebmjincnfiaaDoorFdE
set_option maxRecDepth 100000
set_option linter.unusedSimpArgs false
set_option linter.unusedVariables false
namespace Go.Proofs.YtdfebmjincnfiaaDoor
open Go.RowKit

/-- does an element match -/
def mtB (a : List UInt8) (u weak : Bool) (e : List UInt8) : Bool := e == [42] || (match tagE 512 e with
  | none => false
  | some (b, v) => a == b && (weak || (!u && !v)))
theorem txt_is (l : List UInt8) (c : List UInt8) : ((txt l).toList == c) = decide (l = c) := by
  rw [txt_list]
  by_cases h : l = c <;> simp [h]
set_option maxHeartbeats 3200000 in
theorem mcl_any (a e : List UInt8) (u weak : Bool) (b1 b2 b3 : Nat) (he : e.length ≤ 4611686018427387904) (w : World) (c1 : w.cell? ⟨b1, 0, none⟩ = some (.string (txt a))) (c2 : w.cell? ⟨b2, 0, none⟩ = some (.bool weak)) (c3 : w.cell? ⟨b3, 0, none⟩ = some (.bool u)) :
    Calls Tryd.prog 20 #[.string (txt e), .pointer (some ⟨b1, 0, none⟩), .pointer (some ⟨b2, 0, none⟩), .pointer (some ⟨b3, 0, none⟩)] w fun x w' => x = .returned (.bool (mtB a u weak e)) ∧ w' = w := by
  have h42 := txt_is e [42]
  have T := Lib.hid (tag_any e he)
  by_cases hs : e = [42]
  · rw [decide_eq_true hs] at h42
    have hm : mtB a u weak e = true := by
      have hb : (e == [42]) = true := by simpa using hs
      unfold mtB
      rw [hb]
      rfl
    rw [hm]
    clear hs hm
    go_enter Tryd.func20, Tryd.ntmps20
    go_wp2_with fail
    go_ret
    exact ⟨rfl, by trivial⟩
  · rw [decide_eq_false hs] at h42
    have hb : (e == [42]) = false := by simpa using hs
    clear hs
    unfold tagV at T
    cases ht : tagE 512 e with
    | none =>
      have hm : mtB a u weak e = false := by
        unfold mtB
        rw [hb, ht]
        rfl
      rw [hm]
      rw [ht] at T
      simp only at T
      go_enter Tryd.func20, Tryd.ntmps20
      go_wp2_with (go_at_call 10; refine (T.out _).mono ?_; rintro e2 w2 ⟨rfl, rfl⟩)
      go_ret
      exact ⟨rfl, by trivial⟩
    | some p =>
      obtain ⟨b, v⟩ := p
      have hm : mtB a u weak e = (a == b && (weak || (!u && !v))) := by
        unfold mtB
        rw [hb, ht]
        rfl
      rw [hm]
      rw [ht] at T
      simp only at T
      have hq := txt_eq b a
      have hq2 : (a == b) = decide (b = a) := by
        rw [Bool.eq_iff_iff, beq_iff_eq, decide_eq_true_iff]
        exact eq_comm
      rw [hq2]
      clear hq2 hm ht
      by_cases hab : b = a
      · rw [decide_eq_true hab] at hq ⊢
        clear hab
        cases weak <;> cases u <;> cases v
        all_goals
          go_enter Tryd.func20, Tryd.ntmps20
          go_wp2_with (go_at_call 10; refine (T.out _).mono ?_; rintro e2 w2 ⟨rfl, rfl⟩)
          go_ret
          exact ⟨rfl, by trivial⟩
      · rw [decide_eq_false hab] at hq ⊢
        clear hab
        go_enter Tryd.func20, Tryd.ntmps20
        go_wp2_with (go_at_call 10; refine (T.out _).mono ?_; rintro e2 w2 ⟨rfl, rfl⟩)
        go_ret
        exact ⟨rfl, by trivial⟩

theorem any_prefix {α : Type} (p : α → Bool) {pre l : List α} (h : pre <+: l) (hp : ∃ x ∈ pre, p x = true) : l.any p = true := by
  obtain ⟨x, hx, hp⟩ := hp
  exact List.any_eq_true.2 ⟨x, h.subset hx, hp⟩
theorem elem_len {vs : List (List UInt8)} {x : List UInt8} (hx : x ∈ allE vs) (N : Nat) (hl : ∀ t ∈ vs, t.length ≤ N) : x.length ≤ N := by
  obtain ⟨v, hv, hx⟩ := List.mem_flatMap.1 hx
  have h : ∀ (n : Nat) (l : List UInt8), l.length = n → ∀ x ∈ oneE l, x.length ≤ l.length := by
    intro n
    induction n using Nat.strongRecOn with
    | _ n ih =>
      intro l hn x hx
      rw [one_cut] at hx
      rcases List.mem_append.1 hx with hx | hx
      · unfold elem at hx
        split at hx
        · cases hx
        · obtain rfl : x = trim (l.take (endE 0 l)) := by simpa using hx
          have h1 := trim_len (l.take (endE 0 l))
          rw [List.length_take] at h1
          omega
      · by_cases h0 : l = []
        · subst h0
          cases hx
        · have hp : 0 < l.length := List.length_pos_iff.2 h0
          have := ih (l.drop (endE 0 l + 1)).length (by rw [List.length_drop]; omega) _ rfl x hx
          rw [List.length_drop] at this
          omega
  exact Nat.le_trans (h _ v rfl x hx) (hl v hv)
theorem match_is (a : List UInt8) (u : Bool) (vs : List (List UInt8)) (tag : List UInt8) (weak : Bool) (h : tagE 512 tag = some (a, u)) : matchE 512 vs tag weak = (allE vs).any (mtB a u weak) := by
  unfold matchE
  rw [h]
  rfl
set_option maxHeartbeats 3200000 in
theorem match_any (vs : List (List UInt8)) (v : Value) (tag : List UInt8) (weak : Bool) (w : World) (hv : RdT w v vs) (hl : ∀ t ∈ vs, t.length ≤ 4611686018427387904) (ht : tag.length ≤ 4611686018427387904) :
    Calls Tryd.prog 11 #[v, .string (txt tag), .bool weak] w fun e w' => e = .returned (.bool (matchE 512 vs tag weak)) ∧ Below w.heap.size w w' := by
  obtain ⟨va, c, rfl, _, _⟩ := RdC.isSlice hv
  have T := Lib.hid (tag_any tag ht)
  unfold tagV at T
  cases htg : tagE 512 tag with
  | none =>
    rw [show matchE 512 vs tag weak = false by unfold matchE; rw [htg]]
    rw [htg] at T
    simp only at T
    have BB := Lib.hid ((((Below.refl w.heap.size w).alloc (Nat.le_refl _) (.cells #[.bool weak] 4)).alloc (by simp) (.cells #[.string (txt [])] 9)).alloc (by simp; omega) (.cells #[.bool false] 4))
    go_enter Tryd.func11, Tryd.ntmps11
    go_wp2_with (go_at_call 10; refine (T.out _).mono ?_; rintro e2 w2 ⟨rfl, rfl⟩)
    go_ret
    exact ⟨rfl, BB.out⟩
  | some p =>
    obtain ⟨a, u⟩ := p
    rw [htg] at T
    simp only at T
    rw [match_is a u vs tag weak htg]
    obtain ⟨W3, hW3⟩ : ∃ W3, W3 = ((w.alloc (.cells #[.bool weak] 4)).alloc (.cells #[.string (txt a)] 9)).alloc (.cells #[.bool u] 4) := ⟨_, rfl⟩
    have BB : Hid (Below w.heap.size w W3) := by
      rw [hW3]
      exact (((Below.refl w.heap.size w).alloc (Nat.le_refl _) (.cells #[.bool weak] 4)).alloc (by simp) (.cells #[.string (txt a)] 9)).alloc (by simp; omega) (.cells #[.bool u] 4)
    have hsz3 : Hid (W3.heap.size = w.heap.size + 3) := by show _ = _; rw [hW3]; simp
    have k1 : W3.cell? ⟨w.heap.size, 0, none⟩ = some (.bool weak) := by
      rw [hW3]
      exact ((((Below.refl _ (w.alloc (.cells #[.bool weak] 4))).alloc (Nat.le_refl _) (.cells #[.string (txt a)] 9)).alloc (by simp) (.cells #[.bool u] 4)).cell (p := ⟨w.heap.size, 0, none⟩) (by simp)).trans (by rw [World.cell?_alloc_at _ _ _ _ rfl]; rfl)
    have k2 : W3.cell? ⟨w.heap.size + 1, 0, none⟩ = some (.string (txt a)) := by
      rw [hW3]
      exact ((((Below.refl _ ((w.alloc (.cells #[.bool weak] 4)).alloc (.cells #[.string (txt a)] 9))).alloc (Nat.le_refl _) (.cells #[.bool u] 4))).cell (p := ⟨w.heap.size + 1, 0, none⟩) (by simp)).trans (by rw [World.cell?_alloc_at _ _ _ _ (by simp)]; rfl)
    have k3 : W3.cell? ⟨w.heap.size + 2, 0, none⟩ = some (.bool u) := by
      rw [hW3, World.cell?_alloc_at _ _ _ _ (by simp)]; rfl
    have A := Lib.hid (any_any 20 #[.pointer (some ⟨w.heap.size + 1, 0, none⟩), .pointer (some ⟨w.heap.size, 0, none⟩), .pointer (some ⟨w.heap.size + 2, 0, none⟩)] (enters_of Tryd.func20 (by kernel_rfl) rfl) vs (.slice va vs.length c) W3 (RdT.below hv BB.out) hl
      (fun pre W => (∀ y ∈ pre, mtB a u weak y = false) ∧ Below W3.heap.size W3 W) (fun pre W => (∃ y ∈ pre, mtB a u weak y = true) ∧ Below W3.heap.size W3 W) ⟨fun _ h => (by cases h), Below.refl _ _⟩
      (fun pre W W' h hb => ⟨h.1, h.2.trans (hb.mono h.2.size)⟩)
      (fun pre W h => (RdT.below hv BB.out).below h.2)
      (fun pre x W h hp => by
        have hsz := hsz3.out
        refine (mcl_any a x u weak (w.heap.size + 1) w.heap.size (w.heap.size + 2) (elem_len (hp.subset (by simp)) _ hl) W ((h.2.cell (p := ⟨w.heap.size + 1, 0, none⟩) (by show _ < _; simp only; omega)).trans k2) ((h.2.cell (p := ⟨w.heap.size, 0, none⟩) (by show _ < _; simp only; omega)).trans k1) ((h.2.cell (p := ⟨w.heap.size + 2, 0, none⟩) (by show _ < _; simp only; omega)).trans k3)).mono ?_
        rintro e W' ⟨rfl, rfl⟩
        refine ⟨_, rfl, fun hf => ⟨fun y hy => ?_, h.2⟩, fun ht => ⟨⟨x, by simp, ht⟩, h.2⟩⟩
        rcases List.mem_append.1 hy with hy | hy
        · exact h.1 y hy
        · obtain rfl : y = x := by simpa using hy
          exact hf))
    have A2 : Hid (Calls Tryd.prog 12 #[.slice va vs.length c, .func (.func 20) #[] #[.pointer (some ⟨w.heap.size + 1, 0, none⟩), .pointer (some ⟨w.heap.size, 0, none⟩), .pointer (some ⟨w.heap.size + 2, 0, none⟩)]] W3 fun e w' => e = .returned (.bool ((allE vs).any (mtB a u weak))) ∧ Below w.heap.size w w') := A.out.mono fun e w' h => by
      rcases h with ⟨rfl, h1, h2⟩ | ⟨rfl, pre, hp, h1, h2⟩
      · refine ⟨?_, BB.out.trans (h2.mono BB.out.size)⟩
        rw [show (allE vs).any (mtB a u weak) = false by rw [List.any_eq_false]; intro y hy; rw [h1 y hy]; decide]
      · refine ⟨?_, BB.out.trans (h2.mono BB.out.size)⟩
        rw [any_prefix _ hp h1]
    generalize (allE vs).any (mtB a u weak) = r at A2 ⊢
    clear A hv hl
    go_enter Tryd.func11, Tryd.ntmps11
    go_wp2_with (first
      | (go_at_call 10; refine (T.out _).mono ?_; rintro e2 w2 ⟨rfl, rfl⟩)
      | (go_at_call 12; rw [← hW3]; refine A2.out.mono ?_; rintro e2 w2 ⟨rfl, hb2⟩))
    go_ret
    exact ⟨rfl, hb2⟩
end Go.Proofs.YtdfebmjincnfiaaDoor
