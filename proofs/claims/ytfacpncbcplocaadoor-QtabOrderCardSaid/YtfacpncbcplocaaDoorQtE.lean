/- Walks of layer 13: Get, Find. -/
import Derived.Test.YtfacpncbcplocaaDoorQtD
set_option maxRecDepth 100000
set_option linter.unusedSimpArgs false
set_option linter.unusedVariables false
set_option linter.unnecessarySimpa false
namespace Go.Proofs.YtfacpncbcplocaaDoor
open Go.RowKit

theorem zeroFv : ∀ w : World, (zeroValue 23).run Tryd.prog w = .ok (.agg #[.string ⟨#[]⟩, .string ⟨#[]⟩]) w := Tryd.zeroValue23
theorem getD_of {l : List Fd} {k : Nat} (h : k < l.length) : l.getD k noFd = l[k] := by simp [List.getD, List.getElem?_eq_getElem h]
theorem get_results {W : World} {tmps : Array Value} {A : Nat} {v0 v1 x : Value} (h4 : tmps[4]?.getD undef = .pointer (some ⟨A, 0, none⟩)) (h5 : tmps[5]?.getD undef = x)
    (c0 : W.cell? ⟨A, 0, none⟩ = some v0) (c1 : W.cell? ⟨A, 1, none⟩ = some v1) : (results Tryd.f22 tmps).run Tryd.prog W = .ok (.tuple #[.agg #[v0, v1], x]) W := by
  have hr : Tryd.f22.results = #[.cell 4 23, .tmp 5] := rfl
  simp only [results, hr]
  go_simp
/-- the result's block, made and written -/
theorem made_set (w : World) (a b : Value) (W : World) (hb : Below (w.heap.size + 1) (w.alloc (.cells #[.string ⟨#[]⟩, .string ⟨#[]⟩] 23)) W) :
    ((W.setCell ⟨w.heap.size, 0, none⟩ a).setCell ⟨w.heap.size, 1, none⟩ b).cell? ⟨w.heap.size, 0, none⟩ = some a ∧ ((W.setCell ⟨w.heap.size, 0, none⟩ a).setCell ⟨w.heap.size, 1, none⟩ b).cell? ⟨w.heap.size, 1, none⟩ = some b ∧
    Below w.heap.size w ((W.setCell ⟨w.heap.size, 0, none⟩ a).setCell ⟨w.heap.size, 1, none⟩ b) := by
  have h0 : Cs (w.alloc (.cells #[.string ⟨#[]⟩, .string ⟨#[]⟩] 23)) w.heap.size [.string ⟨#[]⟩, .string ⟨#[]⟩] := Cs.made w _ _
  have h1 : Cs W w.heap.size [.string ⟨#[]⟩, .string ⟨#[]⟩] := h0.below (by simpa using hb)
  have h2 := (h1.set 0 a).set 1 b
  refine ⟨h2.get 0 _ rfl, h2.get 1 _ rfl, ?_⟩
  exact (((below1 w _).trans (hb.mono (Nat.le_succ _))).setCell (Nat.le_refl _) _).setCell (Nat.le_refl _) _

theorem get_any {b : Nat} {sl : Value} {q : TQ} (n : Int) (w : World) (h : Tbl b sl q w) (hc : countN q ≤ 4611686018427387904) :
    Calls Tryd.prog 22 #[.pointer (some ⟨b, 0, none⟩), .int .i64 n] w fun e w' => e = .returned (.tuple #[.agg #[.string (getE q n).1.n, .string (getE q n).1.v], .int .i64 (getE q n).2]) ∧ Below w.heap.size w w' := by
  have hz := zeroFv
  have hb := h.lt
  have hT1 := h.below (below1 w (.cells #[.string ⟨#[]⟩, .string ⟨#[]⟩] 23))
  have HG := Lib.hid (given_any _ hT1)
  have HCN := Lib.hid (count_any _ hT1 hc)
  obtain ⟨_, _, _, _, c4, c5⟩ := hT1.facts
  have r0 : (w.alloc (.cells #[.string ⟨#[]⟩, .string ⟨#[]⟩] 23)).cell? ⟨w.heap.size, 0, none⟩ = some (.string ⟨#[]⟩) := (Cs.made w _ _).get 0 _ rfl
  have r1 : (w.alloc (.cells #[.string ⟨#[]⟩, .string ⟨#[]⟩] 23)).cell? ⟨w.heap.size, 1, none⟩ = some (.string ⟨#[]⟩) := (Cs.made w _ _).get 1 _ rfl
  have g0 : (w.alloc (.cells #[.string ⟨#[]⟩, .string ⟨#[]⟩] 23)).frozen? ⟨w.heap.size, 0, none⟩ = false := (Cs.made w _ _).free 0
  have g1 : (w.alloc (.cells #[.string ⟨#[]⟩, .string ⟨#[]⟩] 23)).frozen? ⟨w.heap.size, 1, none⟩ = false := (Cs.made w _ _).free 1
  have MS := Lib.hid (fun a b W h => made_set w a b W h)
  by_cases h1 : n < (q.first : Int)
  · have hE : getE q n = (noFd, 11) := by unfold getE; rw [if_pos (.inl h1)]
    rw [hE]
    simp only [noFd]
    clear h hE hc hT1
    go_enter Tryd.func22, Tryd.ntmps22
    go_wp2_with (go_at_call 34; refine HG.out.mono ?_; rintro e w2 ⟨rfl, h⟩; obtain rfl := h)
    exact bodyPost_ret (get_results rfl rfl r0 r1) rfl ⟨rfl, below1 w _⟩
  · have hi0 : (0 : Int) ≤ n := by omega
    obtain ⟨k, rfl⟩ : ∃ k : Nat, n = (k : Int) := ⟨n.toNat, by omega⟩
    by_cases h2 : ((countN q : Nat) : Int) ≤ (k : Int)
    · have hE : getE q (k : Int) = (noFd, 11) := by unfold getE; rw [if_pos (.inr h2)]
      rw [hE]
      simp only [noFd]
      have h1' : decide ((k : Int) < (q.first : Int)) = false := decide_eq_false h1
      have h1n : decide (k < q.first) = false := decide_eq_false (by omega)
      clear h hE hc hT1
      go_enter Tryd.func22, Tryd.ntmps22
      go_wp2_with (first
        | (go_at_call 34; refine HG.out.mono ?_; rintro e w2 ⟨rfl, h⟩; obtain rfl := h)
        | (go_at_call 30; refine HCN.out.mono ?_; rintro e w2 ⟨rfl, nd, h⟩; obtain rfl := h))
      obtain ⟨m0, m1, m2⟩ := MS.out (.string ⟨#[]⟩) (.string ⟨#[]⟩) _ (below_drewN (Below.refl _ _) nd)
      exact bodyPost_ret (get_results rfl rfl m0 m1) rfl ⟨rfl, m2⟩
    · have hk : k - q.first < q.l.length := by unfold countN at h2; omega
      have hE : getE q (k : Int) = (q.l[k - q.first], 0) := by
        unfold getE; rw [if_neg (by omega), Int.toNat_natCast, getD_of hk]
      rw [hE]
      obtain ⟨a, c, rfl, hac, hcm⟩ := hT1.shape
      obtain ⟨g, gc, hsl, hg, hgc, hgm⟩ := OwnF.form (show OwnF _ _ _ from hT1.row) (fun e => by rw [e] at hk; simp at hk)
      simp only [Value.slice.injEq, true_and] at hsl
      obtain ⟨rfl, rfl⟩ := hsl
      obtain ⟨e0, e1⟩ := OwnF.at (show OwnF _ _ _ from hT1.row) (k - q.first) hk
      obtain ⟨fd, hfd⟩ : ∃ fd, fd = q.l[k - q.first] := ⟨_, rfl⟩
      rw [← hfd] at e0 e1 ⊢
      clear hfd
      have h1' : decide ((k : Int) < (q.first : Int)) = false := decide_eq_false h1
      obtain ⟨m, hm⟩ : ∃ m, m = k - q.first := ⟨_, rfl⟩
      rw [← hm] at hk e0 e1
      have hw1 : IntKind.i64.wrap ((k : Int) - (q.first : Int)) = (m : Int) := by rw [wraps_i64' _ (by unfold countN at hc; omega) (by unfold countN at h2 hc; omega)]; omega
      have hi2 : (m : Int) < (q.l.length : Int) := by omega
      have hi3 : (0 : Int) ≤ (m : Int) := by omega
      have hlt : g < w.heap.size := h.slt g rfl
      have hne : ¬ g = w.heap.size := by omega
      have hne2 : ¬ b = w.heap.size := by omega
      have h1n : decide (k < q.first) = false := decide_eq_false (by omega)
      have h2n : decide (countN q ≤ k) = false := decide_eq_false (by omega)
      have h2i : decide ((countN q : Int) ≤ (k : Int)) = false := decide_eq_false h2
      clear h hE hc hT1 hm hac hcm hgc hgm h1 h2
      go_enter Tryd.func22, Tryd.ntmps22
      go_upto_region 5 with (first
        | (go_at_call 34; refine HG.out.mono ?_; rintro e w2 ⟨rfl, h⟩; obtain rfl := h)
        | (go_at_call 30; refine HCN.out.mono ?_; rintro e w3 ⟨rfl, nd, h⟩
           have B3 : Hid (Below (w.heap.size + 1) (w.alloc (.cells #[.string ⟨#[]⟩, .string ⟨#[]⟩] 23)) w3.drew) := by subst h; exact below_drewN (below_drewN (Below.refl _ _) nd) 1
           have y0 : w3.drew.cell? ⟨g, m * 2, none⟩ = some (.string fd.n) := by subst h; exact e0
           have y1 : w3.drew.cell? ⟨g, m * 2 + 1, none⟩ = some (.string fd.v) := by subst h; exact e1
           have y4 : w3.drew.cell? ⟨b, 4, none⟩ = some (.int .i64 (q.first : Int)) := by subst h; exact c4
           have y5 : w3.drew.cell? ⟨b, 5, none⟩ = some (.slice (some ⟨g, 0, none⟩) q.l.length c) := by subst h; exact c5
           have s0 : w3.cell? ⟨w.heap.size, 0, none⟩ = some (.string ⟨#[]⟩) := by subst h; exact r0
           have s1 : w3.cell? ⟨w.heap.size, 1, none⟩ = some (.string ⟨#[]⟩) := by subst h; exact r1
           have t0 : w3.frozen? ⟨w.heap.size, 0, none⟩ = false := by subst h; exact g0
           have t1 : w3.frozen? ⟨w.heap.size, 1, none⟩ = false := by subst h; exact g1
           clear h))
      clear r0 r1 g0 g1 e0 e1 c4 c5
      go_still_tail 12, (by kernel_rfl)
      change wpList _ _ _ _ _ w3.drew
      go_wp2
      obtain ⟨m0, m1, m2⟩ := MS.out (.string fd.n) (.string fd.v) w3.drew B3.out
      exact bodyPost_ret (get_results rfl rfl m0 m1) rfl ⟨rfl, m2⟩
end Go.Proofs.YtfacpncbcplocaaDoor
