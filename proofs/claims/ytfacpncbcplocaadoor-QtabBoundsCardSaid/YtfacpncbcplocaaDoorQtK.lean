/- Walks of layer 13: the document's tables: SetCap, New, Get, Find. -/
import Derived.Test.YtfacpncbcplocaaDoorQtJ
import Derived.Test.YtfacpncbcplocaaDoorQtF
set_option maxRecDepth 100000
set_option linter.unusedSimpArgs false
set_option linter.unusedVariables false
set_option linter.unnecessarySimpa false
namespace Go.Proofs.YtfacpncbcplocaaDoor
open Go.RowKit

/-- what a call of the document's table leaves -/
def RDid (b : Nat) (v : Value) (q q' : TQ) (w w' : World) : Prop := ∃ v', RTb b v' q' w' ∧ (q'.l ≠ [] → ∀ j, v'.ownBlock = some j → (q.l ≠ [] ∧ v.ownBlock = some j) ∨ w.heap.size ≤ j) ∧ Keep [b] w w'
theorem rdid_same {b : Nat} {v : Value} {q : TQ} {w w' : World} (h : RTb b v q w) (hb : Below w.heap.size w w') : RDid b v q q w w' := ⟨v, h.below hb, fun h0 j hj => .inl ⟨h0, hj⟩, Keep.of_below hb⟩
theorem rsetCap_any {b : Nat} {v : Value} {q : TQ} (n : Int) (w : World) (hr : rooms q.l ≤ 8192) (h : RTb b v q w) (hc : countN q ≤ 4611686018427387904) :
    Calls Tryd.prog 21 #[.pointer (some ⟨b, 0, none⟩), .int .i64 n] w fun e w' => e = .returned (.int .i64 (setCapE q n).2) ∧ RDid b v q (setCapE q n).1 w w' := by
  have HT := Lib.hid h
  obtain ⟨c1, c2, _⟩ := h.facts
  have z2 := h.free 1
  by_cases h1 : n < 0
  · have hE : setCapE q n = (q, 1) := by unfold setCapE; rw [if_pos (.inl h1)]
    rw [hE]
    clear h hE hc
    go_enter Tryd.func21, Tryd.ntmps21
    go_wp2_with fail
    go_ret
    exact ⟨rfl, rdid_same HT.out (Below.refl _ _)⟩
  · by_cases h2 : (q.most : Int) < n
    · have hE : setCapE q n = (q, 1) := by unfold setCapE; rw [if_pos (.inr h2)]
      rw [hE]
      clear h hE hc
      go_enter Tryd.func21, Tryd.ntmps21
      go_wp2_with fail
      go_ret
      exact ⟨rfl, rdid_same HT.out (Below.refl _ _)⟩
    · have hE : setCapE q n = (shrinkE n.toNat { q with cap := n.toNat }, 0) := by unfold setCapE; rw [if_neg (by omega)]
      rw [hE]
      obtain ⟨k, rfl⟩ : ∃ k : Nat, n = (k : Int) := ⟨n.toNat, by omega⟩
      have hT : RTb b v { q with cap := k } (w.setCell ⟨b, 1, none⟩ (.int .i64 (k : Int))) := ⟨Cs.set h.fields 1 _, rdC_keep h.row (keep_set b 1 w _) (fun h0 j hj => by have := h.ne (pos_of_ne h0) j hj; simpa using this), h.ne⟩
      have hs := rshrink_any k (w.setCell ⟨b, 1, none⟩ (.int .i64 (k : Int))) hT hr hc
      have HS := Lib.hid hs
      have h2' : ¬ (q.most : Int) < (k : Int) := h2
      simp only [Int.toNat_natCast]
      clear h hE hc hr hT hs h1 h2
      have hi0 : (0 : Int) ≤ (k : Int) := by omega
      go_enter Tryd.func21, Tryd.ntmps21
      go_wp2_with (first
        | (go_at_call 37; refine HS.out.mono ?_; rintro e w2 ⟨rfl, v', hT', hv, hK⟩
           have HT' := Lib.hid hT'
           have HV := Lib.hid hv
           have HK := Lib.hid hK
           clear hT' hv hK))
      go_ret
      refine ⟨rfl, v', HT'.out, fun h0 j hj => .inl ⟨fun e => h0 (by simp [shrinkE, e]), by rw [← HV.out h0]; exact hj⟩, ?_⟩
      exact (keep_set b 1 w _).trans HK.out (fun i hi => .inl hi)

theorem zeroTv : ∀ w : World, (zeroValue 40).run Tryd.prog w = .ok (.agg #[.int .i64 0, .int .i64 0, .int .i64 0, .slice none 0 0]) w := Tryd.zeroValue40
theorem rnew_results {W : World} {tmps : Array Value} {A : Nat} {v0 v1 v2 v3 x : Value} (h4 : tmps[2]?.getD undef = .pointer (some ⟨A, 0, none⟩)) (h5 : tmps[3]?.getD undef = x)
    (c0 : W.cell? ⟨A, 0, none⟩ = some v0) (c1 : W.cell? ⟨A, 1, none⟩ = some v1) (c2 : W.cell? ⟨A, 2, none⟩ = some v2) (c3 : W.cell? ⟨A, 3, none⟩ = some v3) : (results Tryd.f17 tmps).run Tryd.prog W = .ok (.tuple #[.agg #[v0, v1, v2, v3], x]) W := by
  have hr : Tryd.f17.results = #[.cell 2 40, .tmp 3] := rfl
  simp only [results, hr]
  go_simp
theorem rnew_any (n : Int) (w : World) : Calls Tryd.prog 17 #[.int .i64 n] w fun e w' => e = .returned (.tuple #[.agg #[.int .i64 (if n < 0 ∨ 4096 < n then 0 else n), .int .i64 0, .int .i64 0, .slice none 0 0], .int .i64 (if n < 0 ∨ 4096 < n then 1 else 0)]) ∧ Below w.heap.size w w' := by
  have hz := zeroTv
  have MS : Hid (∀ x : Nat, Cs ((w.alloc (.cells #[.int .i64 0, .int .i64 0, .int .i64 0, .slice none 0 0] 40))) w.heap.size [.int .i64 0, .int .i64 0, .int .i64 0, .slice none 0 0]) := fun _ => Cs.made w _ _
  have c0 := Cs.get (MS.out 0) 0 _ rfl
  have c1 := Cs.get (MS.out 0) 1 _ rfl
  have c2 := Cs.get (MS.out 0) 2 _ rfl
  have c3 := Cs.get (MS.out 0) 3 _ rfl
  by_cases h1 : n < 0
  · rw [if_pos (.inl h1), if_pos (.inl h1)]
    go_enter Tryd.func17, Tryd.ntmps17
    go_wp2
    exact bodyPost_ret (rnew_results rfl rfl c0 c1 c2 c3) rfl ⟨rfl, below1 w _⟩
  · by_cases h2 : 4096 < n
    · rw [if_pos (.inr h2), if_pos (.inr h2)]
      go_enter Tryd.func17, Tryd.ntmps17
      go_wp2
      exact bodyPost_ret (rnew_results rfl rfl c0 c1 c2 c3) rfl ⟨rfl, below1 w _⟩
    · rw [if_neg (by omega), if_neg (by omega)]
      clear c0 c1 c2 c3
      have d1 : Cs ((w.alloc (.cells #[.int .i64 n, .int .i64 0, .int .i64 0, .slice none 0 0] 40))) w.heap.size [.int .i64 n, .int .i64 0, .int .i64 0, .slice none 0 0] := Cs.made w _ _
      have D := Lib.hid d1
      clear d1
      go_enter Tryd.func17, Tryd.ntmps17
      go_wp2
      exact bodyPost_ret (rnew_results rfl rfl (D.out.get 0 _ rfl) (D.out.get 1 _ rfl) (D.out.get 2 _ rfl) (D.out.get 3 _ rfl)) rfl ⟨rfl, below1 w _⟩

theorem rget_results {W : World} {tmps : Array Value} {A : Nat} {v0 v1 x : Value} (h4 : tmps[4]?.getD undef = .pointer (some ⟨A, 0, none⟩)) (h5 : tmps[5]?.getD undef = x)
    (c0 : W.cell? ⟨A, 0, none⟩ = some v0) (c1 : W.cell? ⟨A, 1, none⟩ = some v1) : (results Tryd.f23 tmps).run Tryd.prog W = .ok (.tuple #[.agg #[v0, v1], x]) W := by
  have hr : Tryd.f23.results = #[.cell 4 23, .tmp 5] := rfl
  simp only [results, hr]
  go_simp
theorem rget_any {b : Nat} {v : Value} {q : TQ} (n : Int) (w : World) (h : RTb b v q w) (hc : countN q ≤ 4611686018427387904) :
    Calls Tryd.prog 23 #[.pointer (some ⟨b, 0, none⟩), .int .i64 n] w fun e w' => e = .returned (.tuple #[.agg #[.string (getE q n).1.n, .string (getE q n).1.v], .int .i64 (getE q n).2]) ∧ Below w.heap.size w w' := by
  have hz := zeroFv
  have hb := h.lt
  have hT1 := h.below (below1 w (.cells #[.string ⟨#[]⟩, .string ⟨#[]⟩] 23))
  have HCN := Lib.hid (rcount_any _ hT1 hc)
  obtain ⟨_, _, c4, c5⟩ := hT1.facts
  have r0 : (w.alloc (.cells #[.string ⟨#[]⟩, .string ⟨#[]⟩] 23)).cell? ⟨w.heap.size, 0, none⟩ = some (.string ⟨#[]⟩) := (Cs.made w _ _).get 0 _ rfl
  have r1 : (w.alloc (.cells #[.string ⟨#[]⟩, .string ⟨#[]⟩] 23)).cell? ⟨w.heap.size, 1, none⟩ = some (.string ⟨#[]⟩) := (Cs.made w _ _).get 1 _ rfl
  have g0 : (w.alloc (.cells #[.string ⟨#[]⟩, .string ⟨#[]⟩] 23)).frozen? ⟨w.heap.size, 0, none⟩ = false := (Cs.made w _ _).free 0
  have g1 : (w.alloc (.cells #[.string ⟨#[]⟩, .string ⟨#[]⟩] 23)).frozen? ⟨w.heap.size, 1, none⟩ = false := (Cs.made w _ _).free 1
  have MS := Lib.hid (fun a b W h => made_set w a b W h)
  by_cases h1 : n < (q.first : Int)
  · have hE : getE q n = (noFd, 11) := by unfold getE; rw [if_pos (.inl h1)]
    rw [hE]
    simp only [noFd]
    clear h hE hc hT1
    go_enter Tryd.func23, Tryd.ntmps23
    go_wp2_with fail
    exact bodyPost_ret (rget_results rfl rfl r0 r1) rfl ⟨rfl, below1 w _⟩
  · have hi0 : (0 : Int) ≤ n := by omega
    obtain ⟨k, rfl⟩ : ∃ k : Nat, n = (k : Int) := ⟨n.toNat, by omega⟩
    by_cases h2 : ((countN q : Nat) : Int) ≤ (k : Int)
    · have hE : getE q (k : Int) = (noFd, 11) := by unfold getE; rw [if_pos (.inr h2)]
      rw [hE]
      simp only [noFd]
      have h1' : decide ((k : Int) < (q.first : Int)) = false := decide_eq_false h1
      have h1n : decide (k < q.first) = false := decide_eq_false (by omega)
      clear h hE hc hT1
      go_enter Tryd.func23, Tryd.ntmps23
      go_wp2_with (go_at_call 31; refine HCN.out.mono ?_; rintro e w2 ⟨rfl, nd, h⟩; obtain rfl := h)
      obtain ⟨m0, m1, m2⟩ := MS.out (.string ⟨#[]⟩) (.string ⟨#[]⟩) _ (below_drewN (Below.refl _ _) nd)
      exact bodyPost_ret (rget_results rfl rfl m0 m1) rfl ⟨rfl, m2⟩
    · have hk : k - q.first < q.l.length := by unfold countN at h2; omega
      have hE : getE q (k : Int) = (q.l[k - q.first], 0) := by
        unfold getE; rw [if_neg (by omega), Int.toNat_natCast, getD_of hk]
      rw [hE]
      obtain ⟨a, c, rfl, hac, hcm⟩ := hT1.shape
      obtain ⟨g, o, gc, hsl, hgc, hgm, hg⟩ := rd_form hT1.row (by omega)
      simp only [Value.slice.injEq, true_and] at hsl
      obtain ⟨rfl, rfl⟩ := hsl
      obtain ⟨e0, e1⟩ := fd_at hT1.row (k - q.first) hk _ rfl
      obtain ⟨fd, hfd⟩ : ∃ fd, fd = q.l[k - q.first] := ⟨_, rfl⟩
      rw [← hfd] at e0 e1 ⊢
      clear hfd
      have h1' : decide ((k : Int) < (q.first : Int)) = false := decide_eq_false h1
      have hlt : g < w.heap.size := h.vlt (pos_of_ne (by omega)) g rfl
      obtain ⟨m, hm⟩ : ∃ m, m = k - q.first := ⟨_, rfl⟩
      rw [← hm] at hk e0 e1
      have hw1 : IntKind.i64.wrap ((k : Int) - (q.first : Int)) = (m : Int) := by rw [wraps_i64' _ (by unfold countN at hc; omega) (by unfold countN at h2 hc; omega)]; omega
      have hi2 : (m : Int) < (q.l.length : Int) := by omega
      have hi3 : (0 : Int) ≤ (m : Int) := by omega
      have hne : ¬ g = w.heap.size := by omega
      have hne2 : ¬ b = w.heap.size := by omega
      have h1n : decide (k < q.first) = false := decide_eq_false (by omega)
      have h2n : decide (countN q ≤ k) = false := decide_eq_false (by omega)
      have h2i : decide ((countN q : Int) ≤ (k : Int)) = false := decide_eq_false h2
      clear h hE hc hT1 hm hac hcm hgc hgm h1 h2
      go_enter Tryd.func23, Tryd.ntmps23
      go_upto_region 3 with (first
        | (go_at_call 31; refine HCN.out.mono ?_; rintro e w3 ⟨rfl, nd, h⟩
           have B3 : Hid (Below (w.heap.size + 1) (w.alloc (.cells #[.string ⟨#[]⟩, .string ⟨#[]⟩] 23)) w3.drew) := by subst h; exact below_drewN (below_drewN (Below.refl _ _) nd) 1
           have y0 : w3.drew.cell? ⟨g, o + m * 2, none⟩ = some (.string fd.n) := by subst h; exact e0
           have y1 : w3.drew.cell? ⟨g, o + m * 2 + 1, none⟩ = some (.string fd.v) := by subst h; exact e1
           have y4 : w3.drew.cell? ⟨b, 2, none⟩ = some (.int .i64 (q.first : Int)) := by subst h; exact c4
           have y5 : w3.drew.cell? ⟨b, 3, none⟩ = some (.slice (some ⟨g, o, none⟩) q.l.length c) := by subst h; exact c5
           have s0 : w3.cell? ⟨w.heap.size, 0, none⟩ = some (.string ⟨#[]⟩) := by subst h; exact r0
           have s1 : w3.cell? ⟨w.heap.size, 1, none⟩ = some (.string ⟨#[]⟩) := by subst h; exact r1
           have t0 : w3.frozen? ⟨w.heap.size, 0, none⟩ = false := by subst h; exact g0
           have t1 : w3.frozen? ⟨w.heap.size, 1, none⟩ = false := by subst h; exact g1
           clear h))
      clear r0 r1 g0 g1 e0 e1 c4 c5
      go_still_tail 12, (by kernel_rfl)
      change wpList _ _ _ _ _ w3.drew
      go_wp2
      obtain ⟨m0, m1, m2⟩ := MS.out (.string fd.n) (.string fd.v) w3.drew B3.out
      exact bodyPost_ret (rget_results rfl rfl m0 m1) rfl ⟨rfl, m2⟩
end Go.Proofs.YtfacpncbcplocaaDoor
