/- Walks of layer 13: the fixed table: the program's variable, the document's list; Fixed. -/
import Derived.Test.YtfacpncbcplocaaDoorQtK
import Derived.Laws.Rows
set_option maxRecDepth 100000
set_option linter.unusedSimpArgs false
set_option linter.unusedVariables false
set_option linter.unnecessarySimpa false
namespace Go.Proofs.YtfacpncbcplocaaDoor
open Go.RowKit

def fixedL : List Fd := [⟨⟨#[58, 97, 117, 116, 104, 111, 114, 105, 116, 121]⟩, ⟨#[]⟩⟩,
  ⟨⟨#[58, 112, 97, 116, 104]⟩, ⟨#[47]⟩⟩,
  ⟨⟨#[58, 109, 101, 116, 104, 111, 100]⟩, ⟨#[71, 69, 84]⟩⟩,
  ⟨⟨#[58, 109, 101, 116, 104, 111, 100]⟩, ⟨#[72, 69, 65, 68]⟩⟩,
  ⟨⟨#[58, 109, 101, 116, 104, 111, 100]⟩, ⟨#[80, 79, 83, 84]⟩⟩,
  ⟨⟨#[58, 109, 101, 116, 104, 111, 100]⟩, ⟨#[80, 85, 84]⟩⟩,
  ⟨⟨#[58, 109, 101, 116, 104, 111, 100]⟩, ⟨#[68, 69, 76, 69, 84, 69]⟩⟩,
  ⟨⟨#[58, 115, 99, 104, 101, 109, 101]⟩, ⟨#[104, 116, 116, 112, 115]⟩⟩,
  ⟨⟨#[58, 115, 99, 104, 101, 109, 101]⟩, ⟨#[104, 116, 116, 112]⟩⟩,
  ⟨⟨#[58, 115, 116, 97, 116, 117, 115]⟩, ⟨#[50, 48, 48]⟩⟩,
  ⟨⟨#[58, 115, 116, 97, 116, 117, 115]⟩, ⟨#[51, 48, 52]⟩⟩,
  ⟨⟨#[58, 115, 116, 97, 116, 117, 115]⟩, ⟨#[52, 48, 52]⟩⟩,
  ⟨⟨#[58, 115, 116, 97, 116, 117, 115]⟩, ⟨#[50, 48, 54]⟩⟩,
  ⟨⟨#[58, 115, 116, 97, 116, 117, 115]⟩, ⟨#[53, 48, 52]⟩⟩,
  ⟨⟨#[97, 103, 101]⟩, ⟨#[48]⟩⟩,
  ⟨⟨#[99, 97, 99, 104, 101, 45, 99, 111, 110, 116, 114, 111, 108]⟩, ⟨#[110, 111, 45, 99, 97, 99, 104, 101]⟩⟩,
  ⟨⟨#[99, 97, 99, 104, 101, 45, 99, 111, 110, 116, 114, 111, 108]⟩, ⟨#[109, 97, 120, 45, 97, 103, 101, 61, 54, 48]⟩⟩,
  ⟨⟨#[99, 111, 110, 116, 101, 110, 116, 45, 108, 101, 110, 103, 116, 104]⟩, ⟨#[48]⟩⟩,
  ⟨⟨#[100, 97, 116, 101]⟩, ⟨#[]⟩⟩,
  ⟨⟨#[101, 116, 97, 103]⟩, ⟨#[]⟩⟩,
  ⟨⟨#[105, 102, 45, 110, 111, 110, 101, 45, 109, 97, 116, 99, 104]⟩, ⟨#[]⟩⟩,
  ⟨⟨#[108, 97, 115, 116, 45, 109, 111, 100, 105, 102, 105, 101, 100]⟩, ⟨#[]⟩⟩,
  ⟨⟨#[114, 97, 110, 103, 101]⟩, ⟨#[98, 121, 116, 101, 115, 61, 48, 45]⟩⟩,
  ⟨⟨#[118, 97, 114, 121]⟩, ⟨#[97, 99, 99, 101, 112, 116, 45, 101, 110, 99, 111, 100, 105, 110, 103]⟩⟩]
theorem fixed_len : fixedL.length = 24 := rfl
/-- the program's variable holds the fixed table -/
def Fix (w : World) : Prop := ∃ T fr, w.heap[0]? = some (.cells (fdC fixedL).toArray T fr)
theorem Fix.pos {w : World} (h : Fix w) : 0 < w.heap.size := by
  obtain ⟨T, fr, e⟩ := h
  exact (Array.getElem?_eq_some_iff.1 e).1
theorem Fix.below {w w' : World} {B : Nat} (h : Fix w) (hb : Below B w w') (hB : 0 < B) : Fix w' := by
  obtain ⟨T, fr, e⟩ := h
  exact ⟨T, fr, (hb.block _ hB).trans e⟩
theorem Fix.keep {w w' : World} {S : List Nat} (h : Fix w) (hk : Keep S w w') (hS : 0 ∉ S) : Fix w' := by
  have := h.pos
  obtain ⟨T, fr, e⟩ := h
  exact ⟨T, fr, (hk.block _ this hS).trans e⟩
theorem Fix.cell {w : World} (h : Fix w) (k : Nat) (hk : k < fixedL.length) : w.cell? ⟨0, k * 2, none⟩ = some (.string fixedL[k].n) ∧ w.cell? ⟨0, k * 2 + 1, none⟩ = some (.string fixedL[k].v) := by
  obtain ⟨T, fr, e⟩ := h
  have cell : ∀ j u, j < 2 → (fdCell fixedL[k])[j]? = some u → w.cell? ⟨0, k * 2 + j, none⟩ = some u := fun j u hj hu => by
    have := (fdC_get fixedL k j hk hj).trans hu
    rw [cell_of_row w _ _ _ _ _ e, List.getElem?_toArray]
    exact this
  exact ⟨cell 0 _ (by omega) rfl, cell 1 _ (by omega) rfl⟩

theorem fixed_results {W : World} {tmps : Array Value} {A : Nat} {v0 v1 x : Value} (h4 : tmps[2]?.getD undef = .pointer (some ⟨A, 0, none⟩)) (h5 : tmps[3]?.getD undef = x)
    (c0 : W.cell? ⟨A, 0, none⟩ = some v0) (c1 : W.cell? ⟨A, 1, none⟩ = some v1) : (results Tryd.f9 tmps).run Tryd.prog W = .ok (.tuple #[.agg #[v0, v1], x]) W := by
  have hr : Tryd.f9.results = #[.cell 2 23, .tmp 3] := rfl
  simp only [results, hr]
  go_simp
theorem rfixed_results {W : World} {tmps : Array Value} {A : Nat} {v0 v1 x : Value} (h4 : tmps[2]?.getD undef = .pointer (some ⟨A, 0, none⟩)) (h5 : tmps[3]?.getD undef = x)
    (c0 : W.cell? ⟨A, 0, none⟩ = some v0) (c1 : W.cell? ⟨A, 1, none⟩ = some v1) : (results Tryd.f10 tmps).run Tryd.prog W = .ok (.tuple #[.agg #[v0, v1], x]) W := by
  have hr : Tryd.f10.results = #[.cell 2 23, .tmp 3] := rfl
  simp only [results, hr]
  go_simp
def fixedE (n : Int) : Fd × Int := if n < 0 ∨ 24 ≤ n then (noFd, 11) else (fixedL.getD n.toNat noFd, 0)
theorem fixed_any (n : Int) (w : World) (h : Fix w) :
    Calls Tryd.prog 9 #[.int .i64 n] w fun e w' => e = .returned (.tuple #[.agg #[.string (fixedE n).1.n, .string (fixedE n).1.v], .int .i64 (fixedE n).2]) ∧ Below w.heap.size w w' := by
  have hz := zeroFv
  have r0 : (w.alloc (.cells #[.string ⟨#[]⟩, .string ⟨#[]⟩] 23)).cell? ⟨w.heap.size, 0, none⟩ = some (.string ⟨#[]⟩) := (Cs.made w _ _).get 0 _ rfl
  have r1 : (w.alloc (.cells #[.string ⟨#[]⟩, .string ⟨#[]⟩] 23)).cell? ⟨w.heap.size, 1, none⟩ = some (.string ⟨#[]⟩) := (Cs.made w _ _).get 1 _ rfl
  by_cases h1 : n < 0
  · have hE : fixedE n = (noFd, 11) := by unfold fixedE; rw [if_pos (.inl h1)]
    rw [hE]
    simp only [noFd]
    clear h hE
    go_enter Tryd.func9, Tryd.ntmps9
    go_wp2_with fail
    exact bodyPost_ret (fixed_results rfl rfl r0 r1) rfl ⟨rfl, below1 w _⟩
  · obtain ⟨k, rfl⟩ : ∃ k : Nat, n = (k : Int) := ⟨n.toNat, by omega⟩
    have hi0 : (0 : Int) ≤ (k : Int) := by omega
    by_cases h2 : (24 : Int) ≤ (k : Int)
    · have hE : fixedE (k : Int) = (noFd, 11) := by unfold fixedE; rw [if_pos (.inr h2)]
      rw [hE]
      simp only [noFd]
      clear h hE
      go_enter Tryd.func9, Tryd.ntmps9
      go_wp2_with fail
      exact bodyPost_ret (fixed_results rfl rfl r0 r1) rfl ⟨rfl, below1 w _⟩
    · have hk : k < fixedL.length := by rw [fixed_len]; omega
      have hE : fixedE (k : Int) = (fixedL[k], 0) := by
        unfold fixedE; rw [if_neg (by omega), Int.toNat_natCast, getD_of hk]
      rw [hE]
      have hF := h.below (below1 w (.cells #[.string ⟨#[]⟩, .string ⟨#[]⟩] 23)) h.pos
      obtain ⟨e0, e1⟩ := hF.cell k hk
      obtain ⟨fd, hfd⟩ : ∃ fd, fd = fixedL[k] := ⟨_, rfl⟩
      rw [← hfd] at e0 e1 ⊢
      have hpos := h.pos
      have hi2 : (k : Int) < 24 := by omega
      have hi3 : k < 24 := by omega
      clear h hE hF hfd hk h1 h2 r0 r1
      go_enter Tryd.func9, Tryd.ntmps9
      go_wp2_with fail
      have M := Cs.made w #[.string fd.n, .string fd.v] 23
      exact bodyPost_ret (fixed_results rfl rfl (M.get 0 _ rfl) (M.get 1 _ rfl)) rfl ⟨rfl, below1 w _⟩

set_option maxHeartbeats 3200000 in
theorem all_any (w : World) : Calls Tryd.prog 33 #[] w fun e w' => e = .returned (.slice (some ⟨w.heap.size, 0, none⟩) 24 24) ∧ RdC 2 w' (.slice (some ⟨w.heap.size, 0, none⟩) 24 24) fixedL.length (fdC fixedL) ∧ Below w.heap.size w w' := by
  go_enter Tryd.func33, Tryd.ntmps33
  go_wp2
  go_ret
  refine ⟨rfl, ?_, below1 w _⟩
  refine ⟨fdC_len _, .inr ⟨by rw [fixed_len]; omega, w.heap.size, 0, 24, rfl, Nat.le_refl _, by simp [maxLen], by simp, fun j u hu => ?_⟩⟩
  rw [World.cell?_alloc_at _ _ _ _ rfl, Nat.zero_add]
  rw [← Array.getElem?_toList]
  exact hu

set_option maxHeartbeats 1600000 in
theorem rfixed_any (n : Int) (w : World) :
    Calls Tryd.prog 10 #[.int .i64 n] w fun e w' => e = .returned (.tuple #[.agg #[.string (fixedE n).1.n, .string (fixedE n).1.v], .int .i64 (fixedE n).2]) ∧ Below w.heap.size w w' := by
  have hz := zeroFv
  have r0 : (w.alloc (.cells #[.string ⟨#[]⟩, .string ⟨#[]⟩] 23)).cell? ⟨w.heap.size, 0, none⟩ = some (.string ⟨#[]⟩) := (Cs.made w _ _).get 0 _ rfl
  have HM := Lib.hid (Cs.made w #[.string ⟨#[]⟩, .string ⟨#[]⟩] 23)
  have HA := Lib.hid (all_any (w.alloc (.cells #[.string ⟨#[]⟩, .string ⟨#[]⟩] 23)))
  have MS := Lib.hid (fun a b W h => made_set w a b W h)
  clear r0
  by_cases h1 : n < 0
  · have hE : fixedE n = (noFd, 11) := by unfold fixedE; rw [if_pos (.inl h1)]
    rw [hE]
    simp only [noFd]
    clear hE
    go_enter Tryd.func10, Tryd.ntmps10
    go_wp2_with (first
      | (go_at_call 33; refine HA.out.mono ?_; rintro e w2 ⟨rfl, R, b2⟩
         have R2 := Lib.hid R
         have B2 := Lib.hid b2
         have M2 := HM.out.below b2
         have m0 := M2.get 0 _ rfl
         have m1 := M2.get 1 _ rfl
         have f0 := M2.free 0
         have f1 := M2.free 1
         clear R b2 M2))
    obtain ⟨q0, q1, q2⟩ := MS.out (.string ⟨#[]⟩) (.string ⟨#[]⟩) _ (B2.out.mono (by simp))
    exact bodyPost_ret (rfixed_results rfl rfl q0 q1) rfl ⟨rfl, q2⟩
  · obtain ⟨k, rfl⟩ : ∃ k : Nat, n = (k : Int) := ⟨n.toNat, by omega⟩
    have hi0 : (0 : Int) ≤ (k : Int) := by omega
    by_cases h2 : (24 : Int) ≤ (k : Int)
    · have hE : fixedE (k : Int) = (noFd, 11) := by unfold fixedE; rw [if_pos (.inr h2)]
      rw [hE]
      simp only [noFd]
      clear hE
      go_enter Tryd.func10, Tryd.ntmps10
      go_wp2_with (first
        | (go_at_call 33; refine HA.out.mono ?_; rintro e w2 ⟨rfl, R, b2⟩
           have R2 := Lib.hid R
           have B2 := Lib.hid b2
           have M2 := HM.out.below b2
           have m0 := M2.get 0 _ rfl
           have m1 := M2.get 1 _ rfl
           have f0 := M2.free 0
           have f1 := M2.free 1
           clear R b2 M2))
      obtain ⟨q0, q1, q2⟩ := MS.out (.string ⟨#[]⟩) (.string ⟨#[]⟩) _ (B2.out.mono (by simp))
      exact bodyPost_ret (rfixed_results rfl rfl q0 q1) rfl ⟨rfl, q2⟩
    · have hk : k < fixedL.length := by rw [fixed_len]; omega
      have hE : fixedE (k : Int) = (fixedL[k], 0) := by
        unfold fixedE; rw [if_neg (by omega), Int.toNat_natCast, getD_of hk]
      rw [hE]
      obtain ⟨fd, hfd⟩ : ∃ fd, fd = fixedL[k]'hk := ⟨_, rfl⟩
      rw [← hfd]
      have HK := Lib.hid hk
      have HFD : Hid (∀ (h : k < fixedL.length), fd = fixedL[k]) := fun _ => hfd
      have hi2 : (k : Int) < 24 := by omega
      have hi3 : k < 24 := by omega
      clear hE hfd hk h1 h2
      go_enter Tryd.func10, Tryd.ntmps10
      go_wp2_with (first
        | (go_at_call 33; refine HA.out.mono ?_; rintro e w2 ⟨rfl, R, b2⟩
           obtain ⟨e0, e1⟩ := fd_at R k HK.out (k * 2) (by omega)
           rw [← HFD.out HK.out] at e0 e1
           have B2 := Lib.hid b2
           have M2 := HM.out.below b2
           have m0 := M2.get 0 _ rfl
           have m1 := M2.get 1 _ rfl
           have f0 := M2.free 0
           have f1 := M2.free 1
           simp only [World.size_alloc] at e0 e1
           clear R b2 M2))
      obtain ⟨q0, q1, q2⟩ := MS.out (.string fd.n) (.string fd.v) _ (B2.out.mono (by simp))
      exact bodyPost_ret (rfixed_results rfl rfl q0 q1) rfl ⟨rfl, q2⟩
end Go.Proofs.YtfacpncbcplocaaDoor
