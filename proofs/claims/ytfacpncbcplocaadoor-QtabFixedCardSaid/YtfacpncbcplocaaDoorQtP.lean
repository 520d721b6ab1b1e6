/- Walks of layer 13: FindFixed. -/
import Derived.Test.YtfacpncbcplocaaDoorQtO
import Derived.Test.YtfacpncbcplocaaDoorQtF
set_option maxRecDepth 100000
set_option linter.unusedSimpArgs false
set_option linter.unusedVariables false
set_option linter.unnecessarySimpa false
namespace Go.Proofs.YtfacpncbcplocaaDoor
open Go.RowKit

def findFixedE (f : Fd) : Int × Int := (firstG (isF f) fixedL 0, firstG (namedF f) fixedL 0)
theorem fixed_apart : ∀ i j : Nat, i < fixedL.length → j < fixedL.length → fixedL.getD i noFd = fixedL.getD j noFd → i = j := by
  have h : (List.range 24).all (fun i => (List.range 24).all fun j => !decide (fixedL.getD i noFd = fixedL.getD j noFd) || decide (i = j)) = true := by decide +kernel
  intro i j hi hj he
  rw [fixed_len] at hi hj
  have h1 := List.all_eq_true.1 h i (List.mem_range.2 hi)
  have h2 := List.all_eq_true.1 h1 j (List.mem_range.2 hj)
  simp only [he, decide_true, Bool.not_true, Bool.false_or, decide_eq_true_eq] at h2
  exact h2
theorem fixed_last (f : Fd) : lastN (isF f) 0 fixedL 24 = firstG (isF f) fixedL 0 := by
  have := last_first (isF f) fixedL (fun i j hi hj h1 h2 => fixed_apart i j hi hj (by
    simp only [isF, decide_eq_true_eq] at h1 h2
    rw [h1, h2])) 24 (by rw [fixed_len]; omega)
  rw [this, List.take_of_length_le (by rw [fixed_len]; omega)]
theorem firstG_take (p : Fd → Bool) (l : List Fd) (k : Nat) (h : k < l.length) : firstG p (l.take (k + 1)) 0 = if firstG p (l.take k) 0 = -1 then (if p l[k] then (k : Int) else -1) else firstG p (l.take k) 0 := by
  rw [List.take_succ_eq_append_getElem h, firstG_append, List.length_take, Nat.min_eq_left (by omega), Nat.zero_add]
theorem index_fixed (C : Array Value) (hC : C = (fdC fixedL).toArray) (k : Nat) (hk : k < fixedL.length) (w : World) :
    (Instr.index 57 (.agg C) (.int .i64 (k : Int))).run Tryd.prog w = .ok (.agg #[.string fixedL[k].n, .string fixedL[k].v]) w := by
  have u1 := Tryd.underlying57
  have u2 := Tryd.underlying23
  have z2 := Tryd.sizeOf23
  have a2 := Tryd.isAgg23
  have hk24 : (k : Int) < 24 := by rw [fixed_len] at hk; omega
  have hx : C.extract (k * 2) (k * 2 + 2) = #[.string fixedL[k].n, .string fixedL[k].v] := by
    have h0 := fdC_get fixedL k 0 hk (by omega)
    have h1 := fdC_get fixedL k 1 hk (by omega)
    have hl : (fdC fixedL).length = fixedL.length * 2 := fdC_len _
    subst hC
    apply Array.ext'
    rw [Array.toList_extract, List.extract_eq_take_drop, List.toList_toArray]
    have e0 : (fdC fixedL).drop (k * 2) = .string fixedL[k].n :: .string fixedL[k].v :: (fdC fixedL).drop (k * 2 + 2) := by
      apply List.ext_getElem?
      intro i
      rw [List.getElem?_drop]
      match i with
      | 0 => simpa [fdCell] using h0
      | 1 => simpa [fdCell] using h1
      | i + 2 => simp only [List.getElem?_cons_succ, List.getElem?_drop]; congr 1; omega
    rw [e0, show k * 2 + 2 - k * 2 = 2 by omega]
    rfl
  simp [Instr.index, asIntOf, run_underlying u1, hk24, z2, part, a2, hx, Sem.run_bind]
  intro h; omega
set_option maxHeartbeats 3200000 in
theorem findFixed_any (f : Fd) (w : World) (h : Fix w) :
    Calls Tryd.prog 11 #[.agg #[.string f.n, .string f.v]] w fun e w' => e = .returned (.tuple #[.int .i64 (findFixedE f).1, .int .i64 (findFixedE f).2]) ∧ Below w.heap.size w w' := by
  have hl1 := fixed_last f
  obtain ⟨fn, fv⟩ := f
  unfold findFixedE
  simp only
  rw [← hl1]
  clear hl1
  have HB := Lib.hid (below1 w (.cells #[.string fn, .string fv] 23))
  have BX : Hid (Cs (w.alloc (.cells #[.string fn, .string fv] 23)) w.heap.size [.string fn, .string fv]) := Cs.made w _ _
  have hpos := h.pos
  obtain ⟨T0, fr0, hg0⟩ := h.below HB.out hpos
  obtain ⟨C, hC⟩ : ∃ C, C = (fdC fixedL).toArray := ⟨_, rfl⟩
  rw [← hC] at hg0
  have G0 := Lib.hid hg0
  have HIX := Lib.hid (index_fixed C hC)
  have hsz : (Tryd.prog.info? 57).map (·.size) = some C.size := by rw [hC]; kernel_rfl
  have HSZ := Lib.hid hsz
  clear h hg0 hC hsz
  go_enter Tryd.func11, Tryd.ntmps11
  go_wp2_with ((with_reducible refine wpList_load_row ?_ 57 (.global 0) ?_ 0 ?_ T0 C fr0 _ G0.out Tryd.underlying57 ?_ HSZ.out ?_); rfl; rfl; rfl; rfl)
  go_loopw [4, 5, 9] (fun i6 i7 i20 wr => ∃ k : Nat, i6 = .int .i64 (lastN (isF ⟨fn, fv⟩) 0 fixedL k) ∧ i7 = .int .i64 (firstG (namedF ⟨fn, fv⟩) (fixedL.take k) 0) ∧ i20 = .int .i64 k ∧ k ≤ 24 ∧ Below (w.heap.size + 1) (w.alloc (.cells #[.string fn, .string fv] 23)) wr) (fun _ _ i _ => 24 - (intOf i).toNat)
  case atStart => exact ⟨0, rfl, rfl, rfl, Nat.zero_le _, Below.refl _ _⟩
  case round =>
    obtain ⟨k, rfl, rfl, rfl, hk, hbel⟩ := hrel
    obtain ⟨wh, hwh⟩ : ∃ x, x = lastN (isF ⟨fn, fv⟩) 0 fixedL k := ⟨_, rfl⟩
    obtain ⟨nm, hnm⟩ : ∃ x, x = firstG (namedF ⟨fn, fv⟩) (fixedL.take k) 0 := ⟨_, rfl⟩
    rw [← hwh, ← hnm]
    have HWH := Lib.hid hwh
    have HNM := Lib.hid hnm
    clear hwh hnm
    have BW : Hid (Below (w.alloc (.cells #[.string fn, .string fv] 23)).heap.size (w.alloc (.cells #[.string fn, .string fv] 23)) wr) := (by simpa using hbel : Below _ _ _)
    have hX := BX.out.below BW.out
    have x0 : wr.cell? ⟨w.heap.size, 0, none⟩ = some (.string fn) := hX.get 0 _ rfl
    have x1 : wr.cell? ⟨w.heap.size, 1, none⟩ = some (.string fv) := hX.get 1 _ rfl
    have z0 : w.heap.size < wr.heap.size := hX.lt
    by_cases hkl : k < 24
    · have hkf : k < fixedL.length := by rw [fixed_len]; exact hkl
      have hix := HIX.out k hkf
      have s1 := lastN_step (isF ⟨fn, fv⟩) 0 fixedL k hkf
      have s2 := firstG_take (namedF ⟨fn, fv⟩) fixedL k hkf
      rw [Nat.zero_add] at s1
      obtain ⟨⟨x, v⟩, hfd⟩ : ∃ fd, fd = fixedL[k]'hkf := ⟨_, rfl⟩
      rw [← hfd] at hix s1 s2
      rw [← HWH.out] at s1
      rw [← HNM.out] at s2
      simp only at hix
      clear hfd hkf
      have hi1 : (k : Int) < 24 := by omega
      have hi2 : (0 : Int) ≤ (k : Int) := by omega
      have hw1 : IntKind.i64.wrap ((k : Int) + 1) = ((k + 1 : Nat) : Int) := by rw [wraps_i64' _ (by omega) (by omega)]; omega
      have HKL := Lib.hid hkl
      have fin : ∀ W, Below wr.heap.size wr W → Below (w.heap.size + 1) (w.alloc (.cells #[.string fn, .string fv] 23)) W := fun W hW => hbel.trans (hW.mono (by omega))
      have FIN := Lib.hid fin
      have hgd := guardF
      by_cases h1 : x = fn
      · subst h1
        have n1 : namedF ⟨x, fv⟩ ⟨x, v⟩ = true := by simp [namedF]
        by_cases h2 : v = fv
        · subst h2
          have m1 : isF ⟨x, v⟩ ⟨x, v⟩ = true := by simp [isF]
          rw [if_pos m1] at s1
          have qe : ∀ W, (Op.equalIn 10000 23 (.agg #[.string x, .string v]) (.agg #[.string x, .string v])).run Tryd.prog W = .ok true W := fun W => by rw [eqF_any ⟨x, v⟩ ⟨x, v⟩, decide_eq_true rfl]
          by_cases hnm1 : nm = -1
          · rw [if_pos hnm1, if_pos n1] at s2
            subst hnm1
            have S1 := Lib.hid s1
            have S2 := Lib.hid s2
            clear s1 s2 n1 m1 hbel hX hkl hk fin BW
            go_wp2
            refine ⟨⟨k + 1, by rw [S1.out] <;> first | rfl | simp, by rw [S2.out] <;> first | rfl | simp, by first | rfl | simp, HKL.out, FIN.out _ (below1 _ _)⟩, by simp [intOf]; have := HKL.out; omega⟩
          · rw [if_neg hnm1] at s2
            have hnb : (nm == -1) = false := by simpa using hnm1
            have HN1 := Lib.hid hnm1
            clear hnm1
            have S1 := Lib.hid s1
            have S2 := Lib.hid s2
            clear s1 s2 n1 m1 hbel hX hkl hk fin BW
            go_wp2
            refine ⟨⟨k + 1, by rw [S1.out] <;> first | rfl | simp, by rw [S2.out] <;> first | rfl | simp, by first | rfl | simp, HKL.out, FIN.out _ (below1 _ _)⟩, by simp [intOf]; have := HKL.out; omega⟩
        · have m1 : ¬ isF ⟨x, fv⟩ ⟨x, v⟩ = true := by simp [isF, h2]
          rw [if_neg m1] at s1
          have qe : ∀ W, (Op.equalIn 10000 23 (.agg #[.string x, .string v]) (.agg #[.string x, .string fv])).run Tryd.prog W = .ok false W := fun W => by rw [eqF_any ⟨x, v⟩ ⟨x, fv⟩, decide_eq_false (by simp [h2])]
          have H2 := Lib.hid h2
          clear h2
          by_cases hnm1 : nm = -1
          · rw [if_pos hnm1, if_pos n1] at s2
            subst hnm1
            have S1 := Lib.hid s1
            have S2 := Lib.hid s2
            clear s1 s2 n1 m1 hbel hX hkl hk fin BW
            go_wp2
            refine ⟨⟨k + 1, by rw [S1.out] <;> first | rfl | simp, by rw [S2.out] <;> first | rfl | simp, by first | rfl | simp, HKL.out, FIN.out _ (below1 _ _)⟩, by simp [intOf]; have := HKL.out; omega⟩
          · rw [if_neg hnm1] at s2
            have hnb : (nm == -1) = false := by simpa using hnm1
            have HN1 := Lib.hid hnm1
            clear hnm1
            have S1 := Lib.hid s1
            have S2 := Lib.hid s2
            clear s1 s2 n1 m1 hbel hX hkl hk fin BW
            go_wp2
            refine ⟨⟨k + 1, by rw [S1.out] <;> first | rfl | simp, by rw [S2.out] <;> first | rfl | simp, by first | rfl | simp, HKL.out, FIN.out _ (below1 _ _)⟩, by simp [intOf]; have := HKL.out; omega⟩
      · have n1 : ¬ namedF ⟨fn, fv⟩ ⟨x, v⟩ = true := by simp [namedF, h1]
        have m1 : ¬ isF ⟨fn, fv⟩ ⟨x, v⟩ = true := by simp [isF, h1]
        rw [if_neg m1] at s1
        have s2' : firstG (namedF ⟨fn, fv⟩) (fixedL.take (k + 1)) 0 = nm := by
          rw [s2]
          by_cases hnm1 : nm = -1
          · rw [if_pos hnm1, if_neg n1, hnm1]
          · rw [if_neg hnm1]
        clear s2
        have s2 := s2'
        clear s2'
        have qe : ∀ W, (Op.equalIn 10000 23 (.agg #[.string x, .string v]) (.agg #[.string fn, .string fv])).run Tryd.prog W = .ok false W := fun W => by rw [eqF_any ⟨x, v⟩ ⟨fn, fv⟩, decide_eq_false (by simp [h1])]
        have tn : (x.toList == fn.toList) = false := by rw [str_beq]; exact decide_eq_false h1
        have H1 := Lib.hid h1
        clear h1
        have S1 := Lib.hid s1
        have S2 := Lib.hid s2
        clear s1 s2 n1 m1 hbel hX hkl hk fin BW
        go_wp2
        refine ⟨⟨k + 1, by rw [S1.out] <;> first | rfl | simp, by rw [S2.out] <;> first | rfl | simp, by first | rfl | simp, HKL.out, FIN.out _ (below1 _ _)⟩, by simp [intOf]; have := HKL.out; omega⟩
    · obtain rfl : k = 24 := by omega
      have hb := hbel.mono (Nat.le_succ w.heap.size)
      have H := Lib.hid (HB.out.trans hb)
      have T24 : Hid (fixedL.take 24 = fixedL) := (List.take_of_length_le (by rw [fixed_len]; omega) : fixedL.take 24 = fixedL)
      rw [T24.out] at HNM
      clear hbel hX hb
      go_wp2
      go_ret2
      exact ⟨by rw [← HWH.out, ← HNM.out]; rfl, H.out⟩

set_option maxHeartbeats 3200000 in
theorem rfindFixed_any (f : Fd) (w : World) :
    Calls Tryd.prog 12 #[.agg #[.string f.n, .string f.v]] w fun e w' => e = .returned (.tuple #[.int .i64 (findFixedE f).1, .int .i64 (findFixedE f).2]) ∧ Below w.heap.size w w' := by
  obtain ⟨fn, fv⟩ := f
  unfold findFixedE
  simp only
  have HB := Lib.hid (below1 w (.cells #[.string fn, .string fv] 23))
  have HX := Lib.hid (Cs.made w #[.string fn, .string fv] 23)
  have HA := Lib.hid (all_any (w.alloc (.cells #[.string fn, .string fv] 23)))
  go_enter Tryd.func12, Tryd.ntmps12
  go_wp2_with (first
    | (go_at_call 33; refine HA.out.mono ?_; rintro e w2 ⟨rfl, R, b2⟩
       have R2 := Lib.hid R
       have B2 : Hid (Below w.heap.size w w2) := HB.out.trans (b2.mono (by simp))
       have X2 := Lib.hid (HX.out.below b2)
       clear R b2))
  go_loopw [5, 6, 7] (fun i6 i7 i20 wr => ∃ (j : Nat), j ≤ 24 ∧ i6 = .int .i64 (firstG (isF ⟨fn, fv⟩) (fixedL.drop j) j) ∧ i7 = .int .i64 (firstG (namedF ⟨fn, fv⟩) (fixedL.drop j) j) ∧ i20 = .int .i64 ((j : Int) - 1) ∧ Below w2.heap.size w2 wr) (fun _ _ i _ => ((intOf i) + 1).toNat)
  case atStart => exact ⟨24, Nat.le_refl _, by rw [List.drop_of_length_le (by rw [fixed_len]; omega)]; rfl, by rw [List.drop_of_length_le (by rw [fixed_len]; omega)]; rfl, rfl, Below.refl _ _⟩
  case round =>
    obtain ⟨j, hj, rfl, rfl, rfl, hnd⟩ := hrel
    have ND := Lib.hid hnd
    have RW : Hid (RdC 2 wr (.slice (some ⟨w.heap.size + 1, 0, none⟩) 24 24) fixedL.length (fdC fixedL)) := (by have := R2.out; simp only [World.size_alloc] at this; exact this.below hnd : RdC 2 wr _ _ _)
    have XW : Hid (Cs wr w.heap.size [.string fn, .string fv]) := (X2.out.below hnd : Cs wr _ _)
    have x0 : wr.cell? ⟨w.heap.size, 0, none⟩ = some (.string fn) := XW.out.get 0 _ rfl
    have x1 : wr.cell? ⟨w.heap.size, 1, none⟩ = some (.string fv) := XW.out.get 1 _ rfl
    clear hnd
    cases j with
    | zero =>
      have hi1 : ¬ ((0 : Int) ≤ ((0 : Nat) : Int) - 1) := by omega
      obtain ⟨wh, hwh⟩ : ∃ x, x = firstG (isF ⟨fn, fv⟩) fixedL 0 := ⟨_, rfl⟩
      obtain ⟨nm, hnm⟩ : ∃ x, x = firstG (namedF ⟨fn, fv⟩) fixedL 0 := ⟨_, rfl⟩
      rw [List.drop_zero, ← hwh, ← hnm]
      have HWH := Lib.hid hwh
      have HNM := Lib.hid hnm
      have H : Hid (Below w.heap.size w wr) := (B2.out.trans (ND.out.mono B2.out.size) : Below _ _ _)
      clear hwh hnm
      go_wp2
      go_ret2
      exact ⟨by rw [← HWH.out, ← HNM.out]; rfl, H.out⟩
    | succ j =>
      obtain ⟨wh, hwh⟩ : ∃ x, x = firstG (isF ⟨fn, fv⟩) (fixedL.drop (j + 1)) (j + 1) := ⟨_, rfl⟩
      obtain ⟨nm, hnm⟩ : ∃ x, x = firstG (namedF ⟨fn, fv⟩) (fixedL.drop (j + 1)) (j + 1) := ⟨_, rfl⟩
      rw [← hwh, ← hnm]
      have e1 : (((j + 1 : Nat) : Int) - 1) = (j : Int) := by omega
      rw [e1]
      have hjf : j < fixedL.length := by rw [fixed_len]; omega
      have s1 := firstG_drop (isF ⟨fn, fv⟩) fixedL j hjf
      have s2 := firstG_drop (namedF ⟨fn, fv⟩) fixedL j hjf
      rw [getD_of hjf] at s1 s2
      obtain ⟨c0, c1⟩ := fd_at RW.out j hjf (j * 2) (by omega)
      obtain ⟨⟨x, v⟩, hfd⟩ : ∃ fd, fd = fixedL[j]'hjf := ⟨_, rfl⟩
      rw [← hfd] at c0 c1 s1 s2
      rw [← hwh] at s1
      rw [← hnm] at s2
      simp only at c0 c1
      clear hfd hjf hwh hnm e1
      have hi1 : (0 : Int) ≤ (j : Int) := by omega
      have hi2 : (j : Int) < 24 := by omega
      have hi3 : j < 24 := by omega
      have hw1 : IntKind.i64.wrap ((j : Int) - 1) = (j : Int) - 1 := wraps_i64' _ (by omega) (by omega)
      have hgd := guardF
      by_cases h1 : x = fn
      · subst h1
        have n1 : namedF ⟨x, fv⟩ ⟨x, v⟩ = true := by simp [namedF]
        rw [if_pos n1] at s2
        by_cases h2 : v = fv
        · subst h2
          have m1 : isF ⟨x, v⟩ ⟨x, v⟩ = true := by simp [isF]
          rw [if_pos m1] at s1
          have qe : ∀ W, (Op.equalIn 10000 23 (.agg #[.string x, .string v]) (.agg #[.string x, .string v])).run Tryd.prog W = .ok true W := fun W => by rw [eqF_any ⟨x, v⟩ ⟨x, v⟩, decide_eq_true rfl]
          have S1 := Lib.hid s1
          have S2 := Lib.hid s2
          clear s1 s2 n1 m1
          go_wp2_with fail
          go_quiet (fail)
          go_wp2_with fail
          go_quiet (fail)
          go_wp2_with fail
          refine ⟨⟨j, by omega, by rw [S1.out], by rw [S2.out], rfl, by first | exact below_drewN ND.out _ | exact below_drewN (below_drewN ND.out _) _⟩, by simp [intOf]⟩
        · have m1 : ¬ isF ⟨x, fv⟩ ⟨x, v⟩ = true := by simp [isF, h2]
          rw [if_neg m1] at s1
          have qe : ∀ W, (Op.equalIn 10000 23 (.agg #[.string x, .string v]) (.agg #[.string x, .string fv])).run Tryd.prog W = .ok false W := fun W => by rw [eqF_any ⟨x, v⟩ ⟨x, fv⟩, decide_eq_false (by simp [h2])]
          have H2 := Lib.hid h2
          clear h2
          have S1 := Lib.hid s1
          have S2 := Lib.hid s2
          clear s1 s2 n1 m1
          go_wp2_with fail
          go_quiet (fail)
          go_wp2_with fail
          go_quiet (fail)
          go_wp2_with fail
          refine ⟨⟨j, by omega, by rw [S1.out], by rw [S2.out], rfl, by first | exact below_drewN ND.out _ | exact below_drewN (below_drewN ND.out _) _⟩, by simp [intOf]⟩
      · have n1 : ¬ namedF ⟨fn, fv⟩ ⟨x, v⟩ = true := by simp [namedF, h1]
        have m1 : ¬ isF ⟨fn, fv⟩ ⟨x, v⟩ = true := by simp [isF, h1]
        rw [if_neg m1] at s1
        rw [if_neg n1] at s2
        have qe : ∀ W, (Op.equalIn 10000 23 (.agg #[.string x, .string v]) (.agg #[.string fn, .string fv])).run Tryd.prog W = .ok false W := fun W => by rw [eqF_any ⟨x, v⟩ ⟨fn, fv⟩, decide_eq_false (by simp [h1])]
        have tn : (x.toList == fn.toList) = false := by rw [str_beq]; exact decide_eq_false h1
        have H1 := Lib.hid h1
        clear h1
        have S1 := Lib.hid s1
        have S2 := Lib.hid s2
        clear s1 s2 n1 m1
        go_wp2_with fail
        go_quiet (fail)
        go_wp2_with fail
        go_quiet (fail)
        go_wp2_with fail
        refine ⟨⟨j, by omega, by rw [S1.out], by rw [S2.out], rfl, by first | exact below_drewN ND.out _ | exact below_drewN (below_drewN ND.out _) _⟩, by simp [intOf]⟩
end Go.Proofs.YtfacpncbcplocaaDoor
