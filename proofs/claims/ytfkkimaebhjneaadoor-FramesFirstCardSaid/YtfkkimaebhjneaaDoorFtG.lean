/- Walks of layer 4: the law FramesFirst. -/
import Derived.Test.YtfkkimaebhjneaaDoorFsO
import Derived.Test.YtfkkimaebhjneaaDoorFtF
import Derived.BigQuiet
set_option linter.unusedSimpArgs false
set_option linter.unusedVariables false
namespace Go.Proofs.YtfkkimaebhjneaaDoor
open Go.RowKit

theorem decL_short {xs : List Int} {z : Int} (h : decL xs = .error (5, z)) : xs.length ≤ 1200 := by
  unfold decL at h
  split at h
  · simp at h
  · omega

theorem wid_cases {c : Int} (h0 : 0 ≤ c) (h1 : c < 256) : c / 64 = 0 ∧ widN c = 1 ∨ c / 64 = 1 ∧ widN c = 2 ∨ c / 64 = 2 ∧ widN c = 4 ∨ c / 64 = 3 ∧ widN c = 8 := by
  unfold widN
  rcases (show c / 64 = 0 ∨ c / 64 = 1 ∨ c / 64 = 2 ∨ c / 64 = 3 by omega) with h | h | h | h <;> simp [h]

set_option maxHeartbeats 3200000 in
theorem framesFirst_main (va za : Option Addr) (vc zc : Nat) (xs zs : List Int) (a : Nat) (w : World) (hp : 0 < w.heap.size) (HT : Hid (Tab w)) (HR : Hid (Rd .u8 w (.slice va xs.length vc) xs)) (HS : Hid (Rd .u8 w (.slice za zs.length zc) zs)) (HX : Hid (Bts xs)) (HY : Hid (Bts zs))
    (AL : Hid (∀ V, Below w.heap.size w V → Calls Tryd.prog 18 #[] V (Yes V))) (hz : zs.length ≤ 140737488351232) (hd : decL xs = .error (5, (a : Int)))
    (HD : Hid (Calls Tryd.prog 19 #[.slice va xs.length vc] w (DecIs w (.error (5, (a : Int)))))) (ha : a < xs.length) :
    Calls Tryd.prog 7 #[.slice va xs.length vc, .slice za zs.length zc] w (Yes w) := by
  have hsh := decL_short hd
  obtain ⟨b, o, rfl, hvc, hvm, hb, hcell⟩ : ∃ b o, va = some ⟨b, o, none⟩ ∧ xs.length ≤ vc ∧ vc ≤ maxLen ∧ b < w.heap.size ∧ w.cell? ⟨b, o + a, none⟩ = some (.int .u8 (xs.getD a 0)) := by
    rcases HR.out with ⟨h, _⟩ | ⟨_, b, o, c, q, h2, h3, h4, h5⟩
    · rw [h] at ha; simp at ha
    · simp only [Value.slice.injEq] at q
      obtain ⟨rfl, _, rfl⟩ := q
      exact ⟨b, o, rfl, h2, h3, h4, h5 a ha⟩
  have hcr := getD_bts HX.out a
  have hloc : Hid (a + widN (xs.getD a 0) ≤ xs.length → a + widN (xs.getD a 0) + zs.length ≤ 1200 → decL (xs.take (a + widN (xs.getD a 0)) ++ zs) = .error (5, (a : Int))) := decL_loc hd
  have hwc := wid_cases hcr.1 hcr.2
  clear hd
  generalize hc : xs.getD a 0 = c at hcell hcr hloc hwc
  clear hc
  have t2 : decide ((a : Int) < 0) = false := decide_eq_false (by omega)
  have t3 : decide ((xs.length : Int) ≤ a) = false := decide_eq_false (by omega)
  obtain ⟨hc0, hc1⟩ := hcr
  generalize hk : widN c = k at hloc hwc
  clear hk
  have hk8 : k ≤ 8 := by omega
  go_enter Tryd.func7, Tryd.ntmps7
  go_wp2_with fail
  refine HD.out.mono ?_
  rintro e w1 ⟨b1, rfl⟩
  have B1 : Below w.heap.size w (w1.alloc (.cells #[.int .i64 5, .int .i64 a] 37)) := b1.alloc b1.size _
  have hcell1 := (B1.cell (p := ⟨b, o + a, none⟩) hb).trans hcell
  have z1 := b1.size
  go_wp2_with fail
  rcases hwc with ⟨hq, rfl⟩ | ⟨hq, rfl⟩ | ⟨hq, rfl⟩ | ⟨hq, rfl⟩
  · go_quiet (fail)
    have B2 : Below w.heap.size w ((w1.alloc (.cells #[.int .i64 5, .int .i64 a] 37)).drewN nq) := below_drewN B1 nq
    by_cases hlen : xs.length < a + 1
    · have d1 : decide ((xs.length : Int) < (a : Int) + 1) = true := decide_eq_true (by omega)
      go_wp2_with fail
      refine (AL.out _ B2).mono ?_
      rintro e w3 ⟨rfl, b3⟩
      go_wp2_with fail
      go_ret
      exact ⟨rfl, B2.trans (b3.mono B2.size)⟩
    have d1 : decide ((xs.length : Int) < (a : Int) + 1) = false := decide_eq_false (by omega)
    have hw2 : IntKind.i64.wrap ((a : Int) + 1 + zs.length) = (a : Int) + 1 + zs.length := wraps_i64' _ (by omega) (by omega)
    by_cases h12 : 1200 < a + 1 + zs.length
    · have d2 : decide (1200 < (a : Int) + 1 + zs.length) = true := decide_eq_true (by omega)
      go_wp2_with fail
      refine (AL.out _ B2).mono ?_
      rintro e w3 ⟨rfl, b3⟩
      go_wp2_with fail
      go_ret
      exact ⟨rfl, B2.trans (b3.mono B2.size)⟩
    have d2 : decide (1200 < (a : Int) + 1 + zs.length) = false := decide_eq_false (by omega)
    have hi1 : (0 : Int) ≤ (a : Int) + 1 := by omega
    have hi2 : (a : Int) + 1 ≤ (vc : Int) := by omega
    have HD2 : Hid (decL (xs.take (a + 1) ++ zs) = .error (5, (a : Int))) := hloc.out (by omega) (by omega)
    have z2 : w.heap.size ≤ ((w1.alloc (.cells #[.int .i64 5, .int .i64 a] 37)).drewN nq).heap.size := B2.size
    have CUT : Hid (Rd .u8 ((w1.alloc (.cells #[.int .i64 5, .int .i64 a] 37)).drewN nq) (.slice (some ⟨b, o, none⟩) (a + 1) vc) (xs.take (a + 1))) := Rd.cut (HR.out.below B2) 0 (a + 1) (by omega) (some ⟨b, o, none⟩) (fun _ => rfl) (by simp)
    have l1 : Hid (([] : List Int).length + (xs.take (a + 1)).length ≤ 1200) := by show _ ≤ _; rw [List.length_take]; simp; omega
    have l2 : Hid (([] ++ xs.take (a + 1)).length + zs.length ≤ 1200) := by show _ ≤ _; rw [List.nil_append, List.length_take]; omega
    have nob : ∀ (B k : Nat), (Value.slice none 0 0).ownBlock = some k → B ≤ k := fun B k h => by cases h
    have HS2 := Lib.hid (HS.out.below B2)
    clear hlen h12
    go_wp2_with (first
      | (at_builtin; (refine wpList_append_rd _ rfl (.const (.slice none 0 0)) (.tmp 56) 23 rfl elemU8 Tryd.underlying23 ((w1.alloc (.cells #[.int .i64 5, .int .i64 a] 37)).drewN nq).heap.size (.slice none 0 0) [] rfl (Own.nil _ _ _ _) (.slice (some ⟨b, o, none⟩) (a + 1) vc) (xs.take (a + 1)) rfl CUT.out ?_ ?_ ?_ ?_; (have := l1.out; omega); (have := l1.out; unfold maxLen; omega); (exact Nat.le_refl _); intro v3 w3 o3 g3; have b3 := Below.grown (Below.refl _ ((w1.alloc (.cells #[.int .i64 5, .int .i64 a] 37)).drewN nq)) g3 (Nat.le_refl _) (nob _); have z3 := b3.size; have O3 := HS2.out.below (Below.grown (Below.refl _ ((w1.alloc (.cells #[.int .i64 5, .int .i64 a] 37)).drewN nq)) g3 (Nat.le_refl _) (nob _))))
      | (at_builtin; (refine wpList_append_rd _ rfl (.tmp 57) (.tmp 58) 23 rfl elemU8 Tryd.underlying23 ((w1.alloc (.cells #[.int .i64 5, .int .i64 a] 37)).drewN nq).heap.size v3 ([] ++ xs.take (a + 1)) rfl o3 (.slice za zs.length zc) zs rfl O3 ?_ ?_ ?_ ?_; (have := l2.out; omega); (have := l2.out; unfold maxLen; omega); (exact z3); intro v4 w4 o4 g4; have b4 := b3.grown g4 z3 o3.blk; have z4 := b4.size)))
    have D4 := decode_any v4 ([] ++ xs.take (a + 1) ++ zs) w4 (HT.out.below (B2.trans (b4.mono z2)) hp) o4.rd (by rw [List.nil_append]; exact Bts.append (fun x hx => HX.out x (List.mem_of_mem_take hx)) HY.out)
    rw [List.nil_append, HD2.out] at D4
    refine D4.mono ?_
    rintro e w5 ⟨b5, rfl⟩
    have b45 := b4.trans (b5.mono z4)
    have B5 : Below w.heap.size w w5 := B2.trans (b45.mono z2)
    clear D4 o4 o3 g3 g4 O3 CUT
    have B6 : Below w.heap.size w (w5.alloc (.cells #[.int .i64 5, .int .i64 a] 37)) := B5.alloc B5.size _
    have hb1 : w1.heap.size < ((w1.alloc (.cells #[.int .i64 5, .int .i64 a] 37)).drewN nq).heap.size := by show _ < (World.alloc w1 _).heap.size; simp
    have q0 : (w5.alloc (.cells #[.int .i64 5, .int .i64 a] 37)).cell? ⟨w1.heap.size, 0, none⟩ = some (.int .i64 5) :=
      ((Below.alloc (b45) b45.size _).cell (p := ⟨w1.heap.size, 0, none⟩) hb1).trans (by show (World.alloc w1 _).cell? _ = _; rw [World.cell?_alloc_at _ _ _ _ rfl]; rfl)
    have q1 : (w5.alloc (.cells #[.int .i64 5, .int .i64 a] 37)).cell? ⟨w1.heap.size, 1, none⟩ = some (.int .i64 a) :=
      ((Below.alloc (b45) b45.size _).cell (p := ⟨w1.heap.size, 1, none⟩) hb1).trans (by show (World.alloc w1 _).cell? _ = _; rw [World.cell?_alloc_at _ _ _ _ rfl]; rfl)
    clear HD2 HS2 hloc
    go_wp2_with fail
    refine (AL.out _ B6).mono ?_
    rintro e w7 ⟨rfl, b7⟩
    go_wp2_with fail
    go_ret
    exact ⟨rfl, B6.trans (b7.mono B6.size)⟩
  · go_quiet (fail)
    have B2 : Below w.heap.size w ((w1.alloc (.cells #[.int .i64 5, .int .i64 a] 37)).drewN nq) := below_drewN B1 nq
    by_cases hlen : xs.length < a + 2
    · have d1 : decide ((xs.length : Int) < (a : Int) + 2) = true := decide_eq_true (by omega)
      go_wp2_with fail
      refine (AL.out _ B2).mono ?_
      rintro e w3 ⟨rfl, b3⟩
      go_wp2_with fail
      go_ret
      exact ⟨rfl, B2.trans (b3.mono B2.size)⟩
    have d1 : decide ((xs.length : Int) < (a : Int) + 2) = false := decide_eq_false (by omega)
    have hw2 : IntKind.i64.wrap ((a : Int) + 2 + zs.length) = (a : Int) + 2 + zs.length := wraps_i64' _ (by omega) (by omega)
    by_cases h12 : 1200 < a + 2 + zs.length
    · have d2 : decide (1200 < (a : Int) + 2 + zs.length) = true := decide_eq_true (by omega)
      go_wp2_with fail
      refine (AL.out _ B2).mono ?_
      rintro e w3 ⟨rfl, b3⟩
      go_wp2_with fail
      go_ret
      exact ⟨rfl, B2.trans (b3.mono B2.size)⟩
    have d2 : decide (1200 < (a : Int) + 2 + zs.length) = false := decide_eq_false (by omega)
    have hi1 : (0 : Int) ≤ (a : Int) + 2 := by omega
    have hi2 : (a : Int) + 2 ≤ (vc : Int) := by omega
    have HD2 : Hid (decL (xs.take (a + 2) ++ zs) = .error (5, (a : Int))) := hloc.out (by omega) (by omega)
    have z2 : w.heap.size ≤ ((w1.alloc (.cells #[.int .i64 5, .int .i64 a] 37)).drewN nq).heap.size := B2.size
    have CUT : Hid (Rd .u8 ((w1.alloc (.cells #[.int .i64 5, .int .i64 a] 37)).drewN nq) (.slice (some ⟨b, o, none⟩) (a + 2) vc) (xs.take (a + 2))) := Rd.cut (HR.out.below B2) 0 (a + 2) (by omega) (some ⟨b, o, none⟩) (fun _ => rfl) (by simp)
    have l1 : Hid (([] : List Int).length + (xs.take (a + 2)).length ≤ 1200) := by show _ ≤ _; rw [List.length_take]; simp; omega
    have l2 : Hid (([] ++ xs.take (a + 2)).length + zs.length ≤ 1200) := by show _ ≤ _; rw [List.nil_append, List.length_take]; omega
    have nob : ∀ (B k : Nat), (Value.slice none 0 0).ownBlock = some k → B ≤ k := fun B k h => by cases h
    have HS2 := Lib.hid (HS.out.below B2)
    clear hlen h12
    go_wp2_with (first
      | (at_builtin; (refine wpList_append_rd _ rfl (.const (.slice none 0 0)) (.tmp 56) 23 rfl elemU8 Tryd.underlying23 ((w1.alloc (.cells #[.int .i64 5, .int .i64 a] 37)).drewN nq).heap.size (.slice none 0 0) [] rfl (Own.nil _ _ _ _) (.slice (some ⟨b, o, none⟩) (a + 2) vc) (xs.take (a + 2)) rfl CUT.out ?_ ?_ ?_ ?_; (have := l1.out; omega); (have := l1.out; unfold maxLen; omega); (exact Nat.le_refl _); intro v3 w3 o3 g3; have b3 := Below.grown (Below.refl _ ((w1.alloc (.cells #[.int .i64 5, .int .i64 a] 37)).drewN nq)) g3 (Nat.le_refl _) (nob _); have z3 := b3.size; have O3 := HS2.out.below (Below.grown (Below.refl _ ((w1.alloc (.cells #[.int .i64 5, .int .i64 a] 37)).drewN nq)) g3 (Nat.le_refl _) (nob _))))
      | (at_builtin; (refine wpList_append_rd _ rfl (.tmp 57) (.tmp 58) 23 rfl elemU8 Tryd.underlying23 ((w1.alloc (.cells #[.int .i64 5, .int .i64 a] 37)).drewN nq).heap.size v3 ([] ++ xs.take (a + 2)) rfl o3 (.slice za zs.length zc) zs rfl O3 ?_ ?_ ?_ ?_; (have := l2.out; omega); (have := l2.out; unfold maxLen; omega); (exact z3); intro v4 w4 o4 g4; have b4 := b3.grown g4 z3 o3.blk; have z4 := b4.size)))
    have D4 := decode_any v4 ([] ++ xs.take (a + 2) ++ zs) w4 (HT.out.below (B2.trans (b4.mono z2)) hp) o4.rd (by rw [List.nil_append]; exact Bts.append (fun x hx => HX.out x (List.mem_of_mem_take hx)) HY.out)
    rw [List.nil_append, HD2.out] at D4
    refine D4.mono ?_
    rintro e w5 ⟨b5, rfl⟩
    have b45 := b4.trans (b5.mono z4)
    have B5 : Below w.heap.size w w5 := B2.trans (b45.mono z2)
    clear D4 o4 o3 g3 g4 O3 CUT
    have B6 : Below w.heap.size w (w5.alloc (.cells #[.int .i64 5, .int .i64 a] 37)) := B5.alloc B5.size _
    have hb1 : w1.heap.size < ((w1.alloc (.cells #[.int .i64 5, .int .i64 a] 37)).drewN nq).heap.size := by show _ < (World.alloc w1 _).heap.size; simp
    have q0 : (w5.alloc (.cells #[.int .i64 5, .int .i64 a] 37)).cell? ⟨w1.heap.size, 0, none⟩ = some (.int .i64 5) :=
      ((Below.alloc (b45) b45.size _).cell (p := ⟨w1.heap.size, 0, none⟩) hb1).trans (by show (World.alloc w1 _).cell? _ = _; rw [World.cell?_alloc_at _ _ _ _ rfl]; rfl)
    have q1 : (w5.alloc (.cells #[.int .i64 5, .int .i64 a] 37)).cell? ⟨w1.heap.size, 1, none⟩ = some (.int .i64 a) :=
      ((Below.alloc (b45) b45.size _).cell (p := ⟨w1.heap.size, 1, none⟩) hb1).trans (by show (World.alloc w1 _).cell? _ = _; rw [World.cell?_alloc_at _ _ _ _ rfl]; rfl)
    clear HD2 HS2 hloc
    go_wp2_with fail
    refine (AL.out _ B6).mono ?_
    rintro e w7 ⟨rfl, b7⟩
    go_wp2_with fail
    go_ret
    exact ⟨rfl, B6.trans (b7.mono B6.size)⟩
  · go_quiet (fail)
    have B2 : Below w.heap.size w ((w1.alloc (.cells #[.int .i64 5, .int .i64 a] 37)).drewN nq) := below_drewN B1 nq
    by_cases hlen : xs.length < a + 4
    · have d1 : decide ((xs.length : Int) < (a : Int) + 4) = true := decide_eq_true (by omega)
      go_wp2_with fail
      refine (AL.out _ B2).mono ?_
      rintro e w3 ⟨rfl, b3⟩
      go_wp2_with fail
      go_ret
      exact ⟨rfl, B2.trans (b3.mono B2.size)⟩
    have d1 : decide ((xs.length : Int) < (a : Int) + 4) = false := decide_eq_false (by omega)
    have hw2 : IntKind.i64.wrap ((a : Int) + 4 + zs.length) = (a : Int) + 4 + zs.length := wraps_i64' _ (by omega) (by omega)
    by_cases h12 : 1200 < a + 4 + zs.length
    · have d2 : decide (1200 < (a : Int) + 4 + zs.length) = true := decide_eq_true (by omega)
      go_wp2_with fail
      refine (AL.out _ B2).mono ?_
      rintro e w3 ⟨rfl, b3⟩
      go_wp2_with fail
      go_ret
      exact ⟨rfl, B2.trans (b3.mono B2.size)⟩
    have d2 : decide (1200 < (a : Int) + 4 + zs.length) = false := decide_eq_false (by omega)
    have hi1 : (0 : Int) ≤ (a : Int) + 4 := by omega
    have hi2 : (a : Int) + 4 ≤ (vc : Int) := by omega
    have HD2 : Hid (decL (xs.take (a + 4) ++ zs) = .error (5, (a : Int))) := hloc.out (by omega) (by omega)
    have z2 : w.heap.size ≤ ((w1.alloc (.cells #[.int .i64 5, .int .i64 a] 37)).drewN nq).heap.size := B2.size
    have CUT : Hid (Rd .u8 ((w1.alloc (.cells #[.int .i64 5, .int .i64 a] 37)).drewN nq) (.slice (some ⟨b, o, none⟩) (a + 4) vc) (xs.take (a + 4))) := Rd.cut (HR.out.below B2) 0 (a + 4) (by omega) (some ⟨b, o, none⟩) (fun _ => rfl) (by simp)
    have l1 : Hid (([] : List Int).length + (xs.take (a + 4)).length ≤ 1200) := by show _ ≤ _; rw [List.length_take]; simp; omega
    have l2 : Hid (([] ++ xs.take (a + 4)).length + zs.length ≤ 1200) := by show _ ≤ _; rw [List.nil_append, List.length_take]; omega
    have nob : ∀ (B k : Nat), (Value.slice none 0 0).ownBlock = some k → B ≤ k := fun B k h => by cases h
    have HS2 := Lib.hid (HS.out.below B2)
    clear hlen h12
    go_wp2_with (first
      | (at_builtin; (refine wpList_append_rd _ rfl (.const (.slice none 0 0)) (.tmp 56) 23 rfl elemU8 Tryd.underlying23 ((w1.alloc (.cells #[.int .i64 5, .int .i64 a] 37)).drewN nq).heap.size (.slice none 0 0) [] rfl (Own.nil _ _ _ _) (.slice (some ⟨b, o, none⟩) (a + 4) vc) (xs.take (a + 4)) rfl CUT.out ?_ ?_ ?_ ?_; (have := l1.out; omega); (have := l1.out; unfold maxLen; omega); (exact Nat.le_refl _); intro v3 w3 o3 g3; have b3 := Below.grown (Below.refl _ ((w1.alloc (.cells #[.int .i64 5, .int .i64 a] 37)).drewN nq)) g3 (Nat.le_refl _) (nob _); have z3 := b3.size; have O3 := HS2.out.below (Below.grown (Below.refl _ ((w1.alloc (.cells #[.int .i64 5, .int .i64 a] 37)).drewN nq)) g3 (Nat.le_refl _) (nob _))))
      | (at_builtin; (refine wpList_append_rd _ rfl (.tmp 57) (.tmp 58) 23 rfl elemU8 Tryd.underlying23 ((w1.alloc (.cells #[.int .i64 5, .int .i64 a] 37)).drewN nq).heap.size v3 ([] ++ xs.take (a + 4)) rfl o3 (.slice za zs.length zc) zs rfl O3 ?_ ?_ ?_ ?_; (have := l2.out; omega); (have := l2.out; unfold maxLen; omega); (exact z3); intro v4 w4 o4 g4; have b4 := b3.grown g4 z3 o3.blk; have z4 := b4.size)))
    have D4 := decode_any v4 ([] ++ xs.take (a + 4) ++ zs) w4 (HT.out.below (B2.trans (b4.mono z2)) hp) o4.rd (by rw [List.nil_append]; exact Bts.append (fun x hx => HX.out x (List.mem_of_mem_take hx)) HY.out)
    rw [List.nil_append, HD2.out] at D4
    refine D4.mono ?_
    rintro e w5 ⟨b5, rfl⟩
    have b45 := b4.trans (b5.mono z4)
    have B5 : Below w.heap.size w w5 := B2.trans (b45.mono z2)
    clear D4 o4 o3 g3 g4 O3 CUT
    have B6 : Below w.heap.size w (w5.alloc (.cells #[.int .i64 5, .int .i64 a] 37)) := B5.alloc B5.size _
    have hb1 : w1.heap.size < ((w1.alloc (.cells #[.int .i64 5, .int .i64 a] 37)).drewN nq).heap.size := by show _ < (World.alloc w1 _).heap.size; simp
    have q0 : (w5.alloc (.cells #[.int .i64 5, .int .i64 a] 37)).cell? ⟨w1.heap.size, 0, none⟩ = some (.int .i64 5) :=
      ((Below.alloc (b45) b45.size _).cell (p := ⟨w1.heap.size, 0, none⟩) hb1).trans (by show (World.alloc w1 _).cell? _ = _; rw [World.cell?_alloc_at _ _ _ _ rfl]; rfl)
    have q1 : (w5.alloc (.cells #[.int .i64 5, .int .i64 a] 37)).cell? ⟨w1.heap.size, 1, none⟩ = some (.int .i64 a) :=
      ((Below.alloc (b45) b45.size _).cell (p := ⟨w1.heap.size, 1, none⟩) hb1).trans (by show (World.alloc w1 _).cell? _ = _; rw [World.cell?_alloc_at _ _ _ _ rfl]; rfl)
    clear HD2 HS2 hloc
    go_wp2_with fail
    refine (AL.out _ B6).mono ?_
    rintro e w7 ⟨rfl, b7⟩
    go_wp2_with fail
    go_ret
    exact ⟨rfl, B6.trans (b7.mono B6.size)⟩
  · go_quiet (fail)
    have B2 : Below w.heap.size w ((w1.alloc (.cells #[.int .i64 5, .int .i64 a] 37)).drewN nq) := below_drewN B1 nq
    by_cases hlen : xs.length < a + 8
    · have d1 : decide ((xs.length : Int) < (a : Int) + 8) = true := decide_eq_true (by omega)
      go_wp2_with fail
      refine (AL.out _ B2).mono ?_
      rintro e w3 ⟨rfl, b3⟩
      go_wp2_with fail
      go_ret
      exact ⟨rfl, B2.trans (b3.mono B2.size)⟩
    have d1 : decide ((xs.length : Int) < (a : Int) + 8) = false := decide_eq_false (by omega)
    have hw2 : IntKind.i64.wrap ((a : Int) + 8 + zs.length) = (a : Int) + 8 + zs.length := wraps_i64' _ (by omega) (by omega)
    by_cases h12 : 1200 < a + 8 + zs.length
    · have d2 : decide (1200 < (a : Int) + 8 + zs.length) = true := decide_eq_true (by omega)
      go_wp2_with fail
      refine (AL.out _ B2).mono ?_
      rintro e w3 ⟨rfl, b3⟩
      go_wp2_with fail
      go_ret
      exact ⟨rfl, B2.trans (b3.mono B2.size)⟩
    have d2 : decide (1200 < (a : Int) + 8 + zs.length) = false := decide_eq_false (by omega)
    have hi1 : (0 : Int) ≤ (a : Int) + 8 := by omega
    have hi2 : (a : Int) + 8 ≤ (vc : Int) := by omega
    have HD2 : Hid (decL (xs.take (a + 8) ++ zs) = .error (5, (a : Int))) := hloc.out (by omega) (by omega)
    have z2 : w.heap.size ≤ ((w1.alloc (.cells #[.int .i64 5, .int .i64 a] 37)).drewN nq).heap.size := B2.size
    have CUT : Hid (Rd .u8 ((w1.alloc (.cells #[.int .i64 5, .int .i64 a] 37)).drewN nq) (.slice (some ⟨b, o, none⟩) (a + 8) vc) (xs.take (a + 8))) := Rd.cut (HR.out.below B2) 0 (a + 8) (by omega) (some ⟨b, o, none⟩) (fun _ => rfl) (by simp)
    have l1 : Hid (([] : List Int).length + (xs.take (a + 8)).length ≤ 1200) := by show _ ≤ _; rw [List.length_take]; simp; omega
    have l2 : Hid (([] ++ xs.take (a + 8)).length + zs.length ≤ 1200) := by show _ ≤ _; rw [List.nil_append, List.length_take]; omega
    have nob : ∀ (B k : Nat), (Value.slice none 0 0).ownBlock = some k → B ≤ k := fun B k h => by cases h
    have HS2 := Lib.hid (HS.out.below B2)
    clear hlen h12
    go_wp2_with (first
      | (at_builtin; (refine wpList_append_rd _ rfl (.const (.slice none 0 0)) (.tmp 56) 23 rfl elemU8 Tryd.underlying23 ((w1.alloc (.cells #[.int .i64 5, .int .i64 a] 37)).drewN nq).heap.size (.slice none 0 0) [] rfl (Own.nil _ _ _ _) (.slice (some ⟨b, o, none⟩) (a + 8) vc) (xs.take (a + 8)) rfl CUT.out ?_ ?_ ?_ ?_; (have := l1.out; omega); (have := l1.out; unfold maxLen; omega); (exact Nat.le_refl _); intro v3 w3 o3 g3; have b3 := Below.grown (Below.refl _ ((w1.alloc (.cells #[.int .i64 5, .int .i64 a] 37)).drewN nq)) g3 (Nat.le_refl _) (nob _); have z3 := b3.size; have O3 := HS2.out.below (Below.grown (Below.refl _ ((w1.alloc (.cells #[.int .i64 5, .int .i64 a] 37)).drewN nq)) g3 (Nat.le_refl _) (nob _))))
      | (at_builtin; (refine wpList_append_rd _ rfl (.tmp 57) (.tmp 58) 23 rfl elemU8 Tryd.underlying23 ((w1.alloc (.cells #[.int .i64 5, .int .i64 a] 37)).drewN nq).heap.size v3 ([] ++ xs.take (a + 8)) rfl o3 (.slice za zs.length zc) zs rfl O3 ?_ ?_ ?_ ?_; (have := l2.out; omega); (have := l2.out; unfold maxLen; omega); (exact z3); intro v4 w4 o4 g4; have b4 := b3.grown g4 z3 o3.blk; have z4 := b4.size)))
    have D4 := decode_any v4 ([] ++ xs.take (a + 8) ++ zs) w4 (HT.out.below (B2.trans (b4.mono z2)) hp) o4.rd (by rw [List.nil_append]; exact Bts.append (fun x hx => HX.out x (List.mem_of_mem_take hx)) HY.out)
    rw [List.nil_append, HD2.out] at D4
    refine D4.mono ?_
    rintro e w5 ⟨b5, rfl⟩
    have b45 := b4.trans (b5.mono z4)
    have B5 : Below w.heap.size w w5 := B2.trans (b45.mono z2)
    clear D4 o4 o3 g3 g4 O3 CUT
    have B6 : Below w.heap.size w (w5.alloc (.cells #[.int .i64 5, .int .i64 a] 37)) := B5.alloc B5.size _
    have hb1 : w1.heap.size < ((w1.alloc (.cells #[.int .i64 5, .int .i64 a] 37)).drewN nq).heap.size := by show _ < (World.alloc w1 _).heap.size; simp
    have q0 : (w5.alloc (.cells #[.int .i64 5, .int .i64 a] 37)).cell? ⟨w1.heap.size, 0, none⟩ = some (.int .i64 5) :=
      ((Below.alloc (b45) b45.size _).cell (p := ⟨w1.heap.size, 0, none⟩) hb1).trans (by show (World.alloc w1 _).cell? _ = _; rw [World.cell?_alloc_at _ _ _ _ rfl]; rfl)
    have q1 : (w5.alloc (.cells #[.int .i64 5, .int .i64 a] 37)).cell? ⟨w1.heap.size, 1, none⟩ = some (.int .i64 a) :=
      ((Below.alloc (b45) b45.size _).cell (p := ⟨w1.heap.size, 1, none⟩) hb1).trans (by show (World.alloc w1 _).cell? _ = _; rw [World.cell?_alloc_at _ _ _ _ rfl]; rfl)
    clear HD2 HS2 hloc
    go_wp2_with fail
    refine (AL.out _ B6).mono ?_
    rintro e w7 ⟨rfl, b7⟩
    go_wp2_with fail
    go_ret
    exact ⟨rfl, B6.trans (b7.mono B6.size)⟩

set_option maxHeartbeats 3200000 in
theorem framesFirst_walk (v z : Value) (xs zs : List Int) (w : World) (ht : Tab w) (hr : Rd .u8 w v xs) (hs : Rd .u8 w z zs) (hx : Bts xs) (hy : Bts zs) (hz : zs.length ≤ 140737488351232) : Calls Tryd.prog 7 #[v, z] w (Yes w) := by
  have hp := ht.pos
  have HT := Lib.hid ht
  have HR := Lib.hid hr
  have HS := Lib.hid hs
  have HX := Lib.hid hx
  have HY := Lib.hid hy
  have HD := Lib.hid (decode_any v xs w ht hr hx)
  obtain ⟨va, vc, rfl, hv1, hv2⟩ : ∃ a c, v = .slice a xs.length c ∧ xs.length ≤ c ∧ c ≤ maxLen := by
    rcases hr with ⟨rfl, a, c, rfl, h1, h2⟩ | ⟨_, b, o, c, rfl, h1, h2, _⟩
    · exact ⟨a, c, rfl, Nat.zero_le _, h1⟩
    · exact ⟨_, c, rfl, h1, h2⟩
  obtain ⟨za, zc, rfl⟩ := hs.isSlice
  clear ht hr hs hx hy
  have AL : Hid (∀ V, Below w.heap.size w V → Calls Tryd.prog 18 #[] V (Yes V)) := fun V hV => alive_any V (HT.out.below hV hp)
  cases hd : decL xs with
  | ok fs =>
    rw [hd] at HD
    go_enter Tryd.func7, Tryd.ntmps7
    go_wp2_with fail
    refine HD.out.mono ?_
    rintro e w1 ⟨b1, u, rfl, o1⟩
    obtain ⟨ua, uc, rfl⟩ := o1.len
    clear o1
    have B1 : Below w.heap.size w (w1.alloc (.cells #[.int .i64 0, .int .i64 0] 37)) := b1.alloc b1.size _
    go_wp2_with fail
    refine (AL.out _ B1).mono ?_
    rintro e w3 ⟨rfl, b3⟩
    go_wp2_with fail
    go_ret
    exact ⟨rfl, B1.trans (b3.mono B1.size)⟩
  | error q =>
    obtain ⟨y, t⟩ := q
    rw [hd] at HD
    by_cases h5 : y = 5
    · subst h5
      by_cases hneg : t < 0
      · have t2 : decide (t < 0) = true := decide_eq_true hneg
        go_enter Tryd.func7, Tryd.ntmps7
        go_wp2_with fail
        refine HD.out.mono ?_
        rintro e w1 ⟨b1, rfl⟩
        have B1 : Below w.heap.size w (w1.alloc (.cells #[.int .i64 5, .int .i64 t] 37)) := b1.alloc b1.size _
        go_wp2_with fail
        refine (AL.out _ B1).mono ?_
        rintro e w3 ⟨rfl, b3⟩
        go_wp2_with fail
        go_ret
        exact ⟨rfl, B1.trans (b3.mono B1.size)⟩
      · by_cases hhi : (xs.length : Int) ≤ t
        · have t2 : decide (t < 0) = false := decide_eq_false hneg
          have t3 : decide ((xs.length : Int) ≤ t) = true := decide_eq_true hhi
          go_enter Tryd.func7, Tryd.ntmps7
          go_wp2_with fail
          refine HD.out.mono ?_
          rintro e w1 ⟨b1, rfl⟩
          have B1 : Below w.heap.size w (w1.alloc (.cells #[.int .i64 5, .int .i64 t] 37)) := b1.alloc b1.size _
          go_wp2_with fail
          refine (AL.out _ B1).mono ?_
          rintro e w3 ⟨rfl, b3⟩
          go_wp2_with fail
          go_ret
          exact ⟨rfl, B1.trans (b3.mono B1.size)⟩
        · obtain ⟨a, rfl⟩ := Int.eq_ofNat_of_zero_le (show 0 ≤ t by omega)
          exact framesFirst_main va za vc zc xs zs a w hp HT HR HS HX HY AL hz hd HD (by omega) 
    · have t1 : (y != 5) = true := by simpa using h5
      go_enter Tryd.func7, Tryd.ntmps7
      go_wp2_with fail
      refine HD.out.mono ?_
      rintro e w1 ⟨b1, rfl⟩
      have B1 : Below w.heap.size w (w1.alloc (.cells #[.int .i64 y, .int .i64 t] 37)) := b1.alloc b1.size _
      go_wp2_with fail
      refine (AL.out _ B1).mono ?_
      rintro e w3 ⟨rfl, b3⟩
      go_wp2_with fail
      go_ret
      exact ⟨rfl, B1.trans (b3.mono B1.size)⟩
end Go.Proofs.YtfkkimaebhjneaaDoor
