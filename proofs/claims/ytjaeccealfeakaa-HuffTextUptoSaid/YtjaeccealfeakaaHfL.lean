/- Walks of layer 12: Fields, the reference's Fields. -/
import Derived.Test.YtjaeccealfeakaaHfK
set_option maxRecDepth 100000
set_option linter.unusedSimpArgs false
set_option linter.unusedVariables false
namespace Go.Proofs.Ytjaeccealfeakaa
open Go.RowKit

/-- WHAT BOTH ANSWER -/
def FldIs (w : World) (e : Ending) (w' : World) : Prop := ∃ v, e = .returned v ∧ Own .i64 3 w' w.heap.size v fldL ∧ Below w.heap.size w w'
def fldP (k : Nat) : List Int := (List.range k).map fun n => (fldN n : Int)
theorem fldP_succ (k : Nat) : fldP (k + 1) = fldP k ++ [(fldN k : Int)] := by simp [fldP, List.range_succ]

set_option maxHeartbeats 8000000 in
theorem rfields_any (w : World) : Calls Try.prog 18 #[] w (FldIs w) := by
  have HF : Hid (∀ (c : Nat) (b : Bool), decide (c ∈ chars sFew) = b → c < 256 → ∀ W : World, Calls Try.prog 28 #[.string sFew, .int .u8 (c : Int)] W fun e w' => e = .returned (.bool b) ∧ W = w') := fun c b h hc W => among_b sFew c b h (by decide) hc W
  have HL : Hid (∀ (c : Nat) (b : Bool), decide (c ∈ chars sLong) = b → c < 256 → ∀ W : World, Calls Try.prog 28 #[.string sLong, .int .u8 (c : Int)] W fun e w' => e = .returned (.bool b) ∧ W = w') := fun c b h hc W => among_b sLong c b h (by decide) hc W
  go_enter Try.func18, Try.ntmps18
  go_wp2_with fail
  go_loopw [1, 2] (fun q i wr => ∃ k : Nat, k ≤ 256 ∧ i = .int .i64 (k : Int) ∧ Own .i64 3 wr w.heap.size q (fldP k) ∧ Below w.heap.size w wr) (fun _ i _ => 256 - (intOf i).toNat)
  case atStart => exact ⟨0, by omega, rfl, Own.nil _ _ _ _, Below.refl _ _⟩
  case round =>
    obtain ⟨k, hk, rfl, ho, hb⟩ := hrel
    have OO := Lib.hid ho
    have BB := Lib.hid hb
    have hz := hb.size
    clear ho hb
    by_cases hlt : k < 256
    · have d256 : decide ((k : Int) < 256) = true := decide_eq_true (by omega)
      have hkw : IntKind.u8.wrap (k : Int) = (k : Int) := by rw [IntKind.wrap_u8]; omega
      have HLN : Hid ((fldP k).length = k) := by show _ = _; simp [fldP]
      have HOO : Hid (∀ x : Int, Hid ((fldN k : Int) = x) → fldP k ++ [x] = fldP (k + 1)) := fun x hx => by rw [fldP_succ, hx.out]
      by_cases hf : k ∈ chars sFew
      · have HV := Lib.hid (HOO.out 5 (by show _ = _; rw [fldN, if_pos hf]; rfl))
        have H1 := Lib.hid (HF.out k true (decide_eq_true hf) hlt)
        clear hf HOO
        go_wp2_with (first
          | (go_at_call 28; refine (H1.out _).mono ?_; rintro e w' ⟨rfl, rfl⟩)
          | (at_builtin; ((with_reducible refine wpList_append_rd _ ?_ (.tmp 16) (.tmp 17) 22 ?_ elemInt Try.underlying22 w.heap.size u1 (fldP k) ?_ (OO.out.alloc _) (.slice (some ⟨wr.heap.size, 0, none⟩) 1 1) [5] ?_ (Rd.one .i64 3 wr _) ?_ ?_ ?_ ?_)); rfl; rfl; rfl; rfl; (rw [HLN.out]; simp; omega); (rw [HLN.out]; simp [maxLen]; omega); (simp; omega); intro v9 w9 o9 g9; have O9 := Lib.hid o9; have G9 := Lib.hid g9; clear o9 g9))
        go_roundw
        case rel => exact ⟨k + 1, by omega, by go_num, by rw [← HV.out]; exact O9.out, (BB.out.alloc hz _).grown G9.out (by simp; omega) OO.out.blk⟩
        case measure => simp [intOf]; omega
      · have H1 := Lib.hid (HF.out k false (decide_eq_false hf) hlt)
        have letter : (97 ≤ k ∧ k ≤ 122) → Hid ((fldN k : Int) = 7) := fun h => by show _ = _; rw [fldN, if_neg hf, if_pos (.inl h)]; rfl
        have digit : (48 ≤ k ∧ k ≤ 57) → Hid ((fldN k : Int) = 7) := fun h => by show _ = _; rw [fldN, if_neg hf, if_pos (.inr (.inl h))]; rfl
        have other : k ∈ chars sLong → Hid ((fldN k : Int) = 7) := fun h => by show _ = _; rw [fldN, if_neg hf, if_pos (.inr (.inr h))]; rfl
        have seen : ¬ (97 ≤ k ∧ k ≤ 122) → ¬ (48 ≤ k ∧ k ≤ 57) → ¬ k ∈ chars sLong → (33 ≤ k ∧ k ≤ 126) → Hid ((fldN k : Int) = 9) := fun a b c h => by show _ = _; rw [fldN, if_neg hf, if_neg (by rintro (x | x | x) <;> contradiction), if_pos h]; rfl
        have unseen : ¬ (97 ≤ k ∧ k ≤ 122) → ¬ (48 ≤ k ∧ k ≤ 57) → ¬ k ∈ chars sLong → ¬ (33 ≤ k ∧ k ≤ 126) → Hid ((fldN k : Int) = 13) := fun a b c h => by show _ = _; rw [fldN, if_neg hf, if_neg (by rintro (x | x | x) <;> contradiction), if_neg h]; rfl
        have LET := Lib.hid letter
        have DIG := Lib.hid digit
        have OTH := Lib.hid other
        have SEE := Lib.hid seen
        have UNS := Lib.hid unseen
        clear letter digit other seen unseen hf
        by_cases ha : 97 ≤ k ∧ k ≤ 122
        · have e1 : decide ((k : Int) ≥ 97) = true := decide_eq_true (by omega)
          have e2 : decide ((k : Int) ≤ 122) = true := decide_eq_true (by omega)
          have HV := Lib.hid (HOO.out 7 (LET.out ha))
          clear LET DIG OTH SEE UNS HOO ha
          go_wp2_with (first
            | (go_at_call 28; refine (H1.out _).mono ?_; rintro e w' ⟨rfl, rfl⟩)
            | (at_builtin; ((with_reducible refine wpList_append_rd _ ?_ (.tmp 38) (.tmp 39) 22 ?_ elemInt Try.underlying22 w.heap.size u1 (fldP k) ?_ (OO.out.alloc _) (.slice (some ⟨wr.heap.size, 0, none⟩) 1 1) [7] ?_ (Rd.one .i64 3 wr _) ?_ ?_ ?_ ?_)); rfl; rfl; rfl; rfl; (rw [HLN.out]; simp; omega); (rw [HLN.out]; simp [maxLen]; omega); (simp; omega); intro v9 w9 o9 g9; have O9 := Lib.hid o9; have G9 := Lib.hid g9; clear o9 g9))
          go_roundw
          case rel => exact ⟨k + 1, by omega, by go_num, by rw [← HV.out]; exact O9.out, (BB.out.alloc hz _).grown G9.out (by simp; omega) OO.out.blk⟩
          case measure => simp [intOf]; omega
        · by_cases hd : 48 ≤ k ∧ k ≤ 57
          · have e1 : decide ((k : Int) ≥ 97) = false := decide_eq_false (by omega)
            have e3 : decide ((k : Int) ≥ 48) = true := decide_eq_true (by omega)
            have e4 : decide ((k : Int) ≤ 57) = true := decide_eq_true (by omega)
            have HV := Lib.hid (HOO.out 7 (DIG.out hd))
            clear LET DIG OTH SEE UNS HOO ha hd
            go_wp2_with (first
              | (go_at_call 28; refine (H1.out _).mono ?_; rintro e w' ⟨rfl, rfl⟩)
              | (at_builtin; ((with_reducible refine wpList_append_rd _ ?_ (.tmp 38) (.tmp 39) 22 ?_ elemInt Try.underlying22 w.heap.size u1 (fldP k) ?_ (OO.out.alloc _) (.slice (some ⟨wr.heap.size, 0, none⟩) 1 1) [7] ?_ (Rd.one .i64 3 wr _) ?_ ?_ ?_ ?_)); rfl; rfl; rfl; rfl; (rw [HLN.out]; simp; omega); (rw [HLN.out]; simp [maxLen]; omega); (simp; omega); intro v9 w9 o9 g9; have O9 := Lib.hid o9; have G9 := Lib.hid g9; clear o9 g9))
            go_roundw
            case rel => exact ⟨k + 1, by omega, by go_num, by rw [← HV.out]; exact O9.out, (BB.out.alloc hz _).grown G9.out (by simp; omega) OO.out.blk⟩
            case measure => simp [intOf]; omega
          · have hnd : ¬ (97 ≤ k ∧ k ≤ 122) ∧ ¬ (48 ≤ k ∧ k ≤ 57) := ⟨ha, hd⟩
            have HND := Lib.hid hnd
            have hc : (k < 48) ∨ (57 < k ∧ k < 97) ∨ (122 < k) := by omega
            clear ha hd hnd
            by_cases ho : k ∈ chars sLong
            · have HV := Lib.hid (HOO.out 7 (OTH.out ho))
              have H2 := Lib.hid (HL.out k true (decide_eq_true ho) hlt)
              clear LET DIG OTH SEE UNS HOO ho HND
              rcases hc with hc | hc | hc
              · have ea0 : decide ((k : Int) ≥ 97) = false := decide_eq_false (by omega)
                have eb1 : decide ((k : Int) ≥ 48) = false := decide_eq_false (by omega)
                go_wp2_with (first
                  | (go_at_call 28; first | ((with_reducible refine (H1.out _).mono ?_); rintro e w' ⟨rfl, rfl⟩) | ((with_reducible refine (H2.out _).mono ?_); rintro e w' ⟨rfl, rfl⟩))
                  | (at_builtin; ((with_reducible refine wpList_append_rd _ ?_ (.tmp 38) (.tmp 39) 22 ?_ elemInt Try.underlying22 w.heap.size u1 (fldP k) ?_ (OO.out.alloc _) (.slice (some ⟨wr.heap.size, 0, none⟩) 1 1) [7] ?_ (Rd.one .i64 3 wr _) ?_ ?_ ?_ ?_)); rfl; rfl; rfl; rfl; (rw [HLN.out]; simp; omega); (rw [HLN.out]; simp [maxLen]; omega); (simp; omega); intro v9 w9 o9 g9; have O9 := Lib.hid o9; have G9 := Lib.hid g9; clear o9 g9))
                go_roundw
                case rel => exact ⟨k + 1, by omega, by go_num, by rw [← HV.out]; exact O9.out, (BB.out.alloc hz _).grown G9.out (by simp; omega) OO.out.blk⟩
                case measure => simp [intOf]; omega
              · have ea0 : decide ((k : Int) ≥ 97) = false := decide_eq_false (by omega)
                have eb1 : decide ((k : Int) ≥ 48) = true := decide_eq_true (by omega)
                have ec2 : decide ((k : Int) ≤ 57) = false := decide_eq_false (by omega)
                go_wp2_with (first
                  | (go_at_call 28; first | ((with_reducible refine (H1.out _).mono ?_); rintro e w' ⟨rfl, rfl⟩) | ((with_reducible refine (H2.out _).mono ?_); rintro e w' ⟨rfl, rfl⟩))
                  | (at_builtin; ((with_reducible refine wpList_append_rd _ ?_ (.tmp 38) (.tmp 39) 22 ?_ elemInt Try.underlying22 w.heap.size u1 (fldP k) ?_ (OO.out.alloc _) (.slice (some ⟨wr.heap.size, 0, none⟩) 1 1) [7] ?_ (Rd.one .i64 3 wr _) ?_ ?_ ?_ ?_)); rfl; rfl; rfl; rfl; (rw [HLN.out]; simp; omega); (rw [HLN.out]; simp [maxLen]; omega); (simp; omega); intro v9 w9 o9 g9; have O9 := Lib.hid o9; have G9 := Lib.hid g9; clear o9 g9))
                go_roundw
                case rel => exact ⟨k + 1, by omega, by go_num, by rw [← HV.out]; exact O9.out, (BB.out.alloc hz _).grown G9.out (by simp; omega) OO.out.blk⟩
                case measure => simp [intOf]; omega
              · have ea0 : decide ((k : Int) ≥ 97) = true := decide_eq_true (by omega)
                have ed1 : decide ((k : Int) ≤ 122) = false := decide_eq_false (by omega)
                have eb2 : decide ((k : Int) ≥ 48) = true := decide_eq_true (by omega)
                have ec3 : decide ((k : Int) ≤ 57) = false := decide_eq_false (by omega)
                go_wp2_with (first
                  | (go_at_call 28; first | ((with_reducible refine (H1.out _).mono ?_); rintro e w' ⟨rfl, rfl⟩) | ((with_reducible refine (H2.out _).mono ?_); rintro e w' ⟨rfl, rfl⟩))
                  | (at_builtin; ((with_reducible refine wpList_append_rd _ ?_ (.tmp 38) (.tmp 39) 22 ?_ elemInt Try.underlying22 w.heap.size u1 (fldP k) ?_ (OO.out.alloc _) (.slice (some ⟨wr.heap.size, 0, none⟩) 1 1) [7] ?_ (Rd.one .i64 3 wr _) ?_ ?_ ?_ ?_)); rfl; rfl; rfl; rfl; (rw [HLN.out]; simp; omega); (rw [HLN.out]; simp [maxLen]; omega); (simp; omega); intro v9 w9 o9 g9; have O9 := Lib.hid o9; have G9 := Lib.hid g9; clear o9 g9))
                go_roundw
                case rel => exact ⟨k + 1, by omega, by go_num, by rw [← HV.out]; exact O9.out, (BB.out.alloc hz _).grown G9.out (by simp; omega) OO.out.blk⟩
                case measure => simp [intOf]; omega
            · have H2 := Lib.hid (HL.out k false (decide_eq_false ho) hlt)
              by_cases h33 : 33 ≤ k ∧ k ≤ 126
              · have HV := Lib.hid (HOO.out 9 (SEE.out HND.out.1 HND.out.2 ho h33))
                clear LET DIG OTH SEE UNS HOO ho HND
                rcases hc with hc | hc | hc
                · have ea0 : decide ((k : Int) ≥ 97) = false := decide_eq_false (by omega)
                  have eb1 : decide ((k : Int) ≥ 48) = false := decide_eq_false (by omega)
                  have ef2 : decide ((k : Int) ≥ 33) = true := decide_eq_true (by omega)
                  have eg3 : decide ((k : Int) ≤ 126) = true := decide_eq_true (by omega)
                  go_wp2_with (first
                    | (go_at_call 28; first | ((with_reducible refine (H1.out _).mono ?_); rintro e w' ⟨rfl, rfl⟩) | ((with_reducible refine (H2.out _).mono ?_); rintro e w' ⟨rfl, rfl⟩))
                    | (at_builtin; ((with_reducible refine wpList_append_rd _ ?_ (.tmp 48) (.tmp 49) 22 ?_ elemInt Try.underlying22 w.heap.size u1 (fldP k) ?_ (OO.out.alloc _) (.slice (some ⟨wr.heap.size, 0, none⟩) 1 1) [9] ?_ (Rd.one .i64 3 wr _) ?_ ?_ ?_ ?_)); rfl; rfl; rfl; rfl; (rw [HLN.out]; simp; omega); (rw [HLN.out]; simp [maxLen]; omega); (simp; omega); intro v9 w9 o9 g9; have O9 := Lib.hid o9; have G9 := Lib.hid g9; clear o9 g9))
                  go_roundw
                  case rel => exact ⟨k + 1, by omega, by go_num, by rw [← HV.out]; exact O9.out, (BB.out.alloc hz _).grown G9.out (by simp; omega) OO.out.blk⟩
                  case measure => simp [intOf]; omega
                · have ea0 : decide ((k : Int) ≥ 97) = false := decide_eq_false (by omega)
                  have eb1 : decide ((k : Int) ≥ 48) = true := decide_eq_true (by omega)
                  have ec2 : decide ((k : Int) ≤ 57) = false := decide_eq_false (by omega)
                  have ef3 : decide ((k : Int) ≥ 33) = true := decide_eq_true (by omega)
                  have eg4 : decide ((k : Int) ≤ 126) = true := decide_eq_true (by omega)
                  go_wp2_with (first
                    | (go_at_call 28; first | ((with_reducible refine (H1.out _).mono ?_); rintro e w' ⟨rfl, rfl⟩) | ((with_reducible refine (H2.out _).mono ?_); rintro e w' ⟨rfl, rfl⟩))
                    | (at_builtin; ((with_reducible refine wpList_append_rd _ ?_ (.tmp 48) (.tmp 49) 22 ?_ elemInt Try.underlying22 w.heap.size u1 (fldP k) ?_ (OO.out.alloc _) (.slice (some ⟨wr.heap.size, 0, none⟩) 1 1) [9] ?_ (Rd.one .i64 3 wr _) ?_ ?_ ?_ ?_)); rfl; rfl; rfl; rfl; (rw [HLN.out]; simp; omega); (rw [HLN.out]; simp [maxLen]; omega); (simp; omega); intro v9 w9 o9 g9; have O9 := Lib.hid o9; have G9 := Lib.hid g9; clear o9 g9))
                  go_roundw
                  case rel => exact ⟨k + 1, by omega, by go_num, by rw [← HV.out]; exact O9.out, (BB.out.alloc hz _).grown G9.out (by simp; omega) OO.out.blk⟩
                  case measure => simp [intOf]; omega
                · have ea0 : decide ((k : Int) ≥ 97) = true := decide_eq_true (by omega)
                  have ed1 : decide ((k : Int) ≤ 122) = false := decide_eq_false (by omega)
                  have eb2 : decide ((k : Int) ≥ 48) = true := decide_eq_true (by omega)
                  have ec3 : decide ((k : Int) ≤ 57) = false := decide_eq_false (by omega)
                  have ef4 : decide ((k : Int) ≥ 33) = true := decide_eq_true (by omega)
                  have eg5 : decide ((k : Int) ≤ 126) = true := decide_eq_true (by omega)
                  go_wp2_with (first
                    | (go_at_call 28; first | ((with_reducible refine (H1.out _).mono ?_); rintro e w' ⟨rfl, rfl⟩) | ((with_reducible refine (H2.out _).mono ?_); rintro e w' ⟨rfl, rfl⟩))
                    | (at_builtin; ((with_reducible refine wpList_append_rd _ ?_ (.tmp 48) (.tmp 49) 22 ?_ elemInt Try.underlying22 w.heap.size u1 (fldP k) ?_ (OO.out.alloc _) (.slice (some ⟨wr.heap.size, 0, none⟩) 1 1) [9] ?_ (Rd.one .i64 3 wr _) ?_ ?_ ?_ ?_)); rfl; rfl; rfl; rfl; (rw [HLN.out]; simp; omega); (rw [HLN.out]; simp [maxLen]; omega); (simp; omega); intro v9 w9 o9 g9; have O9 := Lib.hid o9; have G9 := Lib.hid g9; clear o9 g9))
                  go_roundw
                  case rel => exact ⟨k + 1, by omega, by go_num, by rw [← HV.out]; exact O9.out, (BB.out.alloc hz _).grown G9.out (by simp; omega) OO.out.blk⟩
                  case measure => simp [intOf]; omega
              · have HV := Lib.hid (HOO.out 13 (UNS.out HND.out.1 HND.out.2 ho h33))
                clear LET DIG OTH SEE UNS HOO ho HND
                have hc2 : k < 33 ∨ 126 < k := by omega
                rcases hc2 with hc2 | hc2
                · have ea0 : decide ((k : Int) ≥ 97) = false := decide_eq_false (by omega)
                  have eb1 : decide ((k : Int) ≥ 48) = false := decide_eq_false (by omega)
                  have ef2 : decide ((k : Int) ≥ 33) = false := decide_eq_false (by omega)
                  go_wp2_with (first
                    | (go_at_call 28; first | ((with_reducible refine (H1.out _).mono ?_); rintro e w' ⟨rfl, rfl⟩) | ((with_reducible refine (H2.out _).mono ?_); rintro e w' ⟨rfl, rfl⟩))
                    | (at_builtin; ((with_reducible refine wpList_append_rd _ ?_ (.tmp 10) (.tmp 11) 22 ?_ elemInt Try.underlying22 w.heap.size u1 (fldP k) ?_ (OO.out.alloc _) (.slice (some ⟨wr.heap.size, 0, none⟩) 1 1) [13] ?_ (Rd.one .i64 3 wr _) ?_ ?_ ?_ ?_)); rfl; rfl; rfl; rfl; (rw [HLN.out]; simp; omega); (rw [HLN.out]; simp [maxLen]; omega); (simp; omega); intro v9 w9 o9 g9; have O9 := Lib.hid o9; have G9 := Lib.hid g9; clear o9 g9))
                  go_roundw
                  case rel => exact ⟨k + 1, by omega, by go_num, by rw [← HV.out]; exact O9.out, (BB.out.alloc hz _).grown G9.out (by simp; omega) OO.out.blk⟩
                  case measure => simp [intOf]; omega
                · have ea0 : decide ((k : Int) ≥ 97) = true := decide_eq_true (by omega)
                  have ed1 : decide ((k : Int) ≤ 122) = false := decide_eq_false (by omega)
                  have eb2 : decide ((k : Int) ≥ 48) = true := decide_eq_true (by omega)
                  have ec3 : decide ((k : Int) ≤ 57) = false := decide_eq_false (by omega)
                  have ef4 : decide ((k : Int) ≥ 33) = true := decide_eq_true (by omega)
                  have eg5 : decide ((k : Int) ≤ 126) = false := decide_eq_false (by omega)
                  go_wp2_with (first
                    | (go_at_call 28; first | ((with_reducible refine (H1.out _).mono ?_); rintro e w' ⟨rfl, rfl⟩) | ((with_reducible refine (H2.out _).mono ?_); rintro e w' ⟨rfl, rfl⟩))
                    | (at_builtin; ((with_reducible refine wpList_append_rd _ ?_ (.tmp 10) (.tmp 11) 22 ?_ elemInt Try.underlying22 w.heap.size u1 (fldP k) ?_ (OO.out.alloc _) (.slice (some ⟨wr.heap.size, 0, none⟩) 1 1) [13] ?_ (Rd.one .i64 3 wr _) ?_ ?_ ?_ ?_)); rfl; rfl; rfl; rfl; (rw [HLN.out]; simp; omega); (rw [HLN.out]; simp [maxLen]; omega); (simp; omega); intro v9 w9 o9 g9; have O9 := Lib.hid o9; have G9 := Lib.hid g9; clear o9 g9))
                  go_roundw
                  case rel => exact ⟨k + 1, by omega, by go_num, by rw [← HV.out]; exact O9.out, (BB.out.alloc hz _).grown G9.out (by simp; omega) OO.out.blk⟩
                  case measure => simp [intOf]; omega
    · have hend : k = 256 := by omega
      subst hend
      have HE : Hid (fldP 256 = fldL) := rfl
      go_wp2_with fail
      go_ret
      exact ⟨u1, rfl, by rw [← HE.out]; exact OO.out, BB.out⟩

/-- each of these bytes gets this length -/
def laySet (l : List Int) (cs : List Nat) (v : Int) : List Int := cs.foldl (fun l c => l.set c v) l
def basP (k : Nat) : List Int := (List.range 256).map fun n => if n < k then (baseN n : Int) else 0
theorem basP_zero : basP 0 = List.replicate 256 0 := by decide +kernel
theorem basP_set (k : Nat) (hk : k < 256) : (basP k).set k ((baseN k : Nat) : Int) = basP (k + 1) := by
  apply List.ext_getElem
  · simp [basP]
  · intro j h1 h2
    simp only [basP, List.length_set, List.length_map, List.length_range] at h1
    rw [List.getElem_set]
    by_cases e : k = j
    · subst e; simp [basP]
    · rw [if_neg e]
      simp only [basP, List.getElem_map, List.getElem_range]
      by_cases h : j < k
      · rw [if_pos h, if_pos (by omega)]
      · rw [if_neg h, if_neg (by omega)]
theorem fld_all : laySet (laySet (basP 256) (chars sLong) 7) (chars sFew) 5 = fldL := by decide +kernel
theorem lay_len (l : List Int) (cs : List Nat) (v : Int) : (laySet l cs v).length = l.length := by
  induction cs generalizing l with
  | nil => rfl
  | cons c r ih => rw [laySet, List.foldl_cons, ← laySet, ih]; simp
theorem lay_take (l : List Int) (s : ByteArray) (v : Int) (k : Nat) (hk : k < s.size) : laySet l ((chars s).take (k + 1)) v = (laySet l ((chars s).take k) v).set (s[k]'hk).toNat v := by
  have hl : (chars s).length = s.size := by simp only [chars, List.length_map]; rfl
  rw [List.take_succ_eq_append_getElem (by rw [hl]; exact hk), laySet, List.foldl_append]
  simp only [List.foldl_cons, List.foldl_nil]
  congr 1
  simp only [chars, List.getElem_map]
  rfl
theorem iter_grown (w : World) (p : Nat) (s : ByteArray) (pos : Nat) : w.grownBy (w.iterAt p s pos) (some p) :=
  ⟨rfl, rfl, rfl, by rw [Lib.iterAt_size]; exact Nat.le_refl _, fun i _ hi => Lib.iterAt_other w p i s pos (fun e => hi (by rw [e]))⟩
def itPos : Option Obj → Nat
  | some (.stringIter _ p) => p
  | _ => 0

set_option maxHeartbeats 8000000 in
theorem fields_any (w : World) : Calls Try.prog 17 #[] w (FldIs w) := by
  go_enter Try.func17, Try.ntmps17
  go_wp2_with ((with_reducible refine wpList_make_nums _ ?_ (.const (.int .i64 256)) (.const (.int .i64 256)) 22 ?_ elemInt Try.underlying22 .i64 .i64 256 256 256 ?_ ?_ ?_ ?_ ?_ ?_ w.heap.size ?_ ?_); rfl; rfl; rfl; rfl; rfl; rfl; decide; decide; (exact Nat.le_refl _); intro w1 o1 g1; have O1 := Lib.hid o1; have G1 := Lib.hid g1; clear o1 g1)
  have B1 : Hid (Below w.heap.size w w1) := (Below.refl _ _).grown G1.out (Nat.le_refl _) (by simp)
  have R1 : Hid (Own .i64 3 w1 w.heap.size (.slice (some ⟨w.heap.size, 0, none⟩) 256 256) (basP 0)) := by rw [basP_zero]; exact O1.out
  clear O1 G1
  go_loopw [10] (fun i wr => ∃ k : Nat, k ≤ 256 ∧ i = .int .i64 (k : Int) ∧ Own .i64 3 wr w.heap.size (.slice (some ⟨w.heap.size, 0, none⟩) 256 256) (basP k) ∧ Below w.heap.size w wr) (fun i _ => 256 - (intOf i).toNat)
  case atStart => exact ⟨0, by omega, rfl, R1.out, B1.out⟩
  case round =>
    obtain ⟨k, hk, rfl, ho, hb⟩ := hrel
    clear R1 B1
    have OO := Lib.hid ho
    have BB := Lib.hid hb
    have hz := hb.size
    clear ho hb
    by_cases hlt : k < 256
    · have dk : decide ((k : Int) < 256) = true := decide_eq_true (by omega)
      obtain ⟨c0, f0⟩ := OO.out.at k (by simp [basP]; omega)
      generalize (basP k).getD k 0 = z at c0
      have hi1 : (0 : Int) ≤ (k : Int) := by omega
      have hi2 : (k : Int) < 256 := by omega
      have hgl : w.heap.size < wr.heap.size := OO.out.blt w.heap.size rfl
      have HS := Lib.hid (basP_set k hlt)
      have HO := Lib.hid (OO.out.set k ((baseN k : Nat) : Int))
      rw [HS.out] at HO
      go_wp2_with (go_at_call 27; refine (flen_any k hlt _).mono ?_; rintro e w' ⟨rfl, rfl⟩)
      go_roundw
      case rel => exact ⟨k + 1, by omega, by go_num, HO.out, BB.out.setCell (Nat.le_refl _) _⟩
      case measure => simp [intOf]; omega
    · have hend : k = 256 := by omega
      subst hend
      have dk : decide ((256 : Int) < 256) = false := by decide
      obtain ⟨w3, hw3⟩ : ∃ w3, w3 = wr := ⟨_, rfl⟩
      subst hw3
      have hgl : w.heap.size < w3.heap.size := OO.out.blt w.heap.size rfl
      go_wp2_with fail
      have I0 : Hid ((w3.iter sLong 0).heap[w3.heap.size]? = some (.stringIter sLong 0)) := World.iter_heap w3 sLong 0
      have O0 : Hid (Own .i64 3 (w3.iter sLong 0) w.heap.size (.slice (some ⟨w.heap.size, 0, none⟩) 256 256) (laySet (basP 256) ((chars sLong).take 0) 7)) := OO.out.alloc _
      have B0 : Hid (Below w.heap.size w (w3.iter sLong 0)) := BB.out.alloc hz _
      generalize w3.iter _ 0 = w4 at *
      generalize w3.heap.size = p at *
      clear OO BB
      go_loopw [20] (fun _ wr => ∃ k : Nat, k ≤ 12 ∧ wr.heap[p]? = some (.stringIter sLong k) ∧ Own .i64 3 wr w.heap.size (.slice (some ⟨w.heap.size, 0, none⟩) 256 256) (laySet (basP 256) ((chars sLong).take k) 7) ∧ Below w.heap.size w wr) (fun _ wr => 12 - itPos wr.heap[p]?)
      case atStart => exact ⟨0, by omega, I0.out, O0.out, B0.out⟩
      case round =>
        obtain ⟨k, hk, hi, ho, hb⟩ := hrel
        clear I0 O0 B0
        have II := Lib.hid hi
        have OO := Lib.hid ho
        have BB := Lib.hid hb
        have hz := hb.size
        have hpl : p < wr.heap.size := (Array.getElem?_eq_some_iff.1 hi).1
        clear ho hb hi
        by_cases hlt : k < 12
        · have hsz : k < sLong.size := hlt
          have hasc : (sLong[k]'hsz).toNat < 128 := by
            have : ∀ j : Fin 12, (sLong[j.val]'(by exact j.isLt)).toNat < 128 := by decide
            exact this ⟨k, hlt⟩
          have hnx := fun ty => Lib.run_next_ascii_at (P := Try.prog) wr p sLong k ty II.out hsz hasc
          have HTK := Lib.hid (lay_take (basP 256) sLong 7 k hsz)
          obtain ⟨c, hc⟩ : ∃ c, c = (sLong[k]'hsz).toNat := ⟨_, rfl⟩
          rw [← hc] at hnx hasc HTK
          have O1 := Lib.hid (OO.out.kept (iter_grown wr p sLong (k + 1)) (by intro j hj e; have e1 : w.heap.size = j := Option.some.inj hj; have e2 := Option.some.inj e; omega))
          have I1 := Lib.hid (Lib.iterAt_heap wr p sLong k (k + 1) II.out)
          have B1 := Lib.hid (Lib.below_iterAt BB.out (k := p) (by omega) sLong (k + 1))
          have HM : Hid (itPos wr.heap[p]? = k) := by show _ = _; rw [II.out]; rfl
          generalize wr.iterAt p sLong (k + 1) = w5 at *
          obtain ⟨c0, f0⟩ := O1.out.at c (by rw [lay_len]; simp [basP]; omega)
          generalize (laySet (basP 256) ((chars sLong).take k) 7).getD c 0 = z at c0
          have hi1 : (0 : Int) ≤ (c : Int) := by omega
          have hi2 : (c : Int) < 256 := by omega
          have HO := Lib.hid (O1.out.set c 7)
          rw [← HTK.out] at HO
          have HI : Hid ((w5.setCell ⟨w.heap.size, c, none⟩ (.int .i64 7)).heap[p]? = some (.stringIter sLong (k + 1))) := by
            show _ = _
            rw [Below.heap_setCell _ _ _ _ (by simp; omega)]; exact I1.out
          have HB := Lib.hid (B1.out.setCell (p := ⟨w.heap.size, c, none⟩) (Nat.le_refl _) (.int .i64 7))
          clear hc
          go_wp2_with fail
          go_roundw
          case rel => exact ⟨k + 1, by omega, HI.out, HO.out, HB.out⟩
          case measure => rw [HI.out, HM.out]; simp only [itPos]; omega
        · have hend : k = 12 := by omega
          have hnx := fun ty => Lib.run_next_end_at (P := Try.prog) wr p sLong k ty II.out (by rw [hend]; decide)
          have O1 : Hid (Own .i64 3 wr w.heap.size (.slice (some ⟨w.heap.size, 0, none⟩) 256 256) (laySet (laySet (basP 256) (chars sLong) 7) ((chars sFew).take 0) 5)) := by
            have := OO.out; rw [hend] at this; exact this
          clear hend OO II
          obtain ⟨w6, hw6⟩ : ∃ w6, w6 = wr := ⟨_, rfl⟩
          subst hw6
          have hgl : w.heap.size < w6.heap.size := O1.out.blt w.heap.size rfl
          go_wp2_with fail
          clear hnx
          have I0 : Hid ((w6.iter sFew 0).heap[w6.heap.size]? = some (.stringIter sFew 0)) := World.iter_heap w6 sFew 0
          have O0 : Hid (Own .i64 3 (w6.iter sFew 0) w.heap.size (.slice (some ⟨w.heap.size, 0, none⟩) 256 256) (laySet (laySet (basP 256) (chars sLong) 7) ((chars sFew).take 0) 5)) := O1.out.alloc _
          have B0 : Hid (Below w.heap.size w (w6.iter sFew 0)) := BB.out.alloc hz _
          generalize w6.iter _ 0 = w7 at *
          generalize w6.heap.size = r at *
          clear O1 BB
          go_loopw [27] (fun _ wr => ∃ k : Nat, k ≤ 15 ∧ wr.heap[r]? = some (.stringIter sFew k) ∧ Own .i64 3 wr w.heap.size (.slice (some ⟨w.heap.size, 0, none⟩) 256 256) (laySet (laySet (basP 256) (chars sLong) 7) ((chars sFew).take k) 5) ∧ Below w.heap.size w wr) (fun _ wr => 15 - itPos wr.heap[r]?)
          case atStart => exact ⟨0, by omega, I0.out, O0.out, B0.out⟩
          case round =>
            obtain ⟨k, hk, hi, ho, hb⟩ := hrel
            clear I0 O0 B0
            have II := Lib.hid hi
            have OO := Lib.hid ho
            have BB := Lib.hid hb
            have hz := hb.size
            have hpl : r < wr.heap.size := (Array.getElem?_eq_some_iff.1 hi).1
            clear ho hb hi
            by_cases hlt : k < 15
            · have hsz : k < sFew.size := hlt
              have hasc : (sFew[k]'hsz).toNat < 128 := by
                have : ∀ j : Fin 15, (sFew[j.val]'(by exact j.isLt)).toNat < 128 := by decide
                exact this ⟨k, hlt⟩
              have hnx := fun ty => Lib.run_next_ascii_at (P := Try.prog) wr r sFew k ty II.out hsz hasc
              have HTK := Lib.hid (lay_take (laySet (basP 256) (chars sLong) 7) sFew 5 k hsz)
              obtain ⟨c, hc⟩ : ∃ c, c = (sFew[k]'hsz).toNat := ⟨_, rfl⟩
              rw [← hc] at hnx hasc HTK
              have O1 := Lib.hid (OO.out.kept (iter_grown wr r sFew (k + 1)) (by intro j hj e; have e1 : w.heap.size = j := Option.some.inj hj; have e2 := Option.some.inj e; omega))
              have I1 := Lib.hid (Lib.iterAt_heap wr r sFew k (k + 1) II.out)
              have B1 := Lib.hid (Lib.below_iterAt BB.out (k := r) (by omega) sFew (k + 1))
              have HM : Hid (itPos wr.heap[r]? = k) := by show _ = _; rw [II.out]; rfl
              generalize wr.iterAt r sFew (k + 1) = w5 at *
              obtain ⟨c0, f0⟩ := O1.out.at c (by rw [lay_len, lay_len]; simp [basP]; omega)
              generalize (laySet (laySet (basP 256) (chars sLong) 7) ((chars sFew).take k) 5).getD c 0 = z at c0
              have hi1 : (0 : Int) ≤ (c : Int) := by omega
              have hi2 : (c : Int) < 256 := by omega
              have HO := Lib.hid (O1.out.set c 5)
              rw [← HTK.out] at HO
              have HI : Hid ((w5.setCell ⟨w.heap.size, c, none⟩ (.int .i64 5)).heap[r]? = some (.stringIter sFew (k + 1))) := by
                show _ = _
                rw [Below.heap_setCell _ _ _ _ (by simp; omega)]; exact I1.out
              have HB := Lib.hid (B1.out.setCell (p := ⟨w.heap.size, c, none⟩) (Nat.le_refl _) (.int .i64 5))
              clear hc
              go_wp2_with fail
              go_roundw
              case rel => exact ⟨k + 1, by omega, HI.out, HO.out, HB.out⟩
              case measure => rw [HI.out, HM.out]; simp only [itPos]; omega
            · have hend : k = 15 := by omega
              have hnx := fun ty => Lib.run_next_end_at (P := Try.prog) wr r sFew k ty II.out (by rw [hend]; decide)
              have O1 : Hid (Own .i64 3 wr w.heap.size (.slice (some ⟨w.heap.size, 0, none⟩) 256 256) fldL) := by
                have := OO.out
                rw [hend] at this
                rw [← fld_all]
                exact this
              clear hend OO II
              go_wp2_with fail
              go_ret
              exact ⟨_, rfl, O1.out, BB.out⟩
end Go.Proofs.Ytjaeccealfeakaa
