/- Layer 13: the law QtabFixed. -/
import Derived.Test.YtfacpncbcplocaaDoorQtR
import Derived.Test.YtfacpncbcplocaaDoorQtP
set_option maxRecDepth 100000
set_option linter.unusedSimpArgs false
set_option linter.unusedVariables false
set_option linter.unnecessarySimpa false
namespace Go.Proofs.YtfacpncbcplocaaDoor
open Go.RowKit

set_option maxHeartbeats 3200000 in
theorem law_fixed (n : Int) (f : Fd) (w : World) (hF : Fix w) (hs : SzF f) : Calls Tryd.prog 3 #[.int .i64 n, .agg #[.string f.n, .string f.v]] w (Yes w) := by
  have HRM := Lib.hid (fun V => room_any f V hs)
  have HRR := Lib.hid (fun V => rroom_any f V hs)
  have HFX := Lib.hid (fun V (hV : Fix V) => fixed_any n V hV)
  have HRX := Lib.hid (fun V => rfixed_any n V)
  have HFF := Lib.hid (fun V (hV : Fix V) => findFixed_any f V hV)
  have HRF := Lib.hid (fun V => rfindFixed_any f V)
  obtain ⟨⟨⟨an, av⟩, ae⟩, ha⟩ : ∃ r, r = fixedE n := ⟨_, rfl⟩
  rw [← ha] at HFX HRX
  obtain ⟨⟨fa, fb⟩, hfa⟩ : ∃ r, r = findFixedE f := ⟨_, rfl⟩
  rw [← hfa] at HFF HRF
  obtain ⟨rm, hrm⟩ : ∃ r, r = roomF f := ⟨_, rfl⟩
  rw [← hrm] at HRM HRR
  obtain ⟨fn, fv⟩ := f
  simp only at HRM HRR HFX HRX HFF HRF ⊢
  clear ha hfa hrm hs
  have hpos := hF.pos
  have HF := Lib.hid hF
  have B1 := Lib.hid (below1 w (.cells #[.string fn, .string fv] 23))
  have X1 := Lib.hid (Cs.made w #[.string fn, .string fv] 23)
  clear hF
  go_enter Tryd.func3, Tryd.ntmps3
  go_wp2_with (first
    | (go_at_call 9; refine (HFX.out _ (HF.out.below B1.out hpos)).mono ?_; rintro e w2 ⟨rfl, b2⟩
       have B2 : Hid (Below w.heap.size w w2) := B1.out.trans (b2.mono (by simp))
       have X2 := Lib.hid (X1.out.below b2)
       have Y2 := Lib.hid (Cs.made w2 #[.string an, .string av] 23)
       have X2' := Lib.hid (X2.out.below (below1 w2 (.cells #[.string an, .string av] 23)))
       have B2' : Hid (Below w.heap.size w (w2.alloc (.cells #[.string an, .string av] 23))) := B2.out.trans ((below1 _ _).mono B2.out.size)
       clear b2)
    | (go_at_call 10; refine (HRX.out _).mono ?_; rintro e w3 ⟨rfl, b3⟩
       have B3 : Hid (Below w.heap.size w w3) := B2'.out.trans (b3.mono B2'.out.size)
       have X3 := Lib.hid (X2'.out.below b3)
       have Y3 := Lib.hid (Y2.out.below b3)
       have Z4 := Lib.hid (Cs.made w3 #[.string an, .string av] 23)
       have X4 := Lib.hid (X3.out.below (below1 w3 (.cells #[.string an, .string av] 23)))
       have Y4 := Lib.hid (Y3.out.below (below1 w3 (.cells #[.string an, .string av] 23)))
       have B4 : Hid (Below w.heap.size w (w3.alloc (.cells #[.string an, .string av] 23))) := B3.out.trans ((below1 _ _).mono B3.out.size)
       have x0 := X4.out.get 0 _ rfl
       have x1 := X4.out.get 1 _ rfl
       clear b3)
    | (go_at_call 11; refine (HFF.out _ (HF.out.below B4.out hpos)).mono ?_; rintro e w5 ⟨rfl, b5⟩
       have B5 : Hid (Below w.heap.size w w5) := B4.out.trans (b5.mono B4.out.size)
       have X5 := Lib.hid (X4.out.below b5)
       have Y5 := Lib.hid (Y4.out.below b5)
       have Z5 := Lib.hid (Z4.out.below b5)
       have x0 := X5.out.get 0 _ rfl
       have x1 := X5.out.get 1 _ rfl
       clear b5)
    | (go_at_call 12; refine (HRF.out _).mono ?_; rintro e w6 ⟨rfl, b6⟩
       have B6 : Hid (Below w.heap.size w w6) := B5.out.trans (b6.mono B5.out.size)
       have X6 := Lib.hid (X5.out.below b6)
       have Y6 := Lib.hid (Y5.out.below b6)
       have Z6 := Lib.hid (Z5.out.below b6)
       clear b6))
  have HK : Hid (∀ V, Below w6.heap.size w6 V → (V.cell? ⟨w.heap.size, 0, none⟩ = some (.string fn) ∧ V.cell? ⟨w.heap.size, 1, none⟩ = some (.string fv) ∧ V.cell? ⟨w2.heap.size, 0, none⟩ = some (.string an) ∧ V.cell? ⟨w2.heap.size, 1, none⟩ = some (.string av) ∧ V.cell? ⟨w3.heap.size, 0, none⟩ = some (.string an) ∧ V.cell? ⟨w3.heap.size, 1, none⟩ = some (.string av)) ∧ Below w6.heap.size w6 V) := fun V hV => by
    have a1 := X6.out.below hV
    have a2 := Y6.out.below hV
    have a3 := Z6.out.below hV
    exact ⟨⟨a1.get 0 _ rfl, a1.get 1 _ rfl, a2.get 0 _ rfl, a2.get 1 _ rfl, a3.get 0 _ rfl, a3.get 1 _ rfl⟩, hV⟩
  have HAL := Lib.hid (fun V (hV : Below w6.heap.size w6 V) => alive_any V (HF.out.below (B6.out.trans (hV.mono B6.out.size)) hpos))
  have qe : ∀ W, (Op.equalIn 10000 23 (.agg #[.string an, .string av]) (.agg #[.string an, .string av])).run Tryd.prog W = .ok true W := fun W => by rw [eqF_any ⟨an, av⟩ ⟨an, av⟩, decide_eq_true rfl]
  have hgd := guardF
  go_region_held3 (fun V => (V.cell? ⟨w.heap.size, 0, none⟩ = some (.string fn) ∧ V.cell? ⟨w.heap.size, 1, none⟩ = some (.string fv) ∧ V.cell? ⟨w2.heap.size, 0, none⟩ = some (.string an) ∧ V.cell? ⟨w2.heap.size, 1, none⟩ = some (.string av) ∧ V.cell? ⟨w3.heap.size, 0, none⟩ = some (.string an) ∧ V.cell? ⟨w3.heap.size, 1, none⟩ = some (.string av)) ∧ Below w6.heap.size w6 V)
    (first
      | (exact HK.out _ (below_drewN (Below.refl _ _) 1))
      | (exact HK.out _ B9.out)
      | (exact HK.out _ B8.out)
      | (exact HK.out _ B7.out))
    (first
      | (go_at_call 13; refine (HRM.out _).mono ?_; rintro x w7 ⟨rfl, b7⟩; have B7 : Hid (Below w6.heap.size w6 w7) := (below_drewN (Below.refl _ _) 1).trans b7; clear b7)
      | (go_at_call 14; refine (HRR.out _).mono ?_; rintro x w8 ⟨rfl, b8⟩; have B8 : Hid (Below w6.heap.size w6 w8) := B7.out.trans (b8.mono B7.out.size); clear b8)
      | (go_at_call 15; refine (HAL.out _ B8.out).mono ?_; rintro x w9 ⟨rfl, b9⟩; have B9 : Hid (Below w6.heap.size w6 w9) := B8.out.trans (b9.mono B8.out.size); clear b9))
  go_wp2_with fail
  go_ret
  exact ⟨rfl, B6.out.trans (B9.out.mono B6.out.size)⟩
end Go.Proofs.YtfacpncbcplocaaDoor
