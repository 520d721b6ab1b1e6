/- Layer 13: tables that nobody made; the law QtabNobody. -/
import Derived.Test.YtfacpncbcplocaaDoorQtR
set_option maxRecDepth 100000
set_option linter.unusedSimpArgs false
set_option linter.unusedVariables false
set_option linter.unnecessarySimpa false
namespace Go.Proofs.YtfacpncbcplocaaDoor
open Go.RowKit

/-- p leads to no table that New gave, in w and in what grows out of it -/
def NoOne (p : Option Addr) (w : World) : Prop := ∀ W, Below w.heap.size w W → Calls Tryd.prog 34 #[.pointer p] W fun e w' => e = .returned (.bool false) ∧ w' = W
theorem NoOne.below {p : Option Addr} {w w' : World} (h : NoOne p w) (hb : Below w.heap.size w w') : NoOne p w' := fun W hW => h W (hb.trans (hW.mono hb.size))
theorem given_nil (w : World) : Calls Tryd.prog 34 #[.pointer none] w fun e w' => e = .returned (.bool false) ∧ w' = w := by
  go_enter Tryd.func34, Tryd.ntmps34
  go_wp2
  go_ret
  exact ⟨rfl, rfl⟩
theorem given_zero (b : Nat) (w : World) (c0 : w.cell? ⟨b, 0, none⟩ = some (.bool false)) : Calls Tryd.prog 34 #[.pointer (some ⟨b, 0, none⟩)] w fun e w' => e = .returned (.bool false) ∧ w' = w := by
  go_enter Tryd.func34, Tryd.ntmps34
  go_wp2
  go_ret
  exact ⟨rfl, rfl⟩
theorem noOne_nil (w : World) : NoOne none w := fun W _ => given_nil W
theorem noOne_zero (b : Nat) (w : World) (hb : b < w.heap.size) (c0 : w.cell? ⟨b, 0, none⟩ = some (.bool false)) : NoOne (some ⟨b, 0, none⟩) w := fun W hW => given_zero b W ((hW.cell (p := ⟨b, 0, none⟩) hb).trans c0)
theorem setCap_no (p : Option Addr) (n : Int) (w : World) (h : NoOne p w) : Calls Tryd.prog 20 #[.pointer p, .int .i64 n] w fun e w' => e = .returned (.int .i64 2) ∧ w' = w := by
  have H := Lib.hid (h w (Below.refl _ _))
  clear h
  go_enter Tryd.func20, Tryd.ntmps20
  go_wp2_with (go_at_call 34; refine H.out.mono ?_; rintro e w2 ⟨rfl, h⟩; obtain rfl : w = w2 := h.symm)
  go_ret
  exact ⟨rfl, rfl⟩
theorem cap_no (p : Option Addr) (w : World) (h : NoOne p w) : Calls Tryd.prog 26 #[.pointer p] w fun e w' => e = .returned (.int .i64 0) ∧ w' = w := by
  have H := Lib.hid (h w (Below.refl _ _))
  clear h
  go_enter Tryd.func26, Tryd.ntmps26
  go_wp2_with (go_at_call 34; refine H.out.mono ?_; rintro e w2 ⟨rfl, h⟩; obtain rfl : w = w2 := h.symm)
  go_ret
  exact ⟨rfl, rfl⟩
theorem used_no (p : Option Addr) (w : World) (h : NoOne p w) : Calls Tryd.prog 27 #[.pointer p] w fun e w' => e = .returned (.int .i64 0) ∧ w' = w := by
  have H := Lib.hid (h w (Below.refl _ _))
  clear h
  go_enter Tryd.func27, Tryd.ntmps27
  go_wp2_with (go_at_call 34; refine H.out.mono ?_; rintro e w2 ⟨rfl, h⟩; obtain rfl : w = w2 := h.symm)
  go_ret
  exact ⟨rfl, rfl⟩
theorem first_no (p : Option Addr) (w : World) (h : NoOne p w) : Calls Tryd.prog 29 #[.pointer p] w fun e w' => e = .returned (.int .i64 0) ∧ w' = w := by
  have H := Lib.hid (h w (Below.refl _ _))
  clear h
  go_enter Tryd.func29, Tryd.ntmps29
  go_wp2_with (go_at_call 34; refine H.out.mono ?_; rintro e w2 ⟨rfl, h⟩; obtain rfl : w = w2 := h.symm)
  go_ret
  exact ⟨rfl, rfl⟩
theorem count_no (p : Option Addr) (w : World) (h : NoOne p w) : Calls Tryd.prog 30 #[.pointer p] w fun e w' => e = .returned (.int .i64 0) ∧ w' = w := by
  have H := Lib.hid (h w (Below.refl _ _))
  clear h
  go_enter Tryd.func30, Tryd.ntmps30
  go_wp2_with (go_at_call 34; refine H.out.mono ?_; rintro e w2 ⟨rfl, h⟩; obtain rfl : w = w2 := h.symm)
  go_ret
  exact ⟨rfl, rfl⟩
theorem insert_no (p : Option Addr) (f : Fd) (w : World) (h : NoOne p w) : Calls Tryd.prog 18 #[.pointer p, .agg #[.string f.n, .string f.v]] w fun e w' => e = .returned (.tuple #[.int .i64 0, .int .i64 2]) ∧ Below w.heap.size w w' := by
  have B1 := Lib.hid (below1 w (.cells #[.string f.n, .string f.v] 23))
  have H := Lib.hid (h _ B1.out)
  clear h
  go_enter Tryd.func18, Tryd.ntmps18
  go_wp2_with (go_at_call 34; refine H.out.mono ?_; rintro e w2 ⟨rfl, h⟩; obtain rfl := h)
  go_ret2
  exact ⟨rfl, B1.out⟩
theorem find_no (p : Option Addr) (f : Fd) (w : World) (h : NoOne p w) : Calls Tryd.prog 24 #[.pointer p, .agg #[.string f.n, .string f.v]] w fun e w' => e = .returned (.tuple #[.int .i64 (-1), .int .i64 (-1)]) ∧ Below w.heap.size w w' := by
  have B1 := Lib.hid (below1 w (.cells #[.string f.n, .string f.v] 23))
  have H := Lib.hid (h _ B1.out)
  clear h
  go_enter Tryd.func24, Tryd.ntmps24
  go_wp2_with (go_at_call 34; refine H.out.mono ?_; rintro e w2 ⟨rfl, h⟩; obtain rfl := h)
  go_ret2
  exact ⟨rfl, B1.out⟩
theorem get_no (p : Option Addr) (n : Int) (w : World) (h : NoOne p w) : Calls Tryd.prog 22 #[.pointer p, .int .i64 n] w fun e w' => e = .returned (.tuple #[.agg #[.string ⟨#[]⟩, .string ⟨#[]⟩], .int .i64 2]) ∧ Below w.heap.size w w' := by
  have hz := zeroFv
  have B1 := Lib.hid (below1 w (.cells #[.string ⟨#[]⟩, .string ⟨#[]⟩] 23))
  have H := Lib.hid (h _ B1.out)
  have r0 := (Cs.made w #[.string ⟨#[]⟩, .string ⟨#[]⟩] 23).get 0 _ rfl
  have r1 := (Cs.made w #[.string ⟨#[]⟩, .string ⟨#[]⟩] 23).get 1 _ rfl
  clear h
  go_enter Tryd.func22, Tryd.ntmps22
  go_wp2_with (go_at_call 34; refine H.out.mono ?_; rintro e w2 ⟨rfl, h⟩; obtain rfl := h)
  exact bodyPost_ret (get_results rfl rfl r0 r1) rfl ⟨rfl, B1.out⟩

set_option maxHeartbeats 6400000 in
theorem law_nobody (c : ActV) (w : World) (hF : Fix w) : Calls Tryd.prog 8 #[.agg #[.int .u8 c.k, .int .i64 c.n, .string c.f.n, .string c.f.v]] w (Yes w) := by
  have hpos := hF.pos
  have HF := Lib.hid hF
  clear hF
  go_enter Tryd.func8, Tryd.ntmps8
  go_wp2_with fail
  have hX := Cs.made w #[.int .u8 c.k, .int .i64 c.n, .string c.f.n, .string c.f.v] 44
  obtain ⟨w2, hw2⟩ : ∃ W, W = w.alloc (.cells #[.int .u8 c.k, .int .i64 c.n, .string c.f.n, .string c.f.v] 44) := ⟨_, rfl⟩
  have hs2 : w2.heap.size = w.heap.size + 1 := by rw [hw2]; simp
  have hb2 : Below w.heap.size w w2 := by rw [hw2]; exact below1 _ _
  rw [← hw2] at hX ⊢
  have hZ := Cs.made w2 #[.bool false, .int .i64 0, .int .i64 0, .int .i64 0, .int .i64 0, .slice none 0 0] 54
  obtain ⟨w3, hw3⟩ : ∃ W, W = w2.alloc (.cells #[.bool false, .int .i64 0, .int .i64 0, .int .i64 0, .int .i64 0, .slice none 0 0] 54) := ⟨_, rfl⟩
  have hs3 : w3.heap.size = w.heap.size + 1 + 1 := by rw [hw3]; simp [hs2]
  have hb3 : Below w2.heap.size w2 w3 := by rw [hw3]; exact below1 _ _
  rw [← hw3] at hZ ⊢
  have hR := Cs.made w3 #[.pointer none, .pointer (some ⟨w.heap.size + 1, 0, none⟩)] 35
  have hb4 := below1 w3 (.cells #[.pointer none, .pointer (some ⟨w.heap.size + 1, 0, none⟩)] 35)
  generalize w3.alloc (.cells #[.pointer none, .pointer (some ⟨w.heap.size + 1, 0, none⟩)] 35) = w4 at hR hb4 ⊢
  rw [hs3] at hR
  rw [hs2] at hZ
  have X4 := Lib.hid ((hX.below hb3).below hb4)
  have Z4 := Lib.hid (hZ.below hb4)
  have R4 := Lib.hid hR
  have B4 : Hid (Below w.heap.size w w4) := (hb2.trans (hb3.mono hb2.size)).trans (hb4.mono (Nat.le_trans hb2.size hb3.size))
  have qe : ∀ W, (Op.equalIn 10000 23 (.agg #[.string ⟨#[]⟩, .string ⟨#[]⟩]) (.agg #[.string ⟨#[]⟩, .string ⟨#[]⟩])).run Tryd.prog W = .ok true W := fun W => by rw [eqF_any ⟨⟨#[]⟩, ⟨#[]⟩⟩ ⟨⟨#[]⟩, ⟨#[]⟩⟩, decide_eq_true rfl]
  have hgd := guardF
  have hz := zeroFv
  clear hX hZ hR hb4 hb3 hb2 hs2 hs3 hw2 hw3
  go_loopw [15] (fun i wr => ∃ k : Nat, i = .int .i64 k ∧ k ≤ 2 ∧ Below w4.heap.size w4 wr) (fun i _ => 2 - (intOf i).toNat)
  case atStart => exact ⟨0, rfl, by omega, Below.refl _ _⟩
  case round =>
    obtain ⟨k, rfl, hk, hbr⟩ := hrel
    have BR := Lib.hid hbr
    have Xr := X4.out.below hbr
    have x2 := Xr.get 2 _ rfl
    have x3 := Xr.get 3 _ rfl
    have Rr := R4.out.below hbr
    have r0 := Rr.get 0 _ rfl
    have r1 := Rr.get 1 _ rfl
    clear hbr Xr Rr
    match k, hk with
    | 0, _ =>
      have NO : Hid (NoOne (none) w4) := noOne_nil w4
      have HI := Lib.hid (fun V (hV : Below w4.heap.size w4 V) => insert_no (none) c.f V (NO.out.below hV))
      have HG := Lib.hid (fun V (hV : Below w4.heap.size w4 V) => get_no (none) c.n V (NO.out.below hV))
      have HD := Lib.hid (fun V (hV : Below w4.heap.size w4 V) => find_no (none) c.f V (NO.out.below hV))
      have HS := Lib.hid (fun V (hV : Below w4.heap.size w4 V) => setCap_no (none) c.n V (NO.out.below hV))
      have H1 := Lib.hid (fun V (hV : Below w4.heap.size w4 V) => cap_no (none) V (NO.out.below hV))
      have H2 := Lib.hid (fun V (hV : Below w4.heap.size w4 V) => used_no (none) V (NO.out.below hV))
      have H3 := Lib.hid (fun V (hV : Below w4.heap.size w4 V) => first_no (none) V (NO.out.below hV))
      have H4 := Lib.hid (fun V (hV : Below w4.heap.size w4 V) => count_no (none) V (NO.out.below hV))
      go_wp2_with (first
        | (go_at_call 18; refine (HI.out _ BR.out).mono ?_; rintro e wA ⟨rfl, bA⟩
           have BA : Hid (Below w4.heap.size w4 wA) := BR.out.trans (bA.mono BR.out.size)
           have XA := X4.out.below BA.out
           have x1 := XA.get 1 _ rfl
           clear bA XA)
        | (go_at_call 22; refine (HG.out _ BA.out).mono ?_; rintro e wB ⟨rfl, bB⟩
           have BB : Hid (Below w4.heap.size w4 (wB.alloc (.cells #[.string ⟨#[]⟩, .string ⟨#[]⟩] 23))) := (BA.out.trans (bB.mono BA.out.size)).trans ((below1 _ _).mono (BA.out.trans (bB.mono BA.out.size)).size)
           have XB := X4.out.below BB.out
           have x2 := XB.get 2 _ rfl
           have x3 := XB.get 3 _ rfl
           have YB := Lib.hid (Cs.made wB #[.string ⟨#[]⟩, .string ⟨#[]⟩] 23)
           clear bB XB)
        | (go_at_call 24; refine (HD.out _ BB.out).mono ?_; rintro e wC ⟨rfl, bC⟩
           have BC : Hid (Below w4.heap.size w4 wC) := BB.out.trans (bC.mono BB.out.size)
           have XC := X4.out.below BC.out
           have z1 := XC.get 1 _ rfl
           have YC := YB.out.below bC
           have y0 := YC.get 0 _ rfl
           have y1 := YC.get 1 _ rfl
           clear bC XC YC)
        | (go_at_call 20; refine (HS.out _ BC.out).mono ?_; rintro e wD ⟨rfl, h⟩; obtain rfl : wC = wD := h.symm)
        | (go_at_call 26; refine (H1.out _ BC.out).mono ?_; rintro e wD ⟨rfl, h⟩; obtain rfl : wC = wD := h.symm)
        | (go_at_call 27; refine (H2.out _ BC.out).mono ?_; rintro e wD ⟨rfl, h⟩; obtain rfl : wC = wD := h.symm)
        | (go_at_call 29; refine (H3.out _ BC.out).mono ?_; rintro e wD ⟨rfl, h⟩; obtain rfl : wC = wD := h.symm)
        | (go_at_call 30; refine (H4.out _ BC.out).mono ?_; rintro e wD ⟨rfl, h⟩; obtain rfl : wC = wD := h.symm))
      exact ⟨⟨1, rfl, by omega, BC.out⟩, by simp [intOf]⟩
    | 1, _ =>
      have NO : Hid (NoOne (some ⟨w.heap.size + 1, 0, none⟩) w4) := noOne_zero _ _ Z4.out.lt (Z4.out.get 0 _ rfl)
      have HI := Lib.hid (fun V (hV : Below w4.heap.size w4 V) => insert_no (some ⟨w.heap.size + 1, 0, none⟩) c.f V (NO.out.below hV))
      have HG := Lib.hid (fun V (hV : Below w4.heap.size w4 V) => get_no (some ⟨w.heap.size + 1, 0, none⟩) c.n V (NO.out.below hV))
      have HD := Lib.hid (fun V (hV : Below w4.heap.size w4 V) => find_no (some ⟨w.heap.size + 1, 0, none⟩) c.f V (NO.out.below hV))
      have HS := Lib.hid (fun V (hV : Below w4.heap.size w4 V) => setCap_no (some ⟨w.heap.size + 1, 0, none⟩) c.n V (NO.out.below hV))
      have H1 := Lib.hid (fun V (hV : Below w4.heap.size w4 V) => cap_no (some ⟨w.heap.size + 1, 0, none⟩) V (NO.out.below hV))
      have H2 := Lib.hid (fun V (hV : Below w4.heap.size w4 V) => used_no (some ⟨w.heap.size + 1, 0, none⟩) V (NO.out.below hV))
      have H3 := Lib.hid (fun V (hV : Below w4.heap.size w4 V) => first_no (some ⟨w.heap.size + 1, 0, none⟩) V (NO.out.below hV))
      have H4 := Lib.hid (fun V (hV : Below w4.heap.size w4 V) => count_no (some ⟨w.heap.size + 1, 0, none⟩) V (NO.out.below hV))
      go_wp2_with (first
        | (go_at_call 18; refine (HI.out _ BR.out).mono ?_; rintro e wA ⟨rfl, bA⟩
           have BA : Hid (Below w4.heap.size w4 wA) := BR.out.trans (bA.mono BR.out.size)
           have XA := X4.out.below BA.out
           have x1 := XA.get 1 _ rfl
           clear bA XA)
        | (go_at_call 22; refine (HG.out _ BA.out).mono ?_; rintro e wB ⟨rfl, bB⟩
           have BB : Hid (Below w4.heap.size w4 (wB.alloc (.cells #[.string ⟨#[]⟩, .string ⟨#[]⟩] 23))) := (BA.out.trans (bB.mono BA.out.size)).trans ((below1 _ _).mono (BA.out.trans (bB.mono BA.out.size)).size)
           have XB := X4.out.below BB.out
           have x2 := XB.get 2 _ rfl
           have x3 := XB.get 3 _ rfl
           have YB := Lib.hid (Cs.made wB #[.string ⟨#[]⟩, .string ⟨#[]⟩] 23)
           clear bB XB)
        | (go_at_call 24; refine (HD.out _ BB.out).mono ?_; rintro e wC ⟨rfl, bC⟩
           have BC : Hid (Below w4.heap.size w4 wC) := BB.out.trans (bC.mono BB.out.size)
           have XC := X4.out.below BC.out
           have z1 := XC.get 1 _ rfl
           have YC := YB.out.below bC
           have y0 := YC.get 0 _ rfl
           have y1 := YC.get 1 _ rfl
           clear bC XC YC)
        | (go_at_call 20; refine (HS.out _ BC.out).mono ?_; rintro e wD ⟨rfl, h⟩; obtain rfl : wC = wD := h.symm)
        | (go_at_call 26; refine (H1.out _ BC.out).mono ?_; rintro e wD ⟨rfl, h⟩; obtain rfl : wC = wD := h.symm)
        | (go_at_call 27; refine (H2.out _ BC.out).mono ?_; rintro e wD ⟨rfl, h⟩; obtain rfl : wC = wD := h.symm)
        | (go_at_call 29; refine (H3.out _ BC.out).mono ?_; rintro e wD ⟨rfl, h⟩; obtain rfl : wC = wD := h.symm)
        | (go_at_call 30; refine (H4.out _ BC.out).mono ?_; rintro e wD ⟨rfl, h⟩; obtain rfl : wC = wD := h.symm))
      exact ⟨⟨2, rfl, by omega, BC.out⟩, by simp [intOf]⟩
    | 2, _ =>
      have HAL := Lib.hid (alive_any wr (HF.out.below (B4.out.trans (BR.out.mono B4.out.size)) hpos))
      go_wp2_with (go_at_call 15; refine HAL.out.mono ?_; rintro e wE ⟨rfl, bE⟩)
      go_ret
      exact ⟨rfl, (B4.out.trans (BR.out.mono B4.out.size)).trans (bE.mono (B4.out.trans (BR.out.mono B4.out.size)).size)⟩
end Go.Proofs.YtfacpncbcplocaaDoor
