/- Walks of layer 4: the reference's bytes of an Ack. -/
import Derived.Test.YtfkkimaebhjneaaDoorFvD
set_option linter.unusedSimpArgs false
set_option linter.unusedVariables false
namespace Go.Proofs.YtfkkimaebhjneaaDoor
open Go.RowKit
theorem numsE_cons (n : Int) (ns : List Int) : numsE (n :: ns) = E n ++ numsE ns := by simp [numsE]
theorem numsE_nil : numsE [] = [] := by simp [numsE]

set_option maxHeartbeats 3200000 in
theorem rbytes_2 (f : Fr) (da : Option Addr) (b o : Nat) (dc sc : Nat) (w : World) (hk : f.kind = 2) (hm : mayF f = true) (hs : RdS w (.slice (some ⟨b, o, none⟩) f.spans.length sc) f.spans) (hb : b < w.heap.size) :
    Calls Tryd.prog 22 #[.agg #[.int .i64 2, .int .i64 f.stream, .int .i64 f.offset, .int .i64 f.n, .int .i64 f.code, .bool f.fin, .slice da f.data.length dc, .slice (some ⟨b, o, none⟩) f.spans.length sc]] w (PutsIs w w.heap.size (encF f)) := by
  obtain ⟨_, h1, h2, h3, h4, h5, h6, h7⟩ := mayF_parts hm
  rw [hk] at h1 h2 h3 h4 h5 h6 h7
  have v_n := numB_yes h4 rfl
  have hsp : Rises f.spans ∧ 1 ≤ f.spans.length ∧ f.spans.length ≤ 32 := by
    have h := h5
    simp only [show hSpans 2 = true from rfl, spansB, if_true, Bool.and_eq_true, decide_eq_true_eq] at h
    exact ⟨Rises.of (by omega) h.2, h.1.1, h.1.2⟩
  obtain ⟨hr, hl1, hl32⟩ := hsp
  have ht : typeI f = 2 := by unfold typeI; rw [hk]; simp
  obtain ⟨m, hmm⟩ : ∃ m, f.spans.length = m + 1 := ⟨f.spans.length - 1, by omega⟩
  have HE : Hid (encF f = E 2 ++ (E (f.spans.getD m (0, 0)).2 ++ (E f.n ++ (E (m : Int) ++ (E ((f.spans.getD m (0, 0)).2 - (f.spans.getD m (0, 0)).1) ++ downL (f.spans.getD m (0, 0)) (f.spans.take m).reverse))))) := by
    show _ = _
    rw [encF_2 hk, ht, spanBytes_at hmm]
    unfold lastTo
    rw [show f.spans.length - 1 = m by omega]
  have HEL : Hid ((encF f).length ≤ 65536) := by
    show _ ≤ _
    have e1 := E_le 2; have e2 := E_le (f.spans.getD m (0, 0)).2; have e3 := E_le f.n
    have e4 := E_le (m : Int); have e5 := E_le ((f.spans.getD m (0, 0)).2 - (f.spans.getD m (0, 0)).1)
    have e6 := downL_le (f.spans.getD m (0, 0)) (f.spans.take m).reverse
    rw [List.length_reverse, List.length_take] at e6
    have hT : min m f.spans.length = m := by omega
    rw [hT] at e6
    rw [HE.out]
    simp only [List.length_append]
    omega
  have HS := Lib.hid hs
  have HR := Lib.hid hr
  obtain ⟨q0, q1⟩ := hs.cells rfl m (by omega)
  obtain ⟨r1, r2, r3⟩ := hr.at m (by omega)
  generalize hss : f.spans = ss at *
  clear hs hr h1 h2 h3 h4 h5 h6 h7 hm
  obtain ⟨⟨x, y⟩, hsx⟩ : ∃ s, s = ss.getD m (0, 0) := ⟨_, rfl⟩
  rw [← hsx] at q0 q1 r1 r2 r3
  simp only at q0 q1 r1 r2 r3
  have HSX := Lib.hid hsx
  have hw1 : IntKind.i64.wrap ((ss.length : Int) - 1) = (m : Int) := by rw [IntKind.wrap_i64]; omega
  have hw2 : IntKind.i64.wrap (y - x) = y - x := by rw [IntKind.wrap_i64]; omega
  have hw3 : IntKind.i64.wrap ((ss.length : Int) - 2) = (m : Int) - 1 := by rw [IntKind.wrap_i64]; omega
  have hi1 : (m : Int) < (ss.length : Int) := by omega
  have hi2 : m < ss.length := by omega
  have hi3 : (0 : Int) ≤ (m : Int) := by omega
  have bA : Below w.heap.size w (w.alloc (.cells #[.int .i64 2, .int .i64 f.stream, .int .i64 f.offset, .int .i64 f.n, .int .i64 f.code, .bool f.fin, .slice da f.data.length dc, .slice (some ⟨b, o, none⟩) ss.length sc] 33)) := (Below.refl _ _).alloc (Nat.le_refl _) _
  have q0' := (bA.cell (p := ⟨b, o + m * 2, none⟩) hb).trans q0
  have q1' := (bA.cell (p := ⟨b, o + m * 2 + 1, none⟩) hb).trans q1
  have bB := bA.alloc bA.size (.cells #[.int .i64 x, .int .i64 y] 44)
  have bC := bB.alloc bB.size (.cells #[.int .i64 2, .int .i64 y, .int .i64 f.n, .int .i64 m, .int .i64 (y - x)] 3)
  have hns : ∀ n ∈ ([2, y, f.n, (m : Int), y - x] : List Int), 0 ≤ n ∧ n ≤ 4611686018427387903 := by
    intro n hn
    simp only [List.mem_cons, List.not_mem_nil, or_false] at hn
    rcases hn with rfl | rfl | rfl | rfl | rfl <;> omega
  have HN := Lib.hid hns
  have HM := Lib.hid hmm
  clear hss hsx hk ht hns q0 q1 hmm
  go_enter Tryd.func22, Tryd.ntmps22
  go_wp2_with fail
  have hszB : ((w.alloc (.cells #[.int .i64 2, .int .i64 f.stream, .int .i64 f.offset, .int .i64 f.n, .int .i64 f.code, .bool f.fin, .slice da f.data.length dc, .slice (some ⟨b, o, none⟩) ss.length sc] 33)).alloc (.cells #[.int .i64 x, .int .i64 y] 44)).heap.size = w.heap.size + 2 := by simp
  have bBC : Below (w.heap.size + 2) ((w.alloc (.cells #[.int .i64 2, .int .i64 f.stream, .int .i64 f.offset, .int .i64 f.n, .int .i64 f.code, .bool f.fin, .slice da f.data.length dc, .slice (some ⟨b, o, none⟩) ss.length sc] 33)).alloc (.cells #[.int .i64 x, .int .i64 y] 44)) (((w.alloc (.cells #[.int .i64 2, .int .i64 f.stream, .int .i64 f.offset, .int .i64 f.n, .int .i64 f.code, .bool f.fin, .slice da f.data.length dc, .slice (some ⟨b, o, none⟩) ss.length sc] 33)).alloc (.cells #[.int .i64 x, .int .i64 y] 44)).alloc (.cells #[.int .i64 2, .int .i64 y, .int .i64 f.n, .int .i64 m, .int .i64 (y - x)] 3)) := (Below.refl _ _).alloc (by rw [hszB]; exact Nat.le_refl _) _
  have hX : ∀ V, Below (w.heap.size + 2) ((w.alloc (.cells #[.int .i64 2, .int .i64 f.stream, .int .i64 f.offset, .int .i64 f.n, .int .i64 f.code, .bool f.fin, .slice da f.data.length dc, .slice (some ⟨b, o, none⟩) ss.length sc] 33)).alloc (.cells #[.int .i64 x, .int .i64 y] 44)) V → V.cell? ⟨w.heap.size, 7, none⟩ = some (.slice (some ⟨b, o, none⟩) ss.length sc) := by
    intro V hV
    have kx := (hV.block w.heap.size (by omega)).trans ((Below.heap_alloc _ _ w.heap.size (by simp)).trans (alloc_at w (.cells #[.int .i64 2, .int .i64 f.stream, .int .i64 f.offset, .int .i64 f.n, .int .i64 f.code, .bool f.fin, .slice da f.data.length dc, .slice (some ⟨b, o, none⟩) ss.length sc] 33)))
    exact Joins.cell_of_block kx 7
  have HX := Lib.hid hX
  refine (puts_any (w.heap.size + 2) (.slice none 0 0) _ [] [2, y, f.n, (m : Int), y - x] _ (by simp) (Own.nil _ _ _ _) (Rd.lit' [2, y, f.n, (m : Int), y - x] (by simp) 5 _ rfl (by decide) _ rfl (by simp)) (by simp) HN.out).mono ?_
  rintro e w2 ⟨z0, rfl, oz, bz⟩
  have b2 : Below (w.heap.size + 2) ((w.alloc (.cells #[.int .i64 2, .int .i64 f.stream, .int .i64 f.offset, .int .i64 f.n, .int .i64 f.code, .bool f.fin, .slice da f.data.length dc, .slice (some ⟨b, o, none⟩) ss.length sc] 33)).alloc (.cells #[.int .i64 x, .int .i64 y] 44)) w2 := bBC.trans (bz.mono (by simp))
  have HW : Hid (w.heap.size ≤ ((w.alloc (.cells #[.int .i64 2, .int .i64 f.stream, .int .i64 f.offset, .int .i64 f.n, .int .i64 f.code, .bool f.fin, .slice da f.data.length dc, .slice (some ⟨b, o, none⟩) ss.length sc] 33)).alloc (.cells #[.int .i64 x, .int .i64 y] 44)).heap.size ∧ Below w.heap.size w ((w.alloc (.cells #[.int .i64 2, .int .i64 f.stream, .int .i64 f.offset, .int .i64 f.n, .int .i64 f.code, .bool f.fin, .slice da f.data.length dc, .slice (some ⟨b, o, none⟩) ss.length sc] 33)).alloc (.cells #[.int .i64 x, .int .i64 y] 44))) := ⟨bB.size, bB⟩
  have HZ : Hid ([] ++ numsE [2, y, f.n, (m : Int), y - x] ++ downL (ss.getD m (0, 0)) (ss.take m).reverse = encF f) := by
    show _ = _
    have h := HE.out
    rw [← HSX.out] at h ⊢
    rw [h, numsE_cons, numsE_cons, numsE_cons, numsE_cons, numsE_cons, numsE_nil, nilB, nilA, assocA, assocA, assocA, assocA]
  have OZ := Lib.hid oz
  have B2 := Lib.hid b2
  clear hX bz oz q0' q1' bA bC bBC hw2 hszB r1 r2 r3 b2 bB
  go_wp2_with fail
  go_loopw [6, 5] (fun i zz wr => ∃ (k : Nat) (z : Value) (bk : List Int), i = .int .i64 ((k : Int) - 1) ∧ z = zz ∧ k ≤ m ∧ bk ++ downL (ss.getD k (0, 0)) (ss.take k).reverse = encF f ∧ Own .u8 5 wr (w.heap.size + 2) z bk ∧ Below (w.heap.size + 2) ((w.alloc (.cells #[.int .i64 2, .int .i64 f.stream, .int .i64 f.offset, .int .i64 f.n, .int .i64 f.code, .bool f.fin, .slice da f.data.length dc, .slice (some ⟨b, o, none⟩) ss.length sc] 33)).alloc (.cells #[.int .i64 x, .int .i64 y] 44)) wr) (fun i _ _ => (intOf i + 1).toNat)
  case atStart => exact ⟨m, z0, _, rfl, rfl, Nat.le_refl _, HZ.out, OZ.out, B2.out⟩
  case round =>
    obtain ⟨k, z, bk, rfl, rfl, hk, hbk, ok, hbel⟩ := hrel
    have HB := Lib.hid hbk
    have hlk : bk.length ≤ 65536 := by
      have e1 := congrArg List.length hbk
      have e2 := HEL.out
      rw [List.length_append] at e1
      omega
    have hz := hbel.size
    have bw : Below w.heap.size w wr := HW.out.2.trans (hbel.mono (by omega))
    have OK := Lib.hid ok
    have BW := Lib.hid bw
    clear hbk ok bw
    cases k with
    | zero =>
      have HZ : Hid (bk = encF f) := by
        show _ = _
        rw [← HB.out]; simp [downL]
      go_wp2
      go_ret
      exact ⟨_, rfl, by rw [← HZ.out]; exact OK.out.mono (by omega), BW.out⟩
    | succ k =>
      have e0 : (((k + 1 : Nat) : Int) - 1) = (k : Int) := by omega
      rw [e0]
      have hml := HM.out
      obtain ⟨a1, a2, a3⟩ := HR.out.at k (by omega)
      obtain ⟨c1, c2, c3⟩ := HR.out.at (k + 1) (by omega)
      have d1 := HR.out.next k (by omega)
      have Rk : RdS wr (.slice (some ⟨b, o, none⟩) ss.length sc) ss := RdS.below HS.out BW.out
      obtain ⟨p0, p1⟩ := Rk.cells rfl k (by omega)
      obtain ⟨p2, p3⟩ := Rk.cells rfl (k + 1) (by omega)
      have HD : Hid ((ss.take (k + 1)).reverse = ss.getD k (0, 0) :: (ss.take k).reverse) := by
        show _ = _
        rw [List.take_succ_eq_append_getElem (by omega)]
        simp [List.getD, show k < ss.length by omega]
      obtain ⟨⟨x0, y0⟩, hs0⟩ : ∃ s, s = ss.getD k (0, 0) := ⟨_, rfl⟩
      obtain ⟨⟨x1, y1⟩, hs1⟩ : ∃ s, s = ss.getD (k + 1) (0, 0) := ⟨_, rfl⟩
      rw [← hs0] at a1 a2 a3 d1 p0 p1
      rw [← hs1] at c1 c2 c3 d1 p2 p3
      simp only at a1 a2 a3 c1 c2 c3 d1 p0 p1 p2 p3
      have HS0 := Lib.hid hs0
      have HS1 := Lib.hid hs1
      have hw4 : IntKind.i64.wrap ((k : Int) + 1) = (k : Int) + 1 := wraps_i64' _ (by omega) (by omega)
      have hw5 : IntKind.i64.wrap (x1 - y0) = x1 - y0 := by rw [IntKind.wrap_i64]; omega
      have hw6 : IntKind.i64.wrap (x1 - y0 - 2) = x1 - y0 - 2 := by rw [IntKind.wrap_i64]; omega
      have hw7 : IntKind.i64.wrap (y0 - x0) = y0 - x0 := by rw [IntKind.wrap_i64]; omega
      have hw8 : IntKind.i64.wrap ((k : Int) - 1) = (k : Int) - 1 := by rw [IntKind.wrap_i64]; omega
      have j1 : (k : Int) < (ss.length : Int) := by omega
      have j2 : k < ss.length := by omega
      have j3 : (0 : Int) ≤ (k : Int) := by omega
      have j4 : (k : Int) + 1 < (ss.length : Int) := by omega
      have j5 : k + 1 < ss.length := by omega
      have j6 : (0 : Int) ≤ (k : Int) + 1 := by omega
      have QS : ∀ V, Below (w.heap.size + 2) wr.drew V → (V.cell? ⟨w.heap.size, 7, none⟩ = some (.slice (some ⟨b, o, none⟩) ss.length sc) ∧ V.cell? ⟨b, o + k * 2, none⟩ = some (.int .i64 x0) ∧ V.cell? ⟨b, o + k * 2 + 1, none⟩ = some (.int .i64 y0) ∧ V.cell? ⟨b, o + (k + 1) * 2, none⟩ = some (.int .i64 x1)) := by
        intro V hV
        have g : ∀ q, V.cell? ⟨b, q, none⟩ = wr.cell? ⟨b, q, none⟩ := fun q => hV.cell (p := ⟨b, q, none⟩) (by show b < _; omega)
        exact ⟨HX.out V (hbel.trans ((below_drewN (Below.refl _ wr) 1).trans hV)), (g _).trans p0, (g _).trans p1, (g _).trans p2⟩
      have hszw : w.heap.size + 2 ≤ wr.drew.heap.size := by show _ ≤ wr.heap.size; have := hbel.size; simp at this; omega
      have hszn : w.heap.size + 2 ≤ (wr.drew.alloc (.cells #[.int .i64 (x1 - y0 - 2), .int .i64 (y0 - x0)] 3)).heap.size := by rw [World.size_alloc]; omega
      have bNC : Below (w.heap.size + 2) wr.drew (wr.drew.alloc (.cells #[.int .i64 (x1 - y0 - 2), .int .i64 (y0 - x0)] 3)) := (Below.refl _ _).alloc hszw _
      have QA := QS _ (Below.refl _ _)
      have QB := QS _ bNC
      have hns2 : ∀ n ∈ ([x1 - y0 - 2, y0 - x0] : List Int), 0 ≤ n ∧ n ≤ 4611686018427387903 := by
        intro n hn
        simp only [List.mem_cons, List.not_mem_nil, or_false] at hn
        rcases hn with rfl | rfl <;> omega
      have M1 := Lib.hid (puts_any (w.heap.size + 2) z _ bk [x1 - y0 - 2, y0 - x0] (wr.drew.alloc (.cells #[.int .i64 (x1 - y0 - 2), .int .i64 (y0 - x0)] 3)) hszn ((OK.out.drew).alloc _) (Rd.lit' [x1 - y0 - 2, y0 - x0] (by simp) 2 wr.heap.size rfl (by decide) _ rfl rfl) (by simp; omega) hns2)
      have HQ := Lib.hid QS
      have HBN := Lib.hid bNC
      have hbD := Lib.hid (hbel.trans (below_drewN (Below.refl _ wr) 1))
      clear hml hs0 hs1 Rk p3 p0 p1 p2 QS hns2 bNC hbel
      go_wp2_with fail
      go_region_held3 (fun w' => w'.cell? ⟨w.heap.size, 7, none⟩ = some (.slice (some ⟨b, o, none⟩) ss.length sc) ∧ w'.cell? ⟨b, o + k * 2, none⟩ = some (.int .i64 x0) ∧ w'.cell? ⟨b, o + k * 2 + 1, none⟩ = some (.int .i64 y0) ∧ w'.cell? ⟨b, o + (k + 1) * 2, none⟩ = some (.int .i64 x1))
        (first
          | (exact QA)
          | (exact QB)
          | (exact HQ.out _ (HBN.out.trans (b3.mono hszn))))
        (first
          | (go_at_call 42; refine M1.out.mono ?_; rintro e w3 ⟨z3, rfl, o3, b3⟩))
      have HB2 : Hid (bk ++ numsE [x1 - y0 - 2, y0 - x0] ++ downL (ss.getD k (0, 0)) (ss.take k).reverse = encF f) := by
        show _ = _
        rw [← HB.out, HD.out, downL, ← HS0.out, ← HS1.out, numsE_cons, numsE_cons, numsE_nil, nilB]
        simp only [assocA]
      have b4 := hbD.out.trans (HBN.out.trans (b3.mono hszn))
      go_wp2_with fail
      exact ⟨⟨k, z3, _, rfl, rfl, by omega, HB2.out, o3, b4⟩, by simp [intOf]⟩
end Go.Proofs.YtfkkimaebhjneaaDoor
