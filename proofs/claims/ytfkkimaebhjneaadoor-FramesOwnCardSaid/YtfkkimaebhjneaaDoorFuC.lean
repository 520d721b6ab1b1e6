/- Walks of layer 4: the reference's May. -/
import Derived.Test.YtfkkimaebhjneaaDoorFuB
set_option linter.unusedSimpArgs false
set_option linter.unusedVariables false
namespace Go.Proofs.YtfkkimaebhjneaaDoor
open Go.RowKit

def rmayF (f : Fr) : Bool := decide (knownK f.kind) && decide (f.data.length ≤ 1200) && sameF (keepF f) f && numB f.stream true && numB f.offset true && numB f.n true && numB f.code true && (decide (f.offset ≤ 4611686018427387903 - f.data.length) && (f.kind != 2 || spansB f.spans true))
theorem spansB_no (ss : List (Int × Int)) : (spansB ss false = true) = (ss = []) := by simp [spansB]
theorem zero_eq_comm (n : Int) : (0 = n) = (n = 0) := propext eq_comm
theorem rmayF_eq (f : Fr) : rmayF f = mayF f := by
  by_cases hk : knownK f.kind
  · have e : decide (knownK f.kind) = true := decide_eq_true hk
    obtain ⟨k, s, o, n, c, b, d, ss⟩ := f
    simp only at hk e
    unfold rmayF mayF
    rw [e]
    unfold knownK at hk
    rw [Bool.eq_iff_iff]
    rcases hk with rfl | rfl | rfl | rfl | rfl | rfl | rfl | rfl | rfl | rfl | rfl
    all_goals
      simp only [sameF, keepF, hStream, hOffset, hN, hCode, hFin, hData, hSpans, numB, dataB, Bool.true_and, Bool.false_and, Bool.and_true, Bool.and_false, if_true, if_false, decide_true, decide_false, Int.reduceEq, or_false, false_or, true_or, or_true, Bool.and_eq_true, decide_eq_true_eq, beq_iff_eq, bne_iff_ne, Bool.or_eq_true, Bool.not_eq_true', ne_eq, not_true_eq_false, not_false_eq_true, Bool.false_eq_true, Bool.true_or, Bool.false_or, and_true, true_and, List.length_eq_zero_iff, Bool.or_false, Bool.or_true, reduceIte, Bool.not_true, Bool.not_false]
      simp only [spansB_no, zero_eq_comm, List.nil_eq, Bool.false_eq, and_assoc]
      first
        | grind
        | (constructor
           · rintro ⟨_, h1, h2, h3, h4, h5, h6, h7, _⟩
             exact ⟨h1, h4, h2, h3, h7, h6, h5⟩
           · rintro ⟨rfl, rfl, rfl, rfl, rfl, rfl, rfl⟩
             simp)
  · unfold rmayF mayF
    rw [decide_eq_false hk]
    rfl

/-- bare of a known kind: a frame that reads as keepF f -/
theorem bare_any (f : Fr) (da sa : Option Addr) (dc sc : Nat) (w : World) (hd : Rd .u8 w (.slice da f.data.length dc) f.data) (hs : RdS w (.slice sa f.spans.length sc) f.spans) (hk : knownK f.kind) :
    ∃ da' sa' dc' sc', Rd .u8 w (.slice da' (keepF f).data.length dc') (keepF f).data ∧ RdS w (.slice sa' (keepF f).spans.length sc') (keepF f).spans ∧
      ∀ V, Calls Tryd.prog 30 #[.agg #[.int .i64 f.kind, .int .i64 f.stream, .int .i64 f.offset, .int .i64 f.n, .int .i64 f.code, .bool f.fin, .slice da f.data.length dc, .slice sa f.spans.length sc]] V fun e w' => e = .returned (.tuple #[.agg #[.int .i64 (keepF f).kind, .int .i64 (keepF f).stream, .int .i64 (keepF f).offset, .int .i64 (keepF f).n, .int .i64 (keepF f).code, .bool (keepF f).fin, .slice da' (keepF f).data.length dc', .slice sa' (keepF f).spans.length sc'], .bool true]) ∧ Below V.heap.size V w' := by
  have h0 := hk
  unfold knownK at hk
  have N1 : Rd .u8 w (.slice none ([] : List Int).length 0) [] := Rd.nil _ _
  have N2 : RdS w (.slice none ([] : List (Int × Int)).length 0) [] := RdS.nil _
  obtain ⟨k, s, o, n, c, b, d, ss⟩ := f
  simp only at hk hd hs
  rcases hk with rfl | rfl | rfl | rfl | rfl | rfl | rfl | rfl | rfl | rfl | rfl
  · exact ⟨_, _, _, _, N1, N2, fun V => bare_4 ⟨4, s, o, n, c, b, d, ss⟩ da sa _ dc _ sc V⟩
  · exact ⟨_, _, _, _, N1, N2, fun V => bare_5 ⟨5, s, o, n, c, b, d, ss⟩ da sa _ dc _ sc V⟩
  · exact ⟨_, _, _, _, hd, N2, fun V => bare_8 ⟨8, s, o, n, c, b, d, ss⟩ da sa _ dc _ sc V⟩
  · exact ⟨_, _, _, _, N1, N2, fun V => bare_17 ⟨17, s, o, n, c, b, d, ss⟩ da sa _ dc _ sc V⟩
  · exact ⟨_, _, _, _, N1, N2, fun V => bare_16 ⟨16, s, o, n, c, b, d, ss⟩ da sa _ dc _ sc V⟩
  · exact ⟨_, _, _, _, N1, N2, fun V => bare_18 ⟨18, s, o, n, c, b, d, ss⟩ da sa _ dc _ sc V⟩
  · exact ⟨_, _, _, _, N1, hs, fun V => bare_2 ⟨2, s, o, n, c, b, d, ss⟩ da sa _ dc _ sc V⟩
  · exact ⟨_, _, _, _, hd, N2, fun V => bare_28 ⟨28, s, o, n, c, b, d, ss⟩ da sa _ dc _ sc V⟩
  · exact ⟨_, _, _, _, N1, N2, fun V => bare_0 ⟨0, s, o, n, c, b, d, ss⟩ da sa _ dc _ sc V⟩
  · exact ⟨_, _, _, _, N1, N2, fun V => bare_1 ⟨1, s, o, n, c, b, d, ss⟩ da sa _ dc _ sc V⟩
  · exact ⟨_, _, _, _, N1, N2, fun V => bare_30 ⟨30, s, o, n, c, b, d, ss⟩ da sa _ dc _ sc V⟩

set_option maxHeartbeats 3200000 in
theorem rmay_any (f : Fr) (da sa : Option Addr) (dc sc : Nat) (w : World) (hd : Rd .u8 w (.slice da f.data.length dc) f.data) (hs : RdS w (.slice sa f.spans.length sc) f.spans) (hx : Bts f.data) (hlen : f.data.length ≤ maxLen) :
    Calls Tryd.prog 15 #[.agg #[.int .i64 f.kind, .int .i64 f.stream, .int .i64 f.offset, .int .i64 f.n, .int .i64 f.code, .bool f.fin, .slice da f.data.length dc, .slice sa f.spans.length sc]] w fun e w' => e = .returned (.bool (mayF f)) ∧ Below w.heap.size w w' := by
  have hM : Hid (mayF f = rmayF f) := (rmayF_eq f).symm
  unfold rmayF at hM
  have bA : Below w.heap.size w (w.alloc (.cells #[.int .i64 f.kind, .int .i64 f.stream, .int .i64 f.offset, .int .i64 f.n, .int .i64 f.code, .bool f.fin, .slice da f.data.length dc, .slice sa f.spans.length sc] 33)) := (Below.refl _ _).alloc (Nat.le_refl _) _
  by_cases hk : knownK f.kind
  · obtain ⟨da', sa', dc', sc', hd', hs', hbare⟩ := bare_any f da sa dc sc w hd hs hk
    have HB : Hid (∀ V, Calls Tryd.prog 30 #[.agg #[.int .i64 f.kind, .int .i64 f.stream, .int .i64 f.offset, .int .i64 f.n, .int .i64 f.code, .bool f.fin, .slice da f.data.length dc, .slice sa f.spans.length sc]] V fun e w' => e = .returned (.tuple #[.agg #[.int .i64 (keepF f).kind, .int .i64 (keepF f).stream, .int .i64 (keepF f).offset, .int .i64 (keepF f).n, .int .i64 (keepF f).code, .bool (keepF f).fin, .slice da' (keepF f).data.length dc', .slice sa' (keepF f).spans.length sc'], .bool true]) ∧ Below V.heap.size V w') := hbare
    have HD := Lib.hid hd
    have HS := Lib.hid hs
    have HD' := Lib.hid hd'
    have HS' := Lib.hid hs'
    have HX := Lib.hid hx
    have HX' : Hid (Bts (keepF f).data) := by
      show Bts (if hData f.kind then f.data else [])
      split
      · exact hx
      · intro x h; cases h
    have hK : Hid (decide (knownK f.kind) = true) := decide_eq_true hk
    unfold maxLen at hlen
    have hw1 : IntKind.i64.wrap (4611686018427387903 - (f.data.length : Int)) = 4611686018427387903 - (f.data.length : Int) := by rw [IntKind.wrap_i64]; omega
    clear hd hs hd' hs' hx hbare hk
    go_enter Tryd.func15, Tryd.ntmps15
    go_wp2_with fail
    refine (HB.out _).mono ?_
    rintro e w1 ⟨rfl, b1⟩
    have B1 : Below w.heap.size w w1 := bA.trans (b1.mono (by simp))
    have kx := (b1.block w.heap.size (by simp)).trans (alloc_at w (.cells #[.int .i64 f.kind, .int .i64 f.stream, .int .i64 f.offset, .int .i64 f.n, .int .i64 f.code, .bool f.fin, .slice da f.data.length dc, .slice sa f.spans.length sc] 33))
    have zx : w.heap.size < w1.heap.size := (Array.getElem?_eq_some_iff.1 kx).1
    have kc := fun i => Joins.cell_of_block kx i
    have kc0 := kc 0
    have kc1 := kc 1
    have kc2 := kc 2
    have kc3 := kc 3
    have kc4 := kc 4
    have kc5 := kc 5
    have kc6 := kc 6
    have kc7 := kc 7
    have z1 := b1.size
    have HKX := Lib.hid kx
    clear bA kc kx b1
    have B2 : Below w.heap.size w (w1.alloc (.cells #[.int .i64 (keepF f).kind, .int .i64 (keepF f).stream, .int .i64 (keepF f).offset, .int .i64 (keepF f).n, .int .i64 (keepF f).code, .bool (keepF f).fin, .slice da' (keepF f).data.length dc', .slice sa' (keepF f).spans.length sc'] 33)) := B1.alloc B1.size _
    by_cases hl : 1200 < f.data.length
    · have t1 : decide (1200 < (f.data.length : Int)) = true := decide_eq_true (by omega)
      have hL : Hid (decide (f.data.length ≤ 1200) = false) := decide_eq_false (by omega)
      clear hl
      go_wp2_with fail
      go_ret
      exact ⟨ret_bool (by rw [hM.out, hK.out, hL.out]; rfl), B2⟩
    have t1 : decide (1200 < (f.data.length : Int)) = false := decide_eq_false (by omega)
    have hL : Hid (decide (f.data.length ≤ 1200) = true) := decide_eq_true (by omega)
    clear hl
    go_wp2_with fail
    refine (one_any (keepF f) f da' sa' da sa dc' sc' dc sc _ (HD'.out.below B2) (HD.out.below B2) (HS'.out.below B2) (HS.out.below B2) HX'.out HX.out).mono ?_
    rintro e w3 ⟨rfl, b3⟩
    have B3 : Below w.heap.size w w3 := B2.trans (b3.mono B2.size)
    have ky := ((b3.block w.heap.size (by simp; omega)).trans (Below.heap_alloc w1 _ w.heap.size zx)).trans HKX.out
    have kd := fun i => Joins.cell_of_block ky i
    have kd0 := kd 0
    have kd1 := kd 1
    have kd2 := kd 2
    have kd3 := kd 3
    have kd4 := kd 4
    have kd6 := kd 6
    have kd7 := kd 7
    clear kd ky b3
    cases h1 : sameF (keepF f) f
    · go_wp2_with fail
      go_ret
      exact ⟨ret_bool (by rw [hM.out, hK.out, hL.out, h1]; rfl), B3⟩
    go_wp2_with fail
    refine (rnumber_any f.stream _).mono ?_
    rintro e w' ⟨rfl, rfl⟩
    cases h2 : numB f.stream true
    · go_wp2_with fail
      go_ret
      exact ⟨ret_bool (by rw [hM.out, hK.out, hL.out, h1, h2]; rfl), B3⟩
    go_wp2_with fail
    refine (rnumber_any f.offset _).mono ?_
    rintro e w' ⟨rfl, rfl⟩
    cases h3 : numB f.offset true
    · go_wp2_with fail
      go_ret
      exact ⟨ret_bool (by rw [hM.out, hK.out, hL.out, h1, h2, h3]; rfl), B3⟩
    go_wp2_with fail
    refine (rnumber_any f.n _).mono ?_
    rintro e w' ⟨rfl, rfl⟩
    cases h4 : numB f.n true
    · go_wp2_with fail
      go_ret
      exact ⟨ret_bool (by rw [hM.out, hK.out, hL.out, h1, h2, h3, h4]; rfl), B3⟩
    go_wp2_with fail
    refine (rnumber_any f.code _).mono ?_
    rintro e w' ⟨rfl, rfl⟩
    cases h5 : numB f.code true
    · go_wp2_with fail
      go_ret
      exact ⟨ret_bool (by rw [hM.out, hK.out, hL.out, h1, h2, h3, h4, h5]; rfl), B3⟩
    obtain ⟨q, hq⟩ : ∃ q, q = decide (f.offset ≤ 4611686018427387903 - (f.data.length : Int)) := ⟨_, rfl⟩
    have HQ : Hid (mayF f = (q && (f.kind != 2 || spansB f.spans true))) := by
      show _ = _
      rw [hM.out, hK.out, hL.out, h1, h2, h3, h4, h5, ← hq]; simp
    have hq' := hq.symm
    clear hq hM
    cases q
    · go_wp2_with fail
      go_ret
      exact ⟨ret_bool (by rw [HQ.out]; rfl), B3⟩
    cases h6 : (f.kind != 2)
    · go_wp2_with fail
      refine (rspans_any _ f.spans _ (HS.out.below B3)).mono ?_
      rintro e w4 ⟨rfl, b4⟩
      go_wp2_with fail
      go_ret
      exact ⟨ret_bool (by rw [HQ.out, h6]; rfl), B3.trans (b4.mono B3.size)⟩
    · go_wp2_with fail
      go_ret
      exact ⟨ret_bool (by rw [HQ.out, h6]; rfl), B3⟩
  · have hK : Hid (decide (knownK f.kind) = false) := decide_eq_false hk
    have HB := Lib.hid (bare_none f da sa f.data.length dc f.spans.length sc (w.alloc (.cells #[.int .i64 f.kind, .int .i64 f.stream, .int .i64 f.offset, .int .i64 f.n, .int .i64 f.code, .bool f.fin, .slice da f.data.length dc, .slice sa f.spans.length sc] 33)) hk)
    clear hk hd hs hx
    go_enter Tryd.func15, Tryd.ntmps15
    go_wp2_with fail
    refine HB.out.mono ?_
    rintro e w1 ⟨rfl, b1⟩
    have B1 : Below w.heap.size w w1 := bA.trans (b1.mono (by simp))
    go_wp2_with fail
    go_ret
    exact ⟨ret_bool (by rw [hM.out, hK.out]; rfl), B1.alloc B1.size _⟩
end Go.Proofs.YtfkkimaebhjneaaDoor
