/- Walks of layer 14, the document's decoder: Decode, where all goes well. -/
import Derived.Test.YtbkbabaoockigaaGreatDoorQmF
set_option maxRecDepth 100000
set_option linter.unusedSimpArgs false
set_option linter.unusedVariables false
namespace Go.Proofs.YtbkbabaoockigaaGreatDoor
open Go.RowKit

theorem decE_ok {q : TQ} {xs : List Int} {l : List Fd} (h : decE q xs = (l, 0, 0)) : ∃ f0 need x f d x', numE xs 0 8 = (f0, need, x, 0) ∧ need ≤ countN q ∧ numE xs x 7 = (f, d, x', 0) ∧
    ((f = 0 ∧ linesE q need ((need : Int) + d) xs x' [] = (l, 0, 0)) ∨ (f ≠ 0 ∧ d < need ∧ linesE q need ((need : Int) - d - 1) xs x' [] = (l, 0, 0))) := by
  unfold decE at h
  obtain ⟨⟨f0, need, x, y⟩, hN⟩ : ∃ r, numE xs 0 8 = r := ⟨_, rfl⟩
  simp only [hN] at h
  by_cases hy : y = 0
  · subst hy
    rw [if_neg (fun h => h rfl)] at h
    by_cases hc : countN q < need
    · rw [if_pos hc] at h
      simp only [Prod.mk.injEq] at h
      exact absurd h.2.1 (by decide)
    · rw [if_neg hc] at h
      obtain ⟨⟨f, d, x', y⟩, hM⟩ : ∃ r, numE xs x 7 = r := ⟨_, rfl⟩
      simp only [hM] at h
      by_cases hy : y = 0
      · subst hy
        rw [if_neg (fun h => h rfl)] at h
        by_cases hf : f ≠ 0
        · rw [if_pos hf] at h
          by_cases hb : (need : Int) - d - 1 < 0
          · rw [if_pos hb] at h
            simp only [Prod.mk.injEq] at h
            exact absurd h.2.1 (by decide)
          · rw [if_neg hb] at h
            exact ⟨f0, need, x, f, d, x', hN, by omega, hM, .inr ⟨hf, by omega, h⟩⟩
        · rw [if_neg hf] at h
          by_cases hb : (need : Int) + d < 0
          · omega
          · rw [if_neg hb] at h
            exact ⟨f0, need, x, f, d, x', hN, by omega, hM, .inl ⟨Decidable.not_not.1 hf, h⟩⟩
      · rw [if_pos hy] at h
        simp only [Prod.mk.injEq] at h
        exact absurd h.2.1 hy
  · rw [if_pos hy] at h
    simp only [Prod.mk.injEq] at h
    exact absurd h.2.1 hy
/-- Decode under way -/
structure RLw (g b : Nat) (v : Value) (q : TQ) (vx : Value) (xs : List Int) (need : Nat) (base : Int) (R : List Fd) (w w2 wr : World) (u : Value) (a : Nat) (l : List Fd) : Prop where
  togo : linesE q need base xs a l = (R, 0, 0)
  few : a ≤ xs.length
  len : l.length ≤ 64
  rf : RF g b v q vx xs a wr
  row : OwnB w2.heap.size wr u l
  bel : Below w.heap.size w wr
  res : Cs wr w.heap.size [.int .i64 0, .int .i64 0]
  siz : w2.heap.size ≤ wr.heap.size
theorem RLw.next {g b : Nat} {v : Value} {q : TQ} {vx : Value} {xs : List Int} {need : Nat} {base : Int} {R : List Fd} {w w2 wr w7 w8 w9 : World} {u v9 : Value} {a a0 x' : Nat} {l : List Fd} {fn fv : ByteArray} (L : RLw g b v q vx xs need base R w w2 wr u a l)
    (S2 : RF g b v q vx xs a0 w2) (hz : w.heap.size < g ∧ w.heap.size < w2.heap.size ∧ g < w2.heap.size) (h64 : l.length ≠ 64) (K7 : Keep [g] wr w7) (S7 : RF g b v q vx xs x' w7) (B8 : Below w7.heap.size w7 w8)
    (o : w9.ownsRow w2.heap.size 74 2 v9 (l.length + 1) (fdC l ++ [.string fn, .string fv])) (hg : w8.grownBy w9 u.ownBlock) (ht : linesE q need base xs x' (l ++ [⟨fn, fv⟩]) = (R, 0, 0)) (hx : x' ≤ xs.length) : RLw g b v q vx xs need base R w w2 w9 v9 x' (l ++ [⟨fn, fv⟩]) := by
  have hown : ∀ j, u.ownBlock = some j → w2.heap.size ≤ j := fun j hj => (World.ownsRow.lt L.row j hj).1
  have k9 : Keep u.ownBlock.toList w8 w9 := Keep.of_grown hg (fun j hj => .inl (by rw [hj]; simp))
  have hS : ∀ i ∈ u.ownBlock.toList, w2.heap.size ≤ i := fun i hi => hown i (by simpa using hi)
  have hlen := L.len
  have r8 := S7.bel B8
  have l1 := S2.rd.lt
  have l2 := S2.tb.lt
  refine ⟨ht, hx, by simp only [List.length_append, List.length_singleton]; omega, ⟨r8.tb.keep k9 (fun hm => by have := hS _ hm; omega) (fun h0 j hj hm => by have := S2.tb.vlt h0 j hj; have := hS _ hm; omega), r8.rd.keep k9 (fun hm => by have := hS _ hm; omega) (fun h0 j hj hm => by have := S2.rd.read.blt h0 j hj; have := hS _ hm; omega), r8.ne, r8.vg, r8.xb⟩, ?_, ?_, ?_, Nat.le_trans (Nat.le_trans (Nat.le_trans L.siz K7.size) B8.size) k9.size⟩
  · unfold OwnB
    rw [List.length_append, fdC_append]
    exact o
  · have h1 : Below w.heap.size w w7 := L.bel.trans (K7.to_below (fun i hi => by simp only [List.mem_singleton] at hi; omega) L.bel.size)
    have h2 : Below w.heap.size w w8 := h1.trans (B8.mono h1.size)
    exact h2.trans (k9.to_below (fun i hi => by have := hS i hi; omega) h2.size)
  · refine ((L.res.keep K7 (by simp; omega)).below B8).keep k9 (fun hm => by have := hS _ hm; omega)
theorem RLw.good {g b : Nat} {v : Value} {q : TQ} {vx : Value} {xs : List Int} {need : Nat} {base : Int} {R : List Fd} {w w2 wr : World} {u : Value} {a : Nat} {l : List Fd} (L : RLw g b v q vx xs need base R w w2 wr u a l) (ha : a < xs.length) : l.length ≠ 64 ∧ (lineE q need base xs a).2.2 = 0 := by
  by_cases h64 : l.length = 64
  · have := L.togo
    rw [lines_many ha h64] at this
    simp only [Prod.mk.injEq] at this
    exact absurd this.2.1 (by decide)
  · refine ⟨h64, ?_⟩
    by_cases h : (lineE q need base xs a).2.2 = 0
    · exact h
    · have := L.togo
      rw [lines_bad ha h64 h] at this
      simp only [Prod.mk.injEq] at this
      exact this.2.1
theorem rdc_results {W : World} {tmps : Array Value} {A : Nat} {u v0 v1 : Value} (h4 : tmps[4]?.getD undef = u) (h5 : tmps[5]?.getD undef = .pointer (some ⟨A, 0, none⟩))
    (c0 : W.cell? ⟨A, 0, none⟩ = some v0) (c1 : W.cell? ⟨A, 1, none⟩ = some v1) : (results Tryz.f17 tmps).run Tryz.prog W = .ok (.tuple #[u, .agg #[v0, v1]]) W := by
  have hr : Tryz.f17.results = #[.tmp 4, .cell 5 42] := rfl
  simp only [results, hr]
  go_simp

set_option maxHeartbeats 12800000 in
theorem rdecode_plus {b : Nat} {v : Value} {q : TQ} {vx : Value} {xs : List Int} (w : World) (h : RTb b v q w) (hr : Rd .u8 w vx xs) (hv : xs ≠ [] → ∀ j, vx.ownBlock = some j → j ≠ b) (hx : Bts xs) (hl : xs.length ≤ 1048576) (hc : countN q ≤ 1152921504606846976) {l : List Fd}
    {f0 f : Int} {need x d x' : Nat} (hN : numE xs 0 8 = (f0, need, x, 0)) (hnd : need ≤ countN q) (hM : numE xs x 7 = (f, d, x', 0)) (hf : f = 0) (hL : linesE q need ((need : Int) + d) xs x' [] = (l, 0, 0)) :
    Calls Tryz.prog 17 #[.pointer (some ⟨b, 0, none⟩), vx] w (DecIs14 w (l, 0, 0)) := by
  have hbz := h.lt
  obtain ⟨base, hbase⟩ : ∃ base : Int, base = ((need : Int) + d) := ⟨_, rfl⟩
  have hd62 := (num_ok hx hM).2.2.2.1
  have hx'l := (num_ok hx hM).2.2.1
  have hb0 : 0 ≤ base := by omega
  have hb1 : base ≤ 9223372036854775807 := by omega
  rw [← hbase] at hL
  subst hf
  have hwa : IntKind.i64.wrap ((need : Int) + (d : Int)) = base := by rw [wraps_i64' _ (by omega) (by omega)]; omega
  have dn : decide ((need : Int) > (countN q : Int)) = false := decide_eq_false (by omega)
  have dn' : decide (countN q < need) = false := decide_eq_false (by omega)
  have dn'' : decide (need > countN q) = false := decide_eq_false (by omega)
  have dn3 : decide ((countN q : Int) < (need : Int)) = false := decide_eq_false (by omega)
  obtain ⟨w1, hw1⟩ : ∃ W, W = w.alloc (.cells #[.int .i64 0, .int .i64 0] 42) := ⟨_, rfl⟩
  have hb1' : Below w.heap.size w w1 := by rw [hw1]; exact below1 w _
  have hs1 : w1.heap.size = w.heap.size + 1 := by rw [hw1]; simp
  have hq1 : Cs w1 w.heap.size [.int .i64 0, .int .i64 0] := by rw [hw1]; exact Cs.made w #[.int .i64 0, .int .i64 0] 42
  obtain ⟨va, vc, rfl⟩ := hr.isSlice
  obtain ⟨w2, hw2⟩ : ∃ W, W = w1.alloc (.cells #[.slice va xs.length vc, .int .i64 0, .int .i64 0] 79) := ⟨_, rfl⟩
  have hb2 : Below w1.heap.size w1 w2 := by rw [hw2]; exact below1 w1 _
  have hq2 : Cs w2 w1.heap.size [.slice va xs.length vc, .int .i64 0, .int .i64 0] := by
    have := Cs.made w1 #[.slice va xs.length vc, .int .i64 0, .int .i64 0] 79
    rw [hw2]; exact this
  have hbb : Below w.heap.size w w2 := hb1'.trans (hb2.mono hb1'.size)
  have hs2 : w2.heap.size = w.heap.size + 1 + 1 := by rw [hw2]; simp [hs1]
  have S2 : Hid (RF w1.heap.size b v q (.slice va xs.length vc) xs 0 w2) :=
    ⟨h.below hbb, ⟨hq2, rfl, rfl, hr.below hbb, fun h0 j hj => by have := hr.blt h0 j hj; omega⟩, by omega, fun h0 j hj => by have := h.vlt h0 j hj; omega, hv⟩
  have HB := Lib.hid hbb
  have HQ2 := Lib.hid (hq1.below hb2)
  have HSZ : Hid (w.heap.size < w1.heap.size ∧ w.heap.size < w2.heap.size ∧ w1.heap.size < w2.heap.size) := ⟨by omega, by omega, by omega⟩
  have HN1 : Hid (∀ W, RF w1.heap.size b v q (.slice va xs.length vc) xs 0 W → Calls Tryz.prog 33 #[.pointer (some ⟨w1.heap.size, 0, none⟩), .int .i64 8] W fun e w' => e = .returned (.tuple #[.int .i64 f0, .int .i64 (need : Int)]) ∧ Keep [w1.heap.size] W w' ∧ RF w1.heap.size b v q (.slice va xs.length vc) xs x w') := fun W hW => hW.num hx 8 hN
  have HN2 : Hid (∀ W, RF w1.heap.size b v q (.slice va xs.length vc) xs x W → Calls Tryz.prog 33 #[.pointer (some ⟨w1.heap.size, 0, none⟩), .int .i64 7] W fun e w' => e = .returned (.tuple #[.int .i64 0, .int .i64 (d : Int)]) ∧ Keep [w1.heap.size] W w' ∧ RF w1.heap.size b v q (.slice va xs.length vc) xs x' w') := fun W hW => hW.num hx 7 hM
  have HCN : Hid (∀ W, RF w1.heap.size b v q (.slice va xs.length vc) xs x W → Calls Tryz.prog 34 #[.pointer (some ⟨b, 0, none⟩)] W fun e w' => e = .returned (.int .i64 (countN q : Int)) ∧ ∃ n, w' = W.drewN n) := fun W hW => rcount_any W hW.tb (by omega)
  have HLN : Hid (∀ W a fn fv y, RF w1.heap.size b v q (.slice va xs.length vc) xs a W → a < xs.length → lineE q need base xs a = (⟨fn, fv⟩, y, 0) → Calls Tryz.prog 35 #[.pointer (some ⟨b, 0, none⟩), .pointer (some ⟨w1.heap.size, 0, none⟩), .int .i64 (need : Int), .int .i64 base] W fun e w' => e = .returned (.tuple #[.agg #[.string fn, .string fv], .int .i64 0]) ∧ Keep [w1.heap.size] W w' ∧ RF w1.heap.size b v q (.slice va xs.length vc) xs y w') :=
    fun W a fn fv y hW ha hI => rline_yes W hW hx hl (by omega) ha need (by omega) base hb0 hb1 hI
  have HX : Hid (Bts xs ∧ xs.length ≤ 1048576) := ⟨hx, hl⟩
  have HHL : Hid (linesE q need base xs x' [] = (l, 0, 0) ∧ x' ≤ xs.length) := ⟨hL, hx'l⟩
  have HW1 := Lib.hid hw1
  have HW2 := Lib.hid hw2
  have HBS := Lib.hid hbase
  have tok : True := trivial
  skip
  obtain ⟨C, hC⟩ : ∃ C, C = countN q := ⟨_, rfl⟩
  rw [← hC] at dn dn' dn'' dn3 HCN
  clear hC hw1 hw2 h hr hb1' hb2 hs1 hs2 hq1 hq2 hbb hv hc hx hl hL hN hM hnd hbz hbase
  go_enter Tryz.func17, Tryz.ntmps17
  go_upto_region 1 with fail
  rw [← HW1.out]
  go_upto_region 2 with fail
  rw [← HW2.out]
  go_wp2_with (first
    | (go_at_call 33; have _t := tok; refine (HN1.out _ S2.out).mono ?_; rintro e w3 ⟨rfl, hk, hs⟩; have K3 := Lib.hid hk; have S3 := Lib.hid hs; obtain ⟨_, _, ee3, _⟩ := hs.rd.facts; clear hk hs; clear tok)
    | (go_at_call 34; refine (HCN.out _ S3.out).mono ?_; rintro e w4 ⟨rfl, nd, hw⟩; have S4 := Lib.hid (S3.out.drw nd); have K4 := Lib.hid (K3.out.drewN nd); rw [← hw] at S4 K4; clear hw)
    | (go_at_call 33; refine (HN2.out _ S4.out).mono ?_; rintro e w5 ⟨rfl, hk, hs⟩; have K5 := Lib.hid (K4.out.trans hk (fun i hi => .inl hi)); have S5 := Lib.hid hs; obtain ⟨_, _, ee5, _⟩ := hs.rd.facts; clear hk hs))
  have L0 : Hid (RLw w1.heap.size b v q (.slice va xs.length vc) xs need base l w w2 w5 (.slice none 0 0) x' []) :=
    ⟨HHL.out.1, HHL.out.2, by simp, S5.out, World.ownsRow_nil _ _ _ _, HB.out.trans ((K5.out.to_below (B := w1.heap.size) (by simp) (Nat.le_of_lt HSZ.out.2.2)).mono (Nat.le_of_lt HSZ.out.1)), HQ2.out.keep K5.out (by simp; have := HSZ.out.1; omega), K5.out.size⟩
  go_loopw [12] (fun u wr => ∃ a l', RLw w1.heap.size b v q (.slice va xs.length vc) xs need base l w w2 wr u a l') (fun _ wr => xs.length - posAt w1.heap.size 0 wr)
  case atStart => exact ⟨x', [], L0.out⟩
  case round =>
    obtain ⟨a, l', hlw⟩ := hrel
    have LW := Lib.hid hlw
    clear hlw L0 S3 K3 S4 K4 S5 K5
    obtain ⟨c0, c1, _, _⟩ := LW.out.rf.rd.facts
    obtain ⟨ua, uc, rfl, huc, hum⟩ := RdC.isSlice (RdC.of_owns LW.out.row)
    by_cases ha : a < xs.length
    · obtain ⟨h64, hy⟩ := LW.out.good ha
      have d1 : decide ((a : Int) < (xs.length : Int)) = true := decide_eq_true (by omega)
      have d1n : decide (a < xs.length) = true := decide_eq_true (by omega)
      have e1 : ((l'.length : Int) == 64) = false := by simp; omega
      have e2 : (l'.length == 64) = false := by simp; omega
      have hst : linesE q need base xs (lineE q need base xs a).2.1 (l' ++ [(lineE q need base xs a).1]) = (l, 0, 0) ∧ a < (lineE q need base xs a).2.1 ∧ (lineE q need base xs a).2.1 ≤ xs.length := ⟨(lines_step HX.out.1 ha h64 hy).symm.trans LW.out.togo, (line_ok HX.out.1 hy).1, (line_ok HX.out.1 hy).2⟩
      obtain ⟨⟨⟨fn, fv⟩, y, z⟩, hI⟩ : ∃ r, lineE q need base xs a = r := ⟨_, rfl⟩
      rw [hI] at hst hy
      simp only at hst hy
      subst hy
      have HST := Lib.hid hst
      have HL1 := Lib.hid (HLN.out wr a fn fv y LW.out.rf ha hI)
      have H64 := Lib.hid h64
      clear ha hI hst h64
      go_wp2_with (first
        | (go_at_call 35; refine HL1.out.mono ?_; rintro e w7 ⟨rfl, hk7, hs7⟩; have K7 := Lib.hid hk7; have S7 := Lib.hid hs7; have ROW7 : Hid (OwnB w2.heap.size w7 (.slice ua l'.length uc) l') := owns_keep LW.out.row K7.out (fun j hj => by have := World.ownsRow.lt LW.out.row j hj; have := HSZ.out.2.2; simp; omega); have B8 := Lib.hid ((below1 w7 (.cells #[.string fn, .string fv] 74)).trans ((below1 (w7.alloc (.cells #[.string fn, .string fv] 74)) (.cells #[.string fn, .string fv] 74)).mono (by simp))); have HZ2 : Hid (∀ W, Below w7.heap.size w7 W → w2.heap.size ≤ W.heap.size) := fun W hW => Nat.le_trans (Nat.le_trans LW.out.siz K7.out.size) hW.size; clear hk7 hs7)
        | (at_builtin; (refine wpList_append_rows _ rfl (.tmp 81) (.tmp 83) 27 rfl elemFd Tryz.underlying27 w2.heap.size (.slice ua l'.length uc) l'.length (fdC l') rfl (owns_keep ROW7.out (Keep.of_below (S := []) B8.out) (fun _ _ => by simp)) (.slice (some ⟨w7.heap.size + 1, 0, none⟩) 1 1) 1 [.string fn, .string fv] rfl (by have := RdC.built 2 (w7.alloc (.cells #[.string fn, .string fv] 74)) #[.string fn, .string fv] 74 rfl; simpa using this) (fdC_oneCell [⟨fn, fv⟩]) ?_ ?_ ?_ ?_; (have := LW.out.len; omega); (have := LW.out.len; unfold maxLen; omega); (exact HZ2.out _ B8.out); intro v9 w9 o9 g9; have O9 := Lib.hid o9; have G9 := Lib.hid g9; obtain ⟨va9, vc9, rfl, hu9, hu9'⟩ := (RdC.of_owns o9).isSlice; clear o9 g9)))
      have LN := LW.out.next S2.out HSZ.out H64.out K7.out S7.out B8.out O9.out G9.out HST.out.1 HST.out.2.2
      refine ⟨⟨_, _, LN⟩, ?_⟩
      rw [posAt_is LW.out.rf.rd, posAt_is LN.rf.rd]
      have := HST.out.2
      omega
    · have d1 : decide ((a : Int) < (xs.length : Int)) = false := decide_eq_false (by omega)
      have d1n : decide (a < xs.length) = false := decide_eq_false (by omega)
      have HEND : Hid (l' = l) := by
        have := LW.out.togo
        rw [lines_end (by omega)] at this
        simp only [Prod.mk.injEq] at this
        exact this.1
      have QB := Lib.hid LW.out.res
      have x0 := QB.out.get 0 _ rfl
      have x1 := QB.out.get 1 _ rfl
      have z0 := QB.out.free 0
      have z1 := QB.out.free 1
      have hlz := QB.out.lt
      clear ha
      go_wp2_with fail
      have QD := (QB.out.set 0 (.int .i64 0)).set 1 (.int .i64 0)
      refine bodyPost_ret (rdc_results rfl rfl (QD.get 0 _ rfl) (QD.get 1 _ rfl)) rfl ⟨.slice ua l'.length uc, rfl, ?_, (LW.out.bel.setCell (p := ⟨w.heap.size, 0, none⟩) (Nat.le_refl _) _).setCell (p := ⟨w.heap.size, 1, none⟩) (Nat.le_refl _) _⟩
      rw [← HEND.out]
      exact owns_mono (LW.out.row.set2 HSZ.out.2.1 _ _) (Nat.le_of_lt HSZ.out.2.1)
set_option maxHeartbeats 12800000 in
theorem rdecode_minus {b : Nat} {v : Value} {q : TQ} {vx : Value} {xs : List Int} (w : World) (h : RTb b v q w) (hr : Rd .u8 w vx xs) (hv : xs ≠ [] → ∀ j, vx.ownBlock = some j → j ≠ b) (hx : Bts xs) (hl : xs.length ≤ 1048576) (hc : countN q ≤ 1152921504606846976) {l : List Fd}
    {f0 f : Int} {need x d x' : Nat} (hN : numE xs 0 8 = (f0, need, x, 0)) (hnd : need ≤ countN q) (hM : numE xs x 7 = (f, d, x', 0)) (hf : f ≠ 0) (hdn : d < need) (hL : linesE q need ((need : Int) - d - 1) xs x' [] = (l, 0, 0)) :
    Calls Tryz.prog 17 #[.pointer (some ⟨b, 0, none⟩), vx] w (DecIs14 w (l, 0, 0)) := by
  have hbz := h.lt
  obtain ⟨base, hbase⟩ : ∃ base : Int, base = ((need : Int) - d - 1) := ⟨_, rfl⟩
  have hd62 := (num_ok hx hM).2.2.2.1
  have hx'l := (num_ok hx hM).2.2.1
  have hb0 : 0 ≤ base := by omega
  have hb1 : base ≤ 9223372036854775807 := by omega
  rw [← hbase] at hL
  have hf1 : (f != 0) = true := by simpa using hf
  obtain ⟨s, hs⟩ : ∃ s : Int, s = (need : Int) + d := ⟨_, rfl⟩
  have hwa : IntKind.i64.wrap ((need : Int) + (d : Int)) = s := by rw [wraps_i64' _ (by omega) (by omega)]; omega
  obtain ⟨t, ht⟩ : ∃ t : Int, t = (need : Int) - d := ⟨_, rfl⟩
  have hwb : IntKind.i64.wrap ((need : Int) - (d : Int)) = t := by rw [wraps_i64' _ (by omega) (by omega)]; omega
  have hwc : IntKind.i64.wrap (t - 1) = base := by rw [wraps_i64' _ (by omega) (by omega)]; omega
  have de : decide ((d : Int) ≥ (need : Int)) = false := decide_eq_false (by omega)
  have de' : decide (d ≥ need) = false := decide_eq_false (by omega)
  have de'' : decide (need ≤ d) = false := decide_eq_false (by omega)
  have dn : decide ((need : Int) > (countN q : Int)) = false := decide_eq_false (by omega)
  have dn' : decide (countN q < need) = false := decide_eq_false (by omega)
  have dn'' : decide (need > countN q) = false := decide_eq_false (by omega)
  have dn3 : decide ((countN q : Int) < (need : Int)) = false := decide_eq_false (by omega)
  obtain ⟨w1, hw1⟩ : ∃ W, W = w.alloc (.cells #[.int .i64 0, .int .i64 0] 42) := ⟨_, rfl⟩
  have hb1' : Below w.heap.size w w1 := by rw [hw1]; exact below1 w _
  have hs1 : w1.heap.size = w.heap.size + 1 := by rw [hw1]; simp
  have hq1 : Cs w1 w.heap.size [.int .i64 0, .int .i64 0] := by rw [hw1]; exact Cs.made w #[.int .i64 0, .int .i64 0] 42
  obtain ⟨va, vc, rfl⟩ := hr.isSlice
  obtain ⟨w2, hw2⟩ : ∃ W, W = w1.alloc (.cells #[.slice va xs.length vc, .int .i64 0, .int .i64 0] 79) := ⟨_, rfl⟩
  have hb2 : Below w1.heap.size w1 w2 := by rw [hw2]; exact below1 w1 _
  have hq2 : Cs w2 w1.heap.size [.slice va xs.length vc, .int .i64 0, .int .i64 0] := by
    have := Cs.made w1 #[.slice va xs.length vc, .int .i64 0, .int .i64 0] 79
    rw [hw2]; exact this
  have hbb : Below w.heap.size w w2 := hb1'.trans (hb2.mono hb1'.size)
  have hs2 : w2.heap.size = w.heap.size + 1 + 1 := by rw [hw2]; simp [hs1]
  have S2 : Hid (RF w1.heap.size b v q (.slice va xs.length vc) xs 0 w2) :=
    ⟨h.below hbb, ⟨hq2, rfl, rfl, hr.below hbb, fun h0 j hj => by have := hr.blt h0 j hj; omega⟩, by omega, fun h0 j hj => by have := h.vlt h0 j hj; omega, hv⟩
  have HB := Lib.hid hbb
  have HQ2 := Lib.hid (hq1.below hb2)
  have HSZ : Hid (w.heap.size < w1.heap.size ∧ w.heap.size < w2.heap.size ∧ w1.heap.size < w2.heap.size) := ⟨by omega, by omega, by omega⟩
  have HN1 : Hid (∀ W, RF w1.heap.size b v q (.slice va xs.length vc) xs 0 W → Calls Tryz.prog 33 #[.pointer (some ⟨w1.heap.size, 0, none⟩), .int .i64 8] W fun e w' => e = .returned (.tuple #[.int .i64 f0, .int .i64 (need : Int)]) ∧ Keep [w1.heap.size] W w' ∧ RF w1.heap.size b v q (.slice va xs.length vc) xs x w') := fun W hW => hW.num hx 8 hN
  have HN2 : Hid (∀ W, RF w1.heap.size b v q (.slice va xs.length vc) xs x W → Calls Tryz.prog 33 #[.pointer (some ⟨w1.heap.size, 0, none⟩), .int .i64 7] W fun e w' => e = .returned (.tuple #[.int .i64 f, .int .i64 (d : Int)]) ∧ Keep [w1.heap.size] W w' ∧ RF w1.heap.size b v q (.slice va xs.length vc) xs x' w') := fun W hW => hW.num hx 7 hM
  have HCN : Hid (∀ W, RF w1.heap.size b v q (.slice va xs.length vc) xs x W → Calls Tryz.prog 34 #[.pointer (some ⟨b, 0, none⟩)] W fun e w' => e = .returned (.int .i64 (countN q : Int)) ∧ ∃ n, w' = W.drewN n) := fun W hW => rcount_any W hW.tb (by omega)
  have HLN : Hid (∀ W a fn fv y, RF w1.heap.size b v q (.slice va xs.length vc) xs a W → a < xs.length → lineE q need base xs a = (⟨fn, fv⟩, y, 0) → Calls Tryz.prog 35 #[.pointer (some ⟨b, 0, none⟩), .pointer (some ⟨w1.heap.size, 0, none⟩), .int .i64 (need : Int), .int .i64 base] W fun e w' => e = .returned (.tuple #[.agg #[.string fn, .string fv], .int .i64 0]) ∧ Keep [w1.heap.size] W w' ∧ RF w1.heap.size b v q (.slice va xs.length vc) xs y w') :=
    fun W a fn fv y hW ha hI => rline_yes W hW hx hl (by omega) ha need (by omega) base hb0 hb1 hI
  have HX : Hid (Bts xs ∧ xs.length ≤ 1048576) := ⟨hx, hl⟩
  have HHL : Hid (linesE q need base xs x' [] = (l, 0, 0) ∧ x' ≤ xs.length) := ⟨hL, hx'l⟩
  have HW1 := Lib.hid hw1
  have HW2 := Lib.hid hw2
  have HBS := Lib.hid hbase
  have tok : True := trivial
  clear hs ht hf hdn
  obtain ⟨C, hC⟩ : ∃ C, C = countN q := ⟨_, rfl⟩
  rw [← hC] at dn dn' dn'' dn3 HCN
  clear hC hw1 hw2 h hr hb1' hb2 hs1 hs2 hq1 hq2 hbb hv hc hx hl hL hN hM hnd hbz hbase
  go_enter Tryz.func17, Tryz.ntmps17
  go_upto_region 1 with fail
  rw [← HW1.out]
  go_upto_region 2 with fail
  rw [← HW2.out]
  go_wp2_with (first
    | (go_at_call 33; have _t := tok; refine (HN1.out _ S2.out).mono ?_; rintro e w3 ⟨rfl, hk, hs⟩; have K3 := Lib.hid hk; have S3 := Lib.hid hs; obtain ⟨_, _, ee3, _⟩ := hs.rd.facts; clear hk hs; clear tok)
    | (go_at_call 34; refine (HCN.out _ S3.out).mono ?_; rintro e w4 ⟨rfl, nd, hw⟩; have S4 := Lib.hid (S3.out.drw nd); have K4 := Lib.hid (K3.out.drewN nd); rw [← hw] at S4 K4; clear hw)
    | (go_at_call 33; refine (HN2.out _ S4.out).mono ?_; rintro e w5 ⟨rfl, hk, hs⟩; have K5 := Lib.hid (K4.out.trans hk (fun i hi => .inl hi)); have S5 := Lib.hid hs; obtain ⟨_, _, ee5, _⟩ := hs.rd.facts; clear hk hs))
  have L0 : Hid (RLw w1.heap.size b v q (.slice va xs.length vc) xs need base l w w2 w5 (.slice none 0 0) x' []) :=
    ⟨HHL.out.1, HHL.out.2, by simp, S5.out, World.ownsRow_nil _ _ _ _, HB.out.trans ((K5.out.to_below (B := w1.heap.size) (by simp) (Nat.le_of_lt HSZ.out.2.2)).mono (Nat.le_of_lt HSZ.out.1)), HQ2.out.keep K5.out (by simp; have := HSZ.out.1; omega), K5.out.size⟩
  go_loopw [12] (fun u wr => ∃ a l', RLw w1.heap.size b v q (.slice va xs.length vc) xs need base l w w2 wr u a l') (fun _ wr => xs.length - posAt w1.heap.size 0 wr)
  case atStart => exact ⟨x', [], L0.out⟩
  case round =>
    obtain ⟨a, l', hlw⟩ := hrel
    have LW := Lib.hid hlw
    clear hlw L0 S3 K3 S4 K4 S5 K5
    obtain ⟨c0, c1, _, _⟩ := LW.out.rf.rd.facts
    obtain ⟨ua, uc, rfl, huc, hum⟩ := RdC.isSlice (RdC.of_owns LW.out.row)
    by_cases ha : a < xs.length
    · obtain ⟨h64, hy⟩ := LW.out.good ha
      have d1 : decide ((a : Int) < (xs.length : Int)) = true := decide_eq_true (by omega)
      have d1n : decide (a < xs.length) = true := decide_eq_true (by omega)
      have e1 : ((l'.length : Int) == 64) = false := by simp; omega
      have e2 : (l'.length == 64) = false := by simp; omega
      have hst : linesE q need base xs (lineE q need base xs a).2.1 (l' ++ [(lineE q need base xs a).1]) = (l, 0, 0) ∧ a < (lineE q need base xs a).2.1 ∧ (lineE q need base xs a).2.1 ≤ xs.length := ⟨(lines_step HX.out.1 ha h64 hy).symm.trans LW.out.togo, (line_ok HX.out.1 hy).1, (line_ok HX.out.1 hy).2⟩
      obtain ⟨⟨⟨fn, fv⟩, y, z⟩, hI⟩ : ∃ r, lineE q need base xs a = r := ⟨_, rfl⟩
      rw [hI] at hst hy
      simp only at hst hy
      subst hy
      have HST := Lib.hid hst
      have HL1 := Lib.hid (HLN.out wr a fn fv y LW.out.rf ha hI)
      have H64 := Lib.hid h64
      clear ha hI hst h64
      go_wp2_with (first
        | (go_at_call 35; refine HL1.out.mono ?_; rintro e w7 ⟨rfl, hk7, hs7⟩; have K7 := Lib.hid hk7; have S7 := Lib.hid hs7; have ROW7 : Hid (OwnB w2.heap.size w7 (.slice ua l'.length uc) l') := owns_keep LW.out.row K7.out (fun j hj => by have := World.ownsRow.lt LW.out.row j hj; have := HSZ.out.2.2; simp; omega); have B8 := Lib.hid ((below1 w7 (.cells #[.string fn, .string fv] 74)).trans ((below1 (w7.alloc (.cells #[.string fn, .string fv] 74)) (.cells #[.string fn, .string fv] 74)).mono (by simp))); have HZ2 : Hid (∀ W, Below w7.heap.size w7 W → w2.heap.size ≤ W.heap.size) := fun W hW => Nat.le_trans (Nat.le_trans LW.out.siz K7.out.size) hW.size; clear hk7 hs7)
        | (at_builtin; (refine wpList_append_rows _ rfl (.tmp 81) (.tmp 83) 27 rfl elemFd Tryz.underlying27 w2.heap.size (.slice ua l'.length uc) l'.length (fdC l') rfl (owns_keep ROW7.out (Keep.of_below (S := []) B8.out) (fun _ _ => by simp)) (.slice (some ⟨w7.heap.size + 1, 0, none⟩) 1 1) 1 [.string fn, .string fv] rfl (by have := RdC.built 2 (w7.alloc (.cells #[.string fn, .string fv] 74)) #[.string fn, .string fv] 74 rfl; simpa using this) (fdC_oneCell [⟨fn, fv⟩]) ?_ ?_ ?_ ?_; (have := LW.out.len; omega); (have := LW.out.len; unfold maxLen; omega); (exact HZ2.out _ B8.out); intro v9 w9 o9 g9; have O9 := Lib.hid o9; have G9 := Lib.hid g9; obtain ⟨va9, vc9, rfl, hu9, hu9'⟩ := (RdC.of_owns o9).isSlice; clear o9 g9)))
      have LN := LW.out.next S2.out HSZ.out H64.out K7.out S7.out B8.out O9.out G9.out HST.out.1 HST.out.2.2
      refine ⟨⟨_, _, LN⟩, ?_⟩
      rw [posAt_is LW.out.rf.rd, posAt_is LN.rf.rd]
      have := HST.out.2
      omega
    · have d1 : decide ((a : Int) < (xs.length : Int)) = false := decide_eq_false (by omega)
      have d1n : decide (a < xs.length) = false := decide_eq_false (by omega)
      have HEND : Hid (l' = l) := by
        have := LW.out.togo
        rw [lines_end (by omega)] at this
        simp only [Prod.mk.injEq] at this
        exact this.1
      have QB := Lib.hid LW.out.res
      have x0 := QB.out.get 0 _ rfl
      have x1 := QB.out.get 1 _ rfl
      have z0 := QB.out.free 0
      have z1 := QB.out.free 1
      have hlz := QB.out.lt
      clear ha
      go_wp2_with fail
      have QD := (QB.out.set 0 (.int .i64 0)).set 1 (.int .i64 0)
      refine bodyPost_ret (rdc_results rfl rfl (QD.get 0 _ rfl) (QD.get 1 _ rfl)) rfl ⟨.slice ua l'.length uc, rfl, ?_, (LW.out.bel.setCell (p := ⟨w.heap.size, 0, none⟩) (Nat.le_refl _) _).setCell (p := ⟨w.heap.size, 1, none⟩) (Nat.le_refl _) _⟩
      rw [← HEND.out]
      exact owns_mono (LW.out.row.set2 HSZ.out.2.1 _ _) (Nat.le_of_lt HSZ.out.2.1)
theorem rdecode_yes {b : Nat} {v : Value} {q : TQ} {vx : Value} {xs : List Int} (w : World) (h : RTb b v q w) (hr : Rd .u8 w vx xs) (hv : xs ≠ [] → ∀ j, vx.ownBlock = some j → j ≠ b) (hx : Bts xs) (hl : xs.length ≤ 1048576) (hc : countN q ≤ 1152921504606846976) {l : List Fd} (hd : decE q xs = (l, 0, 0)) :
    Calls Tryz.prog 17 #[.pointer (some ⟨b, 0, none⟩), vx] w (DecIs14 w (l, 0, 0)) := by
  obtain ⟨f0, need, x, f, d, x', hN, hnd, hM, ⟨hf, hL⟩ | ⟨hf, hdn, hL⟩⟩ := decE_ok hd
  · exact rdecode_plus w h hr hv hx hl hc hN hnd hM hf hL
  · exact rdecode_minus w h hr hv hx hl hc hN hnd hM hf hdn hL
end Go.Proofs.YtbkbabaoockigaaGreatDoor
