/- Walks of layer 4: the reference's Decode. -/
import Derived.Test.YtfkkimaebhjneaaDoorFwE
import Derived.Test.YtfkkimaebhjneaaDoorFwG
set_option linter.unusedSimpArgs false
set_option linter.unusedVariables false
namespace Go.Proofs.YtfkkimaebhjneaaDoor
open Go.RowKit

theorem rdecode_long (v : Value) (xs : List Int) (w : World) (hr : Rd .u8 w v xs) (hl : 1200 < xs.length) :
    Calls Tryd.prog 20 #[v] w (DecIs w (.error (6, 0))) := by
  obtain ⟨va, vc, rfl⟩ := hr.isSlice
  have t1 : decide (1200 < (xs.length : Int)) = true := decide_eq_true (by omega)
  clear hr
  go_enter Tryd.func20, Tryd.ntmps20
  go_wp2
  refine bodyPost_ret (v := .tuple #[.slice none 0 0, .agg #[.int .i64 6, .int .i64 0]]) (by simp [results, Tryd.results20, go_sem]) rfl ⟨?_, rfl⟩
  go_grown

theorem rdecode_empty (va : Option Addr) (vc : Nat) (w : World) :
    Calls Tryd.prog 20 #[.slice va 0 vc] w (DecIs w (.ok [])) := by
  go_enter Tryd.func20, Tryd.ntmps20
  go_wp2_with fail
  refine wp_loop_rounds 1 ?_
  rw [rounds_succ]
  go_wp2
  refine bodyPost_ret (v := .tuple #[.slice none 0 0, .agg #[.int .i64 0, .int .i64 0]]) (by simp [results, Tryd.results20, go_sem]) rfl ⟨?_, _, rfl, OwnF.nil _ _⟩
  go_grown

theorem parts_apart {W : World} {B B' m n n' e' : Nat} {v u : Value} {fl fl' : List Value} (hrow : W.ownsRow B 33 8 v n fl) (hu : W.ownsRow B' e' m u n' fl') (hne : e' ≠ 33) : ∀ q, u.ownBlock = some q → v.ownBlock ≠ some q := by
  intro q hq hv
  rcases hrow.2 with ⟨rfl, _⟩ | ⟨g, cap, cur, rfl, _, hc, _⟩
  · cases hv
  · simp only [Value.ownBlock, Option.some.injEq] at hv
    subst hv
    exact row_block (cur := []) hu hc hne hq
def slLen : Value → Nat
  | .slice _ n _ => n
  | _ => 0
set_option maxHeartbeats 3200000 in
theorem rdecode_go (b o c : Nat) (xs : List Int) (w : World) (hr : Rd .u8 w (.slice (some ⟨b, o, none⟩) xs.length c) xs) (hx : Bts xs) (hl : xs.length ≤ 1200) (h0 : 0 < xs.length) (hb : b < w.heap.size) :
    Calls Tryd.prog 20 #[.slice (some ⟨b, o, none⟩) xs.length c] w (DecIs w (decGo xs 64 0 [])) := by
  have HR := Lib.hid hr
  have HX := Lib.hid hx
  have t1 : decide (1200 < (xs.length : Int)) = false := decide_eq_false (by omega)
  obtain ⟨tot, htot⟩ : ∃ t, t = decGo xs 64 0 [] := ⟨_, rfl⟩
  have HTot := Lib.hid htot.symm
  rw [← htot]
  clear hr hx htot
  go_enter Tryd.func20, Tryd.ntmps20
  go_wp2_with fail
  go_loopw [5] (fun ov wr => ∃ (k i : Nat) (l : List FV) (ua : Option Addr) (uc : Nat), ov = .slice ua l.length uc ∧ wr.ownsRow (w.heap.size + 2) 33 8 (.slice ua l.length uc) l.length (frC l) ∧ (∀ g ∈ l, Own .u8 5 wr (w.heap.size + 2) g.dv g.f.data ∧ OwnS wr (w.heap.size + 2) g.sv g.f.spans) ∧
      decGo xs k i (l.map FV.f) = tot ∧ k + l.length = 64 ∧ i ≤ xs.length ∧ RA wr (w.heap.size + 1) (.slice (some ⟨b, o, none⟩) xs.length c) i 0 0 ∧ wr.heap[w.heap.size]? = some (.cells #[.int .i64 0, .int .i64 0] 37 (0, 0)) ∧ Below w.heap.size w wr) (fun ov _ => 64 - slLen ov)
  case atStart =>
    refine ⟨64, 0, [], none, 0, rfl, World.ownsRow_nil _ _ _ 8, fun g h => (by cases h), HTot.out, rfl, Nat.zero_le _, ⟨?_⟩, ?_, ?_⟩
    · have h := alloc_at (w.alloc (.cells #[.int .i64 0, .int .i64 0] 37)) (.cells #[.slice (some ⟨b, o, none⟩) xs.length c, .int .i64 0, .int .i64 0, .int .i64 0] 67)
      simp only [World.size_alloc] at h
      exact h
    · exact (Below.heap_alloc _ _ _ (by simp)).trans (alloc_at _ _)
    · exact ((Below.refl _ _).alloc (Nat.le_refl _) _).alloc (by simp) _
  case round =>
    obtain ⟨k, i, l, ua, uc, rfl, hrow, hparts, htot, hkl, hi, hra, hflt, hbel⟩ := hrel
    have HRow := Lib.hid hrow
    have HPs := Lib.hid hparts
    have HTo := Lib.hid htot
    have HRA := Lib.hid hra
    have HFl := Lib.hid hflt
    have HB := Lib.hid hbel
    have c1 := hra.c1
    have hz := hbel.size
    have hlt := hra.lt
    clear hrow hparts htot hra hflt hbel
    by_cases hil : i < xs.length
    · have ti : decide ((i : Int) < (xs.length : Int)) = true := decide_eq_true (by omega)
      have ti' : decide (i < xs.length) = true := decide_eq_true hil
      cases k with
      | zero =>
        have t64 : ((l.length : Int) == 64) = true := by rw [Bool.eq_iff_iff]; simp; omega
        have HE : Hid (tot = .error (6, (i : Int))) := by
          show _ = _
          rw [← HTo.out]; unfold decGo; rw [if_pos hil]
        have FA := Lib.hid (rfails_any (w.heap.size + 1) _ xs.length (.ok i) 6 i wr ⟨i, 0, 0, hi, HRA.out, .inl ⟨rfl, rfl, rfl⟩⟩ (by omega))
        clear hil hkl
        go_wp2_with fail
        refine FA.out.mono ?_
        rintro e w5 ⟨rfl, g5, s5⟩
        obtain ⟨_, a5, _, hra5⟩ := s5.err' (y := 6) (z := i) rfl
        have F5 := block_kept HFl.out g5 (by simp)
        have c2 := hra5.c2
        have c3 := hra5.c3
        have fb := fun i => Joins.cell_of_block F5 i
        have fb0' := fb 0
        have fb1' := fb 1
        have fbf := Joins.unfrozen_of_block F5
        have B5 : Below w.heap.size w w5 := Below.grown HB.out g5 hz (fun k h => by cases h; omega)
        have HB5 := Lib.hid B5
        have hz5 := B5.size
        have hlt5 := hra5.lt
        clear fb g5 s5 hra5 F5 B5
        go_wp2_with fail
        go_region
        all_goals go_wp2
        all_goals
          rw [HE.out]
          refine bodyPost_ret (v := .tuple #[.slice none 0 0, .agg #[.int .i64 6, .int .i64 i]]) (by simp [results, Tryd.results20, go_sem, fb0', fb1']) rfl ⟨?_, rfl⟩
          exact ((below_drewN HB5.out 1).setCell (Nat.le_refl _) _).setCell (Nat.le_refl _) _
      | succ k =>
        have t64 : ((l.length : Int) == 64) = false := by rw [Bool.eq_false_iff]; simp; omega
        have FR := Lib.hid (refFrame_any (w.heap.size + 1) b o c xs i wr HRA.out (HR.out.below HB.out) HX.out hil (by omega) (by omega) (by omega))
        have HIL := Lib.hid hil
        clear hil
        go_wp2_with fail
        refine FR.out.mono ?_
        rintro e w5 ⟨k', s', o', n', c', f', da, sa, dl, dc, sl, sc, rfl, g5, s5, h5⟩
        have B5 : Below w.heap.size w w5 := Below.grown HB.out g5 hz (fun k h => by cases h; omega)
        have B6 : Below w.heap.size w (w5.alloc (.cells #[.int .i64 k', .int .i64 s', .int .i64 o', .int .i64 n', .int .i64 c', .bool f', .slice da dl dc, .slice sa sl sc] 33)) := B5.alloc B5.size _
        have F5 := block_kept HFl.out g5 (by simp)
        have HB6 := Lib.hid B6
        have HB5' := Lib.hid B5
        have hz5 := B5.size
        cases hf : frameR xs i with
        | error e =>
          obtain ⟨y, z⟩ := e
          rw [hf] at s5
          obtain ⟨hy, a5, _, hra5⟩ := s5.err' (y := y) (z := z) rfl
          have RO := Lib.hid (rok_any (w.heap.size + 1) _ a5 y z _ (hra5.alloc (.cells #[.int .i64 k', .int .i64 s', .int .i64 o', .int .i64 n', .int .i64 c', .bool f', .slice da dl dc, .slice sa sl sc] 33)))
          have e0 : (y == 0) = false := by simpa using hy
          rw [e0] at RO
          have HE : Hid (tot = .error (y, z)) := by
            show _ = _
            rw [← HTo.out]; unfold decGo; rw [if_pos HIL.out, hf]
          have F6 := (Below.heap_alloc w5 (.cells #[.int .i64 k', .int .i64 s', .int .i64 o', .int .i64 n', .int .i64 c', .bool f', .slice da dl dc, .slice sa sl sc] 33) w.heap.size (Array.getElem?_eq_some_iff.1 F5).1).trans F5
          have c2 := (hra5.alloc (.cells #[.int .i64 k', .int .i64 s', .int .i64 o', .int .i64 n', .int .i64 c', .bool f', .slice da dl dc, .slice sa sl sc] 33)).c2
          have c3 := (hra5.alloc (.cells #[.int .i64 k', .int .i64 s', .int .i64 o', .int .i64 n', .int .i64 c', .bool f', .slice da dl dc, .slice sa sl sc] 33)).c3
          have fb := fun i => Joins.cell_of_block F6 i
          have fb0' := fb 0
          have fb1' := fb 1
          have fbf := Joins.unfrozen_of_block F6
          have hlt5 := hra5.lt
          clear fb g5 s5 h5 hra5 F5 F6 B5 B6 hf e0
          go_wp2_with (go_at_call 38; refine RO.out.mono ?_; rintro e w' ⟨rfl, rfl⟩)
          go_region
          all_goals go_wp2
          all_goals
            rw [HE.out]
            refine bodyPost_ret (v := .tuple #[.slice none 0 0, .agg #[.int .i64 y, .int .i64 z]]) (by simp [results, Tryd.results20, go_sem, fb0', fb1']) rfl ⟨?_, rfl⟩
            exact ((below_drewN HB6.out 1).setCell (Nat.le_refl _) _).setCell (Nat.le_refl _) _
        | ok q =>
          obtain ⟨f, j⟩ := q
          rw [hf] at s5 h5
          obtain ⟨hj, hra5⟩ := s5.ok' rfl
          obtain ⟨e1, e2, e3, e4, e5, e6, hOD, hOS⟩ := h5 f j rfl
          subst e1 e2 e3 e4 e5 e6
          have RO := Lib.hid (rok_any (w.heap.size + 1) _ j 0 0 _ (hra5.alloc (.cells #[.int .i64 f.kind, .int .i64 f.stream, .int .i64 f.offset, .int .i64 f.n, .int .i64 f.code, .bool f.fin, .slice da dl dc, .slice sa sl sc] 33)))
          have HN : Hid (decGo xs k j (l.map FV.f ++ [f]) = tot) := by
            show _ = _
            rw [← HTo.out]
            conv => rhs; unfold decGo
            rw [if_pos HIL.out, hf]
          have hrow5 := World.ownsRow.kept HRow.out g5 (by
            cases hv : (Value.slice ua l.length uc).ownBlock with
            | none => exact .inl rfl
            | some q => exact .inr (fun e => by have h1 := (World.ownsRow.lt HRow.out q hv).1; cases e; omega))
          have hp5 : ∀ g ∈ l, Own .u8 5 w5 (w.heap.size + 2) g.dv g.f.data ∧ OwnS w5 (w.heap.size + 2) g.sv g.f.spans := fun g hg => by
            obtain ⟨h1, h2⟩ := HPs.out g hg
            exact ⟨Own.kept h1 g5 (fun q hq e => by have h3 := h1.blk q hq; cases e; omega), OwnS.kept h2 g5 (fun q hq e => by have h3 := h2.blk q hq; cases e; omega)⟩
          have hz2 : w.heap.size + 2 ≤ wr.heap.size := by omega
          have OD := Lib.hid (hOD.mono hz2)
          have OS := Lib.hid (hOS.mono hz2)
          have hw5 : w.heap.size + 2 ≤ w5.heap.size := Nat.le_trans hz2 g5.size
          have HP5 := Lib.hid hp5
          have bb : Below w5.heap.size w5 ((w5.alloc (.cells #[.int .i64 f.kind, .int .i64 f.stream, .int .i64 f.offset, .int .i64 f.n, .int .i64 f.code, .bool f.fin, .slice da dl dc, .slice sa sl sc] 33)).alloc (.cells #[.int .i64 f.kind, .int .i64 f.stream, .int .i64 f.offset, .int .i64 f.n, .int .i64 f.code, .bool f.fin, .slice da dl dc, .slice sa sl sc] 33)) := ((Below.refl _ _).alloc (Nat.le_refl _) _).alloc (by simp) _
          have HBB := Lib.hid bb
          have ROW := Lib.hid (World.ownsRow.kept hrow5 (grownBy_of_below (row := none) bb) (by cases hv : (Value.slice ua l.length uc).ownBlock <;> simp))
          have HRA5 := Lib.hid hra5
          have HF5 := Lib.hid F5
          have rb := RdC.built 8 (w5.alloc (.cells #[.int .i64 f.kind, .int .i64 f.stream, .int .i64 f.offset, .int .i64 f.n, .int .i64 f.code, .bool f.fin, .slice da dl dc, .slice sa sl sc] 33)) #[.int .i64 f.kind, .int .i64 f.stream, .int .i64 f.offset, .int .i64 f.n, .int .i64 f.code, .bool f.fin, .slice da dl dc, .slice sa sl sc] 33 rfl
          have hs5 : (w5.alloc (.cells #[.int .i64 f.kind, .int .i64 f.stream, .int .i64 f.offset, .int .i64 f.n, .int .i64 f.code, .bool f.fin, .slice da dl dc, .slice sa sl sc] 33)).heap.size = w5.heap.size + 1 := by simp
          rw [hs5] at rb
          have RB := Lib.hid rb
          have hone : Hid (∀ u ∈ (#[.int .i64 f.kind, .int .i64 f.stream, .int .i64 f.offset, .int .i64 f.n, .int .i64 f.code, .bool f.fin, .slice da dl dc, .slice sa sl sc] : Array Value).toList, u.oneCell' = true) := by
            intro u hu
            simp only [List.mem_cons, List.not_mem_nil, or_false] at hu
            rcases hu with rfl | rfl | rfl | rfl | rfl | rfl | rfl | rfl <;> rfl
          have hl64 : Hid (l.length + 1 ≤ 64) := by show _ ≤ _; omega
          have hzz : w.heap.size + 2 ≤ ((w5.alloc (.cells #[.int .i64 f.kind, .int .i64 f.stream, .int .i64 f.offset, .int .i64 f.n, .int .i64 f.code, .bool f.fin, .slice da dl dc, .slice sa sl sc] 33)).alloc (.cells #[.int .i64 f.kind, .int .i64 f.stream, .int .i64 f.offset, .int .i64 f.n, .int .i64 f.code, .bool f.fin, .slice da dl dc, .slice sa sl sc] 33)).heap.size := by simp; omega
          have HPF : Hid (w5.heap[w.heap.size]? = some (.cells #[.int .i64 0, .int .i64 0] 37 (0, 0))) := F5
          clear hrow5 hp5 bb hf h5 s5 g5 F5 B5 B6 hOD hOS hra5 hlt c1 rb hs5
          go_wp2_with (first
            | (go_at_call 38; refine RO.out.mono ?_; rintro e w' ⟨rfl, rfl⟩)
            | (at_builtin; (refine wpList_append_rows _ rfl (.tmp 31) (.tmp 33) 22 rfl elemFrame Tryd.underlying22 (w.heap.size + 2) (.slice ua l.length uc) l.length (frC l) rfl ROW.out (.slice (some ⟨w5.heap.size + 1, 0, none⟩) 1 1) 1 _ rfl RB.out hone.out ?_ ?_ ?_ ?_; (have := hl64.out; omega); (have := hl64.out; unfold maxLen; omega); (exact hzz); intro v7 w7 o7 g7)))
          obtain ⟨ua7, uc7, rfl, _, _⟩ := (RdC.of_owns o7).isSlice
          have b57 : Below (w.heap.size + 2) w5 w7 := Below.grown (HBB.out.mono hw5) g7 hzz (fun q hq => (World.ownsRow.lt ROW.out q hq).1)
          have R7 : RA w7 (w.heap.size + 1) (.slice (some ⟨b, o, none⟩) xs.length c) j 0 0 := ⟨(b57.block _ (by omega)).trans HRA5.out.is⟩
          have F7 := (b57.block w.heap.size (by omega)).trans HPF.out
          have P7 : ∀ g ∈ l ++ [⟨f, .slice da dl dc, .slice sa sl sc⟩], Own .u8 5 w7 (w.heap.size + 2) g.dv g.f.data ∧ OwnS w7 (w.heap.size + 2) g.sv g.f.spans := by
            intro g hg
            have h0 : Own .u8 5 w5 (w.heap.size + 2) g.dv g.f.data ∧ OwnS w5 (w.heap.size + 2) g.sv g.f.spans := by
              rcases List.mem_append.1 hg with hg | hg
              · exact HP5.out g hg
              · simp only [List.mem_singleton] at hg; subst hg; exact ⟨OD.out, OS.out⟩
            have h1 := h0.1.below HBB.out
            have h2 := OwnS.kept h0.2 (grownBy_of_below (row := none) HBB.out) (fun _ _ => by simp)
            exact ⟨Own.kept h1 g7 (parts_apart ROW.out h1 (by decide)), OwnS.kept h2 g7 (parts_apart ROW.out h2 (by decide))⟩
          refine ⟨⟨k, j, l ++ [⟨f, .slice da dl dc, .slice sa sl sc⟩], ua7, uc7, by simp, ?_, P7, ?_, by simp; omega, hj, R7, F7, ?_⟩, ?_⟩
          · rw [List.length_append, frC_append]
            exact o7
          · rw [List.map_append]; exact HN.out
          · exact HB5'.out.trans (b57.mono (by omega))
          · simp [slLen]; omega
    · have ti : decide ((i : Int) < (xs.length : Int)) = false := decide_eq_false (by omega)
      have ti' : decide (i < xs.length) = false := decide_eq_false hil
      have HE : Hid (tot = .ok (l.map FV.f)) := by
        show _ = _
        rw [← HTo.out]
        cases k <;> unfold decGo <;> rw [if_neg hil]
      have fb := fun i => Joins.cell_of_block HFl.out i
      have fb0' := fb 0
      have fb1' := fb 1
      have fbf := Joins.unfrozen_of_block HFl.out
      clear fb hil
      go_wp2
      rw [HE.out]
      refine bodyPost_ret (v := .tuple #[.slice ua l.length uc, .agg #[.int .i64 0, .int .i64 0]]) (by simp [results, Tryd.results20, go_sem, fb0', fb1']) rfl ⟨?_, _, rfl, ?_⟩
      · exact (HB.out.setCell (Nat.le_refl _) _).setCell (Nat.le_refl _) _
      · have o0 : OwnF wr (w.heap.size + 2) (.slice ua l.length uc) (l.map FV.f) := ⟨l, rfl, HRow.out, HPs.out⟩
        have o2 := o0.kept (grownBy_set (World.grownBy.refl _ _) ⟨w.heap.size, 0, none⟩ (.int .i64 0) (.inl rfl)) (by show w.heap.size < _; omega)
        have o3 := o2.kept (grownBy_set (World.grownBy.refl _ _) ⟨w.heap.size, 1, none⟩ (.int .i64 0) (.inl rfl)) (by show w.heap.size < _; omega)
        exact o3.mono (by omega)

/-- THE REFERENCE's DECODE, WHATEVER THE BYTES -/
theorem rdecode_any (v : Value) (xs : List Int) (w : World) (hr : Rd .u8 w v xs) (hx : Bts xs) :
    Calls Tryd.prog 20 #[v] w (DecIs w (decL xs)) := by
  by_cases hl : 1200 < xs.length
  · have e : decL xs = .error (6, 0) := if_pos hl
    rw [e]
    exact rdecode_long v xs w hr hl
  · have e : decL xs = decGo xs 64 0 [] := if_neg hl
    have hr' := hr
    rcases hr with ⟨rfl, a, c, rfl, _⟩ | ⟨h0, b, o, c, rfl, h2, h3, h4, h5⟩
    · exact rdecode_empty a c w
    · rw [e]
      exact rdecode_go b o c xs w hr' hx (by omega) (List.length_pos_iff.2 h0) h4
end Go.Proofs.YtfkkimaebhjneaaDoor
