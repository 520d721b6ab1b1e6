/- Layer 17: Ranges. -/
import Derived.Test.YtdfebmjincnfiaaDoorFdL
set_option maxRecDepth 100000
set_option linter.unusedSimpArgs false
set_option linter.unusedVariables false
namespace Go.Proofs.YtdfebmjincnfiaaDoor
open Go.RowKit

theorem parts_bound : ∀ {xs : List (List UInt8)} {ps : List RP}, partsE xs = some ps → ∀ p ∈ ps, 0 ≤ p.f ∧ 0 ≤ p.t ∧ p.t < 1000000000000000000 := by
  intro xs
  induction xs with
  | nil =>
    intro ps h p hp
    obtain rfl : ps = [] := by simpa [partsE] using h.symm
    cases hp
  | cons x xs ih =>
    intro ps h p hp
    rw [partsE] at h
    split at h
    · cases ha : partsE xs with
      | none => rw [ha] at h; cases h
      | some qs =>
        rw [ha] at h
        simp only [Option.map_some, Option.some.injEq] at h
        subst h
        rcases List.mem_cons.1 hp with rfl | hp
        · unfold partE partC
          simp only
          exact ⟨(numR_bound _).1, (numR_bound _).1, (numR_bound _).2⟩
        · exact ih ha p hp
    · cases h
theorem range_bound {l : List UInt8} {ps : List RP} (h : rangeE l = some ps) : ∀ p ∈ ps, 0 ≤ p.f ∧ 0 ≤ p.t ∧ p.t < 1000000000000000000 := by
  unfold rangeE at h
  split at h
  · cases h
  · split at h
    · exact parts_bound h
    · cases h

def spCell (s : Int × Int) : List Value := [.int .i64 s.1, .int .i64 s.2]
def spsC (ss : List (Int × Int)) : List Value := ss.flatMap spCell
theorem elemSp : ElemC Tryd.prog 31 2 16 (.agg #[.int .i64 0, .int .i64 0]) := ⟨info_parts (by kernel_rfl), rfl, by decide⟩
def OwnSp (w : World) (B : Nat) (v : Value) (ss : List (Int × Int)) : Prop := w.ownsRow B 31 2 v ss.length (spsC ss)
def RdSp (w : World) (v : Value) (ss : List (Int × Int)) : Prop := RdC 2 w v ss.length (spsC ss)
/-- the spans of parts that have bytes -/
def spansE (n : Int) (ps : List RP) : List (Int × Int) := (ps.map fun p => withinE p n).filter fun s => decide (s.1 ≤ s.2)
theorem spans_snoc (n : Int) (ps : List RP) (p : RP) : spansE n (ps ++ [p]) = if (withinE p n).1 ≤ (withinE p n).2 then spansE n ps ++ [withinE p n] else spansE n ps := by
  unfold spansE
  rw [List.map_append, List.filter_append]
  by_cases h : (withinE p n).1 ≤ (withinE p n).2
  · rw [if_pos h]
    simp [h]
  · rw [if_neg h]
    simp [h]
theorem spans_len (n : Int) (ps : List RP) : (spansE n ps).length ≤ ps.length := by
  unfold spansE
  exact Nat.le_trans (List.length_filter_le _ _) (by simp)
/-- what Ranges answers: spans, and a fault's number -/
def rangesE (l : List UInt8) (n : Int) : List (Int × Int) × Int := match rangeE l with
  | none => ([], 5)
  | some ps => if n < 0 ∨ 1099511627776 < n then ([], 5) else if 16 < ps.length then ([], 6) else if spansE n ps = [] then ([], 16) else (spansE n ps, 0)
def SpOut (w : World) (r : List (Int × Int) × Int) (e : Ending) (w' : World) : Prop := ∃ v, e = .returned (.tuple #[v, .int .i64 r.2]) ∧ RdSp w' v r.1 ∧ Below w.heap.size w w'
theorem rps_get (ps : List RP) (k j : Nat) (hk : k < ps.length) (hj : j < 4) : (rpsC ps)[k * 4 + j]? = (rpC ps[k])[j]? := flat_get rpC 4 (fun _ => rfl) ps k j hk hj

set_option maxHeartbeats 6400000 in
theorem ranges_any (l : List UInt8) (n : Int) (hl : l.length ≤ 1048576) (w : World) (hn : -9223372036854775808 ≤ n ∧ n < 9223372036854775808) :
    Calls Tryd.prog 9 #[.string (txt l), .int .i64 n] w (SpOut w (rangesE l n)) := by
  have PA := Lib.hid (parts_any l hl w)
  unfold RangeOut at PA
  cases hE : rangeE l with
  | none =>
    have PA2 : Hid (Calls Tryd.prog 16 #[.string (txt l)] w fun e w' => Below w.heap.size w w' ∧ e = .returned (.tuple #[.slice none 0 0, .bool false])) := PA.out.mono fun e w' h => by
      obtain ⟨hb, ⟨_, he⟩ | ⟨ps, v, h1, _⟩⟩ := h
      · exact ⟨hb, he⟩
      · rw [hE] at h1; cases h1
    rw [show rangesE l n = ([], 5) by unfold rangesE; rw [hE]]
    go_enter Tryd.func9, Tryd.ntmps9
    go_wp2_with (go_at_call 16; refine PA2.out.mono ?_; rintro e w2 ⟨hb, rfl⟩)
    go_ret2
    exact ⟨_, rfl, RdC.nil _ _, hb⟩
  | some ps =>
    have PA2 : Hid (Calls Tryd.prog 16 #[.string (txt l)] w fun e w' => Below w.heap.size w w' ∧ ∃ va c, e = .returned (.tuple #[.slice va ps.length c, .bool true]) ∧ RdC 4 w' (.slice va ps.length c) ps.length (rpsC ps)) := PA.out.mono fun e w' h => by
      obtain ⟨hb, ⟨h1, _⟩ | ⟨qs, v, h1, he, ho⟩⟩ := h
      · rw [hE] at h1; cases h1
      · rw [hE] at h1
        cases h1
        obtain ⟨va, c, rfl, _, _⟩ := (RdC.of_owns ho).isSlice
        exact ⟨hb, va, c, he, RdC.of_owns ho⟩
    have HB := Lib.hid (range_bound hE)
    have HR : Hid (rangesE l n = if n < 0 ∨ 1099511627776 < n then ([], 5) else if 16 < ps.length then ([], 6) else if spansE n ps = [] then ([], 16) else (spansE n ps, 0)) := by
      show _ = _
      unfold rangesE
      rw [hE]
    clear hE PA
    generalize rangesE l n = res at HR ⊢
    by_cases h0 : n < 0
    · obtain rfl : res = ([], 5) := by rw [HR.out, if_pos (.inl h0)]
      clear HR
      go_enter Tryd.func9, Tryd.ntmps9
      go_wp2_with (go_at_call 16; refine PA2.out.mono ?_; rintro e w2 ⟨hb, va, c, rfl, _⟩)
      go_ret2
      exact ⟨_, rfl, RdC.nil _ _, hb⟩
    by_cases h1 : 1099511627776 < n
    · obtain rfl : res = ([], 5) := by rw [HR.out, if_pos (.inr h1)]
      clear HR
      go_enter Tryd.func9, Tryd.ntmps9
      go_wp2_with (go_at_call 16; refine PA2.out.mono ?_; rintro e w2 ⟨hb, va, c, rfl, _⟩)
      go_ret2
      exact ⟨_, rfl, RdC.nil _ _, hb⟩
    have HR2 : Hid (res = if 16 < ps.length then ([], 6) else if spansE n ps = [] then ([], 16) else (spansE n ps, 0)) := by show _ = _; rw [HR.out, if_neg (by omega)]
    clear HR
    by_cases h16 : 16 < ps.length
    · obtain rfl : res = ([], 6) := by rw [HR2.out, if_pos h16]
      clear HR2
      have i2 : (16 : Int) < (ps.length : Int) := by omega
      go_enter Tryd.func9, Tryd.ntmps9
      go_wp2_with (go_at_call 16; refine PA2.out.mono ?_; rintro e w2 ⟨hb, va, c, rfl, _⟩)
      go_ret2
      exact ⟨_, rfl, RdC.nil _ _, hb⟩
    have HR3 : Hid (res = if spansE n ps = [] then ([], 16) else (spansE n ps, 0)) := by show _ = _; rw [HR2.out, if_neg h16]
    clear HR2
    have i2 : ¬ (16 : Int) < (ps.length : Int) := by omega
    have h15 : ps.length ≤ 16 := by omega
    go_enter Tryd.func9, Tryd.ntmps9
    go_wp2_with (go_at_call 16; refine PA2.out.mono ?_; rintro e w2 ⟨hb, va, c, rfl, hrd⟩; have B2 := Lib.hid hb; have RD := Lib.hid hrd; clear hb hrd)
    go_loopw [8, 32] (fun s i wx => ∃ k : Nat, k ≤ ps.length ∧ i = .int .i64 (k : Int) ∧ OwnSp wx w2.heap.size s (spansE n (ps.take k)) ∧ Below w2.heap.size w2 wx) (fun _ i _ => ps.length - (intOf i).toNat)
    case atStart => exact ⟨0, by omega, rfl, World.ownsRow_nil _ _ _ 2, Below.refl _ _⟩
    case round =>
      obtain ⟨k, hk, rfl, ho, hb⟩ := hrel
      obtain ⟨N, hN⟩ : ∃ N, N = (spansE n (ps.take k)).length := ⟨_, rfl⟩
      obtain ⟨sa, sc, hsv, _, _⟩ := (RdC.of_owns ho).isSlice
      rw [← hN] at hsv
      subst hsv
      have BB := Lib.hid hb
      have OO := Lib.hid ho
      have HN := Lib.hid hN
      clear ho hb hN
      by_cases hlt : k < ps.length
      · have hx : (k : Int) < (ps.length : Int) := by omega
        have w0 := wr64 ((k : Int) + 1) (by omega) (by omega)
        have hsn : Hid (spansE n (ps.take (k + 1)) = if (withinE ps[k] n).1 ≤ (withinE ps[k] n).2 then spansE n (ps.take k) ++ [withinE ps[k] n] else spansE n (ps.take k)) := by
          show _ = _
          rw [take_more hlt, spans_snoc]
        have hbd := HB.out _ (List.getElem_mem hlt)
        have WI := Lib.hid (fun W => within_any ps[k] n W hbd.2 (by omega))
        have hlen : Hid ((spansE n (ps.take k)).length ≤ 16) := Nat.le_trans (spans_len _ _) (by rw [List.length_take]; omega)
        have RD2 := Lib.hid (RD.out.below BB.out)
        obtain ⟨vb, vo, hform⟩ : ∃ b o, va = some ⟨b, o, none⟩ := by
          rcases RD.out.2 with ⟨h, _⟩ | ⟨_, b, o, c', h, _⟩
          · omega
          · simp only [Value.slice.injEq] at h
            exact ⟨b, o, h.1⟩
        subst hform
        obtain ⟨x0, x1, x2, x3⟩ : wr.cell? ⟨vb, vo + k * 4, none⟩ = some (.int .i64 ps[k].f) ∧ wr.cell? ⟨vb, vo + k * 4 + 1, none⟩ = some (.int .i64 ps[k].t) ∧ wr.cell? ⟨vb, vo + k * 4 + 2, none⟩ = some (.bool ps[k].hf) ∧ wr.cell? ⟨vb, vo + k * 4 + 3, none⟩ = some (.bool ps[k].ht) :=
          ⟨RdC.cell RD2.out (k * 4) _ (rps_get ps k 0 hlt (by omega)) _ rfl, RdC.cell RD2.out (k * 4 + 1) _ (rps_get ps k 1 hlt (by omega)) _ (by omega), RdC.cell RD2.out (k * 4 + 2) _ (rps_get ps k 2 hlt (by omega)) _ (by omega), RdC.cell RD2.out (k * 4 + 3) _ (rps_get ps k 3 hlt (by omega)) _ (by omega)⟩
        have hk0 : Hid (0 ≤ k) := Nat.zero_le k
        unfold rpV at WI
        have hw : Hid (∃ s1 s2, withinE ps[k] n = (s1, s2)) := ⟨_, _, rfl⟩
        obtain ⟨s1, s2, hs⟩ := hw.out
        rw [hs] at WI hsn
        simp only at WI
        generalize ps[k].f = pf at x0 WI
        generalize ps[k].t = pt at x1 WI
        generalize ps[k].hf = phf at x2 WI
        generalize ps[k].ht = pht at x3 WI
        clear hs hw hbd
        have hNl : Hid (N ≤ 16) := by show _ ≤ _; rw [HN.out]; exact hlen.out
        by_cases hle : s1 ≤ s2
        · have hsn2 : Hid (spansE n (ps.take (k + 1)) = spansE n (ps.take k) ++ [(s1, s2)]) := by show _ = _; rw [hsn.out, if_pos hle]
          clear hsn
          go_wp2_with (first
            | (go_at_call 17; refine (WI.out _).mono ?_; rintro e w5 ⟨rfl, hb5⟩; have B6 := Lib.hid (((((Below.refl _ wr).alloc (Nat.le_refl _) (.cells #[.int .i64 pf, .int .i64 pt, .bool phf, .bool pht] 51)).trans (hb5.mono (by simp))).trans (((Below.refl _ w5).alloc (Nat.le_refl _) (.cells #[.int .i64 s1, .int .i64 s2] 31)).mono (by have := hb5.size; simp at this; omega))).trans (((Below.refl _ (w5.alloc (.cells #[.int .i64 s1, .int .i64 s2] 31))).alloc (Nat.le_refl _) (.cells #[.int .i64 s1, .int .i64 s2] 31)).mono (by have := hb5.size; simp at this ⊢; omega))); have R6 : Hid (RdC 2 ((w5.alloc (.cells #[.int .i64 s1, .int .i64 s2] 31)).alloc (.cells #[.int .i64 s1, .int .i64 s2] 31)) (.slice (some ⟨w5.heap.size + 1, 0, none⟩) 1 1) 1 [.int .i64 s1, .int .i64 s2]) := (by have h := RdC.built 2 (w5.alloc (.cells #[.int .i64 s1, .int .i64 s2] 31)) #[.int .i64 s1, .int .i64 s2] 31 rfl; rw [World.size_alloc] at h; exact h); have O6 : Hid (((w5.alloc (.cells #[.int .i64 s1, .int .i64 s2] 31)).alloc (.cells #[.int .i64 s1, .int .i64 s2] 31)).ownsRow w2.heap.size 31 2 (.slice sa N sc) N (spsC (spansE n (ps.take k)))) := (by have h := OO.out; unfold OwnSp at h; rw [← HN.out] at h; exact World.ownsRow.kept (row := none) h (grownBy_of_below B6.out) (by cases sa <;> simp [Value.ownBlock])); clear hb5)
            | (at_builtin; ((with_reducible refine wpList_append_rows _ ?_ (.tmp 44) (.tmp 46) 26 ?_ elemSp Tryd.underlying26 w2.heap.size (.slice sa N sc) N (spsC (spansE n (ps.take k))) ?_ O6.out _ 1 [.int .i64 s1, .int .i64 s2] ?_ R6.out ?_ ?_ ?_ ?_ ?_)); rfl; rfl; rfl; rfl; (intro u hu; simp only [List.mem_cons, List.not_mem_nil, or_false] at hu; rcases hu with rfl | rfl <;> rfl); (have := hNl.out; omega); (have := hNl.out; unfold maxLen; omega); (have h1 := BB.out.size; have h2 := B6.out.size; omega); intro v7 w7 o7 g7; have O7 := Lib.hid o7; have B7 := Lib.hid ((BB.out.trans (B6.out.mono BB.out.size)).grown g7 (Nat.le_trans BB.out.size B6.out.size) (fun j hj => (World.ownsRow.lt O6.out j hj).1)); clear o7 g7))
          refine ⟨⟨k + 1, by omega, by simp, ?_, B7.out⟩, by simp [intOf]; omega⟩
          show World.ownsRow _ _ _ _ _ (spansE n (ps.take (k + 1))).length _
          rw [hsn2.out, List.length_append, ← HN.out, show spsC (spansE n (ps.take k) ++ [(s1, s2)]) = spsC (spansE n (ps.take k)) ++ [.int .i64 s1, .int .i64 s2] by simp [spsC, spCell]]
          exact O7.out
        · have hsn2 : Hid (spansE n (ps.take (k + 1)) = spansE n (ps.take k)) := by show _ = _; rw [hsn.out, if_neg hle]
          clear hsn
          go_wp2_with (go_at_call 17; refine (WI.out _).mono ?_; rintro e w5 ⟨rfl, hb5⟩; have B6 := Lib.hid ((((Below.refl _ wr).alloc (Nat.le_refl _) (.cells #[.int .i64 pf, .int .i64 pt, .bool phf, .bool pht] 51)).trans (hb5.mono (by simp))).trans (((Below.refl _ w5).alloc (Nat.le_refl _) (.cells #[.int .i64 s1, .int .i64 s2] 31)).mono (by have := hb5.size; simp at this; omega))); have O6 := Lib.hid (World.ownsRow.kept (row := none) OO.out (grownBy_of_below B6.out) (by cases sa <;> simp [Value.ownBlock])); clear hb5)
          refine ⟨⟨k + 1, by omega, by simp, ?_, BB.out.trans (B6.out.mono BB.out.size)⟩, by simp [intOf]; omega⟩
          show OwnSp _ _ _ (spansE n (ps.take (k + 1)))
          rw [hsn2.out]
          exact O6.out
      · have hk2 : k = ps.length := by omega
        subst hk2
        rw [List.take_length] at OO HN
        have hx : ¬ (ps.length : Int) < (ps.length : Int) := by omega
        by_cases hN0 : N = 0
        · have hnil : spansE n ps = [] := List.eq_nil_of_length_eq_zero (by rw [← HN.out]; exact hN0)
          obtain rfl : res = ([], 16) := by rw [HR3.out, if_pos hnil]
          have hN1 : ((N : Int) == 0) = true := by rw [hN0]; rfl
          clear hN0 HN hnil HR3
          go_wp2_with fail
          go_ret2
          exact ⟨_, rfl, RdC.nil _ _, B2.out.trans (BB.out.mono B2.out.size)⟩
        · have hne : spansE n ps ≠ [] := fun h => hN0 (by rw [HN.out, h]; rfl)
          obtain rfl : res = (spansE n ps, 0) := by rw [HR3.out, if_neg hne]
          have hN1 : ((N : Int) == 0) = false := beq_eq_false_iff_ne.2 (by omega)
          clear hN0 hne HR3
          go_wp2_with fail
          go_ret2
          exact ⟨_, rfl, RdC.of_owns OO.out, B2.out.trans (BB.out.mono B2.out.size)⟩
end Go.Proofs.YtdfebmjincnfiaaDoor
