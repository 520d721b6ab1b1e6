/- Walks of layer 4: the reader's small steps, more. -/
/- Walks of layer 4: the reader's count and data. -/
import Derived.Test.YtfkkimaebhjneaaDoorFrA
import Derived.Deep.AppendLies
set_option linter.unusedSimpArgs false
set_option linter.unusedVariables false
namespace Go.Proofs.YtfkkimaebhjneaaDoor
open Go.RowKit

theorem StepIs.err {α : Type} {V : α → World → Value → Prop} {w w' : World} {p : Nat} {v : Value} {r : Except (Int × Int) (α × Nat)} {e : Ending} {y z : Int} (h : StepIs V w p v r e w') (hr : r = .error (y, z)) : w.grownBy w' (some p) ∧ e = .panicked (faultP y z) := by subst hr; exact h
theorem StepIs.ok {α : Type} {V : α → World → Value → Prop} {w w' : World} {p : Nat} {v : Value} {r : Except (Int × Int) (α × Nat)} {e : Ending} {x : α} {i : Nat} (h : StepIs V w p v r e w') (hr : r = .ok (x, i)) : w.grownBy w' (some p) ∧ (∃ u, e = .returned u ∧ V x w' u) ∧ At w' p v i := by subst hr; exact h

theorem alloc_at (w : World) (o : Obj) : (w.alloc o).heap[w.heap.size]? = some o := by show (w.heap.push o)[w.heap.size]? = _; simp
theorem acc_top {xs : List Int} (hx : Bts xs) (i : Nat) : 0 ≤ acc xs i (widN (xs.getD i 0) - 1) ∧ acc xs i (widN (xs.getD i 0) - 1) ≤ 4611686018427387903 := by
  refine ⟨acc_lo hx _ _, ?_⟩
  have h := acc_hi hx i (widN (xs.getD i 0) - 1)
  have : widN (xs.getD i 0) - 1 = 0 ∨ widN (xs.getD i 0) - 1 = 1 ∨ widN (xs.getD i 0) - 1 = 3 ∨ widN (xs.getD i 0) - 1 = 7 := by unfold widN; split <;> (try split) <;> (try split) <;> simp
  rcases this with e | e | e | e <;> rw [e] at h ⊢ <;> simp only [Int.reducePow, Int.reduceMul] at h <;> omega
theorem wid_hi (c : Int) : widN c ≤ 8 := by unfold widN; split <;> (try split) <;> (try split) <;> omega
theorem num_ok {xs : List Int} (hx : Bts xs) {i j : Nat} {n : Int} (h : num xs i = .ok (n, j)) : 0 ≤ n ∧ n ≤ 4611686018427387903 ∧ i < j ∧ j ≤ xs.length := by
  unfold num getS at h
  have h2 := wid_pos (xs.getD i 0)
  have h3 := acc_top hx i
  split at h
  · rename_i n' W hg
    split at hg
    · simp only [Option.some.injEq, Prod.mk.injEq] at hg
      obtain ⟨rfl, rfl⟩ := hg
      simp only [Except.ok.injEq, Prod.mk.injEq] at h
      obtain ⟨rfl, rfl⟩ := h
      omega
    · cases hg
  · cases h
theorem num_err {xs : List Int} {i : Nat} {y z : Int} (h : num xs i = .error (y, z)) : y = 3 ∧ z = xs.length := by
  unfold num at h
  split at h
  · cases h
  · cases h; exact ⟨rfl, rfl⟩

/-- a number that must not be above most -/
def atMostR (xs : List Int) (i : Nat) (most why : Int) : Except (Int × Int) (Int × Nat) := match num xs i with
  | .ok (n, j) => if most < n then .error (why, i) else .ok (n, j)
  | .error e => .error e

theorem atMost_any (p : Nat) (v : Value) (xs : List Int) (a : Nat) (most why : Int) (w : World) (ht : Tab w) (hA : At w p v a) (hr : Rd .u8 w v xs) (hx : Bts xs) (ha : a ≤ xs.length) :
    Calls Tryd.prog 58 #[.pointer (some ⟨p, 0, none⟩), .int .i64 most, .int .i64 why] w (StepIs intV w p v (atMostR xs a most why)) := by
  have c1 := hA.c1
  have HN := Lib.hid (number_any p v xs a w ht hA hr hx ha)
  clear hA hr ht
  cases hn : num xs a with
  | error e =>
    obtain ⟨y, z⟩ := e
    have HM : Hid (atMostR xs a most why = .error (y, z)) := by show _ = _; unfold atMostR; rw [hn]
    have HE : Hid (num xs a = .error (y, z)) := hn
    clear hn
    go_enter Tryd.func58, Tryd.ntmps58
    go_wp2_with (go_at_call 47; refine HN.out.mono ?_; rintro e w1 h1; obtain ⟨g1, rfl⟩ := h1.err HE.out)
    refine ⟨rfl, ?_⟩
    rw [HM.out]
    exact ⟨g1, rfl⟩
  | ok y =>
    obtain ⟨n, j⟩ := y
    have HE : Hid (num xs a = .ok (n, j)) := hn
    by_cases hm : most < n
    · have HM : Hid (atMostR xs a most why = .error (why, a)) := by show _ = _; unfold atMostR; rw [hn]; exact if_pos hm
      have t1 : decide (most < n) = true := decide_eq_true hm
      clear hn hm
      go_enter Tryd.func58, Tryd.ntmps58
      go_wp2_with (first
        | (go_at_call 47; refine HN.out.mono ?_; rintro e w1 h1; obtain ⟨g1, ⟨u, rfl, rfl⟩, A1⟩ := h1.ok HE.out)
        | (go_at_call 34; refine (breakOff_any _ _ _ _).mono ?_; rintro e w' ⟨rfl, rfl⟩))
      refine ⟨rfl, ?_⟩
      rw [HM.out]
      exact ⟨g1, rfl⟩
    · have HM : Hid (atMostR xs a most why = .ok (n, j)) := by show _ = _; unfold atMostR; rw [hn]; exact if_neg hm
      have t1 : decide (most < n) = false := decide_eq_false hm
      clear hn hm
      go_enter Tryd.func58, Tryd.ntmps58
      go_wp2_with (go_at_call 47; refine HN.out.mono ?_; rintro e w1 h1; obtain ⟨g1, ⟨u, rfl, rfl⟩, A1⟩ := h1.ok HE.out)
      go_ret
      rw [HM.out]
      exact ⟨g1, ⟨_, rfl, rfl⟩, A1⟩

/-- a span down from a number -/
def spanR (xs : List Int) (i : Nat) (tp : Int) : Except (Int × Int) ((Int × Int) × Nat) := match atMostR xs i tp 5 with
  | .ok (n, j) => .ok ((tp - n, tp), j)
  | .error e => .error e
def spanV (s : Int × Int) (_ : World) (u : Value) : Prop := u = .agg #[.int .i64 s.1, .int .i64 s.2]
theorem atMost_ok {xs : List Int} (hx : Bts xs) {i j : Nat} {n most why : Int} (h : atMostR xs i most why = .ok (n, j)) : 0 ≤ n ∧ n ≤ 4611686018427387903 ∧ n ≤ most ∧ i < j ∧ j ≤ xs.length := by
  unfold atMostR at h
  split at h
  · rename_i n' j' hn
    have := num_ok hx hn
    split at h
    · cases h
    · cases h; omega
  · cases h

set_option maxHeartbeats 800000 in
theorem span_any (p : Nat) (v : Value) (xs : List Int) (a : Nat) (tp : Int) (w : World) (ht : Tab w) (hA : At w p v a) (hr : Rd .u8 w v xs) (hx : Bts xs) (ha : a ≤ xs.length) (h0 : -9223372036854775808 ≤ tp) (h1 : tp ≤ 4611686018427387903) :
    Calls Tryd.prog 59 #[.pointer (some ⟨p, 0, none⟩), .int .i64 tp] w (StepIs spanV w p v (spanR xs a tp)) := by
  have hlt := hA.lt
  have hne : p ≠ w.heap.size := by omega
  have HN := Lib.hid (atMost_any p v xs a tp 5 (w.alloc (.cells #[.int .i64 0, .int .i64 0] 44)) (ht.below ((Below.refl _ _).alloc (Nat.le_refl _) _) ht.pos) (hA.alloc _) (hr.below ((Below.refl _ _).alloc (Nat.le_refl _) _)) hx ha)
  clear hA hr ht
  cases hn : atMostR xs a tp 5 with
  | error e =>
    obtain ⟨y, z⟩ := e
    have HM : Hid (spanR xs a tp = .error (y, z)) := by show _ = _; unfold spanR; rw [hn]
    have HE : Hid (atMostR xs a tp 5 = .error (y, z)) := hn
    clear hn
    go_enter Tryd.func59, Tryd.ntmps59
    go_wp2_with (go_at_call 58; refine HN.out.mono ?_; rintro e w1 h1; obtain ⟨g1, rfl⟩ := h1.err HE.out)
    refine ⟨rfl, ?_⟩
    rw [HM.out]
    exact ⟨grownBy_trans (World.grownBy_alloc _ _ _) g1, rfl⟩
  | ok y =>
    obtain ⟨n, j⟩ := y
    have HE : Hid (atMostR xs a tp 5 = .ok (n, j)) := hn
    have HM : Hid (spanR xs a tp = .ok ((tp - n, tp), j)) := by show _ = _; unfold spanR; rw [hn]
    obtain ⟨b0, b1, b2, _⟩ := atMost_ok hx hn
    have hw : IntKind.i64.wrap (tp - n) = tp - n := wraps_i64' _ (by omega) (by omega)
    clear hn
    go_enter Tryd.func59, Tryd.ntmps59
    go_wp2_with (go_at_call 58; refine HN.out.mono ?_; rintro e w1 h1; obtain ⟨g1, ⟨u, rfl, rfl⟩, A1⟩ := h1.ok HE.out; have q := block_kept (b := w.heap.size) (o := .cells #[.int .i64 0, .int .i64 0] 44) (alloc_at _ _) g1 (by simpa using hne); have q0 := Joins.cell_of_block q 0; have q1 := Joins.cell_of_block q 1; have qf := Joins.unfrozen_of_block q)
    refine bodyPost_ret (v := .agg #[.int .i64 (tp - n), .int .i64 tp]) (by simp [results, Tryd.results59, go_sem, q0, q1, qf]) rfl ?_
    rw [HM.out]
    refine ⟨grownBy_set (grownBy_set (grownBy_trans (World.grownBy_alloc _ _ _) g1) _ _ (.inr (Nat.le_refl _))) _ _ (.inr (Nat.le_refl _)), ⟨_, rfl, rfl⟩, (A1.other (q := ⟨w.heap.size, 0, none⟩) hne _).other (q := ⟨w.heap.size, 1, none⟩) hne _⟩
end Go.Proofs.YtfkkimaebhjneaaDoor

namespace Go.Proofs.YtfkkimaebhjneaaDoor
open Go.RowKit

theorem At.drew {w : World} {p : Nat} {v : Value} {a : Int} (h : At w p v a) : At w.drew p v a := ⟨h.is⟩
theorem At.drewN {w : World} {p : Nat} {v : Value} {a : Int} (h : At w p v a) (n : Nat) : At (w.drewN n) p v a := ⟨h.is⟩

theorem count_left (p : Nat) (v : Value) (xs : List Int) (a : Nat) (bt : Int) (w : World) (hb : bits .and .i64 bt 2 = 0) (hA : At w p v a) (hr : Rd .u8 w v xs) (ha : a ≤ xs.length) :
    Calls Tryd.prog 49 #[.pointer (some ⟨p, 0, none⟩), .int .i64 bt] w (StepIs intV w p v (.ok ((xs.length : Int) - a, a))) := by
  have c0 := hA.c0
  have c1 := hA.c1
  have HA := Lib.hid hA
  have hl := hr.len
  obtain ⟨va, vc, rfl⟩ := hr.isSlice
  have hw : IntKind.i64.wrap ((xs.length : Int) - a) = (xs.length : Int) - a := wraps_i64' _ (by omega) (by unfold maxLen at hl; omega)
  clear hA hr
  go_enter Tryd.func49, Tryd.ntmps49
  go_wp2_with fail
  go_quiet (fail)
  go_wp2
  go_ret
  exact ⟨grownBy_drewN (World.grownBy.refl _ _) _, ⟨_, rfl, rfl⟩, HA.out.drewN _⟩

theorem count_num (p : Nat) (v : Value) (xs : List Int) (a : Nat) (bt : Int) (w : World) (hb : bits .and .i64 bt 2 = 2) (ht : Tab w) (hA : At w p v a) (hr : Rd .u8 w v xs) (hx : Bts xs) (ha : a ≤ xs.length) :
    Calls Tryd.prog 49 #[.pointer (some ⟨p, 0, none⟩), .int .i64 bt] w (StepIs intV w p v (num xs a)) := by
  have HN := Lib.hid (number_any p v xs a w ht hA hr hx ha)
  clear hA hr ht
  cases hn : num xs a with
  | error e =>
    obtain ⟨y, z⟩ := e
    have HE : Hid (num xs a = .error (y, z)) := hn
    clear hn
    go_enter Tryd.func49, Tryd.ntmps49
    go_wp2_with (go_at_call 47; refine HN.out.mono ?_; rintro e w1 h1; obtain ⟨g1, rfl⟩ := h1.err HE.out)
    exact ⟨rfl, g1, rfl⟩
  | ok y =>
    obtain ⟨n, j⟩ := y
    have HE : Hid (num xs a = .ok (n, j)) := hn
    clear hn
    go_enter Tryd.func49, Tryd.ntmps49
    go_wp2_with (go_at_call 47; refine HN.out.mono ?_; rintro e w1 h1; obtain ⟨g1, ⟨u, rfl, rfl⟩, A1⟩ := h1.ok HE.out)
    go_ret
    exact ⟨g1, ⟨_, rfl, rfl⟩, A1⟩

/-- so many bytes -/
def dataR (xs : List Int) (i : Nat) (count : Int) : Except (Int × Int) (List Int × Nat) := if (xs.length : Int) - i < count then .error (3, xs.length) else .ok ((xs.drop i).take count.toNat, i + count.toNat)
def dataV (B : Nat) (ys : List Int) (w : World) (u : Value) : Prop := Own .u8 5 w B u ys

theorem data_short (p : Nat) (v : Value) (xs : List Int) (a : Nat) (count : Int) (w : World) (hA : At w p v a) (hr : Rd .u8 w v xs) (ha : a ≤ xs.length) (hs : (xs.length : Int) - a < count) :
    Calls Tryd.prog 50 #[.pointer (some ⟨p, 0, none⟩), .int .i64 count] w (StepIs (dataV w.heap.size) w p v (dataR xs a count)) := by
  have c0 := hA.c0
  have c1 := hA.c1
  have hl := hr.len
  obtain ⟨va, vc, rfl⟩ := hr.isSlice
  have hw : IntKind.i64.wrap ((xs.length : Int) - a) = (xs.length : Int) - a := wraps_i64' _ (by omega) (by unfold maxLen at hl; omega)
  have HM : Hid (dataR xs a count = .error (3, xs.length)) := if_pos hs
  have t1 : decide ((xs.length : Int) - a < count) = true := decide_eq_true hs
  clear hA hr hs
  go_enter Tryd.func50, Tryd.ntmps50
  go_wp2_with fail
  go_quiet (fail)
  have c0' : (w.drewN nq).cell? ⟨p, 0, none⟩ = some (.slice va xs.length vc) := c0
  go_wp2_with (go_at_call 34; refine (breakOff_any _ _ _ _).mono ?_; rintro e w' ⟨rfl, rfl⟩)
  refine ⟨rfl, ?_⟩
  rw [HM.out]
  exact ⟨grownBy_drewN (World.grownBy.refl _ _) _, rfl⟩

set_option maxHeartbeats 1600000 in
theorem data_long (p b o c n : Nat) (xs : List Int) (a m : Nat) (w : World) (hA : At w p (.slice (some ⟨b, o, none⟩) n c) a) (hr : Rd .u8 w (.slice (some ⟨b, o, none⟩) n c) xs) (hn : n = xs.length) (ha : a ≤ n) (hs : a + m ≤ n) (hbig : n ≤ 1048576) (hbp : b ≠ p) :
    Calls Tryd.prog 50 #[.pointer (some ⟨p, 0, none⟩), .int .i64 m] w (StepIs (dataV w.heap.size) w p (.slice (some ⟨b, o, none⟩) n c) (.ok ((xs.drop a).take m, a + m))) := by
  have c0 := hA.c0
  have c1 := hA.c1
  have f1 := hA.fz 1
  have HA := Lib.hid hA
  have HR := Lib.hid hr
  have HNL := Lib.hid hn
  have hcap : n ≤ c := by
    rcases hr with ⟨h0, _⟩ | ⟨h0, b', o', c', q, h2, h3, h4, h5⟩
    · rw [h0] at hn; simp at hn; omega
    · simp only [Value.slice.injEq] at q; obtain ⟨_, q1, rfl⟩ := q; omega
  have hw : IntKind.i64.wrap ((n : Int) - a) = (n : Int) - a := wraps_i64' _ (by omega) (by omega)
  have hw2 : IntKind.i64.wrap ((a : Int) + m) = (a : Int) + m := wraps_i64' _ (by omega) (by omega)
  have t1 : decide ((n : Int) - a < m) = false := decide_eq_false (by omega)
  have hi1 : (a : Int) ≤ (a : Int) + m := by omega
  have hi2 : (a : Int) + m ≤ (c : Int) := by omega
  have hi3 : (0 : Int) ≤ (a : Int) := by omega
  clear hA hr hn
  go_enter Tryd.func50, Tryd.ntmps50
  go_wp2_with fail
  go_quiet (fail)
  have c0' : (w.drewN nq).cell? ⟨p, 0, none⟩ = some (.slice (some ⟨b, o, none⟩) n c) := c0
  have c1' : (w.drewN nq).cell? ⟨p, 1, none⟩ = some (.int .i64 a) := c1
  have f1' : (w.drewN nq).frozen? ⟨p, 1, none⟩ = false := f1
  go_wp2_with fail
  have AV : At ((w.drewN nq).setCell ⟨p, 1, none⟩ (.int .i64 ((a : Int) + m))) p (.slice (some ⟨b, o, none⟩) n c) ((a + m : Nat) : Int) := (HA.out.drewN _).set' rfl
  have GV : w.grownBy ((w.drewN nq).setCell ⟨p, 1, none⟩ (.int .i64 ((a : Int) + m))) (some p) := grownBy_set (grownBy_drewN (World.grownBy.refl _ _) _) _ _ (.inl rfl)
  generalize ((w.drewN nq).setCell ⟨p, 1, none⟩ (.int .i64 ((a : Int) + m))) = V at AV GV ⊢
  have RV := Lib.hid ((HR.out.kept GV (fun j hj => by simp only [Value.ownBlock, Option.some.injEq] at hj; subst hj; exact fun e => hbp (by cases e; rfl))))
  have d0 : V.drew.cell? ⟨p, 0, none⟩ = some (.slice (some ⟨b, o, none⟩) n c) := AV.c0
  have d1 : V.drew.cell? ⟨p, 1, none⟩ = some (.int .i64 ((a : Int) + m)) := AV.c1
  have RC : Hid (Rd .u8 V.drew (.slice (if c = a then some ⟨b, o, none⟩ else some ⟨b, o + a, none⟩) (((a : Int) + m).toNat - a) (c - a)) ((xs.drop a).take m)) := by
    rw [show ((a : Int) + m).toNat - a = m by omega]
    refine Rd.heap (w := V) (Rd.cut RV.out a m hs _ ?_ ?_) rfl
    · intro h; rw [if_neg h]
    · split <;> simp
  have lm : Hid (([] : List Int).length + ((xs.drop a).take m).length ≤ 1048576) := by show _ ≤ _; rw [List.length_take]; simp; omega
  go_region_law (refine step_append_rd rfl (.const (.slice none 0 0)) (.tmp 46) 23 rfl elemU8 Tryd.underlying23 V.heap.size (.slice none 0 0) [] rfl (Own.nil _ _ _ _) (.slice (if c = a then some ⟨b, o, none⟩ else some ⟨b, o + a, none⟩) (((a : Int) + m).toNat - a) (c - a)) _ ?_ RC.out ?_ ?_ ?_ ?_; (rfl); (have := lm.out; omega); (have := lm.out; unfold maxLen; omega); (exact Nat.le_refl _); intro u w2 o2 g2)
  all_goals go_wp2
  all_goals
    try subst h
    go_ret
    refine ⟨grownBy_trans GV (grownBy_none ⟨g2.os, g2.tape, g2.output, g2.size, g2.block⟩), ⟨_, rfl, ?_⟩, ?_⟩
    · exact (o2.mono GV.size)
    · exact ⟨(g2.block p AV.lt (by simp [Value.ownBlock])).trans AV.is⟩

/-- data, whatever comes -/
theorem data_any (p b o c : Nat) (xs : List Int) (a : Nat) (count : Int) (w : World) (hA : At w p (.slice (some ⟨b, o, none⟩) xs.length c) a) (hr : Rd .u8 w (.slice (some ⟨b, o, none⟩) xs.length c) xs) (ha : a ≤ xs.length) (h0 : 0 ≤ count) (hbig : xs.length ≤ 1048576) (hbp : b ≠ p) :
    Calls Tryd.prog 50 #[.pointer (some ⟨p, 0, none⟩), .int .i64 count] w (StepIs (dataV w.heap.size) w p (.slice (some ⟨b, o, none⟩) xs.length c) (dataR xs a count)) := by
  by_cases hs : (xs.length : Int) - a < count
  · exact data_short p _ xs a count w hA hr ha hs
  · obtain ⟨m, rfl⟩ := Int.eq_ofNat_of_zero_le h0
    have e : dataR xs a m = .ok ((xs.drop a).take m, a + m) := if_neg hs
    rw [e]
    exact data_long p b o c xs.length xs a m w hA hr rfl ha (by omega) hbig hbp
end Go.Proofs.YtfkkimaebhjneaaDoor
