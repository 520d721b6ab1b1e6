/- Walks of layer 7: what is to be done with a window (the closures). -/
import Derived.Test.YtiglhdiclfknhaaCgD
set_option linter.unusedSimpArgs false
set_option linter.unusedVariables false
namespace Go.Proofs.Ytiglhdiclfknhaa
open Go.RowKit
theorem far {w w' : World} {b : Nat} {u : Value} (hb : b < w.heap.size) (h : w.cell? ⟨b, 0, none⟩ = some u) (k : Below w.heap.size w w') : w'.cell? ⟨b, 0, none⟩ = some u := (k.cell (p := ⟨b, 0, none⟩) hb).trans h
set_option maxHeartbeats 400000 in
theorem sentcl_any (z t f s p n : Int) (bn : Nat) (w : World) (hf : 0 ≤ f) (hf' : f ≤ 1099511627776) (h1 : 1 ≤ n) (h2 : n ≤ 1200) (hb : bn < w.heap.size) (hn : w.cell? ⟨bn, 0, none⟩ = some (.int .i64 n)) :
    Calls Try.prog 29 #[.agg #[.int .i64 z, .int .i64 t, .int .i64 f, .int .i64 s, .int .i64 p], .pointer (some ⟨bn, 0, none⟩)] w fun e w' => e = .returned (.agg #[.int .i64 z, .int .i64 t, .int .i64 (f + n), .int .i64 s, .int .i64 p]) ∧ Below w.heap.size w w' := by
  have W0 : IntKind.i64.wrap (f + n) = f + n := wraps_i64' _ (by omega) (by omega)
  have hn' := far hb hn (below_two w (.cells #[.int .i64 z, .int .i64 t, .int .i64 f, .int .i64 s, .int .i64 p] 25) (.cells #[.int .i64 0, .int .i64 0, .int .i64 0, .int .i64 0, .int .i64 0] 25))
  clear hn h1 h2
  go_enter Try.func29, Try.ntmps29
  go_wp2
  exact bodyPost_ret (v := .agg #[.int .i64 z, .int .i64 t, .int .i64 (f + n), .int .i64 s, .int .i64 p]) (by simp [results, Try.results29, go_sem]) rfl ⟨rfl, below_two _ _ _⟩
set_option maxHeartbeats 400000 in
theorem gonecl_any (z t f s p n : Int) (bn : Nat) (w : World) (hf : 0 ≤ f) (hf' : f ≤ 1099511627776) (h1 : 1 ≤ n) (h2 : n ≤ 1200) (hb : bn < w.heap.size) (hn : w.cell? ⟨bn, 0, none⟩ = some (.int .i64 n)) :
    Calls Try.prog 31 #[.agg #[.int .i64 z, .int .i64 t, .int .i64 f, .int .i64 s, .int .i64 p], .pointer (some ⟨bn, 0, none⟩)] w fun e w' => e = .returned (.agg #[.int .i64 z, .int .i64 t, .int .i64 (f - n), .int .i64 s, .int .i64 p]) ∧ Below w.heap.size w w' := by
  have W0 : IntKind.i64.wrap (f - n) = f - n := wraps_i64' _ (by omega) (by omega)
  have hn' := far hb hn (below_two w (.cells #[.int .i64 z, .int .i64 t, .int .i64 f, .int .i64 s, .int .i64 p] 25) (.cells #[.int .i64 0, .int .i64 0, .int .i64 0, .int .i64 0, .int .i64 0] 25))
  clear hn h1 h2
  go_enter Try.func31, Try.ntmps31
  go_wp2
  exact bodyPost_ret (v := .agg #[.int .i64 z, .int .i64 t, .int .i64 (f - n), .int .i64 s, .int .i64 p]) (by simp [results, Try.results31, go_sem]) rfl ⟨rfl, below_two _ _ _⟩
set_option maxHeartbeats 800000 in
theorem ackedcl_a (z t f s p n a : Int) (bn ba : Nat) (w : World) (hf : 0 ≤ f) (hf' : f ≤ 1099511627776) (h1 : 1 ≤ n) (h2 : n ≤ 1200) (hb : bn < w.heap.size) (hn : w.cell? ⟨bn, 0, none⟩ = some (.int .i64 n)) (hba : ba < w.heap.size) (ha : w.cell? ⟨ba, 0, none⟩ = some (.int .i64 a)) (hc : decide (a ≥ s) = false) :
    Calls Try.prog 32 #[.agg #[.int .i64 z, .int .i64 t, .int .i64 f, .int .i64 s, .int .i64 p], .pointer (some ⟨bn, 0, none⟩), .pointer (some ⟨ba, 0, none⟩)] w fun e w' => e = .returned (.agg #[.int .i64 z, .int .i64 t, .int .i64 (f - n), .int .i64 s, .int .i64 p]) ∧ Below w.heap.size w w' := by
  have W0 : IntKind.i64.wrap (f - n) = f - n := wraps_i64' _ (by omega) (by omega)
  have B2 := Lib.hid (below_two w (.cells #[.int .i64 z, .int .i64 t, .int .i64 (f - n), .int .i64 s, .int .i64 p] 25) (.cells #[.int .i64 0, .int .i64 0, .int .i64 0, .int .i64 0, .int .i64 0] 25))
  have hn0 := far hb hn (below_two w (.cells #[.int .i64 z, .int .i64 t, .int .i64 f, .int .i64 s, .int .i64 p] 25) (.cells #[.int .i64 0, .int .i64 0, .int .i64 0, .int .i64 0, .int .i64 0] 25))
  have hn' := far hb hn B2.out
  have ha' := far hba ha B2.out
  have HP := Lib.hid (held_first z t (f - n) s p 25 w (.cells #[.int .i64 0, .int .i64 0, .int .i64 0, .int .i64 0, .int .i64 0] 25))
  have HR := Lib.hid (held_second 0 0 0 0 0 25 w (.cells #[.int .i64 z, .int .i64 t, .int .i64 (f - n), .int .i64 s, .int .i64 p] 25))
  have hbz : Hid (bn < ((w.alloc (.cells #[.int .i64 z, .int .i64 t, .int .i64 (f - n), .int .i64 s, .int .i64 p] 25)).alloc (.cells #[.int .i64 0, .int .i64 0, .int .i64 0, .int .i64 0, .int .i64 0] 25)).heap.size) := Nat.lt_of_lt_of_le hb B2.out.size
  have K := Lib.hid (fun w => counts_b z t (f - n) s p a _ hc w)
  clear hc
  have HN := Lib.hid hn'
  have hne1 : w.heap.size ≠ w.heap.size + 1 := by omega
  have hne2 : w.heap.size + 1 ≠ w.heap.size := by omega
  clear hn ha hn' h1 h2 hf hf'
  go_enter Try.func32, Try.ntmps32
  go_wp2_with fail
  refine (K.out _).mono ?_
  rintro e w2 ⟨rfl, bn⟩
  have hn2 := far hbz.out HN.out bn
  have HP := Lib.hid (HP.out.below bn)
  have HR := Lib.hid (HR.out.below bn)
  have BB := Lib.hid (B2.out.trans (bn.mono B2.out.size))
  clear bn K B2 HN hn0 ha' hbz
  obtain ⟨p0, p1, p2, p3, p4⟩ := HP.out.facts
  obtain ⟨r0, r1, r2, r3, r4⟩ := HR.out.facts
  obtain ⟨f0, f1, f2, f3, f4⟩ := HR.out.free
  go_wp2
  exact bodyPost_ret (v := .agg #[.int .i64 z, .int .i64 t, .int .i64 (f - n), .int .i64 s, .int .i64 p]) (by simp [results, Try.results32, go_sem, r0, r1, r2, r3, r4]) rfl ⟨rfl, below_five BB.out _ (Nat.le_succ _) _ _ _ _ _⟩
set_option maxHeartbeats 800000 in
theorem ackedcl_b (z t f s p n a z' t' f' s' p' : Int) (bn ba : Nat) (w : World) (hf : 0 ≤ f) (hf' : f ≤ 1099511627776) (h1 : 1 ≤ n) (h2 : n ≤ 1200) (hb : bn < w.heap.size) (hn : w.cell? ⟨bn, 0, none⟩ = some (.int .i64 n)) (hba : ba < w.heap.size) (ha : w.cell? ⟨ba, 0, none⟩ = some (.int .i64 a)) (hc : decide (a ≥ s) = true)
    (hg : ∀ w, Calls Try.prog 34 #[.agg #[.int .i64 z, .int .i64 t, .int .i64 (f - n), .int .i64 s, .int .i64 p], .int .i64 n] w fun e w' => e = .returned (.agg #[.int .i64 z', .int .i64 t', .int .i64 f', .int .i64 s', .int .i64 p']) ∧ Below w.heap.size w w') :
    Calls Try.prog 32 #[.agg #[.int .i64 z, .int .i64 t, .int .i64 f, .int .i64 s, .int .i64 p], .pointer (some ⟨bn, 0, none⟩), .pointer (some ⟨ba, 0, none⟩)] w fun e w' => e = .returned (.agg #[.int .i64 z', .int .i64 t', .int .i64 f', .int .i64 s', .int .i64 p']) ∧ Below w.heap.size w w' := by
  have W0 : IntKind.i64.wrap (f - n) = f - n := wraps_i64' _ (by omega) (by omega)
  have B2 := Lib.hid (below_two w (.cells #[.int .i64 z, .int .i64 t, .int .i64 (f - n), .int .i64 s, .int .i64 p] 25) (.cells #[.int .i64 0, .int .i64 0, .int .i64 0, .int .i64 0, .int .i64 0] 25))
  have hn0 := far hb hn (below_two w (.cells #[.int .i64 z, .int .i64 t, .int .i64 f, .int .i64 s, .int .i64 p] 25) (.cells #[.int .i64 0, .int .i64 0, .int .i64 0, .int .i64 0, .int .i64 0] 25))
  have hn' := far hb hn B2.out
  have ha' := far hba ha B2.out
  have HP := Lib.hid (held_first z t (f - n) s p 25 w (.cells #[.int .i64 0, .int .i64 0, .int .i64 0, .int .i64 0, .int .i64 0] 25))
  have HR := Lib.hid (held_second 0 0 0 0 0 25 w (.cells #[.int .i64 z, .int .i64 t, .int .i64 (f - n), .int .i64 s, .int .i64 p] 25))
  have hbz : Hid (bn < ((w.alloc (.cells #[.int .i64 z, .int .i64 t, .int .i64 (f - n), .int .i64 s, .int .i64 p] 25)).alloc (.cells #[.int .i64 0, .int .i64 0, .int .i64 0, .int .i64 0, .int .i64 0] 25)).heap.size) := Nat.lt_of_lt_of_le hb B2.out.size
  have K := Lib.hid (fun w => counts_b z t (f - n) s p a _ hc w)
  have G := Lib.hid hg
  clear hc hg
  have HN := Lib.hid hn'
  have hne1 : w.heap.size ≠ w.heap.size + 1 := by omega
  have hne2 : w.heap.size + 1 ≠ w.heap.size := by omega
  clear hn ha hn' h1 h2 hf hf'
  go_enter Try.func32, Try.ntmps32
  go_wp2_with fail
  refine (K.out _).mono ?_
  rintro e w2 ⟨rfl, bn⟩
  have hn2 := far hbz.out HN.out bn
  have HP := Lib.hid (HP.out.below bn)
  have HR := Lib.hid (HR.out.below bn)
  have BB := Lib.hid (B2.out.trans (bn.mono B2.out.size))
  clear bn K B2 HN hn0 ha' hbz
  obtain ⟨p0, p1, p2, p3, p4⟩ := HP.out.facts
  obtain ⟨r0, r1, r2, r3, r4⟩ := HR.out.facts
  obtain ⟨f0, f1, f2, f3, f4⟩ := HR.out.free
  go_wp2_with fail
  refine (G.out _).mono ?_
  rintro e w3 ⟨rfl, bn⟩
  have HR := Lib.hid (HR.out.below bn)
  have BB := Lib.hid (BB.out.trans (bn.mono BB.out.size))
  clear bn G p0 p1 p2 p3 p4
  obtain ⟨r0, r1, r2, r3, r4⟩ := HR.out.facts
  obtain ⟨f0, f1, f2, f3, f4⟩ := HR.out.free
  go_wp2
  exact bodyPost_ret (v := .agg #[.int .i64 z', .int .i64 t', .int .i64 f', .int .i64 s', .int .i64 p']) (by simp [results, Try.results32, go_sem, r0, r1, r2, r3, r4]) rfl ⟨rfl, below_five BB.out _ (Nat.le_succ _) _ _ _ _ _⟩
set_option maxHeartbeats 800000 in
theorem lostcl_a (z t f s p n a now : Int) (bn ba bw : Nat) (w : World) (hf : 0 ≤ f) (hf' : f ≤ 1099511627776) (h1 : 1 ≤ n) (h2 : n ≤ 1200) (hb : bn < w.heap.size) (hn : w.cell? ⟨bn, 0, none⟩ = some (.int .i64 n)) (hba : ba < w.heap.size) (ha : w.cell? ⟨ba, 0, none⟩ = some (.int .i64 a)) (hbw : bw < w.heap.size) (hw : w.cell? ⟨bw, 0, none⟩ = some (.int .i64 now)) (hc : decide (a ≥ s) = false) :
    Calls Try.prog 36 #[.agg #[.int .i64 z, .int .i64 t, .int .i64 f, .int .i64 s, .int .i64 p], .pointer (some ⟨bn, 0, none⟩), .pointer (some ⟨ba, 0, none⟩), .pointer (some ⟨bw, 0, none⟩)] w fun e w' => e = .returned (.agg #[.int .i64 z, .int .i64 t, .int .i64 (f - n), .int .i64 s, .int .i64 p]) ∧ Below w.heap.size w w' := by
  have W0 : IntKind.i64.wrap (f - n) = f - n := wraps_i64' _ (by omega) (by omega)
  have B2 := Lib.hid (below_two w (.cells #[.int .i64 z, .int .i64 t, .int .i64 (f - n), .int .i64 s, .int .i64 p] 25) (.cells #[.int .i64 0, .int .i64 0, .int .i64 0, .int .i64 0, .int .i64 0] 25))
  have hn0 := far hb hn (below_two w (.cells #[.int .i64 z, .int .i64 t, .int .i64 f, .int .i64 s, .int .i64 p] 25) (.cells #[.int .i64 0, .int .i64 0, .int .i64 0, .int .i64 0, .int .i64 0] 25))
  have hn' := far hb hn B2.out
  have ha' := far hba ha B2.out
  have hw' := far hbw hw B2.out
  have HP := Lib.hid (held_first z t (f - n) s p 25 w (.cells #[.int .i64 0, .int .i64 0, .int .i64 0, .int .i64 0, .int .i64 0] 25))
  have HR := Lib.hid (held_second 0 0 0 0 0 25 w (.cells #[.int .i64 z, .int .i64 t, .int .i64 (f - n), .int .i64 s, .int .i64 p] 25))
  have hbz : Hid (bn < ((w.alloc (.cells #[.int .i64 z, .int .i64 t, .int .i64 (f - n), .int .i64 s, .int .i64 p] 25)).alloc (.cells #[.int .i64 0, .int .i64 0, .int .i64 0, .int .i64 0, .int .i64 0] 25)).heap.size) := Nat.lt_of_lt_of_le hb B2.out.size
  have hwz : Hid (bw < ((w.alloc (.cells #[.int .i64 z, .int .i64 t, .int .i64 (f - n), .int .i64 s, .int .i64 p] 25)).alloc (.cells #[.int .i64 0, .int .i64 0, .int .i64 0, .int .i64 0, .int .i64 0] 25)).heap.size) := Nat.lt_of_lt_of_le hbw B2.out.size
  have K := Lib.hid (fun w => counts_b z t (f - n) s p a _ hc w)
  clear hc
  have HN := Lib.hid hn'
  have HW := Lib.hid hw'
  have hne1 : w.heap.size ≠ w.heap.size + 1 := by omega
  have hne2 : w.heap.size + 1 ≠ w.heap.size := by omega
  clear hn ha hw hn' hw' h1 h2 hf hf'
  go_enter Try.func36, Try.ntmps36
  go_wp2_with fail
  refine (K.out _).mono ?_
  rintro e w2 ⟨rfl, bn⟩
  have hn2 := far hbz.out HN.out bn
  have hw2 := far hwz.out HW.out bn
  have HP := Lib.hid (HP.out.below bn)
  have HR := Lib.hid (HR.out.below bn)
  have BB := Lib.hid (B2.out.trans (bn.mono B2.out.size))
  clear bn K B2 HN hn0 ha' hbz HW hwz
  obtain ⟨p0, p1, p2, p3, p4⟩ := HP.out.facts
  obtain ⟨r0, r1, r2, r3, r4⟩ := HR.out.facts
  obtain ⟨f0, f1, f2, f3, f4⟩ := HR.out.free
  go_wp2
  exact bodyPost_ret (v := .agg #[.int .i64 z, .int .i64 t, .int .i64 (f - n), .int .i64 s, .int .i64 p]) (by simp [results, Try.results36, go_sem, r0, r1, r2, r3, r4]) rfl ⟨rfl, below_five BB.out _ (Nat.le_succ _) _ _ _ _ _⟩
set_option maxHeartbeats 800000 in
theorem lostcl_b (z t f s p n a now z' t' f' s' p' : Int) (bn ba bw : Nat) (w : World) (hf : 0 ≤ f) (hf' : f ≤ 1099511627776) (h1 : 1 ≤ n) (h2 : n ≤ 1200) (hb : bn < w.heap.size) (hn : w.cell? ⟨bn, 0, none⟩ = some (.int .i64 n)) (hba : ba < w.heap.size) (ha : w.cell? ⟨ba, 0, none⟩ = some (.int .i64 a)) (hbw : bw < w.heap.size) (hw : w.cell? ⟨bw, 0, none⟩ = some (.int .i64 now)) (hc : decide (a ≥ s) = true)
    (hg : ∀ w, Calls Try.prog 37 #[.agg #[.int .i64 z, .int .i64 t, .int .i64 (f - n), .int .i64 s, .int .i64 p], .int .i64 now] w fun e w' => e = .returned (.agg #[.int .i64 z', .int .i64 t', .int .i64 f', .int .i64 s', .int .i64 p']) ∧ Below w.heap.size w w') :
    Calls Try.prog 36 #[.agg #[.int .i64 z, .int .i64 t, .int .i64 f, .int .i64 s, .int .i64 p], .pointer (some ⟨bn, 0, none⟩), .pointer (some ⟨ba, 0, none⟩), .pointer (some ⟨bw, 0, none⟩)] w fun e w' => e = .returned (.agg #[.int .i64 z', .int .i64 t', .int .i64 f', .int .i64 s', .int .i64 p']) ∧ Below w.heap.size w w' := by
  have W0 : IntKind.i64.wrap (f - n) = f - n := wraps_i64' _ (by omega) (by omega)
  have B2 := Lib.hid (below_two w (.cells #[.int .i64 z, .int .i64 t, .int .i64 (f - n), .int .i64 s, .int .i64 p] 25) (.cells #[.int .i64 0, .int .i64 0, .int .i64 0, .int .i64 0, .int .i64 0] 25))
  have hn0 := far hb hn (below_two w (.cells #[.int .i64 z, .int .i64 t, .int .i64 f, .int .i64 s, .int .i64 p] 25) (.cells #[.int .i64 0, .int .i64 0, .int .i64 0, .int .i64 0, .int .i64 0] 25))
  have hn' := far hb hn B2.out
  have ha' := far hba ha B2.out
  have hw' := far hbw hw B2.out
  have HP := Lib.hid (held_first z t (f - n) s p 25 w (.cells #[.int .i64 0, .int .i64 0, .int .i64 0, .int .i64 0, .int .i64 0] 25))
  have HR := Lib.hid (held_second 0 0 0 0 0 25 w (.cells #[.int .i64 z, .int .i64 t, .int .i64 (f - n), .int .i64 s, .int .i64 p] 25))
  have hbz : Hid (bn < ((w.alloc (.cells #[.int .i64 z, .int .i64 t, .int .i64 (f - n), .int .i64 s, .int .i64 p] 25)).alloc (.cells #[.int .i64 0, .int .i64 0, .int .i64 0, .int .i64 0, .int .i64 0] 25)).heap.size) := Nat.lt_of_lt_of_le hb B2.out.size
  have hwz : Hid (bw < ((w.alloc (.cells #[.int .i64 z, .int .i64 t, .int .i64 (f - n), .int .i64 s, .int .i64 p] 25)).alloc (.cells #[.int .i64 0, .int .i64 0, .int .i64 0, .int .i64 0, .int .i64 0] 25)).heap.size) := Nat.lt_of_lt_of_le hbw B2.out.size
  have K := Lib.hid (fun w => counts_b z t (f - n) s p a _ hc w)
  have G := Lib.hid hg
  clear hc hg
  have HN := Lib.hid hn'
  have HW := Lib.hid hw'
  have hne1 : w.heap.size ≠ w.heap.size + 1 := by omega
  have hne2 : w.heap.size + 1 ≠ w.heap.size := by omega
  clear hn ha hw hn' hw' h1 h2 hf hf'
  go_enter Try.func36, Try.ntmps36
  go_wp2_with fail
  refine (K.out _).mono ?_
  rintro e w2 ⟨rfl, bn⟩
  have hn2 := far hbz.out HN.out bn
  have hw2 := far hwz.out HW.out bn
  have HP := Lib.hid (HP.out.below bn)
  have HR := Lib.hid (HR.out.below bn)
  have BB := Lib.hid (B2.out.trans (bn.mono B2.out.size))
  clear bn K B2 HN hn0 ha' hbz HW hwz
  obtain ⟨p0, p1, p2, p3, p4⟩ := HP.out.facts
  obtain ⟨r0, r1, r2, r3, r4⟩ := HR.out.facts
  obtain ⟨f0, f1, f2, f3, f4⟩ := HR.out.free
  go_wp2_with fail
  refine (G.out _).mono ?_
  rintro e w3 ⟨rfl, bn⟩
  have HR := Lib.hid (HR.out.below bn)
  have BB := Lib.hid (BB.out.trans (bn.mono BB.out.size))
  clear bn G p0 p1 p2 p3 p4
  obtain ⟨r0, r1, r2, r3, r4⟩ := HR.out.facts
  obtain ⟨f0, f1, f2, f3, f4⟩ := HR.out.free
  go_wp2
  exact bodyPost_ret (v := .agg #[.int .i64 z', .int .i64 t', .int .i64 f', .int .i64 s', .int .i64 p']) (by simp [results, Try.results36, go_sem, r0, r1, r2, r3, r4]) rfl ⟨rfl, below_five BB.out _ (Nat.le_succ _) _ _ _ _ _⟩
end Go.Proofs.Ytiglhdiclfknhaa
