/- Layer 17: a part's span. -/
import Derived.Test.YtdfebmjincnfiaaDoorFdJ
set_option maxRecDepth 100000
set_option linter.unusedSimpArgs false
set_option linter.unusedVariables false
namespace Go.Proofs.YtdfebmjincnfiaaDoor
open Go.RowKit

theorem load_two {U : World} {g : Nat} {a b : Value} (h : Cs U g [a, b]) : (loadVar 31 ⟨g, 0, none⟩).run Tryd.prog U = .ok (.agg #[a, b]) U := by
  obtain ⟨T, hT⟩ := h
  exact run_loadVar_row (P := Tryd.prog) U g T 31 #[a, b] (0, 0) _ hT Tryd.underlying31 rfl (by kernel_rfl)
theorem span_end (w U : World) (g : Nat) (a b : Int) (A : Act) (hd : A.defers = []) (h2 : A.tmps.getD 4 undef = .pointer (some ⟨g, 0, none⟩)) (hR : Cs U g [.int .i64 a, .int .i64 b]) (hZ : Below w.heap.size w U) :
    bodyPost Tryd.prog Tryd.f17 (fun e w' => e = .returned (.agg #[.int .i64 a, .int .i64 b]) ∧ Below w.heap.size w w') .ret A U := by
  have hlv := load_two hR
  refine bodyPost_ret (v := .agg #[.int .i64 a, .int .i64 b]) ?_ hd ⟨rfl, hZ⟩
  rw [Array.getD_eq_getD_getElem?] at h2
  simp [results, Tryd.results17, asAddr, h2, hlv]
/-- a part's span of a content of n bytes -/
def withinE (p : RP) (n : Int) : Int × Int := if p.hf = false then (max (n - p.t) 0, n - 1) else if p.ht = false then (p.f, n - 1) else (p.f, min p.t (n - 1))
set_option maxHeartbeats 3200000 in
theorem within_any (p : RP) (n : Int) (w : World) (h0 : 0 ≤ p.t ∧ p.t < 1000000000000000000) (h1 : 0 ≤ n ∧ n ≤ 1099511627776) :
    Calls Tryd.prog 17 #[rpV p, .int .i64 n] w fun e w' => e = .returned (.agg #[.int .i64 (withinE p n).1, .int .i64 (withinE p n).2]) ∧ Below w.heap.size w w' := by
  obtain ⟨f, t, hf, ht⟩ := p
  obtain ⟨h2, h3⟩ := h0
  obtain ⟨h4, h5⟩ := h1
  simp only at h2 h3
  unfold rpV
  simp only
  have w1 := wr64 (n - 1) (by omega) (by omega)
  have w2 := wr64 (n - t) (by omega) (by omega)
  have Z1 : Hid (Below w.heap.size w ((w.alloc (.cells #[.int .i64 f, .int .i64 t, .bool hf, .bool ht] 51)).alloc (.cells #[.int .i64 0, .int .i64 0] 31))) := ((Below.refl _ _).alloc (Nat.le_refl _) _).alloc (by simp) _
  have P1 : Hid (Cs ((w.alloc (.cells #[.int .i64 f, .int .i64 t, .bool hf, .bool ht] 51)).alloc (.cells #[.int .i64 0, .int .i64 0] 31)) w.heap.size [.int .i64 f, .int .i64 t, .bool hf, .bool ht]) := (Cs.made w _ _).below ((Below.refl _ _).alloc (Nat.le_refl _) _)
  have R1 : Hid (Cs ((w.alloc (.cells #[.int .i64 f, .int .i64 t, .bool hf, .bool ht] 51)).alloc (.cells #[.int .i64 0, .int .i64 0] 31)) (w.heap.size + 1) [.int .i64 0, .int .i64 0]) := by
    have := Cs.made (w.alloc (.cells #[.int .i64 f, .int .i64 t, .bool hf, .bool ht] 51)) #[.int .i64 0, .int .i64 0] 31
    rwa [World.size_alloc] at this
  have hE : Hid (withinE ⟨f, t, hf, ht⟩ n = if hf = false then (max (n - t) 0, n - 1) else if ht = false then (f, n - 1) else (f, min t (n - 1))) := rfl
  generalize withinE ⟨f, t, hf, ht⟩ n = S at hE ⊢
  obtain ⟨s1, s2⟩ := S
  simp only
  cases hf with
  | false =>
    obtain ⟨rfl, rfl⟩ : s1 = max (n - t) 0 ∧ s2 = n - 1 := by have := hE.out; simpa using this
    clear hE
    go_enter Tryd.func17, Tryd.ntmps17
    go_upto_region 1 with fail
    generalize (w.alloc (.cells #[.int .i64 f, .int .i64 t, .bool false, .bool ht] 51)).alloc (.cells #[.int .i64 0, .int .i64 0] 31) = W at Z1 P1 R1 ⊢
    have k1 := P1.out.get 1 _ rfl
    have k2 := P1.out.get 2 _ rfl
    have r0 := R1.out.get 0 _ rfl
    have r1 := R1.out.get 1 _ rfl
    have z0 := R1.out.free 0
    have z1 := R1.out.free 1
    go_wp2
    exact span_end w _ (w.heap.size + 1) _ _ _ (by rfl) (by rfl) ((R1.out.set 0 _).set 1 _) ((Z1.out.setCell (p := ⟨w.heap.size + 1, 0, none⟩) (by simp) _).setCell (p := ⟨w.heap.size + 1, 1, none⟩) (by simp) _)
  | true =>
    cases ht with
    | false =>
      obtain ⟨rfl, rfl⟩ : s1 = f ∧ s2 = n - 1 := by have := hE.out; simpa using this
      clear hE
      go_enter Tryd.func17, Tryd.ntmps17
      go_upto_region 1 with fail
      generalize (w.alloc (.cells #[.int .i64 s1, .int .i64 t, .bool true, .bool false] 51)).alloc (.cells #[.int .i64 0, .int .i64 0] 31) = W at Z1 P1 R1 ⊢
      have k0 := P1.out.get 0 _ rfl
      have k2 := P1.out.get 2 _ rfl
      have k3 := P1.out.get 3 _ rfl
      have r0 := R1.out.get 0 _ rfl
      have r1 := R1.out.get 1 _ rfl
      have z0 := R1.out.free 0
      have z1 := R1.out.free 1
      go_wp2
      exact span_end w _ (w.heap.size + 1) _ _ _ (by rfl) (by rfl) ((R1.out.set 0 _).set 1 _) ((Z1.out.setCell (p := ⟨w.heap.size + 1, 0, none⟩) (by simp) _).setCell (p := ⟨w.heap.size + 1, 1, none⟩) (by simp) _)
    | true =>
      obtain ⟨rfl, rfl⟩ : s1 = f ∧ s2 = min t (n - 1) := by have := hE.out; simpa using this
      clear hE
      go_enter Tryd.func17, Tryd.ntmps17
      go_upto_region 1 with fail
      generalize (w.alloc (.cells #[.int .i64 s1, .int .i64 t, .bool true, .bool true] 51)).alloc (.cells #[.int .i64 0, .int .i64 0] 31) = W at Z1 P1 R1 ⊢
      have k0 := P1.out.get 0 _ rfl
      have k1 := P1.out.get 1 _ rfl
      have k2 := P1.out.get 2 _ rfl
      have k3 := P1.out.get 3 _ rfl
      have r0 := R1.out.get 0 _ rfl
      have r1 := R1.out.get 1 _ rfl
      have z0 := R1.out.free 0
      have z1 := R1.out.free 1
      go_wp2
      exact span_end w _ (w.heap.size + 1) _ _ _ (by rfl) (by rfl) ((R1.out.set 0 _).set 1 _) ((Z1.out.setCell (p := ⟨w.heap.size + 1, 0, none⟩) (by simp) _).setCell (p := ⟨w.heap.size + 1, 1, none⟩) (by simp) _)
end Go.Proofs.YtdfebmjincnfiaaDoor
