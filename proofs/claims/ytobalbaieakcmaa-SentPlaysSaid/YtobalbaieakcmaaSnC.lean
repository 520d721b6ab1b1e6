/- Walks of layer 8: the closures by which datagrams are settled. -/
import Derived.Test.YtobalbaieakcmaaSnA
import Derived.Test.YtobalbaieakcmaaSnH
set_option linter.unusedSimpArgs false
set_option linter.unusedVariables false
namespace Go.Proofs.Ytobalbaieakcmaa
open Go.RowKit

theorem below_one (w : World) (a : Obj) : Below w.heap.size w (w.alloc a) := (Below.refl _ _).alloc (Nat.le_refl _) _

theorem dropcl_any (p : Pk) (w : World) :
    Calls Try.prog 40 #[.agg #[.int .i64 p.n, .int .i64 p.t, .int .i64 p.s]] w fun e w' => e = .returned (.bool true) ∧ Below w.heap.size w w' := by
  go_enter Try.func40, Try.ntmps40
  go_wp2
  go_ret
  exact ⟨rfl, below_one _ _⟩

set_option maxRecDepth 100000 in
theorem ackcl_any (p : Pk) (v : Value) (ss : List (Int × Int)) (bs : Nat) (w : World) (hb : bs < w.heap.size) (hv : w.cell? ⟨bs, 0, none⟩ = some v) (hr : RdS w v ss) :
    Calls Try.prog 33 #[.agg #[.int .i64 p.n, .int .i64 p.t, .int .i64 p.s], .pointer (some ⟨bs, 0, none⟩)] w fun e w' => e = .returned (.bool (rightB ss && inB p.n ss)) ∧ Below w.heap.size w w' := by
  have B1 := Lib.hid (below_one w (.cells #[.int .i64 p.n, .int .i64 p.t, .int .i64 p.s] 54))
  have HR := Lib.hid (hr.below B1.out)
  obtain ⟨va, vc, rfl, _, _⟩ := hr.isSlice
  have c1 : (w.alloc (.cells #[.int .i64 p.n, .int .i64 p.t, .int .i64 p.s] 54)).cell? ⟨bs, 0, none⟩ = some (.slice va ss.length vc) := (B1.out.cell (p := ⟨bs, 0, none⟩) hb).trans hv
  clear hr hv
  go_enter Try.func33, Try.ntmps33
  go_wp2_with (go_at_call 34; refine (has_any _ ss p.n _ HR.out).mono ?_; rintro e w2 ⟨rfl, hb2⟩)
  go_ret
  exact ⟨rfl, B1.out.trans (hb2.mono B1.out.size)⟩

set_option maxRecDepth 100000 in
set_option maxHeartbeats 1600000 in
theorem losecl_any (p : Pk) (b bl bn bw : Nat) (big now wait : Int) (w : World) (h0 : 0 ≤ p.n ∧ p.n ≤ 4611686018427387903) (h1 : 0 ≤ p.t ∧ p.t ≤ 1099511627776) (h2 : -1 ≤ big ∧ big ≤ 4611686018427387903) (h3 : 0 ≤ now ∧ now ≤ 1099511627776)
    (cl : w.cell? ⟨bl, 0, none⟩ = some (.pointer (some ⟨b, 0, none⟩))) (cb : w.cell? ⟨b, 3, none⟩ = some (.int .i64 big)) (cn : w.cell? ⟨bn, 0, none⟩ = some (.int .i64 now)) (cw : w.cell? ⟨bw, 0, none⟩ = some (.int .i64 wait))
    (kl : bl < w.heap.size) (kb : b < w.heap.size) (kn : bn < w.heap.size) (kw : bw < w.heap.size) :
    Calls Try.prog 38 #[.agg #[.int .i64 p.n, .int .i64 p.t, .int .i64 p.s], .pointer (some ⟨bl, 0, none⟩), .pointer (some ⟨bn, 0, none⟩), .pointer (some ⟨bw, 0, none⟩)] w fun e w' => e = .returned (.bool (lostB big now wait p)) ∧ Below w.heap.size w w' := by
  have B1 := Lib.hid (below_one w (.cells #[.int .i64 p.n, .int .i64 p.t, .int .i64 p.s] 54))
  obtain ⟨n, t, s⟩ := p
  simp only at h0 h1
  have w1 : IntKind.i64.wrap (big - n) = big - n := by rw [IntKind.wrap_i64]; omega
  have w2 : IntKind.i64.wrap (now - t) = now - t := by rw [IntKind.wrap_i64]; omega
  have C : Hid ((w.alloc (.cells #[.int .i64 n, .int .i64 t, .int .i64 s] 54)).cell? ⟨bl, 0, none⟩ = some (.pointer (some ⟨b, 0, none⟩)) ∧ (w.alloc (.cells #[.int .i64 n, .int .i64 t, .int .i64 s] 54)).cell? ⟨b, 3, none⟩ = some (.int .i64 big)
      ∧ (w.alloc (.cells #[.int .i64 n, .int .i64 t, .int .i64 s] 54)).cell? ⟨bn, 0, none⟩ = some (.int .i64 now) ∧ (w.alloc (.cells #[.int .i64 n, .int .i64 t, .int .i64 s] 54)).cell? ⟨bw, 0, none⟩ = some (.int .i64 wait)
      ∧ (w.alloc (.cells #[.int .i64 n, .int .i64 t, .int .i64 s] 54)).cell? ⟨w.heap.size, 0, none⟩ = some (.int .i64 n) ∧ (w.alloc (.cells #[.int .i64 n, .int .i64 t, .int .i64 s] 54)).cell? ⟨w.heap.size, 1, none⟩ = some (.int .i64 t)) :=
    ⟨(B1.out.cell (p := ⟨bl, 0, none⟩) kl).trans cl, (B1.out.cell (p := ⟨b, 3, none⟩) kb).trans cb, (B1.out.cell (p := ⟨bn, 0, none⟩) kn).trans cn, (B1.out.cell (p := ⟨bw, 0, none⟩) kw).trans cw, by rw [World.cell?_alloc_at _ _ _ _ rfl]; rfl, by rw [World.cell?_alloc_at _ _ _ _ rfl]; rfl⟩
  have E : lostB big now wait ⟨n, t, s⟩ = (decide (n < big) && (decide (big - n ≥ 3) || decide (now - t ≥ wait))) := rfl
  rw [E]
  clear cl cb cn cw E
  cases e1 : decide (n < big)
  all_goals (try cases e2 : decide (big - n ≥ 3))
  all_goals
    go_enter Try.func38, Try.ntmps38
    go_wp2_with fail
    generalize w.alloc (.cells #[.int .i64 n, .int .i64 t, .int .i64 s] 54) = W at B1 C ⊢
    generalize w.heap.size = q at C ⊢
    obtain ⟨c0, c1, c2, c3, c4, c5⟩ := C.out
    have d0 : W.drew.cell? ⟨bl, 0, none⟩ = some (.pointer (some ⟨b, 0, none⟩)) := c0
    have d1 : W.drew.cell? ⟨b, 3, none⟩ = some (.int .i64 big) := c1
    have d2 : W.drew.cell? ⟨bn, 0, none⟩ = some (.int .i64 now) := c2
    have d3 : W.drew.cell? ⟨bw, 0, none⟩ = some (.int .i64 wait) := c3
    have d4 : W.drew.cell? ⟨q, 0, none⟩ = some (.int .i64 n) := c4
    have d5 : W.drew.cell? ⟨q, 1, none⟩ = some (.int .i64 t) := c5
    clear h0 h1 h2 h3 kl kb kn kw
    go_quiet (fail)
    go_wp2
    go_ret
    exact ⟨rfl, below_drewN B1.out _⟩
end Go.Proofs.Ytobalbaieakcmaa
