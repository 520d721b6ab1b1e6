/- The law PintOwn holds for every input: it returns true and leaves its arguments as they were. Conditions: none. -/
import Derived.Test.YtnjgnbdloeadgaaPiO
import Derived.Test.YtnjgnbdloeadgaaLift
import Derived.Lib.SmallJoins
namespace Go.Proofs.Ytnjgnbdloeadgaa.pintOwn
open Go.ChangeShapes Go.WideShapes Go.ChangeAt Go.RowKit

theorem own : ownKnob Try.prog.godebug = none := by kernel_rfl
theorem laidOut : laidOutB Try.prog = true := by kernel_rfl
theorem cellsU8 : Try.prog.cellsOf 5 = 1 := by kernel_rfl
theorem bytesU8 : Try.prog.bytesOf 5 = 1 := by kernel_rfl
theorem cellsT : Try.prog.cellsOf 24 = 3 := by kernel_rfl

theorem contract (H : Type) (enc : TypeId × Value → H) (W : World) (base : Nat) (args : Array Value) (ds gs : List (DataW H)) (before : List MemPlace)
    (hval : ∀ (j : Nat) t v, Try.f7.params[j]? = some t → args[j]? = some v → Value.okWide Try.prog W .any base t v)
    (hW : DataW.Whole enc Try.prog Try.f7.params.toList Rows.pintOwnSpec.vars false W args.toList ds gs before)
    (hcond : ∀ k, (OpenSpec.ofChange Rows.pintOwnSpec).cond = some k → k H (ds ++ gs) = true)
    (hsz : (DataW.weightsEach Try.prog (Try.f7.params.toList ++ (OpenSpec.ofChange Rows.pintOwnSpec).bare.plain.varTypes Try.prog) (ds ++ gs)).all (· ≤ reachBytes) = true) :
    Calls Try.prog 7 args W fun e W' => ∃ v, e = .returned v ∧ Rows.pintOwnSpec.post enc Try.prog Try.f7 false true false false W args v W' := by
  have hlt0 : ∀ x ∈ before, x.block < W.heap.size := fun x hx => by simpa using hW.lt x hx
  have fin : ∀ e W', Yes W e W' → ∃ v, e = .returned v ∧ Rows.pintOwnSpec.post enc Try.prog Try.f7 false true false false W args v W' := fun e W' ⟨he, hb⟩ =>
    ⟨_, he, law_post (tb := 4) laidOut (by kernel_rfl) rfl (by rfl) Try.underlying4 (fun ds hd => by
      match ds, hd with | [d0, d1], _ => exact ⟨rfl, rfl, rfl⟩) hW hb⟩
  refine Calls.mono ?_ fin
  obtain ⟨p, q, hA0, hV, rfl, _, _⟩ := hW
  have hA : DataW.TrodAll enc Try.prog W 0 (fun _ => true) true Try.f7.params.toList args.toList ds p := hA0
  rw [Try.params7] at hA hval hsz
  obtain ⟨rfl, rfl⟩ := trodVars_none hV
  obtain ⟨v0, v1, d0, d1, p0, p1, rfl, rfl, rfl, h0, h1⟩ := trodAll_two hA
  obtain ⟨xs, hr0, hwf0, hd0⟩ := open_nums Try.underlying22 Try.underlying5 cellsU8 (hval 0 22 v0 rfl rfl) h0 (fun x hx => hlt0 x (by simp [hx]))
  have hl0 := nums_sized hsz (j := 0) (t := 22) (e := 5) rfl rfl Try.underlying22 hd0
  rw [bytesU8, Nat.mul_one] at hl0
  obtain ⟨a0, a1, a2, y0, y1, y2, n9, rfl, rfl, rfl, g0, g1, g2⟩ := Joins.open_agg3 Try.underlying24 (by kernel_rfl) cellsT (hval 1 24 v1 rfl rfl) h1
  obtain ⟨f, hf, _, wf⟩ := DataW.trod_int Try.underlying3 g0
  obtain ⟨k, hk, _, wk⟩ := DataW.trod_int Try.underlying3 g1
  obtain ⟨n, hn, _, wn⟩ := DataW.trod_int Try.underlying3 g2
  simp only [List.cons.injEq, and_true] at hf hk hn
  subst hf; subst hk; subst hn
  exact pintOwn_walk v0 xs f k n W hr0 hl0

noncomputable def someWorld (os : Os) : World := World.holding Try.prog os ⟨#[], #[], []⟩
theorem laid_met (os : Os) : laidMet Try.prog Rows.pintOwnRow.laid ((someWorld os).forCall (fun _ _ => 0) ⟨#[], #[.slice none 0 0, .agg #[.int .i64 0, .int .i64 0, .int .i64 0]], []⟩).memory :=
  laidMet_of_run' 8 (by kernel_rfl) (by kernel_rfl)
theorem reads (os : Os) {H : Type} (enc : TypeId × Value → H) : ∃ places, DataW.whole enc Try.prog ((someWorld os).forCall (fun _ _ => 0) ⟨#[], #[.slice none 0 0, .agg #[.int .i64 0, .int .i64 0, .int .i64 0]], []⟩).memory Try.f7.params.toList Rows.pintOwnSpec.vars false (#[.slice none 0 0, .agg #[.int .i64 0, .int .i64 0, .int .i64 0]] : Array Value).toList 8 = some ([.nil, .agg [.lit (.int .i64 0), .lit (.int .i64 0), .lit (.int .i64 0)]], [], places) :=
  ⟨[], by kernel_rfl⟩

set_option maxRecDepth 100000 in
theorem lifted (os : Os) (started : os.Started) (H : Type) (enc : TypeId × Value → H) (F : Stop.Interp) :
    ReturnsInHanded {} Try.checked os 7 .any ((OpenSpec.ofChange Rows.pintOwnSpec).preRow enc Try.prog Try.f7 Rows.pintOwnRow.domain false Rows.pintOwnRow.laid) (((OpenSpec.ofChange Rows.pintOwnSpec).at F).post enc Try.prog Try.f7 false true false false) := by
  obtain ⟨places, hx⟩ := reads os enc
  refine returnsInHanded_of_row (C := Try.checked) (s := (OpenSpec.ofChange Rows.pintOwnSpec)) own started (by kernel_rfl) Try.func7
    (witness_row_at (enc := enc) (C := Try.checked) false (someWorld os) #[.slice none 0 0, .agg #[.int .i64 0, .int .i64 0, .int .i64 0]] rfl (by kernel_rfl) (by kernel_rfl) (by kernel_rfl)
      (OpenSpec.preRow_of_cond 8 hx (by kernel_rfl) (fun k hk => by cases hk) (by kernel_rfl) (laid_met os))) ?_
  intro W base args ds gs before hval hW _ hcond hsz _ _ _
  exact contract H enc W base args ds gs before hval hW hcond hsz

/-- THE STATEMENT -/
theorem said : Rows.PintOwnSaid :=
  OpenClaim.holds_of_cond 7 Try.f7 rfl rfl rfl rfl rfl rfl rfl ⟨rfl, rfl, rfl, rfl, rfl⟩ rfl rfl rfl rfl rfl (by kernel_rfl) Try.func7 (by kernel_rfl)
    (of_decide_eq_true (by kernel_rfl)) (by unfold Func.isWrapper; first | (rw [if_pos (by decide +kernel)]; kernel_rfl) | (rw [if_neg (by decide +kernel)]; exact ⟨rfl, rfl⟩))
    (fun os started H enc _ F => by rw [OpenClaim.pre_eq_preRow]; exact lifted os started H enc F)
end Go.Proofs.Ytnjgnbdloeadgaa.pintOwn
