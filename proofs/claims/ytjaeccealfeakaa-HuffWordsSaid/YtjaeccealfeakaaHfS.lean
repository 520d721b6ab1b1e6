/- Layer 12: the map of symbols by their words: symbolsOf. -/
import Derived.Test.YtjaeccealfeakaaHfE
import Derived.Maps.RangeWalk
import Derived.DeepKeys5
import Derived.WalkArith
set_option maxRecDepth 100000
set_option linter.unusedSimpArgs false
set_option linter.unusedVariables false
namespace Go.Proofs.Ytjaeccealfeakaa
open Go.RowKit Go.Maps

/-- a word as a key -/
def kW (a b : Nat) : Lit := .string (keyBytes [.int .i64 (a : Int), .int .i64 (b : Int)])
theorem laidW : laidOutB Try.prog = true := by kernel_rfl
theorem rowW : (44 : TypeId) < Try.prog.types.size := of_decide_eq_true (by kernel_rfl)
theorem wideW : (match Try.prog.underlying 44 with | some (.array _ _) | some (.struct _) => true | _ => false) = true := by rw [Try.underlying44]
theorem lawW : Keyed Try.prog 44 := Keyed.of_law (deep_law_laid laidW (m := 2) (by omega) rowW (by kernel_rfl) wideW)
theorem wf_small {a : Nat} (h : a < 4611686018427387904) : (Lit.int .i64 (a : Int)).wf = true := WalkArith.wf_i64 (by omega)
theorem keyTypeW : Try.prog.keyType 44 = true := by kernel_rfl
theorem cellsW : Try.prog.cellsOf 44 = 2 := by kernel_rfl
theorem cellsI : Try.prog.cellsOf 3 = 1 := by kernel_rfl
theorem key_mk (a b : Nat) (ha : a < 4611686018427387904) (hb : b < 4611686018427387904) : keyOf Try.prog 44 (.agg #[.int .i64 (a : Int), .int .i64 (b : Int)]) = some (kW a b) := by
  have hs : ∃ n, Try.prog.types.size = n + 1 := ⟨Try.prog.types.size - 1, (Nat.succ_pred_eq_of_pos (Nat.lt_of_le_of_lt (Nat.zero_le _) rowW)).symm⟩
  obtain ⟨n, hn⟩ := hs
  have wa := wf_small ha
  have wb := wf_small hb
  have hl : Try.prog.keyLits (n + 1 + 1) 44 [.int .i64 (a : Int), .int .i64 (b : Int)] = some [.int .i64 (a : Int), .int .i64 (b : Int)] := by
    simp [Program.keyLits, Try.underlying44, Try.underlying3, cellsW, cellsI, wa, wb]
  simp only [keyOf, Try.underlying44, keyTypeW, Value.formed, cellsW, hn, Value.cells]
  simp [hl, kW]
theorem kW_inj {a b a' b' : Nat} (ha : a < 4611686018427387904) (hb : b < 4611686018427387904) (ha' : a' < 4611686018427387904) (hb' : b' < 4611686018427387904) (h : kW a b = kW a' b') : a = a' ∧ b = b' := by
  have := lawW.inj (key_mk a b ha hb) (by rw [h]; exact key_mk a' b' ha' hb')
  simp only [Value.agg.injEq, Array.mk.injEq, List.cons.injEq, Value.int.injEq, true_and, and_true] at this
  omega
theorem kW_key (a b : Nat) : WideAt.IsKeyLit (kW a b) := trivial

theorem sym_take (W : List (Nat × Nat)) (i a b : Nat) (hi : i < W.length) : symN (W.take (i + 1)) a b = (symN (W.take i) a b).or (if W.getD i (0, 0) = (a, b) then some i else none) := by
  have l1 : (W.take i).length = i := by rw [List.length_take]; omega
  unfold symN
  rw [List.take_succ_eq_append_getElem hi, List.findIdx?_append, l1]
  congr 1
  have e : W.getD i (0, 0) = W[i] := by simp [List.getD, hi]
  rw [e]
  by_cases h : W[i] = (a, b)
  · rw [if_pos h]; simp [List.findIdx?_cons, h]
  · rw [if_neg h]; simp [List.findIdx?_cons, h]

/-- block mb IS THE MAP OF THE FIRST i SYMBOLS BY THEIR WORDS -/
def SyM (w : World) (mb : Nat) (W : List (Nat × Nat)) (i : Nat) : Prop :=
  ∃ (n : Nat) (D : DataW Unit), w.ownsMap Try.prog 44 (plainElem Try.prog 5) mb n D ∧ n ≤ i ∧
    ∀ a b, 0 < b → a < 4611686018427387904 → b < 4611686018427387904 → has D (kW a b) = (symN (W.take i) a b).isSome ∧ ∀ j, symN (W.take i) a b = some j → ∀ z, D.atKey (kW a b) z = .lit (.int .u8 (j : Int))
theorem SyM.made (w : World) (W : List (Nat × Nat)) : SyM (w.alloc (.map #[] 0)) w.heap.size W 0 :=
  ⟨0, .map [], World.ownsMap_made w _ _ _, Nat.le_refl _, fun a b _ _ _ => ⟨by simp [symN]; rfl, fun j hj => by simp [symN] at hj⟩⟩
theorem SyM.kept {w w' : World} {mb i : Nat} {W : List (Nat × Nat)} {row : Option Nat} (h : SyM w mb W i) (hg : w.grownBy w' row) (hne : some mb ≠ row) : SyM w' mb W i := by
  obtain ⟨n, D, h1, h2, h3⟩ := h
  exact ⟨n, D, h1.kept hg hne, h2, h3⟩
theorem SyM.lt {w : World} {mb i : Nat} {W : List (Nat × Nat)} (h : SyM w mb W i) : mb < w.heap.size := by
  obtain ⟨n, D, h1, h2, h3⟩ := h
  exact h1.lt
theorem SyM.below {w w' : World} {mb i : Nat} {W : List (Nat × Nat)} (h : SyM w mb W i) (hb : Below w.heap.size w w') : SyM w' mb W i :=
  h.kept (row := none) ⟨hb.os, hb.tape, hb.output, hb.size, fun j hj _ => hb.block j hj⟩ (by simp)
theorem SyM.skip {w : World} {mb i : Nat} {W : List (Nat × Nat)} (h : SyM w mb W i) (hi : i < W.length) (h0 : (W.getD i (0, 0)).2 = 0) : SyM w mb W (i + 1) := by
  obtain ⟨n, D, h1, h2, h3⟩ := h
  refine ⟨n, D, h1, by omega, fun a b hb ha hb' => ?_⟩
  rw [sym_take W i a b hi, if_neg (by intro e; rw [e] at h0; simp only at h0; omega), Option.or_none]
  exact h3 a b hb ha hb'

section
variable (w : World) {ops : Array Oper} {rest : List Oper} {o : Oper} {a : Act} {Q : Exit → Act → World → Prop}
/-- 'm[word] = symbol' -/
theorem wpList_put_word (hg : o.guard = none) (m x v : Operand) (hop : o.op = Op.mapUpdate 57 m x v) (mb i : Nat) (W : List (Nat × Nat)) (hm : a.eval m = .map (some mb)) (hM : SyM w mb W i) (hW : WordsOk W) (hi : i < W.length)
    (p q : Nat) (hpq : W.getD i (0, 0) = (p, q)) (hx : a.eval x = .agg #[.int .i64 (p : Int), .int .i64 (q : Int)]) (hv : a.eval v = .int .u8 (i : Int)) (hq0 : 0 < q)
    (hK : ∀ w', SyM w' mb W (i + 1) → w.mapTurned w' mb → wpList Try.prog ops Q rest (a.put o.dst undef) w') : wpList Try.prog ops Q (o :: rest) a w := by
  obtain ⟨n, D, h1, h2, h3⟩ := hM
  obtain rfl : p = (W.getD i (0, 0)).1 := by rw [hpq]
  obtain rfl : q = (W.getD i (0, 0)).2 := by rw [hpq]
  have h0 := hq0
  clear hpq hq0
  have hl := hW.few
  have hn24 := hW.long i
  have hr := hW.room i h0
  have hx24 : (W.getD i (0, 0)).1 < 16777216 := by
    have : 2 ^ (W.getD i (0, 0)).2 ≤ 2 ^ 24 := Nat.pow_le_pow_right (by decide) hn24
    have e : (2 : Nat) ^ 24 = 16777216 := rfl
    omega
  refine wpList_mapUpdate_in w hg m x v 57 hop 44 5 lawW Try.underlying57 (plainElem Try.prog 5) mb n D hm h1 (by unfold maxLen; omega) _ _ (kW (W.getD i (0, 0)).1 (W.getD i (0, 0)).2) hx hv (key_mk _ _ (by omega) (by omega)) (.lit (.int .u8 (i : Int))) [] (plainElem_int Try.underlying5 (WalkArith.wf_u8 (by omega))) fun w' k1 k2 => hK w' ⟨n + 1, _, k1, by omega, fun a b hb ha hb' => ?_⟩ k2
  rw [sym_take W i a b hi]
  by_cases e : W.getD i (0, 0) = (a, b)
  · have ns : symN (W.take i) a b = none := by
      cases hs : symN (W.take i) a b with
      | none => rfl
      | some j =>
        obtain ⟨hj, hj2⟩ := sym_some hs
        rw [List.length_take] at hj
        have hj4 : (W.take i).getD j (0, 0) = W.getD j (0, 0) := by simp [List.getD, List.getElem?_take, show j < i by omega]
        have hj3 : W.getD j (0, 0) = (a, b) := hj4.symm.trans hj2
        have := hW.inj (i := i) (k := j) h0 (e.trans hj3.symm)
        omega
    rw [if_pos e, ns]
    rw [e]
    exact ⟨by rw [has_put_same h1.isMap (kW_key _ _)]; rfl, fun j hj z => by
      rw [atKey_put_same h1.isMap (kW_key _ _)]
      simp only [Option.none_or, Option.some.injEq] at hj
      rw [hj]⟩
  · have hne : kW a b ≠ kW (W.getD i (0, 0)).1 (W.getD i (0, 0)).2 := fun h => by
      have := kW_inj ha hb' (by omega) (by omega) h
      exact e (Prod.ext this.1.symm this.2.symm)
    rw [if_neg e, Option.or_none, has_put_other hne]
    refine ⟨(h3 a b hb ha hb').1, fun j hj z => ?_⟩
    rw [atKey_put_other hne]
    exact (h3 a b hb ha hb').2 j hj z
/-- 'symbol, is := m[word]' -/
theorem wpList_look_word (hg : o.guard = none) (m x : Operand) (hop : o.op = Op.lookup 57 m x true) (mb : Nat) (W : List (Nat × Nat)) (hm : a.eval m = .map (some mb)) (hM : SyM w mb W W.length) (p q : Nat)
    (hx : a.eval x = .agg #[.int .i64 (p : Int), .int .i64 (q : Int)]) (hq : 0 < q) (hp1 : p < 4611686018427387904) (hq1 : q < 4611686018427387904)
    (hK : ∀ c : Int, (∀ s, symN W p q = some s → c = (s : Int)) → wpList Try.prog ops Q rest (a.put o.dst (.tuple #[.int .u8 c, .bool (symN W p q).isSome])) w) : wpList Try.prog ops Q (o :: rest) a w := by
  obtain ⟨n, D, h1, h2, h3⟩ := hM
  have h4 := h3 p q hq hp1 hq1
  rw [List.take_length] at h4
  refine wpList_lookup_own_ok_int w hg m x 57 hop 44 5 .u8 lawW Try.underlying57 Try.underlying5 (by kernel_rfl) mb n D hm h1 _ (kW p q) hx (key_mk p q hp1 hq1) fun c hat hwc => ?_
  rw [h4.1]
  refine hK c fun s hs => ?_
  have := h4.2 s hs (.lit (.int .u8 0))
  rw [hat] at this
  simpa using this
end

/-- WHAT symbolsOf ANSWERS -/
def MapIs (w : World) (W : List (Nat × Nat)) (e : Ending) (w' : World) : Prop := ∃ mb, e = .returned (.map (some mb)) ∧ SyM w' mb W W.length ∧ Below w.heap.size w w' ∧ w.heap.size ≤ mb

set_option maxHeartbeats 4000000 in
theorem symbols_any (v : Value) (W : List (Nat × Nat)) (w : World) (hr : RdW w v W) (hW : WordsOk W) : Calls Try.prog 32 #[v] w (MapIs w W) := by
  have HR := Lib.hid hr
  have HOK := Lib.hid hW
  have hwl := hW.few
  obtain ⟨va, vc, rfl, _, _⟩ := hr.isSlice
  have hmm : ∀ (n : Int) (w : World), (Instr.makeMap 57 (some (.int .i64 n))).run Try.prog w = .ok (.map (some w.heap.size)) (w.alloc (.map #[] 0)) := fun n w => by
    simp [Instr.makeMap, run_underlying Try.underlying57, asInt, asIntOf]
  clear hr hW
  go_enter Try.func32, Try.ntmps32
  go_wp2_with fail
  clear hmm
  have M0 := Lib.hid (SyM.made w W)
  have B0 := Lib.hid ((Below.refl w.heap.size w).alloc (Nat.le_refl _) (.map #[] 0))
  generalize w.alloc _ = w0 at *
  go_loopw [11] (fun i wr => ∃ k : Nat, k ≤ W.length ∧ i = .int .i64 (k : Int) ∧ SyM wr w.heap.size W k ∧ Below w.heap.size w wr) (fun i _ => W.length - (intOf i).toNat)
  case atStart => exact ⟨0, Nat.zero_le _, rfl, M0.out, B0.out⟩
  case round =>
    obtain ⟨k, hk, rfl, hm, hb⟩ := hrel
    clear M0 B0
    have MM := Lib.hid hm
    have BB := Lib.hid hb
    have hz := hb.size
    have hml := hm.lt
    clear hm hb
    by_cases hlt : k < W.length
    · obtain ⟨g, go, gc, hge, hgl⟩ := HR.out.form (by omega)
      simp only [Value.slice.injEq, true_and] at hge
      obtain ⟨rfl, rfl⟩ := hge
      obtain ⟨c0, c1⟩ := (HR.out.below BB.out).cells rfl k hlt
      obtain ⟨p, q, hpq⟩ : ∃ p q, W.getD k (0, 0) = (p, q) := ⟨_, _, rfl⟩
      rw [hpq] at c0 c1
      simp only at c0 c1
      have HPQ := Lib.hid hpq
      have hkw : IntKind.u8.wrap (k : Int) = (k : Int) := by rw [IntKind.wrap_u8]; omega
      have M1 := Lib.hid (MM.out.kept (World.grownBy_alloc wr (.cells #[.int .i64 (p : Int), .int .i64 (q : Int)] 44) none) (by simp))
      have B1 := Lib.hid (BB.out.alloc hz (.cells #[.int .i64 (p : Int), .int .i64 (q : Int)] 44))
      clear hpq
      by_cases h0 : q = 0
      · have M2 := Lib.hid (M1.out.skip hlt (by rw [HPQ.out, h0]))
        subst h0
        go_wp2_with fail
        go_roundw
        case rel => exact ⟨k + 1, by omega, by go_num, M2.out, B1.out⟩
        case measure => simp [intOf]; omega
      · have hq0 : 0 < q := by omega
        have d0 : decide ((q : Int) > 0) = true := decide_eq_true (by omega)
        have d0' : decide (q > 0) = true := decide_eq_true (by omega)
        have d0'' : decide (0 < q) = true := decide_eq_true (by omega)
        have hz1 : w.heap.size ≤ wr.heap.size + 1 := by omega
        clear h0
        go_wp2_with (at_mapUpdate; refine wpList_put_word _ rfl (.tmp 19) (.tmp 20) (.tmp 22) rfl w.heap.size k W rfl M1.out HOK.out hlt p q HPQ.out rfl rfl hq0 ?_; intro w4 m4 t4; have M4 := Lib.hid m4; have G4 := Lib.hid t4.grown; clear m4 t4)
        go_roundw
        case rel => exact ⟨k + 1, by omega, by go_num, M4.out, B1.out.grown G4.out (by simp; omega) (by intro j hj; cases hj; exact Nat.le_refl _)⟩
        case measure => simp [intOf]; omega
    · have hend : k = W.length := by omega
      have dl : decide ((k : Int) < (W.length : Int)) = false := decide_eq_false (by omega)
      have dl' : decide (k < W.length) = false := decide_eq_false (by omega)
      have M3 : Hid (SyM wr w.heap.size W W.length) := by have := MM.out; rw [hend] at this; exact this
      clear hend
      go_wp2_with fail
      go_ret
      exact ⟨w.heap.size, rfl, M3.out, BB.out, Nat.le_refl _⟩
end Go.Proofs.Ytjaeccealfeakaa
