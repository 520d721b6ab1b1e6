/- Walks of layer 4: the reference's ack (written by genRef3.py). -/
import Derived.Test.YtfkkimaebhjneaaDoorFwC
set_option linter.unusedSimpArgs false
set_option linter.unusedVariables false
namespace Go.Proofs.YtfkkimaebhjneaaDoor
open Go.RowKit

/-- one span down from tp, then k more -/
def stepR (xs : List Int) (tp : Int) (j : Nat) (acc : List (Int × Int)) (k : Nat) : Except (Int × Int) (List (Int × Int) × Nat) := match spanR xs j tp with
  | .error e => .error e
  | .ok (s, j') => moreR xs k s.1 j' (s :: acc)
theorem stepR_err {xs : List Int} {tp : Int} {j k : Nat} {acc : List (Int × Int)} {e : Int × Int} (h : num xs j = .error e) : stepR xs tp j acc k = .error e := by
  unfold stepR spanR atMostR; rw [h]
theorem stepR_big {xs : List Int} {tp n : Int} {j j' k : Nat} {acc : List (Int × Int)} (h : num xs j = .ok (n, j')) (hn : tp < n) : stepR xs tp j acc k = .error (5, j) := by
  unfold stepR spanR atMostR; rw [h]; simp only [if_pos hn]
theorem stepR_ok {xs : List Int} {tp n : Int} {j j' k : Nat} {acc : List (Int × Int)} (h : num xs j = .ok (n, j')) (hn : ¬ tp < n) : stepR xs tp j acc k = moreR xs k (tp - n) j' ((tp - n, tp) :: acc) := by
  unfold stepR spanR atMostR; rw [h]; simp only [if_neg hn]
theorem moreR_errN {xs : List Int} {low : Int} {j k : Nat} {acc : List (Int × Int)} {e : Int × Int} (h : num xs j = .error e) : moreR xs (k + 1) low j acc = .error e := by
  rw [moreR]; unfold atMostR; rw [h]
theorem moreR_big {xs : List Int} {low n : Int} {j j' k : Nat} {acc : List (Int × Int)} (h : num xs j = .ok (n, j')) (hn : low - 2 < n) : moreR xs (k + 1) low j acc = .error (5, j) := by
  rw [moreR]; unfold atMostR; rw [h]; simp only [if_pos hn]
theorem moreR_ok' {xs : List Int} {low n : Int} {j j' k : Nat} {acc : List (Int × Int)} (h : num xs j = .ok (n, j')) (hn : ¬ low - 2 < n) : moreR xs (k + 1) low j acc = stepR xs (low - 2 - n) j' acc k := by
  rw [moreR]; unfold atMostR stepR; rw [h]; simp only [if_neg hn]
  cases spanR xs j' (low - 2 - n) with
  | error e => rfl
  | ok p => obtain ⟨s, j⟩ := p; rfl
theorem spansR_step {xs : List Int} {j j' : Nat} {great n : Int} (h : num xs j = .ok (n, j')) (hn : ¬ 31 < n) : spansR xs j great = stepR xs great j' [] n.toNat := by
  unfold spansR atMostR stepR; rw [h]; simp only [if_neg hn]
  cases spanR xs j' great with
  | error e => rfl
  | ok p => obtain ⟨s, j⟩ := p; rfl
theorem spansR_big {xs : List Int} {j j' : Nat} {great n : Int} (h : num xs j = .ok (n, j')) (hn : 31 < n) : spansR xs j great = .error (6, j) := by
  unfold spansR atMostR; rw [h]; simp only [if_pos hn]
theorem spansR_err' {xs : List Int} {j : Nat} {great : Int} {e : Int × Int} (h : num xs j = .error e) : spansR xs j great = .error e := by
  unfold spansR atMostR; rw [h]

theorem RX.below {w0 W W' : World} {p : Nat} {v : Value} {xs : List Int} {R X : Nat} {cs : Array Value} {s : Except (Int × Int) Nat} (h : RX w0 W p v xs R X cs s) (hb : Below W.heap.size W W') : RX w0 W' p v xs R X cs s :=
  h.step (grownBy_of_below hb) (h.base.at_.kept hb)

/-- the loop of ack: what is left, RES, in terms of where it stands -/
def AckLeft (xs : List Int) (RES : Except (Int × Int) (List (Int × Int) × Nat)) (m i : Nat) (low : Int) (acc : List (Int × Int)) (s : Except (Int × Int) Nat) : Prop :=
  (∃ j, s = .ok j ∧ i ≤ m + 1 ∧ ((i = 0 ∧ acc = [] ∧ RES = stepR xs low j [] m) ∨ (0 < i ∧ RES = moreR xs (m + 1 - i) low j acc))) ∨ (∃ e, s = .error e ∧ RES = .error e)

theorem elemSpanC : ElemC Tryd.prog 44 2 16 (.agg #[.int .i64 0, .int .i64 0]) := ⟨info_parts (by kernel_rfl), rfl, by decide⟩
theorem owns_built (w : World) (B : Nat) (a b : Int) (hB : B ≤ w.heap.size) : OwnS (w.alloc (.cells #[.int .i64 a, .int .i64 b] 44)) B (.slice (some ⟨w.heap.size, 0, none⟩) 1 1) [(a, b)] :=
  ⟨rfl, .inr ⟨w.heap.size, 1, _, rfl, hB, alloc_at _ _, Nat.le_refl _, by decide, rfl, rfl⟩⟩
theorem failE_err (s : Except (Int × Int) Nat) (y z : Int) : ∃ e, failE s y z = .error e := by cases s <;> exact ⟨_, rfl⟩

/-- behind a span's bytes, in any state -/
theorem tail_left {xs : List Int} (hx : Bts xs) {RES : Except (Int × Int) (List (Int × Int) × Nat)} {tp n : Int} {acc : List (Int × Int)} {k : Nat} {s : Except (Int × Int) Nat}
    (h1 : ∀ j, s = .ok j → RES = stepR xs tp j acc k) (h2 : ∀ e, s = .error e → RES = .error e) (hv : ∀ x j, bnd s (num xs) = .ok (x, j) → x = n) (hu : ∀ x, bnd s (num xs) = .error x → n = 0) (a : Nat) (ha : ∀ j, s = .ok j → a = j) :
    ((0 ≤ tp ∨ ∃ e, s = .error e) → tp < n → ∃ e, failE (stE (bnd s (num xs))) 5 a = .error e ∧ RES = .error e) ∧
    (¬ tp < n → (∀ j, stE (bnd s (num xs)) = .ok j → RES = moreR xs k (tp - n) j ((tp - n, tp) :: acc) ∧ 0 ≤ n) ∧ ∀ e, stE (bnd s (num xs)) = .error e → RES = .error e) := by
  cases s with
  | error e =>
    have hn := hu e rfl
    exact ⟨fun _ _ => ⟨e, rfl, h2 e rfl⟩, fun _ => ⟨(fun j h => (by cases h)), (fun e' h => (by cases h; exact h2 e rfl))⟩⟩
  | ok j =>
    simp only [bnd] at hv hu ⊢
    have hR := h1 j rfl
    obtain rfl := ha j rfl
    cases hn : num xs a with
    | error e =>
      have h0 := hu e hn
      refine ⟨fun h ht => ?_, fun _ => ⟨(fun j h => (by cases h)), (fun e' h => (by cases h; rw [hR]; exact stepR_err hn))⟩⟩
      rcases h with h | ⟨e', h⟩
      · omega
      · cases h
    | ok y =>
      obtain ⟨x, j'⟩ := y
      obtain rfl := hv x j' hn
      refine ⟨fun _ ht => ⟨(5, (a : Int)), rfl, by rw [hR]; exact stepR_big hn ht⟩, fun ht => ⟨fun j h => ?_, fun e' h => by cases h⟩⟩
      cases h
      exact ⟨by rw [hR]; exact stepR_ok hn ht, (num_ok hx hn).1⟩

def ackR (xs : List Int) (j0 : Nat) : Except (Int × Int) (Fr × Nat) := thn (num xs j0) fun great j => thn (num xs j) fun n j => thn (spansR xs j great) fun l j => .ok (⟨2, 0, 0, n, 0, false, [], l⟩, j)

theorem ack_start {xs : List Int} (hx : Bts xs) {j0 : Nat} {n1 n2 n3 : Int} {s1 s2 s3 : Except (Int × Int) Nat} (e1 : s1 = stE (bnd (.ok j0) (num xs))) (e2 : s2 = stE (bnd s1 (num xs))) (e3 : s3 = stE (bnd s2 (num xs)))
    (v1 : ∀ x j, bnd (.ok j0) (num xs) = .ok (x, j) → x = n1) (u1 : ∀ x, bnd (.ok j0) (num xs) = .error x → n1 = 0) (v2 : ∀ x j, bnd s1 (num xs) = .ok (x, j) → x = n2) (v3 : ∀ x j, bnd s2 (num xs) = .ok (x, j) → x = n3) (u3 : ∀ x, bnd s2 (num xs) = .error x → n3 = 0) (a : Nat) (ha : ∀ j, s2 = .ok j → a = j) :
    ∃ (RES : Except (Int × Int) (List (Int × Int) × Nat)) (m : Nat), n3 = m ∧ (m : Int) ≤ 4611686018427387903 ∧ 0 ≤ n1 ∧ n1 ≤ 4611686018427387903 ∧ ackR xs j0 = thn RES (fun l j => (.ok (⟨2, 0, 0, n2, 0, false, [], l⟩, j) : Except (Int × Int) (Fr × Nat))) ∧
      (¬ 32 ≤ n3 → AckLeft xs RES m 0 n1 [] s3) ∧ (32 ≤ n3 → AckLeft xs RES m 0 n1 [] (failE s3 6 a)) := by
  subst e3
  unfold ackR
  cases hq1 : num xs j0 with
  | error e =>
    have h0 := u1 e hq1
    have hs1 : s1 = .error e := by rw [e1]; simp only [bnd, hq1, stE]
    subst hs1
    have hs2 : s2 = .error e := e2
    subst hs2
    have h3 := u3 e rfl
    refine ⟨.error e, 0, h3, by omega, by omega, by omega, rfl, fun _ => .inr ⟨e, rfl, rfl⟩, fun h => by omega⟩
  | ok y =>
    obtain ⟨x1, j1⟩ := y
    obtain rfl := v1 x1 j1 hq1
    have m1 := num_ok hx hq1
    have hs1 : s1 = .ok j1 := by rw [e1]; simp only [bnd, hq1, stE]
    subst hs1
    cases hq2 : num xs j1 with
    | error e =>
      have hs2 : s2 = .error e := by rw [e2]; simp only [bnd, hq2, stE]
      subst hs2
      have h3 := u3 e rfl
      refine ⟨.error e, 0, h3, by omega, m1.1, m1.2.1, ?_, fun _ => .inr ⟨e, rfl, rfl⟩, fun h => by omega⟩
      simp only [thn, hq2]
    | ok y =>
      obtain ⟨x2, j2⟩ := y
      obtain rfl := v2 x2 j2 hq2
      have hs2 : s2 = .ok j2 := by rw [e2]; simp only [bnd, hq2, stE]
      subst hs2
      obtain rfl := ha j2 rfl
      have hr : (thn (Except.ok (x1, j1) : Except (Int × Int) (Int × Nat)) fun great j => thn (num xs j) fun n j => thn (spansR xs j great) fun l j => (.ok (⟨2, 0, 0, n, 0, false, [], l⟩, j) : Except (Int × Int) (Fr × Nat))) = thn (spansR xs a x1) fun l j => .ok (⟨2, 0, 0, x2, 0, false, [], l⟩, j) := by
        simp only [thn, hq2]
      rw [hr]
      cases hq3 : num xs a with
      | error e =>
        have h3 := u3 e hq3
        refine ⟨.error e, 0, h3, by omega, m1.1, m1.2.1, by rw [spansR_err' hq3], fun _ => .inr ⟨e, by simp only [bnd, hq3, stE], rfl⟩, fun h => by omega⟩
      | ok y =>
        obtain ⟨x3, j3⟩ := y
        obtain rfl := v3 x3 j3 hq3
        have m3 := num_ok hx hq3
        refine ⟨spansR xs a x1, x3.toNat, by omega, by omega, m1.1, m1.2.1, rfl, fun h => .inl ⟨j3, by simp only [bnd, hq3, stE], by omega, .inl ⟨rfl, rfl, spansR_step hq3 (by omega)⟩⟩, fun h => .inr ⟨(6, (a : Int)), by simp only [bnd, hq3, stE, failE], spansR_big hq3 (by omega)⟩⟩

set_option maxHeartbeats 2400000 in
theorem rack_any (p b o cp : Nat) (xs : List Int) (j0 : Nat) (w : World) (hA : RS w p (.slice (some ⟨b, o, none⟩) xs.length cp) xs.length (.ok j0)) (hr : Rd .u8 w (.slice (some ⟨b, o, none⟩) xs.length cp) xs) (hx : Bts xs) (hbig : xs.length ≤ 1048576) (hbp : b ≠ p) (hb : b < w.heap.size) :
    Calls Tryd.prog 51 #[.pointer (some ⟨p, 0, none⟩)] w (RFrIs w p (.slice (some ⟨b, o, none⟩) xs.length cp) xs.length (ackR xs j0)) := by
  have hfree : ∀ j, ((.slice (some ⟨b, o, none⟩) xs.length cp) : Value).ownBlock = some j → some p ≠ some j := by
    intro j hj e
    simp only [Value.ownBlock, Option.some.injEq] at hj
    cases e; exact hbp hj
  have hold : ∀ j, ((.slice (some ⟨b, o, none⟩) xs.length cp) : Value).ownBlock = some j → j < w.heap.size := by
    intro j hj
    simp only [Value.ownBlock, Option.some.injEq] at hj
    omega
  have hpw := hA.lt
  have X0 := RX.start (cs := #[.int .i64 2, .int .i64 0, .int .i64 0, .int .i64 0, .int .i64 0, .bool false, .slice none 0 0, .slice none 0 0]) (RQ.start0 p _ xs (.ok j0) w hA hr hfree) hold
  have hXs : (w.alloc (.cells #[.int .i64 0, .int .i64 0, .int .i64 0, .int .i64 0, .int .i64 0, .bool false, .slice none 0 0, .slice none 0 0] 33)).heap.size = w.heap.size + 1 := by simp
  rw [hXs] at X0
  have X0 := Lib.hid X0
  have HX := Lib.hid hx
  clear hA hr hx hfree hold hXs
  go_enter Tryd.func51, Tryd.ntmps51
  go_wp2_with fail
  refine (rnumber_s p _ xs (.ok j0) _ X0.out.base.at_ X0.out.base.rd HX.out).mono ?_
  rintro e w2 ⟨n1, rfl, g1, s1, v1, u1⟩
  have X1 := Lib.hid (X0.out.step g1 s1)
  have V1 := Lib.hid v1
  have U1 := Lib.hid u1
  clear g1 s1 v1 u1
  go_wp2_with fail
  refine (rnumber_s p _ xs _ _ X1.out.base.at_ X1.out.base.rd HX.out).mono ?_
  rintro e w3 ⟨n2, rfl, g2, s2, v2, u2⟩
  have X2 := Lib.hid (X1.out.step g2 s2)
  have V2 := Lib.hid v2
  have X3 := Lib.hid (X2.out.put 3 (.int .i64 n2))
  obtain ⟨a1, y1, z1, hle1, hra1, hcase1⟩ := X2.out.base.at_
  have pc1 := hra1.c1
  have pc1' := (hra1.other (q := ⟨w.heap.size + 1, 3, none⟩) (show p ≠ w.heap.size + 1 by omega) (.int .i64 n2)).c1
  have HC1 := Lib.hid hcase1
  clear g2 s2 v2 u2 hra1 hcase1
  have fc := fun i => Joins.cell_of_block X2.out.frm i
  have fc0 := fc 0
  have fc1 := fc 1
  have fc2 := fc 2
  have fc3 := fc 3
  have fc4 := fc 4
  have fc5 := fc 5
  have fc6 := fc 6
  have fc7 := fc 7
  have fcf := Joins.unfrozen_of_block X2.out.frm
  clear fc
  have hX2 := (Array.getElem?_eq_some_iff.1 X2.out.frm).1
  go_wp2_with fail
  refine (rnumber_s p _ xs _ _ X3.out.base.at_ X3.out.base.rd HX.out).mono ?_
  rintro e w4 ⟨n3, rfl, g3, s3, v3, u3⟩
  have X4 := Lib.hid (X3.out.step g3 s3)
  obtain ⟨RES, m, hm, hm62, hn0, hn1, hres, hA1, hA2⟩ := ack_start HX.out rfl rfl rfl V1.out U1.out V2.out v3 u3 a1 (fun j h => by
    rcases HC1.out with ⟨h', _, _⟩ | ⟨h', _⟩
    · rw [h] at h'; cases h'; rfl
    · rw [h] at h'; cases h')
  have HR := Lib.hid hres
  have HA1 := Lib.hid hA1
  have HA2 := Lib.hid hA2
  clear g3 s3 v3 u3 hres hA1 hA2 pc1 pc1' fc0 fc1 fc2 fc3 fc4 fc5 fc6 fc7 fcf
  subst hm
  by_cases h32 : 32 ≤ (m : Int)
  · have t32 : decide (32 ≤ (m : Int)) = true := decide_eq_true h32
    have t32' : decide (32 ≤ m) = true := decide_eq_true (by omega)
    have HL := Lib.hid (HA2.out h32)
    have FA := Lib.hid (rfails_any p _ xs.length _ 6 a1 _ X4.out.base.at_ (by omega))
    have t0 : decide (0 ≤ (m : Int)) = true := decide_eq_true (by omega)
    clear h32
    go_wp2_with fail
    refine FA.out.mono ?_
    rintro e w5 ⟨rfl, g5, s5⟩
    have X5 := Lib.hid (X4.out.step g5 s5)
    obtain ⟨e5, he5⟩ := failE_err (stE (bnd (stE (bnd (stE (bnd (.ok j0) (num xs))) (num xs))) (num xs))) 6 a1
    have HF : Hid (RES = .error e5) := by
      show _ = _
      rcases HL.out with ⟨j, h, _⟩ | ⟨e, h, h'⟩
      · rw [he5] at h; cases h
      · rw [he5] at h; cases h; exact h'
    obtain ⟨hy5, a5, _, hra5⟩ := X5.out.base.at_.err' (y := e5.1) (z := e5.2) he5
    have RO5 := Lib.hid (rok_any p _ a5 e5.1 e5.2 _ hra5)
    have e05 : (e5.1 == 0) = false := by simpa using hy5
    rw [e05] at RO5
    clear g5 s5 hra5
    go_wp2_with fail
    refine wp_loop_rounds 1 ?_
    rw [rounds_succ]
    have fe := fun i => Joins.cell_of_block X5.out.frm i
    have fe0 := fe 0
    have fe1 := fe 1
    have fe2 := fe 2
    have fe3 := fe 3
    have fe4 := fe 4
    have fe5 := fe 5
    have fe6 := fe 6
    have fe7 := fe 7
    have fef := Joins.unfrozen_of_block X5.out.frm
    clear fe
    have rc := fun i => Joins.cell_of_block X5.out.base.res i
    have rc0 := rc 0
    have rc1 := rc 1
    have rc2 := rc 2
    have rc3 := rc 3
    have rc4 := rc 4
    have rc5 := rc 5
    have rc6 := rc 6
    have rc7 := rc 7
    have rcf := Joins.unfrozen_of_block X5.out.base.res
    clear rc
    have hX7 := (Array.getElem?_eq_some_iff.1 X5.out.frm).1
    have hR7 := (Array.getElem?_eq_some_iff.1 X5.out.base.res).1
    have hpR := X5.out.base.pR
    go_wp2_with (go_at_call 38; refine RO5.out.mono ?_; rintro e w' ⟨rfl, rfl⟩)
    obtain ⟨D1, D2⟩ := RQ.done X5.out.base (set8 _ w.heap.size _ _ _ _ _ _ _ _)
    refine bodyPost_ret (v := .agg #[.int .i64 2, .int .i64 0, .int .i64 0, .int .i64 n2, .int .i64 0, .bool false, .slice none 0 0, .slice none 0 0]) (by simp [results, Tryd.results51, go_sem, rc0, rc1, rc2, rc3, rc4, rc5, rc6, rc7]) rfl ?_
    refine ⟨2, 0, 0, n2, 0, false, none, none, 0, 0, 0, 0, rfl, D1, ?_, ?_⟩
    · rw [HR.out, HF.out]; rw [he5] at D2; exact D2
    · intro f j hf; rw [HR.out, HF.out] at hf; cases hf
  · have t32 : decide (32 ≤ (m : Int)) = false := decide_eq_false h32
    have t32' : decide (32 ≤ m) = false := decide_eq_false (by omega)
    have HL := Lib.hid (HA1.out h32)
    have hm31 : m ≤ 31 := by omega
    clear h32
    go_wp2_with fail
    go_loopw [7, 4] (fun iv lv wr => ∃ (i : Nat) (low : Int) (acc : List (Int × Int)) (sa : Option Addr) (sl sc : Nat) (s : Except (Int × Int) Nat), iv = .int .i64 i ∧ lv = .int .i64 low ∧ i ≤ m + 1 ∧ 0 ≤ low ∧ low ≤ 4611686018427387903 ∧ acc.length ≤ i ∧ AckLeft xs RES m i low acc s ∧ RX w wr p (.slice (some ⟨b, o, none⟩) xs.length cp) xs w.heap.size (w.heap.size + 1) #[.int .i64 2, .int .i64 0, .int .i64 0, .int .i64 n2, .int .i64 0, .bool false, .slice none 0 0, .slice sa sl sc] s ∧ OwnS wr (w.heap.size + 2) (.slice sa sl sc) acc) (fun iv _ _ => m + 1 - (intOf iv).toNat)
    case atStart => exact ⟨0, n1, [], none, 0, 0, _, rfl, rfl, by omega, hn0, hn1, Nat.le_refl _, HL.out, X4.out, OwnS.nil _ _⟩
    case round =>
      obtain ⟨i, low, acc, sa, sl, sc, s, rfl, rfl, hi, hlow0, hlow1, hacc, hleft, hXR, hOW⟩ := hrel
      have XR := Lib.hid hXR
      have OWR := Lib.hid hOW
      have HLE := Lib.hid hleft
      clear hXR hOW hleft
      obtain ⟨a, y, z, hla, hra, hcase⟩ := XR.out.base.at_
      have RO := Lib.hid (rok_any p _ a y z _ hra)
      have pc1 := hra.c1
      clear hra
      have hwi : IntKind.i64.wrap ((i : Int) + 1) = (i : Int) + 1 := wraps_i64' _ (by omega) (by omega)
      rcases hcase with ⟨hs, rfl, rfl⟩ | ⟨hs, hy⟩
      · obtain ⟨j, hj, _, hH⟩ : ∃ j, s = .ok j ∧ i ≤ m + 1 ∧ ((i = 0 ∧ acc = [] ∧ RES = stepR xs low j [] m) ∨ (0 < i ∧ RES = moreR xs (m + 1 - i) low j acc)) := by
          rcases HLE.out with h | ⟨e, h, _⟩
          · exact h
          · rw [hs] at h; cases h
        rw [hs] at hj
        cases hj
        subst hs
        by_cases hle : i ≤ m
        · have tle : decide ((i : Int) ≤ (m : Int)) = true := decide_eq_true (by omega)
          have tle' : decide (i ≤ m) = true := decide_eq_true hle
          by_cases hi0 : i = 0
          · have ti : decide (0 < (i : Int)) = false := decide_eq_false (by omega)
            have ti' : decide (0 < i) = false := decide_eq_false (by omega)
            have hS : Hid (acc = [] ∧ RES = stepR xs low a acc m) := by
              rcases hH with ⟨_, h1, h2⟩ | ⟨h, _⟩
              · exact ⟨h1, by rw [h1]; exact h2⟩
              · omega
            have HI0 := Lib.hid hi0
            clear hH hi0
            go_wp2_with (go_at_call 38; refine RO.out.mono ?_; rintro e w' ⟨rfl, rfl⟩)
            refine (rnumber_s p _ xs (.ok a) _ XR.out.base.at_ XR.out.base.rd HX.out).mono ?_
            rintro e w5 ⟨n, rfl, g5, s5, v5, u5⟩
            have X5 := Lib.hid (XR.out.step g5 s5)
            have OW5 := Lib.hid (OwnS.kept OWR.out g5 (fun j hj e => by have h1 := (OWR.out).blk j hj; have h2 := Option.some.inj e; omega))
            have T := Lib.hid (tail_left HX.out (RES := RES) (tp := low) (acc := acc) (k := m) (s := .ok a) (fun j h => by cases h; exact hS.out.2) (fun e h => by cases h) v5 u5 a (fun j h => by cases h; rfl))
            clear g5 s5 v5 u5
            by_cases hn : low < n
            · obtain ⟨e, he0, hE0⟩ := T.out.1 (.inl hlow0) hn
              have he := Lib.hid he0
              have hE := Lib.hid hE0
              clear he0 hE0
              have tn : decide (low < n) = true := decide_eq_true hn
              have FA := Lib.hid (rfails_any p _ xs.length _ 5 a _ X5.out.base.at_ (by omega))
              clear hn
              go_wp2_with fail
              refine FA.out.mono ?_
              rintro e' w6 ⟨rfl, g6, s6⟩
              have X6 := Lib.hid (X5.out.step g6 s6)
              have OW6 := Lib.hid (OwnS.kept OW5.out g6 (fun j hj e => by have h1 := OW5.out.blk j hj; have h2 := Option.some.inj e; omega))
              obtain ⟨hy6, a6, _, hra6⟩ := X6.out.base.at_.err' (y := e.1) (z := e.2) he.out
              have RO6 := Lib.hid (rok_any p _ a6 e.1 e.2 _ hra6)
              have e06 : (e.1 == 0) = false := by simpa using hy6
              rw [e06] at RO6
              clear g6 s6 hra6
              go_wp2_with (go_at_call 38; refine RO6.out.mono ?_; rintro e' w' ⟨rfl, rfl⟩)
              exact ⟨⟨i + 1, low, acc, sa, sl, sc, _, by go_num, rfl, by omega, by omega, by omega, by omega, (.inr ⟨e, he.out, hE.out⟩), X6.out, OW6.out⟩, by simp [intOf]; omega⟩
            · have tn : decide (low < n) = false := decide_eq_false hn
              have T2 := Lib.hid (T.out.2 hn)
              obtain ⟨a6, y6, z6, hl6, hra6, hcase6⟩ := X5.out.base.at_
              have RO6 := Lib.hid (rok_any p _ a6 y6 z6 _ hra6)
              rcases hcase6 with ⟨hs6, rfl, rfl⟩ | ⟨hs6, hy6⟩
              · obtain ⟨hN, hn0⟩ := T2.out.1 a6 hs6
                have HN := Lib.hid hN
                have HS6 := Lib.hid hs6
                have hwl : IntKind.i64.wrap (low - n) = low - n := by rw [IntKind.wrap_i64]; omega
                have hlow : 0 ≤ low - n ∧ low - n ≤ 4611686018427387903 := by omega
                have bN : Below w5.heap.size w5 (w5.alloc (.cells #[.int .i64 (low - n), .int .i64 (low)] 44)) := (Below.refl _ _).alloc (Nat.le_refl _) _
                have X7 := Lib.hid (X5.out.below bN)
                have hB5 : w.heap.size + 2 ≤ w5.heap.size := (Array.getElem?_eq_some_iff.1 X5.out.frm).1
                have OB := Lib.hid (owns_built w5 (w.heap.size + 2) (low - n) (low) hB5)
                have OS := Lib.hid (OwnS.kept OW5.out (grownBy_of_below (row := none) bN) (fun j hj e => by cases e))
                have HBN := Lib.hid bN
                clear hra6 hs6 hn hN bN
                have ff := fun i => Joins.cell_of_block X7.out.frm i
                have ff0 := ff 0
                have ff1 := ff 1
                have ff2 := ff 2
                have ff3 := ff 3
                have ff4 := ff 4
                have ff5 := ff 5
                have ff6 := ff 6
                have ff7 := ff 7
                have fff := Joins.unfrozen_of_block X7.out.frm
                clear ff
                have hX7 := (Array.getElem?_eq_some_iff.1 X7.out.frm).1
                go_wp2_with (first
                  | (go_at_call 38; refine RO6.out.mono ?_; rintro e' w' ⟨rfl, rfl⟩)
                  | (at_builtin; (refine wpList_append_rows _ rfl (.tmp 77) (.tmp 79) 31 rfl elemSpanC Tryd.underlying31 (w.heap.size + 2) (.slice (some ⟨w5.heap.size, 0, none⟩) 1 1) 1 [.int .i64 (low - n), .int .i64 (low)] rfl OB.out (.slice sa sl sc) acc.length (spC acc) rfl OS.out.rd (spC_one acc) ?_ ?_ ?_ ?_; (omega); (unfold maxLen; omega); (simp; omega); intro u6 w6 o6 g6; obtain ⟨ua6, uc6, rfl, hu6, hu7⟩ := (RdC.of_owns o6).isSlice; have B6 := Below.grown HBN.out g6 (by simp) (fun k h => by simp only [Value.ownBlock, Option.some.injEq] at h; omega); have X8 := Lib.hid (X5.out.below B6); have k7 := Joins.cell_of_block X8.out.frm 7; have kf := Joins.unfrozen_of_block X8.out.frm; have hX8 := (Array.getElem?_eq_some_iff.1 X8.out.frm).1)))
                have X9 := X8.out.put 7 (.slice ua6 (1 + acc.length) uc6)
                have O9 : OwnS w6 (w.heap.size + 2) (.slice ua6 (1 + acc.length) uc6) ((low - n, low) :: acc) := by
                  show w6.ownsRow _ _ _ _ ((_ :: acc).length) (spC (_ :: acc))
                  rw [List.length_cons, Nat.add_comm acc.length 1]
                  exact o6
                have O10 := OwnS.kept O9 (grownBy_set (row := some (w.heap.size + 1)) (World.grownBy.refl _ _) ⟨w.heap.size + 1, 7, none⟩ (.slice ua6 (1 + acc.length) uc6) (.inl rfl)) (fun j hj e => by have h1 := O9.blk j hj; have h2 := Option.some.inj e; omega)
                have hk9 : m + 1 - (i + 1) = m := by have h9 := HI0.out; omega
                exact ⟨⟨i + 1, low - n, (low - n, low) :: acc, ua6, _, uc6, _, by go_num, rfl, by omega, hlow.1, hlow.2, by rw [List.length_cons]; omega, .inl ⟨a6, rfl, by omega, .inr ⟨by omega, by rw [hk9]; exact HN.out⟩⟩, HS6.out ▸ X9, O10⟩, by simp [intOf]; omega⟩
              · have e06 : (y6 == 0) = false := by simpa using hy6
                rw [e06] at RO6
                have HF := Lib.hid (T2.out.2 _ hs6)
                have HS6 := Lib.hid hs6
                clear hra6 hs6 hn
                go_wp2_with (go_at_call 38; refine RO6.out.mono ?_; rintro e' w' ⟨rfl, rfl⟩)
                exact ⟨⟨i + 1, low, acc, sa, sl, sc, _, by go_num, rfl, by omega, by omega, by omega, by omega, .inr ⟨_, HS6.out, HF.out⟩, X5.out, OW5.out⟩, by simp [intOf]; omega⟩
          · have hip : 0 < i := by omega
            have ti : decide (0 < (i : Int)) = true := decide_eq_true (by omega)
            have ti' : decide (0 < i) = true := decide_eq_true hip
            have HQ : Hid (RES = moreR xs ((m - i) + 1) low a acc) := by
              show _ = _
              rcases hH with ⟨h, _⟩ | ⟨_, h⟩
              · omega
              · rw [h]; congr 1; omega
            have HI0 : Hid (0 < i ∧ i ≤ m) := ⟨hip, hle⟩
            clear hH hi0
            go_wp2_with (go_at_call 38; refine RO.out.mono ?_; rintro e w' ⟨rfl, rfl⟩)
            refine (rnumber_s p _ xs (.ok a) _ XR.out.base.at_ XR.out.base.rd HX.out).mono ?_
            rintro e w2' ⟨g, rfl, g2, s2, v2, u2⟩
            have X2 := Lib.hid (XR.out.step g2 s2)
            have OW2 := Lib.hid (OwnS.kept OWR.out g2 (fun j hj e => by have h1 := OWR.out.blk j hj; have h2 := Option.some.inj e; omega))
            have hgb : 0 ≤ g ∧ g ≤ 4611686018427387903 := by
              cases hq : num xs a with
              | error e => have := u2 e hq; omega
              | ok y => obtain ⟨x, j'⟩ := y; have h1 := v2 x j' hq; have h2 := num_ok HX.out hq; omega
            have hwl2 : IntKind.i64.wrap (low - 2) = low - 2 := by rw [IntKind.wrap_i64]; omega
            have hwl3 : IntKind.i64.wrap (low - 2 - g) = low - 2 - g := by rw [IntKind.wrap_i64]; omega
            have VG := Lib.hid v2
            have UG := Lib.hid u2
            clear g2 s2 v2 u2
            by_cases hg : low - 2 < g
            · have tg : decide (low - 2 < g) = true := decide_eq_true hg
              obtain ⟨e, he0, hE0⟩ : ∃ e, failE (stE (bnd (.ok a) (num xs))) 5 a = .error e ∧ RES = .error e := by
                cases hq : num xs a with
                | error e => exact ⟨e, by simp only [bnd, hq, stE, failE], by rw [HQ.out]; exact moreR_errN hq⟩
                | ok y =>
                  obtain ⟨x, j'⟩ := y
                  obtain rfl := VG.out x j' hq
                  exact ⟨(5, (a : Int)), by simp only [bnd, hq, stE, failE], by rw [HQ.out]; exact moreR_big hq hg⟩
              have hE := Lib.hid hE0
              have he := Lib.hid he0
              have FA := Lib.hid (rfails_any p _ xs.length _ 5 a _ X2.out.base.at_ (by omega))
              have hto : low - 2 - g < 0 := by omega
              clear he0 hE0 hg
              go_wp2_with fail
              refine FA.out.mono ?_
              rintro e' w3' ⟨rfl, g3, s3⟩
              rw [he.out] at s3
              have X3 := Lib.hid (X2.out.step g3 s3)
              have OW3 := Lib.hid (OwnS.kept OW2.out g3 (fun j hj e => by have h1 := OW2.out.blk j hj; have h2 := Option.some.inj e; omega))
              obtain ⟨a3, y3, z3, hl3, hra3, hcase3⟩ := X3.out.base.at_
              have pc3 := hra3.c1
              clear g3 s3 hra3 hcase3
              go_wp2_with fail
              refine (rnumber_s p _ xs (.error e) _ X3.out.base.at_ X3.out.base.rd HX.out).mono ?_
              rintro e' w4' ⟨n, rfl, g4, s4, v4, u4⟩
              have X4' := Lib.hid (X3.out.step g4 s4)
              have OW4 := Lib.hid (OwnS.kept OW3.out g4 (fun j hj e => by have h1 := OW3.out.blk j hj; have h2 := Option.some.inj e; omega))
              have hn0' : n = 0 := u4 e rfl
              have tn : decide (low - 2 - g < n) = true := decide_eq_true (by omega)
              have FB := Lib.hid (rfails_any p _ xs.length (.error e) 5 a3 _ X4'.out.base.at_ (by omega))
              clear g4 s4 v4 u4 hn0' hto
              go_wp2_with fail
              refine FB.out.mono ?_
              rintro e' w6 ⟨rfl, g6, s6⟩
              have X6 := Lib.hid (X4'.out.step g6 s6)
              have OW6 := Lib.hid (OwnS.kept OW4.out g6 (fun j hj e => by have h1 := OW4.out.blk j hj; have h2 := Option.some.inj e; omega))
              obtain ⟨hy6, a6, _, hra6⟩ := X6.out.base.at_.err' (y := e.1) (z := e.2) rfl
              have RO6 := Lib.hid (rok_any p _ a6 e.1 e.2 _ hra6)
              have e06 : (e.1 == 0) = false := by simpa using hy6
              rw [e06] at RO6
              clear g6 s6 hra6
              go_wp2_with (go_at_call 38; refine RO6.out.mono ?_; rintro e' w' ⟨rfl, rfl⟩)
              exact ⟨⟨i + 1, low, acc, sa, sl, sc, _, by go_num, rfl, by omega, by omega, by omega, by omega, (.inr ⟨e, rfl, hE.out⟩), X6.out, OW6.out⟩, by simp [intOf]; omega⟩
            · have tg : decide (low - 2 < g) = false := decide_eq_false hg
              have HG := Lib.hid hg
              have hto0 : 0 ≤ low - 2 - g := by omega
              obtain ⟨a2, y2, z2, hl2, hra2, hcase2⟩ := X2.out.base.at_
              have pc2 := hra2.c1
              have HA2' : Hid (∀ j, stE (bnd (.ok a) (num xs)) = .ok j → a2 = j) := by
                intro j hj
                rcases hcase2 with ⟨h, _, _⟩ | ⟨h, _⟩
                · rw [h] at hj; cases hj; rfl
                · rw [h] at hj; cases hj
              clear hra2 hcase2 hg
              go_wp2_with fail
              refine (rnumber_s p _ xs (stE (bnd (.ok a) (num xs))) _ X2.out.base.at_ X2.out.base.rd HX.out).mono ?_
              rintro e w5 ⟨n, rfl, g5, s5, v5, u5⟩
              have X5 := Lib.hid (X2.out.step g5 s5)
              have OW5 := Lib.hid (OwnS.kept OW2.out g5 (fun j hj e => by have h1 := (OW2.out).blk j hj; have h2 := Option.some.inj e; omega))
              have T := Lib.hid (tail_left HX.out (RES := RES) (tp := low - 2 - g) (acc := acc) (k := (m - i)) (s := stE (bnd (.ok a) (num xs))) (fun j h => by
                              obtain ⟨i0, x, h0, hq⟩ := stE_ok h
                              cases h0
                              obtain rfl := VG.out x j hq
                              rw [HQ.out]; exact moreR_ok' hq (by have h9 := HG.out; omega)) (fun e h => by
                              rcases stE_err h with h | ⟨i0, h0, hq⟩
                              · cases h
                              · cases h0; rw [HQ.out]; exact moreR_errN hq) v5 u5 a2 (HA2'.out))
              clear g5 s5 v5 u5
              by_cases hn : low - 2 - g < n
              · obtain ⟨e, he0, hE0⟩ := T.out.1 (.inl hto0) hn
                have he := Lib.hid he0
                have hE := Lib.hid hE0
                clear he0 hE0
                have tn : decide (low - 2 - g < n) = true := decide_eq_true hn
                have FA := Lib.hid (rfails_any p _ xs.length _ 5 a2 _ X5.out.base.at_ (by omega))
                clear hn
                go_wp2_with fail
                refine FA.out.mono ?_
                rintro e' w6 ⟨rfl, g6, s6⟩
                have X6 := Lib.hid (X5.out.step g6 s6)
                have OW6 := Lib.hid (OwnS.kept OW5.out g6 (fun j hj e => by have h1 := OW5.out.blk j hj; have h2 := Option.some.inj e; omega))
                obtain ⟨hy6, a6, _, hra6⟩ := X6.out.base.at_.err' (y := e.1) (z := e.2) he.out
                have RO6 := Lib.hid (rok_any p _ a6 e.1 e.2 _ hra6)
                have e06 : (e.1 == 0) = false := by simpa using hy6
                rw [e06] at RO6
                clear g6 s6 hra6
                go_wp2_with (go_at_call 38; refine RO6.out.mono ?_; rintro e' w' ⟨rfl, rfl⟩)
                exact ⟨⟨i + 1, low, acc, sa, sl, sc, _, by go_num, rfl, by omega, by omega, by omega, by omega, (.inr ⟨e, he.out, hE.out⟩), X6.out, OW6.out⟩, by simp [intOf]; omega⟩
              · have tn : decide (low - 2 - g < n) = false := decide_eq_false hn
                have T2 := Lib.hid (T.out.2 hn)
                obtain ⟨a6, y6, z6, hl6, hra6, hcase6⟩ := X5.out.base.at_
                have RO6 := Lib.hid (rok_any p _ a6 y6 z6 _ hra6)
                rcases hcase6 with ⟨hs6, rfl, rfl⟩ | ⟨hs6, hy6⟩
                · obtain ⟨hN, hn0⟩ := T2.out.1 a6 hs6
                  have HN := Lib.hid hN
                  have HS6 := Lib.hid hs6
                  have hwl : IntKind.i64.wrap (low - 2 - g - n) = low - 2 - g - n := by rw [IntKind.wrap_i64]; omega
                  have hlow : 0 ≤ low - 2 - g - n ∧ low - 2 - g - n ≤ 4611686018427387903 := by omega
                  have bN : Below w5.heap.size w5 (w5.alloc (.cells #[.int .i64 (low - 2 - g - n), .int .i64 (low - 2 - g)] 44)) := (Below.refl _ _).alloc (Nat.le_refl _) _
                  have X7 := Lib.hid (X5.out.below bN)
                  have hB5 : w.heap.size + 2 ≤ w5.heap.size := (Array.getElem?_eq_some_iff.1 X5.out.frm).1
                  have OB := Lib.hid (owns_built w5 (w.heap.size + 2) (low - 2 - g - n) (low - 2 - g) hB5)
                  have OS := Lib.hid (OwnS.kept OW5.out (grownBy_of_below (row := none) bN) (fun j hj e => by cases e))
                  have HBN := Lib.hid bN
                  clear hra6 hs6 hn hN bN
                  have ff := fun i => Joins.cell_of_block X7.out.frm i
                  have ff0 := ff 0
                  have ff1 := ff 1
                  have ff2 := ff 2
                  have ff3 := ff 3
                  have ff4 := ff 4
                  have ff5 := ff 5
                  have ff6 := ff 6
                  have ff7 := ff 7
                  have fff := Joins.unfrozen_of_block X7.out.frm
                  clear ff
                  have hX7 := (Array.getElem?_eq_some_iff.1 X7.out.frm).1
                  go_wp2_with (first
                    | (go_at_call 38; refine RO6.out.mono ?_; rintro e' w' ⟨rfl, rfl⟩)
                    | (at_builtin; (refine wpList_append_rows _ rfl (.tmp 77) (.tmp 79) 31 rfl elemSpanC Tryd.underlying31 (w.heap.size + 2) (.slice (some ⟨w5.heap.size, 0, none⟩) 1 1) 1 [.int .i64 (low - 2 - g - n), .int .i64 (low - 2 - g)] rfl OB.out (.slice sa sl sc) acc.length (spC acc) rfl OS.out.rd (spC_one acc) ?_ ?_ ?_ ?_; (omega); (unfold maxLen; omega); (simp; omega); intro u6 w6 o6 g6; obtain ⟨ua6, uc6, rfl, hu6, hu7⟩ := (RdC.of_owns o6).isSlice; have B6 := Below.grown HBN.out g6 (by simp) (fun k h => by simp only [Value.ownBlock, Option.some.injEq] at h; omega); have X8 := Lib.hid (X5.out.below B6); have k7 := Joins.cell_of_block X8.out.frm 7; have kf := Joins.unfrozen_of_block X8.out.frm; have hX8 := (Array.getElem?_eq_some_iff.1 X8.out.frm).1)))
                  have X9 := X8.out.put 7 (.slice ua6 (1 + acc.length) uc6)
                  have O9 : OwnS w6 (w.heap.size + 2) (.slice ua6 (1 + acc.length) uc6) ((low - 2 - g - n, low - 2 - g) :: acc) := by
                    show w6.ownsRow _ _ _ _ ((_ :: acc).length) (spC (_ :: acc))
                    rw [List.length_cons, Nat.add_comm acc.length 1]
                    exact o6
                  have O10 := OwnS.kept O9 (grownBy_set (row := some (w.heap.size + 1)) (World.grownBy.refl _ _) ⟨w.heap.size + 1, 7, none⟩ (.slice ua6 (1 + acc.length) uc6) (.inl rfl)) (fun j hj e => by have h1 := O9.blk j hj; have h2 := Option.some.inj e; omega)
                  have hk9 : m + 1 - (i + 1) = (m - i) := by have h9 := HI0.out; omega
                  exact ⟨⟨i + 1, low - 2 - g - n, (low - 2 - g - n, low - 2 - g) :: acc, ua6, _, uc6, _, by go_num, rfl, by omega, hlow.1, hlow.2, by rw [List.length_cons]; omega, .inl ⟨a6, rfl, by omega, .inr ⟨by omega, by rw [hk9]; exact HN.out⟩⟩, HS6.out ▸ X9, O10⟩, by simp [intOf]; omega⟩
                · have e06 : (y6 == 0) = false := by simpa using hy6
                  rw [e06] at RO6
                  have HF := Lib.hid (T2.out.2 _ hs6)
                  have HS6 := Lib.hid hs6
                  clear hra6 hs6 hn
                  go_wp2_with (go_at_call 38; refine RO6.out.mono ?_; rintro e' w' ⟨rfl, rfl⟩)
                  exact ⟨⟨i + 1, low, acc, sa, sl, sc, _, by go_num, rfl, by omega, by omega, by omega, by omega, .inr ⟨_, HS6.out, HF.out⟩, X5.out, OW5.out⟩, by simp [intOf]; omega⟩
        · have tle : decide ((i : Int) ≤ (m : Int)) = false := decide_eq_false (by omega)
          have tle' : decide (i ≤ m) = false := decide_eq_false hle
          have HF : Hid (RES = .ok (acc, a)) := by
            show _ = _
            rcases hH with ⟨h, _⟩ | ⟨_, h⟩
            · omega
            · rw [h, show m + 1 - i = 0 by omega]; rfl
          clear hH hle
          have fe := fun i => Joins.cell_of_block XR.out.frm i
          have fe0 := fe 0
          have fe1 := fe 1
          have fe2 := fe 2
          have fe3 := fe 3
          have fe4 := fe 4
          have fe5 := fe 5
          have fe6 := fe 6
          have fe7 := fe 7
          have fef := Joins.unfrozen_of_block XR.out.frm
          clear fe
          have rc := fun i => Joins.cell_of_block XR.out.base.res i
          have rc0 := rc 0
          have rc1 := rc 1
          have rc2 := rc 2
          have rc3 := rc 3
          have rc4 := rc 4
          have rc5 := rc 5
          have rc6 := rc 6
          have rc7 := rc 7
          have rcf := Joins.unfrozen_of_block XR.out.base.res
          clear rc
          have hX7 := (Array.getElem?_eq_some_iff.1 XR.out.frm).1
          have hR7 := (Array.getElem?_eq_some_iff.1 XR.out.base.res).1
          have hpR := XR.out.base.pR
          go_wp2
          obtain ⟨D1, D2⟩ := RQ.done XR.out.base (set8 _ w.heap.size _ _ _ _ _ _ _ _)
          refine bodyPost_ret (v := .agg #[.int .i64 2, .int .i64 0, .int .i64 0, .int .i64 n2, .int .i64 0, .bool false, .slice none 0 0, .slice sa sl sc]) (by simp [results, Tryd.results51, go_sem, rc0, rc1, rc2, rc3, rc4, rc5, rc6, rc7]) rfl ?_
          refine ⟨2, 0, 0, n2, 0, false, none, sa, 0, 0, sl, sc, rfl, D1, ?_, ?_⟩
          · rw [HR.out, HF.out]; exact D2
          · intro f j hf
            rw [HR.out, HF.out] at hf
            cases hf
            exact ⟨rfl, rfl, rfl, rfl, rfl, rfl, Own.nil _ _ _ _, (OwnS.kept OWR.out (set8 _ w.heap.size _ _ _ _ _ _ _ _) (fun j hj e => by have h1 := OWR.out.blk j hj; have h2 := Option.some.inj e; omega)).mono (by omega)⟩
      · have e0 : (y == 0) = false := by simpa using hy
        rw [e0] at RO
        have HF : Hid (RES = .error (y, z)) := by
          show _ = _
          rcases HLE.out with ⟨j, h, _⟩ | ⟨e, h, h'⟩
          · rw [hs] at h; cases h
          · rw [hs] at h; cases h; exact h'
        subst hs
        clear e0 hy
        have fe := fun i => Joins.cell_of_block XR.out.frm i
        have fe0 := fe 0
        have fe1 := fe 1
        have fe2 := fe 2
        have fe3 := fe 3
        have fe4 := fe 4
        have fe5 := fe 5
        have fe6 := fe 6
        have fe7 := fe 7
        have fef := Joins.unfrozen_of_block XR.out.frm
        clear fe
        have rc := fun i => Joins.cell_of_block XR.out.base.res i
        have rc0 := rc 0
        have rc1 := rc 1
        have rc2 := rc 2
        have rc3 := rc 3
        have rc4 := rc 4
        have rc5 := rc 5
        have rc6 := rc 6
        have rc7 := rc 7
        have rcf := Joins.unfrozen_of_block XR.out.base.res
        clear rc
        have hX7 := (Array.getElem?_eq_some_iff.1 XR.out.frm).1
        have hR7 := (Array.getElem?_eq_some_iff.1 XR.out.base.res).1
        have hpR := XR.out.base.pR
        by_cases hle : i ≤ m
        · have tle : decide ((i : Int) ≤ (m : Int)) = true := decide_eq_true (by omega)
          have tle' : decide (i ≤ m) = true := decide_eq_true hle
          clear hle
          go_wp2_with (go_at_call 38; refine RO.out.mono ?_; rintro e w' ⟨rfl, rfl⟩)
          obtain ⟨D1, D2⟩ := RQ.done XR.out.base (set8 _ w.heap.size _ _ _ _ _ _ _ _)
          refine bodyPost_ret (v := .agg #[.int .i64 2, .int .i64 0, .int .i64 0, .int .i64 n2, .int .i64 0, .bool false, .slice none 0 0, .slice sa sl sc]) (by simp [results, Tryd.results51, go_sem, rc0, rc1, rc2, rc3, rc4, rc5, rc6, rc7]) rfl ?_
          refine ⟨2, 0, 0, n2, 0, false, none, sa, 0, 0, sl, sc, rfl, D1, ?_, ?_⟩
          · rw [HR.out, HF.out]; exact D2
          · intro f j hf; rw [HR.out, HF.out] at hf; cases hf
        · have tle : decide ((i : Int) ≤ (m : Int)) = false := decide_eq_false (by omega)
          have tle' : decide (i ≤ m) = false := decide_eq_false hle
          clear hle
          go_wp2
          obtain ⟨D1, D2⟩ := RQ.done XR.out.base (set8 _ w.heap.size _ _ _ _ _ _ _ _)
          refine bodyPost_ret (v := .agg #[.int .i64 2, .int .i64 0, .int .i64 0, .int .i64 n2, .int .i64 0, .bool false, .slice none 0 0, .slice sa sl sc]) (by simp [results, Tryd.results51, go_sem, rc0, rc1, rc2, rc3, rc4, rc5, rc6, rc7]) rfl ?_
          refine ⟨2, 0, 0, n2, 0, false, none, sa, 0, 0, sl, sc, rfl, D1, ?_, ?_⟩
          · rw [HR.out, HF.out]; exact D2
          · intro f j hf; rw [HR.out, HF.out] at hf; cases hf
end Go.Proofs.YtfkkimaebhjneaaDoor
