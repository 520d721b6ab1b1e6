/- Walks of layer 12: the writer: put, fill. -/
import Derived.Test.YtjaeccealfeakaaHfC
import Derived.Deep.RegionHeld3
set_option maxRecDepth 100000
set_option linter.unusedSimpArgs false
set_option linter.unusedVariables false
namespace Go.Proofs.Ytjaeccealfeakaa
open Go.RowKit

/-- a writer's cells -/
def Wc (w : World) (e : Nat) (u : Value) (V L : Nat) : Prop := w.heap[e]? = some (.cells #[u, .int .i64 (V : Int), .int .i64 (L : Int)] 52 (0, 0))
theorem Wc.cs {w : World} {e : Nat} {u : Value} {V L : Nat} (h : Wc w e u V L) : Cs w e [u, .int .i64 (V : Int), .int .i64 (L : Int)] := ⟨_, h⟩
theorem Wc.facts {w : World} {e : Nat} {u : Value} {V L : Nat} (h : Wc w e u V L) : w.cell? ⟨e, 0, none⟩ = some u ∧ w.cell? ⟨e, 1, none⟩ = some (.int .i64 (V : Int)) ∧ w.cell? ⟨e, 2, none⟩ = some (.int .i64 (L : Int)) := ⟨Cs.get h.cs 0 _ rfl, Cs.get h.cs 1 _ rfl, Cs.get h.cs 2 _ rfl⟩
theorem Wc.free {w : World} {e : Nat} {u : Value} {V L : Nat} (h : Wc w e u V L) (j : Nat) : w.frozen? ⟨e, j, none⟩ = false := Cs.free h.cs j
theorem Wc.lt {w : World} {e : Nat} {u : Value} {V L : Nat} (h : Wc w e u V L) : e < w.heap.size := Cs.lt h.cs
theorem Wc.drew {w : World} {e : Nat} {u : Value} {V L : Nat} (h : Wc w e u V L) : Wc w.drew e u V L := h
theorem Wc.kept {w w' : World} {row : Option Nat} {e : Nat} {u : Value} {V L : Nat} (h : Wc w e u V L) (hg : w.grownBy w' row) (hn : some e ≠ row) : Wc w' e u V L := (hg.block e h.lt hn).trans h
theorem Wc.alloc {w : World} {e : Nat} {u : Value} {V L : Nat} (h : Wc w e u V L) (o : Obj) : Wc (w.alloc o) e u V L := h.kept (World.grownBy_alloc w o none) (by simp)
theorem Wc.below {w w' : World} {e : Nat} {u : Value} {V L : Nat} (h : Wc w e u V L) (hb : Below w.heap.size w w') : Wc w' e u V L := (hb.block e h.lt).trans h
theorem Wc.set0 {w : World} {e : Nat} {u : Value} {V L : Nat} (h : Wc w e u V L) (u' : Value) : Wc (w.setCell ⟨e, 0, none⟩ u') e u' V L := by
  unfold Wc at h ⊢; simp [World.setCell, Array.getElem?_modify, h]
theorem Wc.set1 {w : World} {e : Nat} {u : Value} {V L : Nat} (h : Wc w e u V L) (V' : Nat) : Wc (w.setCell ⟨e, 1, none⟩ (.int .i64 (V' : Int))) e u V' L := by
  unfold Wc at h ⊢; simp [World.setCell, Array.getElem?_modify, h]
theorem Wc.set2 {w : World} {e : Nat} {u : Value} {V L : Nat} (h : Wc w e u V L) (L' : Nat) : Wc (w.setCell ⟨e, 2, none⟩ (.int .i64 (L' : Int))) e u V L' := by
  unfold Wc at h ⊢; simp [World.setCell, Array.getElem?_modify, h]
/-- bytes lie in none of the writer's cells -/
theorem Wc.apart {w : World} {e B : Nat} {u u' : Value} {V L : Nat} {o : List Int} (h : Wc w e u V L) (ho : Own .u8 5 w B u' o) : ∀ j, u'.ownBlock = some j → j ≠ e := by
  intro j hj e1
  rcases ho.2 with ⟨rfl, _⟩ | ⟨g, cap, cur, rfl, _, hg, _⟩
  · cases hj
  · simp only [Value.ownBlock, Option.some.injEq] at hj
    subst hj; subst e1
    unfold Wc at h
    rw [h] at hg
    simp only [Option.some.injEq, Obj.cells.injEq] at hg
    exact absurd hg.2.1 (by decide)

/-- A WRITER IN THE WORLD: its bytes are a row of the call's own -/
structure Wr (B e : Nat) (w : World) (u : Value) (o : List Int) (V L : Nat) : Prop where
  row : Wc w e u V L
  own : Own .u8 5 w B u o
  bts : Bts o
/-- THE WRITER HAS THE BITS T -/
def WrHas (B e : Nat) (w : World) (T : List Nat) : Prop := ∃ u o R k, Wr B e w u o R k ∧ k < 8 ∧ R < 2 ^ k ∧ unp o ++ bd R k = T
def PutW (B e : Nat) (w : World) (T : List Nat) (x : Ending) (w' : World) : Prop := x = .returned (.tuple #[]) ∧ WrHas B e w' T ∧ Below B w w'

theorem Wr.ne {B e : Nat} {w : World} {u : Value} {o : List Int} {V L : Nat} (h : Wr B e w u o V L) : ∀ j, u.ownBlock = some j → j ≠ e := h.row.apart h.own
theorem Wr.drew {B e : Nat} {w : World} {u : Value} {o : List Int} {V L : Nat} (h : Wr B e w u o V L) : Wr B e w.drew u o V L := ⟨h.row, h.own, h.bts⟩
theorem Wr.alloc {B e : Nat} {w : World} {u : Value} {o : List Int} {V L : Nat} (h : Wr B e w u o V L) (x : Obj) : Wr B e (w.alloc x) u o V L := ⟨h.row.alloc x, h.own.alloc x, h.bts⟩
theorem Wr.below {B e : Nat} {w w' : World} {u : Value} {o : List Int} {V L : Nat} (h : Wr B e w u o V L) (hb : Below w.heap.size w w') : Wr B e w' u o V L := ⟨h.row.below hb, h.own.below hb, h.bts⟩
theorem Own.other {k : IntKind} {e B : Nat} {w : World} {v : Value} {xs : List Int} (h : Own k e w B v xs) (b o : Nat) (x : Value) (hn : ∀ j, v.ownBlock = some j → j ≠ b) : Own k e (w.setCell ⟨b, o, none⟩ x) B v xs :=
  h.kept (grown_set b o w x) (fun j hj e => hn j hj (by simpa using e.symm))
theorem Wr.set2 {B e : Nat} {w : World} {u : Value} {o : List Int} {V L : Nat} (h : Wr B e w u o V L) (L' : Nat) : Wr B e (w.setCell ⟨e, 2, none⟩ (.int .i64 (L' : Int))) u o V L' := ⟨h.row.set2 L', h.own.other _ _ _ h.ne, h.bts⟩
theorem Wr.set1 {B e : Nat} {w : World} {u : Value} {o : List Int} {V L : Nat} (h : Wr B e w u o V L) (V' : Nat) : Wr B e (w.setCell ⟨e, 1, none⟩ (.int .i64 (V' : Int))) u o V' L := ⟨h.row.set1 V', h.own.other _ _ _ h.ne, h.bts⟩
/-- a row that has grown is laid into the writer -/
theorem Wr.put {B e : Nat} {w w' : World} {u u' : Value} {o o' : List Int} {V L : Nat} (h : Wr B e w u o V L) (hg : w.grownBy w' u.ownBlock) (ho : Own .u8 5 w' B u' o') (hb : Bts o') : Wr B e (w'.setCell ⟨e, 0, none⟩ u') u' o' V L := by
  have r := h.row.kept hg (fun e1 => h.ne e e1.symm rfl)
  exact ⟨r.set0 u', ho.other _ _ _ (r.apart ho), hb⟩

theorem byte_bits (V L : Nat) : bd V (L + 8) = bd (V / 2 ^ L % 256) 8 ++ bd V L := by
  rw [Nat.add_comm L 8, bd_split V 8 L]
  congr 1
  exact (bd_mod (V / 2 ^ L) 8 (m := 8) (Nat.le_refl _)).symm

set_option maxHeartbeats 4000000 in
theorem put_any (B e : Nat) (u : Value) (o : List Int) (R k x n : Nat) (w : World) (hW : Wr B e w u o R k) (hB : B ≤ e) (hk : k < 8) (hR : R < 2 ^ k) (hn : n ≤ 24) (hx : x < 2 ^ n) (hol : o.length ≤ 1099511627776) :
    Calls Try.prog 29 #[.pointer (some ⟨e, 0, none⟩), .agg #[.int .i64 (x : Int), .int .i64 (n : Int)]] w (PutW B e w ((unp o ++ bd R k) ++ bd x n)) := by
  obtain ⟨T, hT⟩ : ∃ T, T = (unp o ++ bd R k) ++ bd x n := ⟨_, rfl⟩
  rw [← hT]
  have hTl : T.length ≤ 8796093022208 + 32 := by
    rw [hT, List.length_append, List.length_append, unp_len, bd_len, bd_len]; omega
  obtain ⟨V, hV⟩ : ∃ V, V = R * 2 ^ n + x := ⟨_, rfl⟩
  have hV31 : V < 2 ^ (k + n) := by
    rw [hV, Nat.pow_add]
    calc R * 2 ^ n + x < R * 2 ^ n + 2 ^ n := by omega
      _ = (R + 1) * 2 ^ n := by rw [Nat.add_mul, Nat.one_mul]
      _ ≤ 2 ^ k * 2 ^ n := Nat.mul_le_mul_right _ hR
  have hV62 : V < 2147483648 := Nat.lt_of_lt_of_le hV31 (Nat.pow_le_pow_right (n := 2) (by decide) (show k + n ≤ 31 by omega))
  have hRn : R * 2 ^ n < 2147483648 := by omega
  have hT2 : unp o ++ bd V (k + n) = T := by
    rw [hT, List.append_assoc]
    congr 1
    rw [bd_split V k n, hV]
    have e1 : (R * 2 ^ n + x) / 2 ^ n = R := by
      rw [Nat.mul_comm, Nat.mul_add_div (Nat.pow_pos (by decide)), Nat.div_eq_of_lt hx]; omega
    have e2 : bd (R * 2 ^ n + x) n = bd x n := by
      rw [← bd_mod (R * 2 ^ n + x) n (Nat.le_refl n), Nat.mul_comm, Nat.mul_add_mod, Nat.mod_eq_of_lt hx]
    rw [e1, e2]
  have hRc : (R : Int) * 2 ^ n = ((R * 2 ^ n : Nat) : Int) := by simp
  have hsh : IntKind.i64.wrap ((R : Int) * 2 ^ n) = (R : Int) * 2 ^ n := by rw [hRc, IntKind.wrap_i64]; omega
  have hor : bits .or .i64 ((R : Int) * 2 ^ n) (x : Int) = (V : Int) := by rw [or_join R x n hx (by omega) (by omega), hV]
  have hadd : IntKind.i64.wrap ((k : Int) + (n : Int)) = (k : Int) + (n : Int) := by rw [IntKind.wrap_i64]; omega
  have HT2 := Lib.hid hT2
  have HTl := Lib.hid hTl
  have HV62 := Lib.hid hV62
  have HW := Lib.hid hW
  obtain ⟨c0, c1, c2⟩ := hW.row.facts
  have he := hW.row.lt
  clear hT hV hV31 hRn hT2 hRc hTl hV62 hW hR hx
  go_enter Try.func29, Try.ntmps29
  go_upto_region 1 with fail
  have x0 : (w.alloc (.cells #[.int .i64 (x : Int), .int .i64 (n : Int)] 44)).cell? ⟨w.heap.size, 0, none⟩ = some (.int .i64 (x : Int)) := by
    rw [World.cell?_alloc_at _ _ _ _ rfl]; rfl
  have x1 : (w.alloc (.cells #[.int .i64 (x : Int), .int .i64 (n : Int)] 44)).cell? ⟨w.heap.size, 1, none⟩ = some (.int .i64 (n : Int)) := by
    rw [World.cell?_alloc_at _ _ _ _ rfl]; rfl
  have W0 := Lib.hid (HW.out.alloc (.cells #[.int .i64 (x : Int), .int .i64 (n : Int)] 44))
  have B0 := Lib.hid ((Below.refl B w).alloc (by omega) (.cells #[.int .i64 (x : Int), .int .i64 (n : Int)] 44))
  clear c0 c1 c2
  generalize w.alloc _ = w0 at *
  obtain ⟨d0, d1, d2⟩ := W0.out.drew.row.facts
  have f1 := W0.out.drew.row.free 1
  have f2 := W0.out.drew.row.free 2
  have x0d : w0.drew.cell? ⟨w.heap.size, 0, none⟩ = some (.int .i64 (x : Int)) := x0
  have x1d : w0.drew.cell? ⟨w.heap.size, 1, none⟩ = some (.int .i64 (n : Int)) := x1
  go_still_tail 23, (by kernel_rfl)
  repeat still_step
  change wpList _ _ _ _ _ w0.drew
  have W1 := Lib.hid W0.out.drew
  have B1 := Lib.hid B0.out.drew
  clear W0 B0 x0 x1
  generalize w0.drew = w1 at *
  go_wp2_with fail
  have W2 : Hid (Wr B e ((w1.setCell ⟨e, 1, none⟩ (.int .i64 (V : Int))).setCell ⟨e, 2, none⟩ (.int .i64 ((k : Int) + (n : Int)))) u o V (k + n)) := by
    have := (W1.out.set1 V).set2 (k + n)
    rw [Int.natCast_add] at this
    exact this
  have B2 := Lib.hid ((B1.out.setCell (p := ⟨e, 1, none⟩) hB (.int .i64 (V : Int))).setCell (p := ⟨e, 2, none⟩) hB (.int .i64 ((k : Int) + (n : Int))))
  clear d0 d1 d2 f1 f2 x0d x1d W1 B1
  generalize (w1.setCell ⟨e, 1, none⟩ _).setCell ⟨e, 2, none⟩ _ = w2 at W2 B2 ⊢
  have hL0 : k + n ≤ 31 := by omega
  generalize k + n = L0 at HT2 W2 hL0
  clear hsh hor hadd HW he w1 w0 hk hn
  go_loopw [31] (fun _ wr => ∃ (L : Nat) (u' : Value) (o' : List Int), L ≤ 31 ∧ Wr B e wr u' o' V L ∧ Hid (unp o' ++ bd V L = T) ∧ Below B w wr) (fun _ wr => (intOf ((wr.cell? ⟨e, 2, none⟩).getD undef)).toNat)
  case atStart => exact ⟨L0, u, o, hL0, W2.out, HT2, B2.out⟩
  case round =>
    obtain ⟨L, u', o', hL, hW, hT, hb⟩ := hrel
    clear W2 B2 HT2 hL0
    have HW := Lib.hid hW
    have HB := Lib.hid hb
    obtain ⟨c0, c1, c2⟩ := hW.row.facts
    have z2 := hW.row.free 2
    have he := hW.row.lt
    by_cases h8 : 8 ≤ L
    · obtain ⟨M, rfl⟩ : ∃ M, L = M + 8 := ⟨L - 8, by omega⟩
      have dl : decide (((M + 8 : Nat) : Int) ≥ 8) = true := decide_eq_true (by omega)
      have dl' : decide ((M : Int) + 8 ≥ 8) = true := decide_eq_true (by omega)
      have hsub : IntKind.i64.wrap ((M : Int) + 8 - 8) = (M : Int) := by rw [IntKind.wrap_i64]; omega
      have hsub' : IntKind.i64.wrap (M : Int) = (M : Int) := by rw [IntKind.wrap_i64]; omega
      rw [Int.natCast_add] at c2
      have HM := Lib.hid c2
      clear hW hb
      go_upto_region 4 with fail
      have W3 := Lib.hid (HW.out.set2 M)
      have B3 := Lib.hid (HB.out.setCell (p := ⟨e, 2, none⟩) hB (.int .i64 (M : Int)))
      clear c0 c1 c2 z2 HW HB he
      generalize wr.setCell ⟨e, 2, none⟩ _ = w3 at W3 B3 ⊢
      obtain ⟨c0, c1, c2⟩ := W3.out.row.facts
      obtain ⟨d0, d1, d2⟩ := W3.out.row.drew.facts
      have z0 := W3.out.row.drew.free 0
      have he := W3.out.row.lt
      have he' : e ≠ w3.heap.size := by omega
      have cA : ∀ x, (w3.alloc x).drew.cell? ⟨e, 0, none⟩ = some u' := fun x => ((W3.out.alloc x).row.drew.facts).1
      obtain ⟨y, hy⟩ : ∃ y : Int, y = ((V / 2 ^ M % 256 : Nat) : Int) := ⟨_, rfl⟩
      have hyw : IntKind.u8.wrap ((V : Int) / 2 ^ M) = y := by rw [hy, IntKind.wrap_u8]; simp
      have hy0 : 0 ≤ y ∧ y < 256 := by omega
      have HY : Hid (bd y.toNat 8 ++ bd V M = bd V (M + 8)) := by show _ = _; rw [byte_bits V M, hy, Int.toNat_natCast]
      have hol' : o'.length ≤ 1099511627780 := by
        have := congrArg List.length hT.out
        rw [List.length_append, unp_len] at this
        have := HTl.out
        omega
      have HOL := Lib.hid hol'
      have HBy := Lib.hid hy0
      have HLE : Hid ((o' ++ [y]).length = o'.length + 1) := by show _ = _; simp
      clear hy hol' hy0
      go_wp2_with fail
      go_region_law (refine step_append_rd rfl (.tmp 46) (.tmp 59) 36 rfl elemU8 Try.underlying36 B u' o' rfl (Own.alloc W3.out.own.drew _) (.slice (some ⟨w3.heap.size, 0, none⟩) 1 1) [_] rfl (Rd.one .u8 5 w3.drew _) ?_ ?_ ?_ ?_; (have := HOL.out; simp; omega); (have := HOL.out; simp [maxLen]; omega); (have := B3.out.size; simp; omega); intro v4 w4 o4 g4; obtain ⟨a4, k4, hv4⟩ := o4.len; subst hv4; rw [HLE.out] at o4; have r4 := (W3.out.drew.alloc _).row.kept g4 (fun e1 => W3.out.ne e e1.symm rfl); have q0 := r4.facts.1; have q1 := r4.free 0; have O4 := Lib.hid o4; have G4 := Lib.hid g4; clear o4 g4 r4)
      all_goals
        have WW := Lib.hid ((W3.out.alloc _).drew.put G4.out O4.out (by
          intro z hz
          rcases List.mem_append.1 hz with hz | hz
          · exact W3.out.bts z hz
          · rw [List.mem_singleton.1 hz]; exact HBy.out))
        have WB := Lib.hid ((((B3.out.alloc (by have := B3.out.size; omega) _).drew).grown G4.out (by have := B3.out.size; simp; omega) W3.out.own.blk).setCell (p := ⟨e, 0, none⟩) hB (.slice a4 (o'.length + 1) k4))
        clear O4 G4 q0 q1
        go_wp2_with fail
        go_roundw
        case rel =>
          refine ⟨M, _, _, by omega, WW.out, ?_, WB.out⟩
          show _ = _
          rw [unp_append, unp_one, List.append_assoc, HY.out]
          exact hT.out
        case measure =>
          rw [WW.out.row.facts.2.2, HM.out]
          simp [intOf]; omega
    · have dl : decide ((L : Int) ≥ 8) = false := decide_eq_false (by omega)
      have dl' : decide (L ≥ 8) = false := decide_eq_false (by omega)
      have hL8 : L < 8 := by omega
      obtain ⟨Q, hQ⟩ : ∃ Q, Q = 2 ^ L - 1 := ⟨_, rfl⟩
      have H1 : Hid (∀ W : World, Calls Try.prog 34 #[.int .i64 (L : Int)] W fun x w' => x = .returned (.agg #[.int .i64 (Q : Int), .int .i64 (L : Int)]) ∧ Below W.heap.size W w') := fun W => by rw [hQ]; exact ones_any L (by omega) W
      obtain ⟨X, hX⟩ : ∃ X, X = V % 2 ^ L := ⟨_, rfl⟩
      have hand : bits .and .i64 (V : Int) (Q : Int) = (X : Int) := by rw [hQ, hX]; exact and_ones V L (by have := HV62.out; omega) (by omega)
      have HX : Hid (X < 2 ^ L ∧ unp o' ++ bd X L = T) := by
        refine ⟨by rw [hX]; exact Nat.mod_lt _ (Nat.pow_pos (by decide)), ?_⟩
        rw [hX, bd_mod V L (Nat.le_refl L)]; exact hT.out
      have HC : Hid (∀ W, Below wr.heap.size wr W → W.cell? ⟨e, 1, none⟩ = some (.int .i64 (V : Int)) ∧ W.cell? ⟨e, 2, none⟩ = some (.int .i64 (L : Int))) := fun W hW => ((HW.out.row.below hW).facts).2
      clear hQ hX hW hb
      go_wp2_with fail
      have d1 : wr.drew.cell? ⟨e, 1, none⟩ = some (.int .i64 (V : Int)) := c1
      have d2 : wr.drew.cell? ⟨e, 2, none⟩ = some (.int .i64 (L : Int)) := c2
      have hfw : ∀ W : World, (Instr.field 44 (.agg #[.int .i64 (Q : Int), .int .i64 (L : Int)]) 0).run Try.prog W = .ok (.int .i64 (Q : Int)) W := field_w _ _
      go_region_law
        ((go_simp; go_at_call 34; refine (H1.out _).mono ?_; rintro x w7 ⟨rfl, hb7⟩; have r7 := HW.out.drew.row.below hb7; obtain ⟨k0, k1, k2⟩ := r7.facts; have kz := r7.free 1; have HB7 := Lib.hid hb7; clear hb7 r7))
      all_goals
        have WW := Lib.hid ((HW.out.drew.below HB7.out).set1 X)
        have WB := Lib.hid ((HB.out.drew.trans (HB7.out.mono (by have := HB.out.size; simp; omega))).setCell (p := ⟨e, 1, none⟩) hB (.int .i64 (X : Int)))
        go_wp2_with fail
        go_end0
        exact ⟨rfl, ⟨u', o', X, L, WW.out, hL8, HX.out.1, HX.out.2⟩, WB.out⟩
end Go.Proofs.Ytjaeccealfeakaa
