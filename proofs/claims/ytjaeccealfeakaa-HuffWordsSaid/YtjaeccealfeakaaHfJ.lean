/- Walks of layer 12: the reference's symbol and Decode. -/
import Derived.Test.YtjaeccealfeakaaHfT
import Derived.Test.YtjaeccealfeakaaHfG
set_option maxRecDepth 100000
set_option linter.unusedSimpArgs false
set_option linter.unusedVariables false
namespace Go.Proofs.Ytjaeccealfeakaa
open Go.RowKit Go.Maps

def symI (W : List (Nat × Nat)) (b n : Nat) : Int := match symN W b n with | some s => (s : Int) | none => -1
theorem sym_is {W : List (Nat × Nat)} {b n k : Nat} (hk : k < W.length) (he : W.getD k (0, 0) = (b, n)) (h : ∀ j, j < k → W.getD j (0, 0) ≠ (b, n)) : symN W b n = some k := by
  unfold symN
  rw [List.findIdx?_eq_some_iff_getElem]
  refine ⟨hk, by simpa [List.getD, hk] using he, fun j hj => ?_⟩
  have := h j hj
  simpa [List.getD, show j < W.length by omega] using this
theorem sym_not {W : List (Nat × Nat)} {b n : Nat} (h : ∀ j, j < W.length → W.getD j (0, 0) ≠ (b, n)) : symN W b n = none := by
  unfold symN
  rw [List.findIdx?_eq_none_iff]
  intro x hx
  obtain ⟨j, hj, rfl⟩ := List.mem_iff_getElem.1 hx
  have := h j hj
  simpa [List.getD, hj] using this

set_option maxHeartbeats 4000000 in
theorem rsymbol_any (v : Value) (W : List (Nat × Nat)) (b n : Nat) (w : World) (hr : RdW w v W) (hW : W.length ≤ 256) : Calls Try.prog 35 #[v, .int .i64 (b : Int), .int .i64 (n : Int)] w fun e w' => e = .returned (.int .i64 (symI W b n)) ∧ w = w' := by
  have HR := Lib.hid hr
  obtain ⟨va, vc, rfl, _, _⟩ := hr.isSlice
  obtain ⟨ans, hans⟩ : ∃ ans, ans = symI W b n := ⟨_, rfl⟩
  rw [← hans]
  have A0 := Lib.hid hans
  clear hr hans
  go_enter Try.func35, Try.ntmps35
  go_wp2_with fail
  go_loop [7] (fun i => ∃ k : Nat, k ≤ W.length ∧ i = .int .i64 (k : Int) ∧ Hid (∀ j, j < k → W.getD j (0, 0) ≠ (b, n))) (fun i => W.length - (intOf i).toNat)
  case atStart => exact ⟨0, Nat.zero_le _, rfl, fun j hj => by omega⟩
  case round =>
    obtain ⟨k, hk, rfl, hno⟩ := hrel
    by_cases hlt : k < W.length
    · obtain ⟨g, go, gc, hge, hgl⟩ := HR.out.form (by omega)
      simp only [Value.slice.injEq, true_and] at hge
      obtain ⟨rfl, rfl⟩ := hge
      obtain ⟨c0, c1⟩ := HR.out.cells rfl k hlt
      obtain ⟨p, q, hpq⟩ : ∃ p q, W.getD k (0, 0) = (p, q) := ⟨_, _, rfl⟩
      rw [hpq] at c0 c1
      simp only at c0 c1
      by_cases hq : q = n
      · have dq : ((q : Int) == (n : Int)) = true := by simp; omega
        have dq' : (q == n) = true := by simp; omega
        by_cases hp : p = b
        · have dp : ((p : Int) == (b : Int)) = true := by simp; omega
          have dp' : (p == b) = true := by simp; omega
          have AA : Hid (ans = (k : Int)) := by
            show _ = _
            rw [A0.out, symI, sym_is hlt (by rw [hpq, hp, hq]) hno.out]
          subst hp; subst hq
          clear hno hpq A0 dq dq' dp dp'
          go_wp2_with fail
          refine bodyPost_ret (v := .int .i64 (k : Int)) (by simp [results, Try.results35, go_sem]) rfl ⟨by rw [AA.out], rfl⟩
        · have dp : ((p : Int) == (b : Int)) = false := by simp; omega
          have dp' : (p == b) = false := by simp; omega
          have dp'' : decide (p = b) = false := decide_eq_false hp
          have HN : Hid (∀ j, j < k + 1 → W.getD j (0, 0) ≠ (b, n)) := fun j hj => by
            by_cases e : j = k
            · rw [e, hpq]; intro h; exact hp (Prod.ext_iff.1 h).1
            · exact hno.out j (by omega)
          subst hq
          clear hno hpq hp dq dq'
          go_wp2_with fail
          go_round
          case rel => exact ⟨k + 1, by omega, by go_num, HN⟩
          case measure => simp [intOf]; omega
      · have dq : ((q : Int) == (n : Int)) = false := by simp; omega
        have dq' : (q == n) = false := by simp; omega
        have dq'' : decide (q = n) = false := decide_eq_false hq
        have HN : Hid (∀ j, j < k + 1 → W.getD j (0, 0) ≠ (b, n)) := fun j hj => by
          by_cases e : j = k
          · rw [e, hpq]; intro h; exact hq (Prod.ext_iff.1 h).2
          · exact hno.out j (by omega)
        clear hno hpq hq
        go_wp2_with fail
        go_round
        case rel => exact ⟨k + 1, by omega, by go_num, HN⟩
        case measure => simp [intOf]; omega
    · have AA : Hid (ans = -1) := by
        show _ = _
        rw [A0.out, symI, sym_not fun j hj => hno.out j (by omega)]
      have dl : decide ((k : Int) < (W.length : Int)) = false := decide_eq_false (by omega)
      have dl' : decide (k < W.length) = false := decide_eq_false (by omega)
      clear hno A0
      go_wp2_with fail
      refine bodyPost_ret (v := .int .i64 (-1)) (by simp [results, Try.results35, go_sem]) rfl ⟨by rw [AA.out], rfl⟩

theorem rdec_no (v u : Value) (ls : List Int) (w : World) (hr : Rd .i64 w v ls) (hc : ¬ RightL ls) : Calls Try.prog 24 #[v, u] w fun e w' => e = .returned (.tuple #[.slice none 0 0, .int .i64 1]) ∧ w = w' := by
  have H := Lib.hid (rwords_no v ls w hr hc)
  clear hr hc
  go_enter Try.func24, Try.ntmps24
  go_wp2_with (go_at_call 11; refine H.out.mono ?_; rintro e w' ⟨rfl, rfl⟩)
  go_ret2
  exact ⟨rfl, rfl⟩
theorem unp_get (xs : List Int) (j r : Nat) (hj : j < xs.length) (hr : r < 8) : (unp xs).drop (8 * j + r) = ((xs.getD j 0).toNat / 2 ^ (7 - r) % 2) :: (unp xs).drop (8 * j + r + 1) := by
  have hl : 8 * j + r < (unp xs).length := by rw [unp_len]; omega
  rw [List.drop_eq_getElem_cons hl]
  congr 1
  have h := unp_drop xs j hj
  have e : (unp xs)[8 * j + r] = ((unp xs).drop (8 * j)).getD r 0 := by
    simp [List.getD, hl]
  rw [e, h]
  have e2 : (bd (xs.getD j 0).toNat 8 ++ (unp xs).drop (8 * (j + 1))).getD r 0 = (bd (xs.getD j 0).toNat 8).getD r 0 := by
    simp only [List.getD]
    rw [List.getElem?_append_left (by rw [bd_len]; exact hr)]
  rw [e2, bd_get _ _ _ hr]
theorem and_u8_one (x : Nat) (hx : x < 256) : bits .and .u8 (x : Int) 1 = ((x % 2 : Nat) : Int) := by
  have := bits_mask .u8 8 (by decide) wraps_u8 1 (by decide) (x : Int) (by omega) (by omega)
  rw [show ((2 : Int) ^ 1 - 1) = 1 from rfl] at this
  rw [this]; omega

set_option maxHeartbeats 8000000 in
theorem rdec_yes (v u : Value) (ls xs : List Int) (w : World) (hr : Rd .i64 w v ls) (hu : Rd .u8 w u xs) (hx : Bts xs) (hxl : xs.length ≤ 68719476736) (hc : RightL ls) :
    Calls Try.prog 24 #[v, u] w (DecIs w (decN (wordsN (ls.map Int.toNat)) (unp xs) 0 0)) := by
  have H := Lib.hid (rwords_yes v ls w hr hc)
  have HOK := Lib.hid hc.code.words
  generalize hWd : wordsN (ls.map Int.toNat) = W at *
  have HWd := Lib.hid hWd
  have HU := Lib.hid hu
  have HX := Lib.hid hx
  obtain ⟨ua, uc, rfl⟩ := hu.isSlice
  obtain ⟨ans, hans⟩ : ∃ ans, ans = decN W (unp xs) 0 0 := ⟨_, rfl⟩
  rw [← hans]
  have A0 : Hid (ans = (decR W ((unp xs).drop 0) 0 0).map ([] ++ ·)) := by
    show _ = _; rw [hans, decR_eq _ _ _ _ (by decide)]; simp
  clear hr hu hx hc hWd hans
  go_enter Try.func24, Try.ntmps24
  go_wp2_with (go_at_call 11; refine H.out.mono ?_; rintro e w1 ⟨x, rfl, ho, hb⟩; rw [HWd.out] at ho; have OW := Lib.hid ho; have HB := Lib.hid hb; obtain ⟨xa, xc, rfl, _, _⟩ := ho.slice; clear ho hb)
  have hz : w.heap.size ≤ w1.heap.size := HB.out.size
  have RW := Lib.hid OW.out.rd
  clear H OW
  go_loopw [8, 9, 10, 11] (fun q n many i wr => ∃ (k b m : Nat) (o : List Int), k ≤ 8 * xs.length ∧ i = .int .i64 (k : Int) ∧ n = .int .i64 (b : Int) ∧ many = .int .i64 (m : Int) ∧ Own .u8 5 wr w1.heap.size q o ∧ Bts o ∧ b < 2 ^ m ∧ m ≤ 24 ∧ o.length ≤ k ∧ Hid (ans = (decR W ((unp xs).drop k) b m).map (o ++ ·)) ∧ Below w1.heap.size w1 wr) (fun _ _ _ i _ => 8 * xs.length - (intOf i).toNat)
  case atStart => exact ⟨0, 0, 0, [], by omega, rfl, rfl, rfl, Own.nil _ _ _ _, (by intro z hz; cases hz), by decide, by decide, by simp, A0, Below.refl _ _⟩
  case round =>
    obtain ⟨k, b, m, o, hk, rfl, rfl, rfl, ho, hbt, hbit, hm, hol, hA, hb⟩ := hrel
    clear A0
    have OO := Lib.hid ho
    have BT := Lib.hid hbt
    have BB := Lib.hid hb
    have hzr := hb.size
    have hb24 : b < 16777216 := by
      have : 2 ^ m ≤ 2 ^ 24 := Nat.pow_le_pow_right (by decide) hm
      have e : (2 : Nat) ^ 24 = 16777216 := rfl
      omega
    clear ho hbt hb
    have hw8 : IntKind.i64.wrap (8 * (xs.length : Int)) = 8 * (xs.length : Int) := by rw [IntKind.wrap_i64]; omega
    by_cases hlt : k < 8 * xs.length
    · obtain ⟨j, r, hjr, hr8⟩ : ∃ j r, k = 8 * j + r ∧ r < 8 := ⟨k / 8, k % 8, by omega, by omega⟩
      have hj : j < xs.length := by omega
      obtain ⟨x, hx⟩ : ∃ x : Nat, x = (xs.getD j 0).toNat := ⟨_, rfl⟩
      have hx0 := getD_bts HX.out j
      have hxx : xs.getD j 0 = (x : Int) := by omega
      have hx256 : x < 256 := by omega
      have hcell : ∃ b o, ua = some ⟨b, o, none⟩ ∧ wr.cell? ⟨b, o + j, none⟩ = some (.int .u8 (x : Int)) := by
        rcases HU.out.below (HB.out.trans (BB.out.mono hz)) with ⟨rfl, _⟩ | ⟨_, b, o, cp, he, h2, h3, h4, h5⟩
        · simp at hlt
        · simp only [Value.slice.injEq] at he
          exact ⟨b, o, he.1, by rw [← hxx]; exact h5 _ hj⟩
      obtain ⟨bb, bo, rfl, hcell⟩ := hcell
      have dlt : decide ((k : Int) < 8 * (xs.length : Int)) = true := decide_eq_true (by omega)
      have hq1 : (k : Int) / 8 = (j : Int) := by omega
      have hq2 : (k : Int).tdiv 8 = (j : Int) := by rw [Int.tdiv_eq_ediv_of_nonneg (by omega)]; exact hq1
      have hr1 : (k : Int) % 8 = (r : Int) := by omega
      have hr2 : (k : Int).tmod 8 = (r : Int) := by rw [Int.tmod_eq_emod_of_nonneg (by omega)]; exact hr1
      have hsub : IntKind.i64.wrap (7 - (r : Int)) = ((7 - r : Nat) : Int) := by rw [IntKind.wrap_i64]; omega
      obtain ⟨X, hX⟩ : ∃ X, X = x / 2 ^ (7 - r) := ⟨_, rfl⟩
      have hX256 : X < 256 := Nat.lt_of_le_of_lt (by rw [hX]; exact Nat.div_le_self _ _) hx256
      have hdiv : (x : Int) / 2 ^ (7 - r) = (X : Int) := by rw [hX, Int.natCast_ediv]; simp
      obtain ⟨y, hy⟩ : ∃ y, y = X % 2 := ⟨_, rfl⟩
      have hand : bits .and .u8 (X : Int) 1 = (y : Int) := by rw [hy]; exact and_u8_one X hX256
      have hy2 : y < 2 := by rw [hy]; omega
      have hwy : IntKind.i64.wrap (y : Int) = (y : Int) := by rw [IntKind.wrap_i64]; omega
      obtain ⟨b2, hb2⟩ : ∃ b2, b2 = 2 * b + y := ⟨_, rfl⟩
      have hor : bits .or .i64 ((b : Int) * 2) (y : Int) = (b2 : Int) := by rw [hb2]; exact or_bit b y hb24 hy2
      have hwb : IntKind.i64.wrap ((b : Int) * 2) = (b : Int) * 2 := by rw [IntKind.wrap_i64]; omega
      have hA2 : Hid (ans = (decR W (y :: (unp xs).drop (k + 1)) b m).map (o ++ ·)) := by
        have := hA.out
        rw [hjr, unp_get xs j r hj hr8, ← hx, ← hX, ← hy, ← hjr] at this
        exact this
      have hbit2 : b2 < 2 ^ (m + 1) := by rw [hb2, Nat.pow_succ]; omega
      have hi1 : (0 : Int) ≤ (j : Int) := by omega
      have hi2 : (j : Int) < (xs.length : Int) := by omega
      have HB2 := Lib.hid hb2
      have HBIT2 := Lib.hid hbit2
      clear hjr hx hx0 hxx hX hy hb2 hbit2 hbit hA
      by_cases h24 : m = 24
      · have dm : decide ((m : Int) + 1 > 24) = true := decide_eq_true (by omega)
        have hA3 : Hid (ans = none) := by have := hA2.out; rw [decR, if_pos (by omega)] at this; exact this
        subst h24
        clear hA2
        go_wp2_with fail
        go_ret2
        exact ⟨HB.out.trans (BB.out.mono hz), .inr ⟨hA3.out, rfl⟩⟩
      · have dm : decide ((m : Int) + 1 > 24) = false := decide_eq_false (by omega)
        have hm2 : m + 1 ≤ 24 := by omega
        have HSY := Lib.hid (fun w' h => rsymbol_any (.slice xa W.length xc) W b2 (m + 1) w' h HOK.out.few)
        have RW2 := Lib.hid (RW.out.below BB.out)
        have e1 : ((m + 1 : Nat) : Int) = (m : Int) + 1 := by omega
        rw [e1] at HSY
        cases hsym : symN W b2 (m + 1) with
        | some s =>
          have hA3 : Hid (ans = (decR W ((unp xs).drop (k + 1)) 0 0).map ((o ++ [(s : Int)]) ++ ·)) := by
            have := hA2.out
            rw [decR, if_neg (by omega), ← HB2.out, hsym] at this
            simp only [Option.map_map] at this
            show _ = _
            rw [this]
            congr 1
            funext l
            simp
          have hsw := (sym_some hsym).1
          have hs256 : s < 256 := by have := HOK.out.few; omega
          have HSI : Hid (symI W b2 (m + 1) = (s : Int)) := by show _ = _; rw [symI, hsym]
          have hws : IntKind.u8.wrap (s : Int) = (s : Int) := by rw [IntKind.wrap_u8]; omega
          have ds : decide ((s : Int) ≥ 0) = true := decide_eq_true (by omega)
          clear hsym hA2 e1
          go_wp2_with (first
            | (go_at_call 35; refine (HSY.out _ RW2.out).mono ?_; rintro e w' ⟨rfl, rfl⟩; rw [HSI.out])
            | (at_builtin; ((with_reducible refine wpList_append_rd _ ?_ (.tmp 52) (.tmp 55) 36 ?_ elemU8 Try.underlying36 w1.heap.size u8 o ?_ (OO.out.alloc _) (.slice (some ⟨wr.heap.size, 0, none⟩) 1 1) [(s : Int)] ?_ (Rd.one .u8 5 wr _) ?_ ?_ ?_ ?_)); rfl; rfl; rfl; rfl; (simp; omega); (simp [maxLen]; omega); (simp; omega); intro v9 w9 o9 g9; have O9 := Lib.hid o9; have G9 := Lib.hid g9; clear o9 g9))
          have hlen : Hid ((o ++ [(s : Int)]).length ≤ k + 1) := by show _ ≤ _; simp; omega
          exact ⟨⟨k + 1, 0, 0, o ++ [(s : Int)], by omega, by go_num, rfl, rfl, O9.out, BT.out.append (fun z hz => by rw [List.mem_singleton.1 hz]; omega), by decide, by decide, hlen.out, hA3, (BB.out.alloc hzr _).grown G9.out (by simp; omega) OO.out.blk⟩, by simp [intOf]; omega⟩
        | none =>
          have hA3 : Hid (ans = (decR W ((unp xs).drop (k + 1)) b2 (m + 1)).map (o ++ ·)) := by
            have := hA2.out
            rw [decR, if_neg (by omega), ← HB2.out, hsym] at this
            exact this
          have HSI : Hid (symI W b2 (m + 1) = -1) := by show _ = _; rw [symI, hsym]
          clear hsym hA2 e1
          go_wp2_with (go_at_call 35; refine (HSY.out _ RW2.out).mono ?_; rintro e w' ⟨rfl, rfl⟩; rw [HSI.out])
          exact ⟨⟨k + 1, b2, m + 1, o, by omega, by go_num, rfl, by go_num, OO.out, BT.out, HBIT2.out, hm2, by omega, hA3, BB.out⟩, by simp [intOf]; omega⟩
    · have hend : k = 8 * xs.length := by omega
      have dlt : decide ((k : Int) < 8 * (xs.length : Int)) = false := decide_eq_false (by omega)
      have hA2 : Hid (ans = if m > 7 ∨ b ≠ 2 ^ m - 1 then none else some o) := by
        have := hA.out
        rw [hend, List.drop_of_length_le (by rw [unp_len]; omega), decR] at this
        show _ = _
        rw [this]
        by_cases e : m > 7 ∨ b ≠ 2 ^ m - 1
        · rw [if_pos e, if_pos e]; rfl
        · rw [if_neg e, if_neg e]; simp
      have BW := Lib.hid (HB.out.trans (BB.out.mono hz))
      clear hend hA
      by_cases h7 : m > 7
      · have d7 : decide ((m : Int) > 7) = true := decide_eq_true (by omega)
        have d7' : decide (m > 7) = true := decide_eq_true (by omega)
        have d7'' : decide (7 < m) = true := decide_eq_true (by omega)
        have hA3 : Hid (ans = none) := by have := hA2.out; rw [if_pos (.inl h7)] at this; exact this
        clear hA2
        go_wp2_with fail
        go_ret2
        exact ⟨BW.out, .inr ⟨hA3.out, rfl⟩⟩
      · have d7 : decide ((m : Int) > 7) = false := decide_eq_false (by omega)
        have d7' : decide (m > 7) = false := decide_eq_false (by omega)
        have d7'' : decide (7 < m) = false := decide_eq_false (by omega)
        have hp2 : 2 ^ m ≤ 2 ^ 7 := Nat.pow_le_pow_right (by decide) (by omega)
        have e7 : (2 : Nat) ^ 7 = 128 := rfl
        have hpc : (2 : Int) ^ m = ((2 ^ m : Nat) : Int) := by simp
        have hpp : 0 < 2 ^ m := Nat.pow_pos (by decide)
        have hw1 : IntKind.i64.wrap ((2 : Int) ^ m) = (2 : Int) ^ m := by rw [hpc, IntKind.wrap_i64]; omega
        have hw2 : IntKind.i64.wrap ((2 : Int) ^ m - 1) = (2 : Int) ^ m - 1 := by rw [hpc, IntKind.wrap_i64]; omega
        by_cases he : b = 2 ^ m - 1
        · have de : ((b : Int) != (2 : Int) ^ m - 1) = false := by rw [hpc]; simp; omega
          have de' : ((b : Int) == (2 : Int) ^ m - 1) = true := by rw [hpc]; simp; omega
          have hA3 : Hid (ans = some o) := by have := hA2.out; rw [if_neg (by omega)] at this; exact this
          clear hA2 he hp2 hpc hpp hbit
          go_wp2_with fail
          go_ret2
          exact ⟨BW.out, .inl ⟨o, _, hA3.out, rfl, OO.out.rd, BT.out⟩⟩
        · have de : ((b : Int) != (2 : Int) ^ m - 1) = true := by rw [hpc]; simp; omega
          have de' : ((b : Int) == (2 : Int) ^ m - 1) = false := by rw [hpc]; simp; omega
          have hA3 : Hid (ans = none) := by have := hA2.out; rw [if_pos (.inr he)] at this; exact this
          clear hA2 he hp2 hpc hpp hbit
          go_wp2_with fail
          go_ret2
          exact ⟨BW.out, .inr ⟨hA3.out, rfl⟩⟩
end Go.Proofs.Ytjaeccealfeakaa
