/- Walks of layer 12: Decode. -/
import Derived.Test.YtjaeccealfeakaaHfS
import Derived.ChangeKeysEq
set_option maxRecDepth 100000
set_option linter.unusedSimpArgs false
set_option linter.unusedVariables false
namespace Go.Proofs.Ytjaeccealfeakaa
open Go.RowKit Go.Maps

/-- two words compared -/
theorem eqw_any (a b a' b' : Int) (w : World) : (Op.equalIn 10000 44 (.agg #[.int .i64 a, .int .i64 b]) (.agg #[.int .i64 a', .int .i64 b'])).run Try.prog w = .ok (decide (a = a' ∧ b = b')) w := by
  have u3 := Try.underlying3
  have a3 := Try.isAgg3
  have z3 := Try.sizeOf3
  have hS : Try.prog.underlying 44 = some (.struct (Try.prog.fieldsOf 44)) := by kernel_rfl
  have hp : Try.prog.stoodInHeld 44 = false := by kernel_rfl
  rw [show (10000 : Nat) = 9999 + 1 from rfl, run_equalIn_agg w 9999 44 _ _ hS hp]
  simp only [Program.fieldsOf, Try.underlying44]
  go_simp
  by_cases h1 : a = a' <;> by_cases h2 : b = b' <;> simp [h1, h2]
theorem reqw_any (a b a' b' : Int) (w : World) : (Op.equalIn 10000 49 (.agg #[.int .i64 a, .int .i64 b]) (.agg #[.int .i64 a', .int .i64 b'])).run Try.prog w = .ok (decide (a = a' ∧ b = b')) w := by
  have u3 := Try.underlying3
  have a3 := Try.isAgg3
  have z3 := Try.sizeOf3
  have hS : Try.prog.underlying 49 = some (.struct (Try.prog.fieldsOf 49)) := by kernel_rfl
  have hp : Try.prog.stoodInHeld 49 = false := by kernel_rfl
  rw [show (10000 : Nat) = 9999 + 1 from rfl, run_equalIn_agg w 9999 49 _ _ hS hp]
  simp only [Program.fieldsOf, Try.underlying49]
  go_simp
  by_cases h1 : a = a' <;> by_cases h2 : b = b' <;> simp [h1, h2]
theorem guardW : Try.prog.eqGuardType Try.prog.depth 44 = false := by kernel_rfl
theorem rguardW : Try.prog.eqGuardType Try.prog.depth 49 = false := by kernel_rfl

/-- WHAT IS ANSWERED OF BYTES IN A CODE THAT MAY BE -/
def DecIs (w : World) (ans : Option (List Int)) (e : Ending) (w' : World) : Prop :=
  Below w.heap.size w w' ∧ ((∃ ys v, ans = some ys ∧ e = .returned (.tuple #[v, .int .i64 0]) ∧ Rd .u8 w' v ys ∧ Bts ys) ∨ (ans = none ∧ e = .returned (.tuple #[.slice none 0 0, .int .i64 12])))

theorem dec_no (v u : Value) (ls : List Int) (w : World) (hr : Rd .i64 w v ls) (hc : ¬ RightL ls) : Calls Try.prog 23 #[v, u] w fun e w' => e = .returned (.tuple #[.slice none 0 0, .int .i64 1]) ∧ w = w' := by
  have H := Lib.hid (words_no v ls w hr hc)
  clear hr hc
  go_enter Try.func23, Try.ntmps23
  go_wp2_with (go_at_call 10; refine H.out.mono ?_; rintro e w' ⟨rfl, rfl⟩)
  go_ret2
  exact ⟨rfl, rfl⟩

/-- the word that is begun -/
def Bg (w : World) (g b n : Nat) : Prop := w.heap[g]? = some (.cells #[.int .i64 (b : Int), .int .i64 (n : Int)] 44 (0, 0))
theorem Bg.cs {w : World} {g b n : Nat} (h : Bg w g b n) : Cs w g [.int .i64 (b : Int), .int .i64 (n : Int)] := ⟨_, h⟩
theorem Bg.facts {w : World} {g b n : Nat} (h : Bg w g b n) : w.cell? ⟨g, 0, none⟩ = some (.int .i64 (b : Int)) ∧ w.cell? ⟨g, 1, none⟩ = some (.int .i64 (n : Int)) := ⟨Cs.get h.cs 0 _ rfl, Cs.get h.cs 1 _ rfl⟩
theorem Bg.free {w : World} {g b n : Nat} (h : Bg w g b n) (j : Nat) : w.frozen? ⟨g, j, none⟩ = false := Cs.free h.cs j
theorem Bg.lt {w : World} {g b n : Nat} (h : Bg w g b n) : g < w.heap.size := Cs.lt h.cs
theorem Bg.drew {w : World} {g b n : Nat} (h : Bg w g b n) : Bg w.drew g b n := h
theorem Bg.below {w w' : World} {g b n : Nat} (h : Bg w g b n) (hb : Below w.heap.size w w') : Bg w' g b n := (hb.block g h.lt).trans h
theorem Bg.kept {w w' : World} {row : Option Nat} {g b n : Nat} (h : Bg w g b n) (hg : w.grownBy w' row) (hn : some g ≠ row) : Bg w' g b n := (hg.block g h.lt hn).trans h
theorem Bg.alloc {w : World} {g b n : Nat} (h : Bg w g b n) (o : Obj) : Bg (w.alloc o) g b n := h.kept (World.grownBy_alloc w o none) (by simp)
theorem Bg.set {w : World} {g b n : Nat} (h : Bg w g b n) (b' n' : Nat) : Bg ((w.setCell ⟨g, 0, none⟩ (.int .i64 (b' : Int))).setCell ⟨g, 1, none⟩ (.int .i64 (n' : Int))) g b' n' := by
  unfold Bg at h ⊢; simp [World.setCell, Array.getElem?_modify, h]
theorem Bg.apart {w : World} {g b n B : Nat} {u : Value} {o : List Int} (h : Bg w g b n) (ho : Own .u8 5 w B u o) : ∀ j, u.ownBlock = some j → j ≠ g := by
  intro j hj e1
  rcases ho.2 with ⟨rfl, _⟩ | ⟨g', cap, cur, rfl, _, hg, _⟩
  · cases hj
  · simp only [Value.ownBlock, Option.some.injEq] at hj
    subst hj; subst e1
    unfold Bg at h
    rw [h] at hg
    simp only [Option.some.injEq, Obj.cells.injEq] at hg
    exact absurd hg.2.1 (by decide)
/-- DECODING UNDER WAY -/
structure Dc (B g : Nat) (w0 w : World) (u : Value) (o : List Int) (b n : Nat) : Prop where
  row : Bg w g b n
  own : Own .u8 5 w B u o
  bts : Bts o
  bit : b < 2 ^ n
  few : n < 24
  below : Below B w0 w
theorem Dc.b24 {B g : Nat} {w0 w : World} {u : Value} {o : List Int} {b n : Nat} (h : Dc B g w0 w u o b n) : b < 8388608 := by
  have := h.bit
  have h2 := h.few
  have : 2 ^ n ≤ 2 ^ 23 := Nat.pow_le_pow_right (by decide) (by omega)
  have e : (2 : Nat) ^ 23 = 8388608 := rfl
  omega
/-- what is still to come -/
def togo (W : List (Nat × Nat)) (bs : List Nat) (b n : Nat) (o : List Int) : Option (List Int) := (decN W bs b n).map (o ++ ·)

set_option maxHeartbeats 8000000 in
theorem dec_yes (v u : Value) (ls xs : List Int) (w : World) (hr : Rd .i64 w v ls) (hu : Rd .u8 w u xs) (hx : Bts xs) (hxl : xs.length ≤ 68719476736) (hc : RightL ls) :
    Calls Try.prog 23 #[v, u] w (DecIs w (decN (wordsN (ls.map Int.toNat)) (unp xs) 0 0)) := by
  have H := Lib.hid (words_yes v ls w hr hc)
  have HOK := Lib.hid hc.code.words
  generalize hWd : wordsN (ls.map Int.toNat) = W at *
  have HWd := Lib.hid hWd
  have HU := Lib.hid hu
  have HX := Lib.hid hx
  obtain ⟨ua, uc, rfl⟩ := hu.isSlice
  obtain ⟨ans, hans⟩ : ∃ ans, ans = decN W (unp xs) 0 0 := ⟨_, rfl⟩
  rw [← hans]
  have A0 : Hid (ans = togo W ((unp xs).drop (8 * 0)) 0 0 []) := by
    show _ = _; rw [hans, togo]; simp
  clear hr hu hx hc hWd hans
  go_enter Try.func23, Try.ntmps23
  go_wp2_with (go_at_call 10; refine H.out.mono ?_; rintro e w1 ⟨x, rfl, ho, hb⟩; rw [HWd.out] at ho; have OW := Lib.hid ho; have HB := Lib.hid hb; obtain ⟨xa, xc, rfl, _, _⟩ := ho.slice; clear ho hb)
  refine (symbols_any _ W w1 OW.out.rd HOK.out).mono ?_
  rintro e w2 ⟨mb, rfl, hm, hb2, hmb⟩
  have hz : w.heap.size ≤ w1.heap.size := HB.out.size
  have B2 := Lib.hid (HB.out.trans (hb2.mono hz))
  have M2 := Lib.hid hm
  have hz2 : w.heap.size ≤ w2.heap.size := B2.out.size
  clear hm hb2 H OW HB hmb
  go_wp2_with fail
  have D0 : Hid (Dc w2.heap.size w2.heap.size w2 (w2.alloc (.cells #[.int .i64 0, .int .i64 0] 44)) (.slice none 0 0) [] 0 0) :=
    ⟨alloc_at _ _, Own.nil _ _ _ _, (by intro z hz; cases hz), by decide, by decide, (Below.refl _ _).alloc (Nat.le_refl _) _⟩
  generalize w2.alloc _ = w3 at *
  go_loopw [9, 28] (fun q i wr => ∃ (k b n : Nat) (o : List Int), k ≤ xs.length ∧ i = .int .i64 (k : Int) ∧ Dc w2.heap.size w2.heap.size w2 wr q o b n ∧ o.length ≤ 8 * k ∧ Hid (ans = togo W ((unp xs).drop (8 * k)) b n o)) (fun _ i _ => xs.length - (intOf i).toNat)
  case atStart => exact ⟨0, 0, 0, [], by omega, rfl, D0.out, by simp, A0⟩
  case round =>
    obtain ⟨k, b, n, o, hk, rfl, hd, hol, hA⟩ := hrel
    clear D0 A0
    have DD := Lib.hid hd
    have hzr := hd.below.size
    by_cases hlt : k < xs.length
    · obtain ⟨x, hx⟩ : ∃ x : Nat, x = (xs.getD k 0).toNat := ⟨_, rfl⟩
      have hx0 := getD_bts HX.out k
      have hxx : xs.getD k 0 = (x : Int) := by omega
      have hx256 : x < 256 := by omega
      have hcell : ∃ b o, ua = some ⟨b, o, none⟩ ∧ wr.cell? ⟨b, o + k, none⟩ = some (.int .u8 (x : Int)) := by
        rcases HU.out.below (B2.out.trans (hd.below.mono hz2)) with ⟨rfl, _⟩ | ⟨_, b, o, cp, he, h2, h3, h4, h5⟩
        · simp at hlt
        · simp only [Value.slice.injEq] at he
          exact ⟨b, o, he.1, by rw [← hxx]; exact h5 _ hlt⟩
      obtain ⟨bb, bo, rfl, hcell⟩ := hcell
      obtain ⟨R, hR⟩ : ∃ R, R = (unp xs).drop (8 * (k + 1)) := ⟨_, rfl⟩
      have hA2 : Hid (ans = togo W (bd x 8 ++ R) b n o) := by
        have := hA.out
        rw [unp_drop xs k hlt, hxx, Int.toNat_natCast, ← hR] at this
        exact this
      have HR := Lib.hid hR
      clear hx hx0 hxx hA hR hd
      go_wp2_with fail
      go_loopw [9, 32] (fun q j wq => ∃ (m i b n : Nat) (o : List Int), i + m = 8 ∧ j = .int .i64 (i : Int) ∧ Dc w2.heap.size w2.heap.size w2 wq q o b n ∧ o.length ≤ 8 * k + i ∧ Hid (ans = togo W (bd x m ++ R) b n o)) (fun _ j _ => 8 - (intOf j).toNat)
      case atStart => exact ⟨8, 0, b, n, o, by omega, rfl, DD.out, by omega, hA2⟩
      case round =>
        obtain ⟨m, i, b', n', o', him, rfl, hd, hol', hA⟩ := hrel
        clear DD hA2 hcell hol
        have DD := Lib.hid hd
        have hzq := hd.below.size
        by_cases hm0 : m = 0
        · have hi8 : i = 8 := by omega
          have di : decide ((i : Int) < 8) = false := decide_eq_false (by omega)
          have di' : decide (i < 8) = false := decide_eq_false (by omega)
          have hA3 : Hid (ans = togo W ((unp xs).drop (8 * (k + 1))) b' n' o') := by
            have := hA.out
            rw [hm0] at this
            rw [← HR.out]; exact Lib.hid (by simpa [bd] using this)
          have hol3 : o'.length ≤ 8 * (k + 1) := by omega
          clear hm0 hi8 hd hA him
          go_wp2_with fail
          refine ⟨⟨k + 1, b', n', o', by omega, by go_num, DD.out, hol3, hA3⟩, ?_⟩
          simp [intOf]; omega
        · obtain ⟨m', rfl⟩ : ∃ m', m = m' + 1 := ⟨m - 1, by omega⟩
          obtain ⟨y, hy⟩ : ∃ y, y = x / 2 ^ m' % 2 := ⟨_, rfl⟩
          have hy2 : y < 2 := by rw [hy]; omega
          obtain ⟨X, hX⟩ : ∃ X, X = x / 2 ^ m' := ⟨_, rfl⟩
          have hX256 : X < 256 := Nat.lt_of_le_of_lt (by rw [hX]; exact Nat.div_le_self _ _) hx256
          have hdiv : (x : Int) / 2 ^ m' = (X : Int) := by rw [hX, Int.natCast_ediv]; simp
          have hand : bits .and .i64 (X : Int) 1 = (y : Int) := by
            have := and_ones X 1 (by omega) (by omega)
            rw [hy, ← hX]
            exact this
          have hsub : IntKind.i64.wrap (7 - (i : Int)) = (m' : Int) := by rw [IntKind.wrap_i64]; omega
          have hA2 : Hid (ans = togo W (y :: (bd x m' ++ R)) b' n' o') := by
            have := hA.out
            rw [bd, ← hy] at this
            exact this
          have hb24 := hd.b24
          have hn24 := hd.few
          obtain ⟨b2, hb2⟩ : ∃ b2, b2 = 2 * b' + y := ⟨_, rfl⟩
          obtain ⟨n2, hn2⟩ : ∃ n2, n2 = n' + 1 := ⟨_, rfl⟩
          have HL : Hid (∀ w' : World, Calls Try.prog 33 #[.agg #[.int .i64 (b' : Int), .int .i64 (n' : Int)], .int .i64 (y : Int)] w' fun e w'' => e = .returned (.agg #[.int .i64 (b2 : Int), .int .i64 (n2 : Int)]) ∧ Below w'.heap.size w' w'') := fun w' => by
            rw [hb2, hn2]; exact longer_any b' n' y (by omega) (by show _ < 16777216; omega) hy2 w'
          have hbit2 : b2 < 2 ^ n2 := by have := hd.bit; rw [hb2, hn2, Nat.pow_succ]; omega
          have hS : Hid (togo W (y :: (bd x m' ++ R)) b' n' o' = match symN W b2 n2 with | some s => togo W (bd x m' ++ R) 0 0 (o' ++ [(s : Int)]) | none => if n2 = 24 then none else togo W (bd x m' ++ R) b2 n2 o') := by
            show _ = _
            rw [togo, decN, ← hb2, ← hn2]
            cases symN W b2 n2 with
            | none =>
              simp only
              by_cases e : n2 = 24
              · rw [if_pos e, if_pos e]; rfl
              · rw [if_neg e, if_neg e]; rfl
            | some s =>
              simp only [togo, Option.map_map]
              congr 1
              funext l
              simp
          have hn2' : 0 < n2 ∧ n2 ≤ 24 := by omega
          have hb2' : b2 < 16777216 := by omega
          have HN2 := Lib.hid hn2
          obtain ⟨c0, c1⟩ := hd.row.facts
          obtain ⟨d0, d1⟩ := hd.row.drew.facts
          have z0 := hd.row.drew.free 0
          have z1 := hd.row.drew.free 1
          have him' : i < 8 := by omega
          have hmin : min m' 64 = m' := by omega
          have hime : i + 1 + m' = 8 := by omega
          have HIME := Lib.hid hime
          have HIM := Lib.hid him
          clear hy hX hd hb2 hn2 hA hm0 him hime
          have hwx : IntKind.i64.wrap (x : Int) = (x : Int) := by rw [IntKind.wrap_i64]; omega
          go_upto_region 13 with fail
          go_still_tail 7, (by kernel_rfl)
          repeat still_step
          change wpList _ _ _ _ _ wr.drew
          go_upto_region 14 with (go_at_call 33; refine (HL.out _).mono ?_; rintro e w7 ⟨rfl, hb7⟩; have r7 := DD.out.row.drew.below hb7; obtain ⟨k0, k1⟩ := r7.facts; have kz0 := r7.free 0; have kz1 := r7.free 1; have HB7 := Lib.hid hb7; clear hb7 r7)
          have ROW7 := Lib.hid ((DD.out.row.drew.below HB7.out).set b2 n2)
          have OWN7 := Lib.hid (((show Own .u8 5 wr.drew w2.heap.size u9 o' from DD.out.own).below HB7.out).other w2.heap.size 0 (.int .i64 (b2 : Int)) (DD.out.row.apart DD.out.own) |>.other w2.heap.size 1 (.int .i64 (n2 : Int)) (DD.out.row.apart DD.out.own))
          have BEL7 := Lib.hid (((DD.out.below.drew.trans (HB7.out.mono hzq)).setCell (p := ⟨w2.heap.size, 0, none⟩) (Nat.le_refl _) (.int .i64 (b2 : Int))).setCell (p := ⟨w2.heap.size, 1, none⟩) (Nat.le_refl _) (.int .i64 (n2 : Int)))
          clear k0 k1 kz0 kz1 c0 c1 d0 d1 z0 z1 hwx hmin hsub hdiv hand HL
          generalize (w7.setCell ⟨w2.heap.size, 0, none⟩ _).setCell ⟨w2.heap.size, 1, none⟩ _ = w8 at ROW7 OWN7 BEL7 ⊢
          obtain ⟨c0, c1⟩ := ROW7.out.facts
          have z0 := ROW7.out.free 0
          have z1 := ROW7.out.free 1
          have M8 := Lib.hid (M2.out.below BEL7.out)
          have hz8 := BEL7.out.size
          have hg8 : w2.heap.size < w8.heap.size := ROW7.out.lt
          obtain ⟨hn2a, hn2b⟩ := hn2'
          cases hsym : symN W b2 n2 with
          | some s =>
            have HSY := Lib.hid hsym
            have HIS : Hid ((symN W b2 n2).isSome = true) := by show _ = _; rw [hsym]; rfl
            have hA3 : Hid (ans = togo W (bd x m' ++ R) 0 0 (o' ++ [(s : Int)])) := by
              have := hA2.out.trans hS.out
              rw [hsym] at this
              exact this
            have hsw := (sym_some hsym).1
            have hs256 : s < 256 := by have := HOK.out.few; omega
            clear hsym hS hA2
            go_wp2_with (first
              | (at_lookup; refine wpList_look_word _ rfl (.tmp 44) (.tmp 45) rfl mb W rfl M8.out b2 n2 rfl hn2a (by omega) (by omega) ?_; intro c hc; obtain rfl : c = (s : Int) := hc s HSY.out; rw [HIS.out]; clear hc)
              | (at_builtin; ((with_reducible refine wpList_append_rd _ ?_ (.tmp 50) (.tmp 52) 36 ?_ elemU8 Try.underlying36 w2.heap.size u9 o' ?_ (OWN7.out.alloc _) (.slice (some ⟨w8.heap.size, 0, none⟩) 1 1) [(s : Int)] ?_ (Rd.one .u8 5 w8 _) ?_ ?_ ?_ ?_)); rfl; rfl; rfl; rfl; (simp; omega); (simp [maxLen]; omega); (simp; omega); intro v9 w9 o9 g9; have r9 := (ROW7.out.alloc _).kept g9 (fun e1 => (ROW7.out.apart OWN7.out) w2.heap.size e1.symm rfl); obtain ⟨q0, q1⟩ := r9.facts; have qz0 := r9.free 0; have qz1 := r9.free 1; have R9 := Lib.hid r9; have O9 := Lib.hid o9; have G9 := Lib.hid g9; clear o9 g9 r9))
            have D9 : Hid (Dc w2.heap.size w2.heap.size w2 ((w9.setCell ⟨w2.heap.size, 0, none⟩ (.int .i64 0)).setCell ⟨w2.heap.size, 1, none⟩ (.int .i64 0)) v9 (o' ++ [(s : Int)]) 0 0) :=
              ⟨R9.out.set 0 0, (O9.out.other _ _ _ (R9.out.apart O9.out)).other _ _ _ (R9.out.apart O9.out), DD.out.bts.append (fun z hz => by rw [List.mem_singleton.1 hz]; omega), by decide, by decide,
                ((((BEL7.out.alloc hz8 _).grown G9.out (by simp; omega) OWN7.out.blk).setCell (p := ⟨w2.heap.size, 0, none⟩) (Nat.le_refl _) (.int .i64 0)).setCell (p := ⟨w2.heap.size, 1, none⟩) (Nat.le_refl _) (.int .i64 0))⟩
            have hol9 : (o' ++ [(s : Int)]).length ≤ 8 * k + (i + 1) := by simp; omega
            have HOL9 := Lib.hid hol9
            clear hol9
            exact ⟨⟨m', i + 1, 0, 0, o' ++ [(s : Int)], HIME.out, by go_num, D9.out, HOL9.out, hA3⟩, by simp [intOf]; omega⟩
          | none =>
            have HIS : Hid ((symN W b2 n2).isSome = false) := by show _ = _; rw [hsym]; rfl
            have hA3 : Hid (ans = if n2 = 24 then none else togo W (bd x m' ++ R) b2 n2 o') := by
              have := hA2.out.trans hS.out
              rw [hsym] at this
              exact this
            have BW := Lib.hid (B2.out.trans (BEL7.out.mono hz2))
            clear hsym hS hA2
            by_cases he : n2 = 24
            · have de : ((n2 : Int) == 24) = true := by simp; omega
              have de' : (n2 == 24) = true := by simp; omega
              have hA4 : Hid (ans = none) := by have := hA3.out; rw [if_pos he] at this; exact this
              clear hA3 he
              go_wp2_with (at_lookup; refine wpList_look_word _ rfl (.tmp 44) (.tmp 45) rfl mb W rfl M8.out b2 n2 rfl hn2a (by omega) (by omega) ?_; intro c hc; rw [HIS.out]; clear hc)
              go_ret2
              exact ⟨BW.out, .inr ⟨hA4.out, rfl⟩⟩
            · have de : ((n2 : Int) == 24) = false := by simp; omega
              have de' : (n2 == 24) = false := by simp; omega
              have hA4 : Hid (ans = togo W (bd x m' ++ R) b2 n2 o') := by have := hA3.out; rw [if_neg he] at this; exact this
              have D9 : Hid (Dc w2.heap.size w2.heap.size w2 w8 u9 o' b2 n2) := ⟨ROW7.out, OWN7.out, DD.out.bts, hbit2, by omega, BEL7.out⟩
              have hol9 : o'.length ≤ 8 * k + (i + 1) := by omega
              have HOL9 := Lib.hid hol9
              clear hA3 he hol9
              go_wp2_with (at_lookup; refine wpList_look_word _ rfl (.tmp 44) (.tmp 45) rfl mb W rfl M8.out b2 n2 rfl hn2a (by omega) (by omega) ?_; intro c hc; rw [HIS.out]; clear hc)
              exact ⟨⟨m', i + 1, b2, n2, o', HIME.out, by go_num, D9.out, HOL9.out, hA4⟩, by simp [intOf]; omega⟩
    · have hend : k = xs.length := by omega
      have dl : decide ((k : Int) < (xs.length : Int)) = false := decide_eq_false (by omega)
      have dl' : decide (k < xs.length) = false := decide_eq_false (by omega)
      have hA2 : Hid (ans = if n > 7 ∨ b ≠ 2 ^ n - 1 then none else some o) := by
        have := hA.out
        rw [hend, List.drop_of_length_le (by rw [unp_len]; omega), togo, decN] at this
        show _ = _
        rw [this]
        by_cases e : n > 7 ∨ b ≠ 2 ^ n - 1
        · rw [if_pos e, if_pos e]; rfl
        · rw [if_neg e, if_neg e]; simp
      have BW := Lib.hid (B2.out.trans (hd.below.mono hz2))
      obtain ⟨c0, c1⟩ := hd.row.facts
      obtain ⟨d0, d1⟩ := hd.row.drew.facts
      have hn24 := hd.few
      clear hend hA hd
      by_cases h7 : n > 7
      · have d7 : decide ((n : Int) > 7) = true := decide_eq_true (by omega)
        have d7' : decide (n > 7) = true := decide_eq_true (by omega)
        have d7'' : decide (7 < n) = true := decide_eq_true (by omega)
        have hA3 : Hid (ans = none) := by have := hA2.out; rw [if_pos (.inl h7)] at this; exact this
        clear hA2
        go_wp2_with fail
        go_quiet (fail)
        go_wp2_with fail
        go_ret2
        exact ⟨below_drewN BW.out _, .inr ⟨hA3.out, rfl⟩⟩
      · have d7 : decide ((n : Int) > 7) = false := decide_eq_false (by omega)
        have d7' : decide (n > 7) = false := decide_eq_false (by omega)
        have d7'' : decide (7 < n) = false := decide_eq_false (by omega)
        obtain ⟨q, hq⟩ : ∃ q, q = 2 ^ n - 1 := ⟨_, rfl⟩
        have H1 : Hid (∀ W : World, Calls Try.prog 34 #[.int .i64 (n : Int)] W fun x w' => x = .returned (.agg #[.int .i64 (q : Int), .int .i64 (n : Int)]) ∧ Below W.heap.size W w') := fun W => by rw [hq]; exact ones_any n (by omega) W
        by_cases he : b = q
        · have q44 : ∀ w, (Op.equalIn 10000 44 (.agg #[.int .i64 (b : Int), .int .i64 (n : Int)]) (.agg #[.int .i64 (q : Int), .int .i64 (n : Int)])).run Try.prog w = .ok true w := fun w => by rw [eqw_any, decide_eq_true]; exact ⟨by omega, rfl⟩
          have g44 := guardW
          have hA3 : Hid (ans = some o) := by have := hA2.out; rw [if_neg (by rw [← hq]; omega)] at this; exact this
          clear hA2 hq he
          go_wp2_with fail
          go_region_law (go_simp; go_at_call 34; refine (H1.out _).mono ?_; rintro x w7 ⟨rfl, hb7⟩; have r7 := DD.out.row.drew.below hb7; obtain ⟨k0, k1⟩ := r7.facts; have HB7 := Lib.hid hb7; clear hb7 r7)
          all_goals
            go_wp2_with fail
            go_ret2
            exact ⟨BW.out.drew.trans (HB7.out.mono (BW.out.size)), .inl ⟨o, _, hA3.out, rfl, ((show Own .u8 5 wr.drew w2.heap.size u9 o from DD.out.own).below HB7.out).rd, DD.out.bts⟩⟩
        · have q44 : ∀ w, (Op.equalIn 10000 44 (.agg #[.int .i64 (b : Int), .int .i64 (n : Int)]) (.agg #[.int .i64 (q : Int), .int .i64 (n : Int)])).run Try.prog w = .ok false w := fun w => by rw [eqw_any, decide_eq_false]; intro h; exact he (by omega)
          have g44 := guardW
          have hA3 : Hid (ans = none) := by have := hA2.out; rw [if_pos (.inr (by rw [← hq]; exact he))] at this; exact this
          clear hA2 hq he
          go_wp2_with fail
          go_region_law (go_simp; go_at_call 34; refine (H1.out _).mono ?_; rintro x w7 ⟨rfl, hb7⟩; have r7 := DD.out.row.drew.below hb7; obtain ⟨k0, k1⟩ := r7.facts; have HB7 := Lib.hid hb7; clear hb7 r7)
          all_goals
            go_wp2_with fail
            go_ret2
            exact ⟨BW.out.drew.trans (HB7.out.mono (BW.out.size)), .inr ⟨hA3.out, rfl⟩⟩
end Go.Proofs.Ytjaeccealfeakaa
