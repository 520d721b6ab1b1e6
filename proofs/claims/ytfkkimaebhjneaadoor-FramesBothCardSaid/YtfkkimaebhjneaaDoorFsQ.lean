/- Walks of layer 4: the law FramesBoth. -/
import Derived.Test.YtfkkimaebhjneaaDoorFsO
import Derived.Test.YtfkkimaebhjneaaDoorRowW
set_option linter.unusedSimpArgs false
set_option linter.unusedVariables false
namespace Go.Proofs.YtfkkimaebhjneaaDoor
open Go.RowKit

theorem encL_ok {fs : List Fr} {bs : List Int} (h : encL fs = .ok bs) : fs.length ≤ 64 ∧ fs.all mayF = true ∧ bs.length ≤ 1200 ∧ bs = encFs fs := by
  unfold encL at h
  split at h
  · cases h
  · split at h
    · rename_i h1 h2
      split at h
      · cases h
      · cases h; exact ⟨by omega, h2, by omega, rfl⟩
    · cases h
theorem dec_both {fs gs : List Fr} {bs cs : List Int} (h : encL fs = .ok bs) (k : encL gs = .ok cs) (hl : fs.length + gs.length ≤ 64) (hb : bs.length + cs.length ≤ 1200) : decL (bs ++ cs) = .ok (fs ++ gs) := by
  obtain ⟨a1, a2, a3, rfl⟩ := encL_ok h
  obtain ⟨b1, b2, b3, rfl⟩ := encL_ok k
  refine dec_enc ?_
  have e : encFs fs ++ encFs gs = encFs (fs ++ gs) := by simp [encFs]
  rw [e]
  have hlen : (encFs (fs ++ gs)).length ≤ 1200 := by rw [← e, List.length_append]; omega
  unfold encL
  rw [if_neg (by rw [List.length_append]; omega), if_pos (by rw [List.all_append, a2, b2]; rfl), if_neg (by omega)]
theorem RdF.parts {w : World} {v : Value} {fs : List Fr} (h : RdF w v fs) : ∃ l : List FV, l.map FV.f = fs ∧ RdC 8 w v l.length (frC l) ∧ (∀ g ∈ l, FvRd w g) ∧ l.length = fs.length ∧ ∀ u ∈ frC l, u.oneCell' = true := by
  obtain ⟨l, rfl, h2, h3⟩ := h
  exact ⟨l, rfl, h2, h3, by simp, frC_one fun g hg => ⟨(h3 g hg).1.one1, (h3 g hg).2.one1⟩⟩
theorem RdF.of_rows {w : World} {B : Nat} {v : Value} {l : List FV} (h : w.ownsRow B 33 8 v l.length (frC l)) (hp : ∀ g ∈ l, FvRd w g) : RdF w v (l.map FV.f) := ⟨l, rfl, RdC.of_owns h, hp⟩

set_option maxHeartbeats 3200000 in
theorem framesBoth_walk (v z : Value) (fs gs : List Fr) (w : World) (ht : Tab w) (hr : RdF w v fs) (hs : RdF w z gs) (hx : BtsF fs) (hy : BtsF gs) : Calls Tryd.prog 6 #[v, z] w (Yes w) := by
  have hp := ht.pos
  have HT := Lib.hid ht
  have HR := Lib.hid hr
  have HS := Lib.hid hs
  have HX := Lib.hid hx
  have HY := Lib.hid hy
  have HE := Lib.hid (encode_any v fs w ht hr)
  have HK : Hid (∀ V, Below w.heap.size w V → Calls Tryd.prog 9 #[z] V (EncIs V (encL gs))) := fun V hV => encode_any z gs V (ht.below hV ht.pos) (hs.below hV)
  obtain ⟨va, vc, rfl, hv1, hv2⟩ := hr.isSlice
  obtain ⟨za, zc, rfl, hz1, hz2⟩ := hs.isSlice
  clear ht hr hs hx hy
  have AL : Hid (∀ V, Below w.heap.size w V → Calls Tryd.prog 18 #[] V (Yes V)) := fun V hV => alive_any V (HT.out.below hV hp)
  cases he : encL fs with
  | error c =>
    have hc : (c != 0) = true := by rcases encL_err he with rfl | rfl <;> decide
    rw [he] at HE
    go_enter Tryd.func6, Tryd.ntmps6
    go_wp2_with fail
    refine HE.out.mono ?_
    rintro e w1 ⟨b1, rfl⟩
    go_wp2_with fail
    refine (HK.out _ b1).mono ?_
    rintro e w2 ⟨b2, h2⟩
    have B2 : Below w.heap.size w w2 := b1.trans (b2.mono b1.size)
    have hh : ∃ u d, e = .returned (.tuple #[u, .int .i64 d]) ∧ ∃ ua n uc, u = .slice ua n uc := by
      cases hk : encL gs with
      | error d => rw [hk] at h2; exact ⟨_, d, h2, _, _, _, rfl⟩
      | ok bs =>
        rw [hk] at h2
        obtain ⟨u, h2, o2⟩ := h2
        obtain ⟨ua, uc, rfl⟩ := o2.len
        exact ⟨_, 0, h2, _, _, _, rfl⟩
    clear h2
    obtain ⟨u, d, rfl, ua, n, uc, rfl⟩ := hh
    go_wp2_with fail
    refine (AL.out _ B2).mono ?_
    rintro e w3 ⟨rfl, b3⟩
    go_wp2_with fail
    go_ret
    exact ⟨rfl, B2.trans (b3.mono B2.size)⟩
  | ok bs =>
    cases hk : encL gs with
    | error d =>
      have hd : (d != 0) = true := by rcases encL_err hk with rfl | rfl <;> decide
      rw [he] at HE
      rw [hk] at HK
      go_enter Tryd.func6, Tryd.ntmps6
      go_wp2_with fail
      refine HE.out.mono ?_
      rintro e w1 ⟨b1, u, rfl, o1⟩
      obtain ⟨ua, uc, rfl⟩ := o1.len
      go_wp2_with fail
      refine (HK.out _ b1).mono ?_
      rintro e w2 ⟨b2, rfl⟩
      have B2 : Below w.heap.size w w2 := b1.trans (b2.mono b1.size)
      go_wp2_with fail
      refine (AL.out _ B2).mono ?_
      rintro e w3 ⟨rfl, b3⟩
      go_wp2_with fail
      go_ret
      exact ⟨rfl, B2.trans (b3.mono B2.size)⟩
    | ok cs =>
      obtain ⟨a1, a2, a3, -⟩ := encL_ok he
      obtain ⟨c1, c2, c3, -⟩ := encL_ok hk
      have HBs := Lib.hid (encL_bts HX.out he)
      have HCs := Lib.hid (encL_bts HY.out hk)
      have HD0 : Hid (fs.length + gs.length ≤ 64 → bs.length + cs.length ≤ 1200 → decL (bs ++ cs) = .ok (fs ++ gs)) := dec_both he hk
      have hw1 : IntKind.i64.wrap ((fs.length : Int) + gs.length) = (fs.length : Int) + gs.length := wraps_i64' _ (by omega) (by omega)
      have hw2 : IntKind.i64.wrap ((bs.length : Int) + cs.length) = (bs.length : Int) + cs.length := wraps_i64' _ (by omega) (by omega)
      rw [he] at HE
      rw [hk] at HK
      clear he hk a2 c2
      by_cases hbig : 64 < fs.length + gs.length ∨ 1200 < bs.length + cs.length
      · go_enter Tryd.func6, Tryd.ntmps6
        go_wp2_with fail
        refine HE.out.mono ?_
        rintro e w1 ⟨b1, u, rfl, o1⟩
        obtain ⟨ua, uc, rfl⟩ := o1.len
        go_wp2_with fail
        refine (HK.out _ b1).mono ?_
        rintro e w2 ⟨b2, u2, rfl, o2⟩
        obtain ⟨ua2, uc2, rfl⟩ := o2.len
        have B2 : Below w.heap.size w w2 := b1.trans (b2.mono b1.size)
        by_cases h1 : 64 < fs.length + gs.length
        · have d1 : decide (64 < (fs.length : Int) + gs.length) = true := decide_eq_true (by omega)
          clear hbig
          go_wp2_with fail
          refine (AL.out _ B2).mono ?_
          rintro e w3 ⟨rfl, b3⟩
          go_wp2_with fail
          go_ret
          exact ⟨rfl, B2.trans (b3.mono B2.size)⟩
        · have d1 : decide (64 < (fs.length : Int) + gs.length) = false := decide_eq_false (by omega)
          have d2 : decide (1200 < (bs.length : Int) + cs.length) = true := decide_eq_true (by omega)
          clear hbig
          go_wp2_with fail
          refine (AL.out _ B2).mono ?_
          rintro e w3 ⟨rfl, b3⟩
          go_wp2_with fail
          go_ret
          exact ⟨rfl, B2.trans (b3.mono B2.size)⟩
      · have d1 : decide (64 < (fs.length : Int) + gs.length) = false := decide_eq_false (by omega)
        have d2 : decide (1200 < (bs.length : Int) + cs.length) = false := decide_eq_false (by omega)
        have HD : Hid (decL (bs ++ cs) = .ok (fs ++ gs)) := HD0.out (by omega) (by omega)
        have hl1 : fs.length + gs.length ≤ 64 := by omega
        have hl2 : bs.length + cs.length ≤ 1200 := by omega
        clear hbig HD0
        go_enter Tryd.func6, Tryd.ntmps6
        go_wp2_with fail
        refine HE.out.mono ?_
        rintro e w1 ⟨b1, u, rfl, o1⟩
        obtain ⟨ua, uc, rfl⟩ := o1.len
        go_wp2_with fail
        refine (HK.out _ b1).mono ?_
        rintro e w2 ⟨b2, u2, rfl, o2⟩
        obtain ⟨ua2, uc2, rfl⟩ := o2.len
        have B2 : Below w.heap.size w w2 := b1.trans (b2.mono b1.size)
        have O1 := o1.rd.below b2
        have O2 := o2.rd
        have z2 := B2.size
        have nob : ∀ (B k : Nat), (Value.slice none 0 0).ownBlock = some k → B ≤ k := fun B k h => by cases h
        have l1 : Hid (([] : List Int).length + bs.length ≤ 1200) := by show _ ≤ _; simp; omega
        have l2 : Hid (([] ++ bs).length + cs.length ≤ 1200) := by show _ ≤ _; simp; omega
        go_wp2_with (first
          | (at_builtin; (refine wpList_append_rd _ rfl (.const (.slice none 0 0)) (.tmp 45) 23 rfl elemU8 Tryd.underlying23 w.heap.size (.slice none 0 0) [] rfl (Own.nil _ _ _ _) (.slice ua bs.length uc) bs rfl O1 ?_ ?_ ?_ ?_; (have := l1.out; omega); (have := l1.out; unfold maxLen; omega); (exact z2); intro v3 w3 o3 g3; have b3 : Below w.heap.size w w3 := B2.grown g3 z2 (nob _); have z3 := b3.size; have O3 := O2.below (Below.grown (Below.refl _ w2) g3 (Nat.le_refl _) (nob _))))
          | (at_builtin; (refine wpList_append_rd _ rfl (.tmp 46) (.tmp 47) 23 rfl elemU8 Tryd.underlying23 w.heap.size v3 ([] ++ bs) rfl o3 (.slice ua2 cs.length uc2) cs rfl O3 ?_ ?_ ?_ ?_; (have := l2.out; omega); (have := l2.out; unfold maxLen; omega); (exact z3); intro v4 w4 o4 g4; have b4 : Below w.heap.size w w4 := b3.grown g4 z3 o3.blk; have z4 := b4.size)))
        refine (decode_any v4 ([] ++ bs ++ cs) w4 (HT.out.below b4 hp) o4.rd (by rw [List.nil_append]; exact HBs.out.append HCs.out)).mono ?_
        rw [List.nil_append, HD.out]
        rintro e w5 ⟨b5, u5, rfl, o5⟩
        have B5 : Below w.heap.size w w5 := b4.trans (b5.mono z4)
        obtain ⟨xa, xc, hx5⟩ := o5.len
        rw [List.length_append] at hx5
        subst hx5
        have B6 : Below w.heap.size w (w5.alloc (.cells #[.int .i64 0, .int .i64 0] 37)) := B5.alloc B5.size _
        obtain ⟨lf, hlf, rf, pf, nf, of⟩ := (HR.out.below B6).parts
        obtain ⟨lg, hlg, rg, pg, ng, og⟩ := (HS.out.below B6).parts
        rw [nf] at rf
        rw [ng] at rg
        have HLF := Lib.hid hlf
        have HLG := Lib.hid hlg
        have OF : Hid (∀ u ∈ frC lf, u.oneCell' = true) := of
        have OG : Hid (∀ u ∈ frC lg, u.oneCell' = true) := og
        have PF : Hid (∀ g ∈ lf, FvRd (w5.alloc (.cells #[.int .i64 0, .int .i64 0] 37)) g) := pf
        have PG : Hid (∀ g ∈ lg, FvRd (w5.alloc (.cells #[.int .i64 0, .int .i64 0] 37)) g) := pg
        have RF := Lib.hid rf
        have RG := Lib.hid rg
        have O5 := Lib.hid o5
        have NF := Lib.hid nf
        have NG := Lib.hid ng
        have z6 := B6.size
        clear hlf hlg of og pf pg rf rg o5 O3 o3 o4 g3 g4 O1 O2 o1 o2 nf ng
        go_wp2_with (first
          | (at_builtin; (refine wpList_append_rows_w _ ?_ (.const (.slice none 0 0)) (.tmp 57) 22 rfl elemFrame Tryd.underlying22 (w5.alloc (.cells #[.int .i64 0, .int .i64 0] 37)).heap.size (.slice none 0 0) 0 [] rfl (World.ownsRow_nil _ _ _ 8) (.slice va fs.length vc) fs.length (frC lf) rfl RF.out OF.out ?_ ?_ ?_ ?_; (rfl); (omega); (unfold maxLen; omega); (exact Nat.le_refl _); intro v7 w7 o7 g7; have b67 := (Below.grown (Below.refl _ (w5.alloc (.cells #[.int .i64 0, .int .i64 0] 37))) g7 (Nat.le_refl _) (nob _)); have z7 := b67.size; have RG7 := RG.out.below b67))
          | (at_builtin; (refine wpList_append_rows_w _ ?_ (.tmp 58) (.tmp 59) 22 rfl elemFrame Tryd.underlying22 (w5.alloc (.cells #[.int .i64 0, .int .i64 0] 37)).heap.size v7 (0 + fs.length) ([] ++ frC lf) rfl o7 (.slice za gs.length zc) gs.length (frC lg) rfl RG7 OG.out ?_ ?_ ?_ ?_; (rfl); (omega); (unfold maxLen; omega); (exact z7); intro v8 w8 o8 g8; have b68 := b67.grown g8 z7 (fun k hk => (World.ownsRow.lt o7 k hk).1))))
        have B8 : Below w.heap.size w w8 := B6.trans (b68.mono z6)
        have r8 : RdF w8 v8 (fs ++ gs) := by
          have e : (lf ++ lg).length = 0 + fs.length + gs.length := by rw [List.length_append, NF.out, NG.out]; omega
          have h := RdF.of_rows (l := lf ++ lg) (v := v8) (w := w8) (B := (w5.alloc (.cells #[.int .i64 0, .int .i64 0] 37)).heap.size) (by rw [e, frC_append]; simpa using o8) (fun g hg => by
            have h := (List.mem_append.1 hg).elim (PF.out g) (PG.out g)
            exact ⟨h.1.below b68, h.2.below b68⟩)
          rw [List.map_append, HLF.out, HLG.out] at h
          exact h
        have b58 : Below w5.heap.size w5 w8 := ((Below.refl _ _).alloc (Nat.le_refl _) _).trans (b68.mono (by simp))
        have hbts : BtsF (fs ++ gs) := fun f hf => (List.mem_append.1 hf).elim (HX.out f) (HY.out f)
        refine (rsame_any _ _ (fs ++ gs) (fs ++ gs) w8 (O5.out.rd.below b58) r8 hbts hbts true (by simp)).mono ?_
        rintro e w9 ⟨rfl, b9⟩
        have B9 : Below w.heap.size w w9 := B8.trans (b9.mono B8.size)
        go_wp2_with fail
        refine (AL.out _ B9).mono ?_
        rintro e wa ⟨rfl, ba⟩
        go_wp2_with fail
        go_ret
        exact ⟨rfl, B9.trans (ba.mono B9.size)⟩
end Go.Proofs.YtfkkimaebhjneaaDoor
