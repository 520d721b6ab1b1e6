/- Walks of layer 4: frames compared. -/
import Derived.Test.YtfkkimaebhjneaaDoorFuC
set_option linter.unusedSimpArgs false
set_option linter.unusedVariables false
namespace Go.Proofs.YtfkkimaebhjneaaDoor
open Go.RowKit

theorem eqBytes_any (a b : Value) (xs ys : List Int) (w : World) (ha : Rd .u8 w a xs) (hb : Rd .u8 w b ys) (hx : Bts xs) (hy : Bts ys) :
    Calls Tryd.prog 43 #[a, b] w fun e w' => e = .returned (.bool (decide (xs = ys))) ∧ w' = w := by
  have h1 := ha.conv Tryd.underlying23 Tryd.underlying5 Tryd.underlying9
  have h2 := hb.conv Tryd.underlying23 Tryd.underlying5 Tryd.underlying9
  have h3 := Lib.hid (str_eq' hx hy)
  clear ha hb hx hy
  go_enter Tryd.func43, Tryd.ntmps43
  go_wp2
  go_ret
  exact ⟨ret_bool h3.out, rfl⟩
set_option maxHeartbeats 3200000 in
theorem eqSpans_any (a b : Value) (ss ts : List (Int × Int)) (w : World) (ha : RdS w a ss) (hb : RdS w b ts) :
    Calls Tryd.prog 44 #[a, b] w fun e w' => e = .returned (.bool (decide (ss = ts))) ∧ Below w.heap.size w w' := by
  by_cases hl : ss.length = ts.length
  · by_cases h0 : ss = []
    · subst h0
      obtain rfl : ts = [] := List.eq_nil_of_length_eq_zero (by simpa using hl.symm)
      obtain ⟨aa, ac, rfl, _, _⟩ := RdC.isSlice ha
      obtain ⟨ba, bc, rfl, _, _⟩ := RdC.isSlice hb
      clear ha hb
      go_enter Tryd.func44, Tryd.ntmps44
      go_wp2_with fail
      refine wp_loop_rounds 1 ?_
      rw [rounds_succ]
      go_wp2
      go_ret
      exact ⟨rfl, Below.refl _ _⟩
    · obtain ⟨p, o, c, rfl, hp⟩ := RdS.form ha h0
      obtain ⟨p', o', c', rfl, hp'⟩ := RdS.form hb (by intro h; rw [h] at hl; exact h0 (List.eq_nil_of_length_eq_zero hl))
      have hm : ss.length ≤ maxLen := by obtain ⟨_, _, e, h1, h2⟩ := RdC.isSlice ha; omega
      unfold maxLen at hm
      have HA := Lib.hid ha
      have HB := Lib.hid hb
      have HL := Lib.hid hl
      have hne : ((ss.length : Int) != (ts.length : Int)) = false := by simp [hl]
      have hll : ss.length = ts.length := hl
      generalize hn : ts.length = n at hll hne hb ⊢
      have HN := Lib.hid hn
      clear ha hb hl hn
      rw [hll] at hne hm ⊢
      have HLL := Lib.hid hll
      clear hll
      go_enter Tryd.func44, Tryd.ntmps44
      go_wp2_with fail
      go_loopw [13] (fun i wr => ∃ (k : Nat), i = .int .i64 k ∧ k ≤ n ∧ ss.take k = ts.take k ∧ Below w.heap.size w wr) (fun i _ => n - (intOf i).toNat)
      case atStart => exact ⟨0, rfl, Nat.zero_le _, by simp, Below.refl _ _⟩
      case round =>
        obtain ⟨k, rfl, hk, htk, hbel⟩ := hrel
        have HTK := Lib.hid htk
        clear htk
        by_cases hlt : k < n
        · have ks : k < ss.length := by have := HLL.out; omega
          have kt : k < ts.length := by have := HN.out; omega
          obtain ⟨q0, q1⟩ := (HA.out.below hbel).cells rfl k ks
          obtain ⟨r0, r1⟩ := (HB.out.below hbel).cells rfl k kt
          have HS := Lib.hid (take_eq_step ks kt HTK.out)
          have e1 : ss.getD k (0, 0) = ss[k] := by simp [List.getD, ks]
          have e2 : ts.getD k (0, 0) = ts[k] := by simp [List.getD, kt]
          rw [e1] at q0 q1
          rw [e2] at r0 r1
          obtain ⟨⟨x, y⟩, hxy⟩ : ∃ s, s = ss[k] := ⟨_, rfl⟩
          obtain ⟨⟨x', y'⟩, hxy'⟩ : ∃ s, s = ts[k] := ⟨_, rfl⟩
          rw [← hxy, ← hxy'] at HS
          rw [← hxy] at q0 q1
          rw [← hxy'] at r0 r1
          simp only at q0 q1 r0 r1
          have hi1 : (k : Int) < (n : Int) := by omega
          have hi2 : (0 : Int) ≤ (k : Int) := by omega
          have hw1 : IntKind.i64.wrap ((k : Int) + 1) = (k : Int) + 1 := wraps_i64' _ (by omega) (by omega)
          have d0 : wr.drew.cell? ⟨p, o + k * 2, none⟩ = some (.int .i64 x) := q0
          have d1 : wr.drew.cell? ⟨p, o + k * 2 + 1, none⟩ = some (.int .i64 y) := q1
          have d2 : wr.drew.cell? ⟨p', o' + k * 2, none⟩ = some (.int .i64 x') := r0
          have d3 : wr.drew.cell? ⟨p', o' + k * 2 + 1, none⟩ = some (.int .i64 y') := r1
          clear hxy hxy' e1 e2 ks kt
          by_cases hq : x = x' ∧ y = y'
          · obtain ⟨rfl, rfl⟩ := hq
            have HE : Hid (ss.take (k + 1) = ts.take (k + 1)) := HS.out.2 rfl
            clear HS
            go_wp2_with fail
            go_quiet (fail)
            go_wp2
            exact ⟨⟨k + 1, by go_num, by omega, HE.out, below_drewN hbel _⟩, by simp [intOf]; omega⟩
          · have HE : Hid (decide (ss = ts) = false) := by
              show _ = _
              refine decide_eq_false fun e => hq ?_
              subst e
              have := HS.out.1 rfl
              simpa using this
            clear HS
            by_cases hx : x = x'
            · have hy : (y == y') = false := by simp; exact fun e => hq ⟨hx, e⟩
              have hx2 : (x == x') = true := by simp [hx]
              clear hq hx
              go_wp2_with fail
              go_quiet (fail)
              go_wp2
              go_ret
              rw [HE.out]
              exact ⟨rfl, below_drewN hbel _⟩
            · have hx2 : (x == x') = false := by simp [hx]
              clear hq hx
              go_wp2_with fail
              go_quiet (fail)
              go_wp2
              go_ret
              rw [HE.out]
              exact ⟨rfl, below_drewN hbel _⟩
        · have hk2 : k = n := by omega
          have HE : Hid (decide (ss = ts) = true) := by
            show _ = _
            refine decide_eq_true ?_
            have h := HTK.out
            rw [hk2, List.take_of_length_le (by rw [HLL.out]; exact Nat.le_refl _), List.take_of_length_le (by rw [HN.out]; exact Nat.le_refl _)] at h
            exact h
          clear hk2
          go_wp2
          go_ret
          rw [HE.out]
          exact ⟨rfl, hbel⟩
  · obtain ⟨aa, ac, rfl, _, _⟩ := RdC.isSlice ha
    obtain ⟨ba, bc, rfl, _, _⟩ := RdC.isSlice hb
    have e : decide (ss = ts) = false := decide_eq_false fun h => hl (by rw [h])
    have hne : ((ss.length : Int) != (ts.length : Int)) = true := by simp; omega
    rw [e]
    clear ha hb hl e
    go_enter Tryd.func44, Tryd.ntmps44
    go_wp2
    go_ret
    exact ⟨rfl, Below.refl _ _⟩
set_option maxHeartbeats 3200000 in
theorem fsame_any (f g : Fr) (da sa da' sa' : Option Addr) (dc sc dc' sc' : Nat) (w : World) (hd : Rd .u8 w (.slice da f.data.length dc) f.data) (hd' : Rd .u8 w (.slice da' g.data.length dc') g.data) (hs : RdS w (.slice sa f.spans.length sc) f.spans) (hs' : RdS w (.slice sa' g.spans.length sc') g.spans) (hx : Bts f.data) (hy : Bts g.data) :
    Calls Tryd.prog 24 #[.agg #[.int .i64 f.kind, .int .i64 f.stream, .int .i64 f.offset, .int .i64 f.n, .int .i64 f.code, .bool f.fin, .slice da f.data.length dc, .slice sa f.spans.length sc], .agg #[.int .i64 g.kind, .int .i64 g.stream, .int .i64 g.offset, .int .i64 g.n, .int .i64 g.code, .bool g.fin, .slice da' g.data.length dc', .slice sa' g.spans.length sc']] w fun e w' => e = .returned (.bool (sameF f g)) ∧ Below w.heap.size w w' := by
  have hM : Hid (sameF f g = ((f.kind == g.kind) && (f.stream == g.stream) && (f.offset == g.offset) && (f.n == g.n) && (f.code == g.code) && (f.fin == g.fin) && decide (f.data = g.data) && decide (f.spans = g.spans))) := rfl
  have bW : Below w.heap.size w ((w.alloc (.cells #[.int .i64 f.kind, .int .i64 f.stream, .int .i64 f.offset, .int .i64 f.n, .int .i64 f.code, .bool f.fin, .slice da f.data.length dc, .slice sa f.spans.length sc] 33)).alloc (.cells #[.int .i64 g.kind, .int .i64 g.stream, .int .i64 g.offset, .int .i64 g.n, .int .i64 g.code, .bool g.fin, .slice da' g.data.length dc', .slice sa' g.spans.length sc'] 33)) := ((Below.refl _ _).alloc (Nat.le_refl _) _).alloc (by simp) _
  have SA := Lib.hid (eqBytes_any _ _ f.data g.data _ (hd.below bW) (hd'.below bW) hx hy)
  have SS := Lib.hid (eqSpans_any _ _ f.spans g.spans _ (hs.below bW) (hs'.below bW))
  have HB := Lib.hid bW
  clear hd hd' hs hs' hx hy bW
  cases h1 : (f.kind == g.kind)
  · go_enter Tryd.func24, Tryd.ntmps24
    go_wp2
    go_ret
    exact ⟨ret_bool (by rw [hM.out, h1]; rfl), HB.out⟩
  cases h2 : (f.stream == g.stream)
  · go_enter Tryd.func24, Tryd.ntmps24
    go_wp2
    go_ret
    exact ⟨ret_bool (by rw [hM.out, h1, h2]; rfl), HB.out⟩
  cases h3 : (f.offset == g.offset)
  · go_enter Tryd.func24, Tryd.ntmps24
    go_wp2
    go_ret
    exact ⟨ret_bool (by rw [hM.out, h1, h2, h3]; rfl), HB.out⟩
  cases h4 : (f.n == g.n)
  · go_enter Tryd.func24, Tryd.ntmps24
    go_wp2
    go_ret
    exact ⟨ret_bool (by rw [hM.out, h1, h2, h3, h4]; rfl), HB.out⟩
  cases h5 : (f.code == g.code)
  · go_enter Tryd.func24, Tryd.ntmps24
    go_wp2
    go_ret
    exact ⟨ret_bool (by rw [hM.out, h1, h2, h3, h4, h5]; rfl), HB.out⟩
  cases h6 : (f.fin == g.fin)
  · go_enter Tryd.func24, Tryd.ntmps24
    go_wp2
    go_ret
    exact ⟨ret_bool (by rw [hM.out, h1, h2, h3, h4, h5, h6]; rfl), HB.out⟩
  go_enter Tryd.func24, Tryd.ntmps24
  go_wp2_with fail
  refine SA.out.mono ?_
  rintro e w' ⟨rfl, rfl⟩
  cases h7 : decide (f.data = g.data)
  · go_wp2_with fail
    go_ret
    exact ⟨ret_bool (by rw [hM.out, h1, h2, h3, h4, h5, h6, h7]; rfl), HB.out⟩
  go_wp2_with fail
  refine SS.out.mono ?_
  rintro e w2 ⟨rfl, b2⟩
  have B2 : Below w.heap.size w w2 := HB.out.trans (b2.mono HB.out.size)
  cases h8 : decide (f.spans = g.spans)
  · go_wp2_with fail
    go_ret
    exact ⟨ret_bool (by rw [hM.out, h1, h2, h3, h4, h5, h6, h7, h8]; rfl), B2⟩
  · go_wp2_with fail
    go_ret
    exact ⟨ret_bool (by rw [hM.out, h1, h2, h3, h4, h5, h6, h7, h8]; rfl), B2⟩



set_option maxHeartbeats 3200000 in
theorem equalFunc_any (a b : Value) (fs gs : List Fr) (w : World) (ha : RdF w a fs) (hb : RdF w b gs) (hx : BtsF fs) (hy : BtsF gs) (r : Bool) (hres : r = true ↔ fs = gs) :
    Calls Tryd.prog 23 #[a, b, .func (Fn.func 24) #[] #[]] w fun e w' => e = .returned (.bool r) ∧ Below w.heap.size w w' := by
  by_cases hl : fs.length = gs.length
  · by_cases h0 : fs = []
    · subst h0
      obtain rfl : gs = [] := List.eq_nil_of_length_eq_zero (by simpa using hl.symm)
      obtain ⟨aa, ac, rfl, _, _⟩ := RdF.isSlice ha
      obtain ⟨ba, bc, rfl, _, _⟩ := RdF.isSlice hb
      obtain rfl : r = true := hres.2 rfl
      clear ha hb hx hy hres
      go_enter Tryd.func23, Tryd.ntmps23
      go_wp2_with fail
      refine wp_loop_rounds 1 ?_
      rw [rounds_succ]
      go_wp2
      go_ret
      exact ⟨rfl, Below.refl _ _⟩
    · obtain ⟨p, o, c, rfl, hp, hc1, hc2⟩ := RdF.form ha h0
      obtain ⟨p', o', c', rfl, hp', _, _⟩ := RdF.form hb (by intro h; rw [h] at hl; exact h0 (List.eq_nil_of_length_eq_zero hl))
      have hm : fs.length ≤ maxLen := by omega
      unfold maxLen at hm
      have HA := Lib.hid ha
      have HB := Lib.hid hb
      have HX := Lib.hid hx
      have HY := Lib.hid hy
      have HR := Lib.hid hres
      have hne : ((fs.length : Int) != (gs.length : Int)) = false := by simp [hl]
      have hll : fs.length = gs.length := hl
      generalize hn : gs.length = n at hll hne hb ⊢
      have HN := Lib.hid hn
      clear ha hb hl hn hx hy hres hc1 hc2
      rw [hll] at hne hm ⊢
      have HLL := Lib.hid hll
      clear hll
      go_enter Tryd.func23, Tryd.ntmps23
      go_wp2_with fail
      go_loopw [17] (fun i wr => ∃ (k : Nat), i = .int .i64 k ∧ k ≤ n ∧ fs.take k = gs.take k ∧ Below w.heap.size w wr) (fun i _ => n - (intOf i).toNat)
      case atStart => exact ⟨0, rfl, Nat.zero_le _, by simp, Below.refl _ _⟩
      case round =>
        obtain ⟨k, rfl, hk, htk, hbel⟩ := hrel
        have HTK := Lib.hid htk
        clear htk
        by_cases hlt : k < n
        · have ks : k < fs.length := by have := HLL.out; omega
          have kt : k < gs.length := by have := HN.out; omega
          obtain ⟨f, da, sa, dc, sc, hf, _, hw⟩ := HA.out.at hp k ks
          obtain ⟨g, da', sa', dc', sc', hg, _, hw'⟩ := HB.out.at hp' k kt
          have hz := hbel.size
          have b1 : Below w.heap.size w (wr.alloc (.cells #[.int .i64 f.kind, .int .i64 f.stream, .int .i64 f.offset, .int .i64 f.n, .int .i64 f.code, .bool f.fin, .slice da f.data.length dc, .slice sa f.spans.length sc] 33)) := hbel.alloc hz _
          have b2 : Below w.heap.size w ((wr.alloc (.cells #[.int .i64 f.kind, .int .i64 f.stream, .int .i64 f.offset, .int .i64 f.n, .int .i64 f.code, .bool f.fin, .slice da f.data.length dc, .slice sa f.spans.length sc] 33)).alloc (.cells #[.int .i64 g.kind, .int .i64 g.stream, .int .i64 g.offset, .int .i64 g.n, .int .i64 g.code, .bool g.fin, .slice da' g.data.length dc', .slice sa' g.spans.length sc'] 33)) := b1.alloc b1.size _
          obtain ⟨⟨q0, q1, q2, q3, q4, q5, q6, q7⟩, _, _⟩ := hw wr hbel
          obtain ⟨_, d1, s1⟩ := hw _ b2
          obtain ⟨⟨r0, r1, r2, r3, r4, r5, r6, r7⟩, _, _⟩ := hw' _ b1
          obtain ⟨_, d2, s2⟩ := hw' _ b2
          have HS := take_eq_step ks kt HTK.out
          have ef : fs[k] = f := by rw [List.getElem?_eq_getElem ks] at hf; exact Option.some.inj hf
          have eg : gs[k] = g := by rw [List.getElem?_eq_getElem kt] at hg; exact Option.some.inj hg
          rw [ef, eg] at HS
          have OA := Lib.hid (fsame_any f g da sa da' sa' dc sc dc' sc' _ d1 d2 s1 s2 (HX.out f (ef ▸ List.getElem_mem ks)) (HY.out g (eg ▸ List.getElem_mem kt)))
          have hi1 : (k : Int) < (n : Int) := by omega
          have hi2 : (0 : Int) ≤ (k : Int) := by omega
          have hw1 : IntKind.i64.wrap ((k : Int) + 1) = (k : Int) + 1 := wraps_i64' _ (by omega) (by omega)
          cases hq : sameF f g
          · have HE : Hid (r = false) := by
              show _ = _
              cases hr : r
              · rfl
              · have e := HR.out.1 hr
                subst e
                have h1 := HS.1 rfl
                rw [(sameF_iff f g).2 h1] at hq
                cases hq
            rw [hq] at OA
            clear hf hg hw hw' d1 d2 s1 s2 HS ef eg hq ks kt
            go_wp2_with (go_at_call 24; refine OA.out.mono ?_; rintro e w6 ⟨rfl, b6⟩)
            go_ret
            rw [HE.out]
            exact ⟨rfl, b2.trans (b6.mono b2.size)⟩
          · have HE : Hid (fs.take (k + 1) = gs.take (k + 1)) := HS.2 ((sameF_iff f g).1 hq)
            rw [hq] at OA
            clear hf hg hw hw' d1 d2 s1 s2 HS ef eg hq ks kt
            go_wp2_with (go_at_call 24; refine OA.out.mono ?_; rintro e w6 ⟨rfl, b6⟩)
            exact ⟨⟨k + 1, by go_num, by omega, HE.out, b2.trans (b6.mono b2.size)⟩, by simp [intOf]; omega⟩
        · have hk2 : k = n := by omega
          have HE : Hid (r = true) := by
            show _ = _
            refine HR.out.2 ?_
            have h := HTK.out
            rw [hk2, List.take_of_length_le (by rw [HLL.out]; exact Nat.le_refl _), List.take_of_length_le (by rw [HN.out]; exact Nat.le_refl _)] at h
            exact h
          clear hk2
          go_wp2
          go_ret
          rw [HE.out]
          exact ⟨rfl, hbel⟩
  · obtain ⟨aa, ac, rfl, _, _⟩ := RdF.isSlice ha
    obtain ⟨ba, bc, rfl, _, _⟩ := RdF.isSlice hb
    have e : r = false := by
      cases hr : r
      · rfl
      · exact absurd (congrArg List.length (hres.1 hr)) hl
    have hne : ((fs.length : Int) != (gs.length : Int)) = true := by simp; omega
    rw [e]
    clear ha hb hl e hres hx hy
    go_enter Tryd.func23, Tryd.ntmps23
    go_wp2
    go_ret
    exact ⟨rfl, Below.refl _ _⟩

theorem fsames_any (a b : Value) (fs gs : List Fr) (w : World) (ha : RdF w a fs) (hb : RdF w b gs) (hx : BtsF fs) (hy : BtsF gs) (r : Bool) (hres : r = true ↔ fs = gs) :
    Calls Tryd.prog 12 #[a, b] w fun e w' => e = .returned (.bool r) ∧ Below w.heap.size w w' := by
  have H := Lib.hid (equalFunc_any a b fs gs w ha hb hx hy r hres)
  clear ha hb hx hy hres
  go_enter Tryd.func12, Tryd.ntmps12
  go_wp2_with fail
  refine H.out.mono ?_
  rintro e w' ⟨rfl, hb⟩
  go_wp2
  go_ret
  exact ⟨rfl, hb⟩

/-- the reference's Asks -/
theorem rasks_any (f : Fr) (da sa : Option Addr) (dl sl dc sc : Nat) (w : World) :
    Calls Tryd.prog 17 #[.agg #[.int .i64 f.kind, .int .i64 f.stream, .int .i64 f.offset, .int .i64 f.n, .int .i64 f.code, .bool f.fin, .slice da dl dc, .slice sa sl sc]] w fun e w' => e = .returned (.bool (asksF f)) ∧ Below w.heap.size w w' := by
  have hM : Hid (asksF f = (f.kind != 0 && f.kind != 2 && f.kind != 28)) := rfl
  cases h0 : (f.kind != 0)
  · rw [h0] at hM
    go_enter Tryd.func17, Tryd.ntmps17
    go_wp2
    go_ret
    exact ⟨ret_bool (by rw [hM.out]; rfl), (Below.refl _ _).alloc (Nat.le_refl _) _⟩
  · cases h2 : (f.kind != 2)
    · rw [h0, h2] at hM
      go_enter Tryd.func17, Tryd.ntmps17
      go_wp2
      go_ret
      exact ⟨ret_bool (by rw [hM.out]; rfl), (Below.refl _ _).alloc (Nat.le_refl _) _⟩
    · rw [h0, h2] at hM
      go_enter Tryd.func17, Tryd.ntmps17
      go_wp2
      go_ret
      exact ⟨ret_bool (by rw [hM.out]; rfl), (Below.refl _ _).alloc (Nat.le_refl _) _⟩
end Go.Proofs.YtfkkimaebhjneaaDoor
