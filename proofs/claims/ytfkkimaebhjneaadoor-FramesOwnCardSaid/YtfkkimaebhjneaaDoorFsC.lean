/- Walks of layer 4: two frames compared; the reference's Same (written by genOne.py). -/
import Derived.Test.YtfkkimaebhjneaaDoorFsB
import Derived.Test.YtfkkimaebhjneaaDoorFrY
set_option linter.unusedSimpArgs false
set_option linter.unusedVariables false
namespace Go.Proofs.YtfkkimaebhjneaaDoor
open Go.RowKit

def sameF (f g : Fr) : Bool := (f.kind == g.kind) && (f.stream == g.stream) && (f.offset == g.offset) && (f.n == g.n) && (f.code == g.code) && (f.fin == g.fin) && decide (f.data = g.data) && decide (f.spans = g.spans)
theorem sameF_iff (f g : Fr) : sameF f g = true ↔ f = g := by
  cases f; cases g
  simp [sameF, and_assoc]

set_option maxHeartbeats 3200000 in
theorem one_any (f g : Fr) (da sa da' sa' : Option Addr) (dc sc dc' sc' : Nat) (w : World) (hd : Rd .u8 w (.slice da f.data.length dc) f.data) (hd' : Rd .u8 w (.slice da' g.data.length dc') g.data) (hs : RdS w (.slice sa f.spans.length sc) f.spans) (hs' : RdS w (.slice sa' g.spans.length sc') g.spans) (hx : Bts f.data) (hy : Bts g.data) :
    Calls Tryd.prog 25 #[.agg #[.int .i64 f.kind, .int .i64 f.stream, .int .i64 f.offset, .int .i64 f.n, .int .i64 f.code, .bool f.fin, .slice da f.data.length dc, .slice sa f.spans.length sc], .agg #[.int .i64 g.kind, .int .i64 g.stream, .int .i64 g.offset, .int .i64 g.n, .int .i64 g.code, .bool g.fin, .slice da' g.data.length dc', .slice sa' g.spans.length sc']] w fun e w' => e = .returned (.bool (sameF f g)) ∧ Below w.heap.size w w' := by
  have hM : Hid (sameF f g = ((f.kind == g.kind) && (f.stream == g.stream) && (f.offset == g.offset) && (f.n == g.n) && (f.code == g.code) && (f.fin == g.fin) && decide (f.data = g.data) && decide (f.spans = g.spans))) := rfl
  have bW : Below w.heap.size w ((w.alloc (.cells #[.int .i64 f.kind, .int .i64 f.stream, .int .i64 f.offset, .int .i64 f.n, .int .i64 f.code, .bool f.fin, .slice da f.data.length dc, .slice sa f.spans.length sc] 33)).alloc (.cells #[.int .i64 g.kind, .int .i64 g.stream, .int .i64 g.offset, .int .i64 g.n, .int .i64 g.code, .bool g.fin, .slice da' g.data.length dc', .slice sa' g.spans.length sc'] 33)) := ((Below.refl _ _).alloc (Nat.le_refl _) _).alloc (by simp) _
  have SA := Lib.hid (same_any _ _ f.data g.data _ (hd.below bW) (hd'.below bW) hx hy)
  have SS := Lib.hid (rsameSpans_any _ _ f.spans g.spans _ (hs.below bW) (hs'.below bW))
  have HB := Lib.hid bW
  clear hd hd' hs hs' hx hy bW
  cases h1 : (f.kind == g.kind)
  · go_enter Tryd.func25, Tryd.ntmps25
    go_wp2
    go_ret
    exact ⟨ret_bool (by rw [hM.out, h1]; rfl), HB.out⟩
  cases h2 : (f.stream == g.stream)
  · go_enter Tryd.func25, Tryd.ntmps25
    go_wp2
    go_ret
    exact ⟨ret_bool (by rw [hM.out, h1, h2]; rfl), HB.out⟩
  cases h3 : (f.offset == g.offset)
  · go_enter Tryd.func25, Tryd.ntmps25
    go_wp2
    go_ret
    exact ⟨ret_bool (by rw [hM.out, h1, h2, h3]; rfl), HB.out⟩
  cases h4 : (f.n == g.n)
  · go_enter Tryd.func25, Tryd.ntmps25
    go_wp2
    go_ret
    exact ⟨ret_bool (by rw [hM.out, h1, h2, h3, h4]; rfl), HB.out⟩
  cases h5 : (f.code == g.code)
  · go_enter Tryd.func25, Tryd.ntmps25
    go_wp2
    go_ret
    exact ⟨ret_bool (by rw [hM.out, h1, h2, h3, h4, h5]; rfl), HB.out⟩
  cases h6 : (f.fin == g.fin)
  · go_enter Tryd.func25, Tryd.ntmps25
    go_wp2
    go_ret
    exact ⟨ret_bool (by rw [hM.out, h1, h2, h3, h4, h5, h6]; rfl), HB.out⟩
  go_enter Tryd.func25, Tryd.ntmps25
  go_wp2_with fail
  refine SA.out.mono ?_
  rintro e w' ⟨rfl, rfl⟩
  cases h7 : decide (f.data = g.data)
  · go_wp2_with fail
    go_ret
    exact ⟨ret_bool (by rw [hM.out, h1, h2, h3, h4, h5, h6, h7]; rfl), HB.out⟩
  go_wp2_with fail
  refine SS.out.mono ?_
  rintro e w2 ⟨rfl, b2⟩
  have B2 : Below w.heap.size w w2 := HB.out.trans (b2.mono HB.out.size)
  cases h8 : decide (f.spans = g.spans)
  · go_wp2_with fail
    go_ret
    exact ⟨ret_bool (by rw [hM.out, h1, h2, h3, h4, h5, h6, h7, h8]; rfl), B2⟩
  · go_wp2_with fail
    go_ret
    exact ⟨ret_bool (by rw [hM.out, h1, h2, h3, h4, h5, h6, h7, h8]; rfl), B2⟩

/-- frames whose bytes are bytes -/
def BtsF (fs : List Fr) : Prop := ∀ f ∈ fs, Bts f.data

set_option maxHeartbeats 3200000 in
theorem rsame_any (a b : Value) (fs gs : List Fr) (w : World) (ha : RdF w a fs) (hb : RdF w b gs) (hx : BtsF fs) (hy : BtsF gs) (r : Bool) (hres : r = true ↔ fs = gs) :
    Calls Tryd.prog 13 #[a, b] w fun e w' => e = .returned (.bool r) ∧ Below w.heap.size w w' := by
  by_cases hl : fs.length = gs.length
  · by_cases h0 : fs = []
    · subst h0
      obtain rfl : gs = [] := List.eq_nil_of_length_eq_zero (by simpa using hl.symm)
      obtain ⟨aa, ac, rfl, _, _⟩ := RdF.isSlice ha
      obtain ⟨ba, bc, rfl, _, _⟩ := RdF.isSlice hb
      obtain rfl : r = true := hres.2 rfl
      clear ha hb hx hy hres
      go_enter Tryd.func13, Tryd.ntmps13
      go_wp2_with fail
      refine wp_loop_rounds 1 ?_
      rw [rounds_succ]
      go_wp2
      go_ret
      exact ⟨rfl, Below.refl _ _⟩
    · obtain ⟨p, o, c, rfl, hp, hc1, hc2⟩ := RdF.form ha h0
      obtain ⟨p', o', c', rfl, hp', _, _⟩ := RdF.form hb (by intro h; rw [h] at hl; exact h0 (List.eq_nil_of_length_eq_zero hl))
      have hm : fs.length ≤ maxLen := by omega
      unfold maxLen at hm
      have HA := Lib.hid ha
      have HB := Lib.hid hb
      have HX := Lib.hid hx
      have HY := Lib.hid hy
      have HR := Lib.hid hres
      have hne : ((fs.length : Int) != (gs.length : Int)) = false := by simp [hl]
      have hll : fs.length = gs.length := hl
      generalize hn : gs.length = n at hll hne hb ⊢
      have HN := Lib.hid hn
      clear ha hb hl hn hx hy hres hc1 hc2
      rw [hll] at hne hm ⊢
      have HLL := Lib.hid hll
      clear hll
      go_enter Tryd.func13, Tryd.ntmps13
      go_wp2_with fail
      go_loopw [5] (fun i wr => ∃ (k : Nat), i = .int .i64 k ∧ k ≤ n ∧ fs.take k = gs.take k ∧ Below w.heap.size w wr) (fun i _ => n - (intOf i).toNat)
      case atStart => exact ⟨0, rfl, Nat.zero_le _, by simp, Below.refl _ _⟩
      case round =>
        obtain ⟨k, rfl, hk, htk, hbel⟩ := hrel
        have HTK := Lib.hid htk
        clear htk
        by_cases hlt : k < n
        · have ks : k < fs.length := by have := HLL.out; omega
          have kt : k < gs.length := by have := HN.out; omega
          obtain ⟨f, da, sa, dc, sc, hf, _, hw⟩ := HA.out.at hp k ks
          obtain ⟨g, da', sa', dc', sc', hg, _, hw'⟩ := HB.out.at hp' k kt
          have bD : Below w.heap.size w wr.drew := below_drewN hbel 1
          obtain ⟨⟨q0, q1, q2, q3, q4, q5, q6, q7⟩, d1, s1⟩ := hw wr.drew bD
          obtain ⟨⟨r0, r1, r2, r3, r4, r5, r6, r7⟩, d2, s2⟩ := hw' wr.drew bD
          have HS := take_eq_step ks kt HTK.out
          have ef : fs[k] = f := by rw [List.getElem?_eq_getElem ks] at hf; exact Option.some.inj hf
          have eg : gs[k] = g := by rw [List.getElem?_eq_getElem kt] at hg; exact Option.some.inj hg
          rw [ef, eg] at HS
          have OA := Lib.hid (one_any f g da sa da' sa' dc sc dc' sc' wr.drew d1 d2 s1 s2 (HX.out f (ef ▸ List.getElem_mem ks)) (HY.out g (eg ▸ List.getElem_mem kt)))
          have hi1 : (k : Int) < (n : Int) := by omega
          have hi2 : (0 : Int) ≤ (k : Int) := by omega
          have hw1 : IntKind.i64.wrap ((k : Int) + 1) = (k : Int) + 1 := wraps_i64' _ (by omega) (by omega)
          have hz := hbel.size
          cases hq : sameF f g
          · have HE : Hid (r = false) := by
              show _ = _
              cases hr : r
              · rfl
              · have e := HR.out.1 hr
                subst e
                have h1 := HS.1 rfl
                rw [(sameF_iff f g).2 h1] at hq
                cases hq
            rw [hq] at OA
            clear hf hg hw hw' d1 d2 s1 s2 HS ef eg hq ks kt
            go_wp2_with fail
            go_region_held3 (fun w' => w'.cell? ⟨p, o + k * 8, none⟩ = some (.int .i64 f.kind) ∧ w'.cell? ⟨p, o + k * 8 + 1, none⟩ = some (.int .i64 f.stream) ∧ w'.cell? ⟨p, o + k * 8 + 2, none⟩ = some (.int .i64 f.offset) ∧ w'.cell? ⟨p, o + k * 8 + 3, none⟩ = some (.int .i64 f.n) ∧ w'.cell? ⟨p, o + k * 8 + 4, none⟩ = some (.int .i64 f.code) ∧ w'.cell? ⟨p, o + k * 8 + 5, none⟩ = some (.bool f.fin) ∧ w'.cell? ⟨p, o + k * 8 + 6, none⟩ = some (.slice da f.data.length dc) ∧ w'.cell? ⟨p, o + k * 8 + 7, none⟩ = some (.slice sa f.spans.length sc) ∧ w'.cell? ⟨p', o' + k * 8, none⟩ = some (.int .i64 g.kind) ∧ w'.cell? ⟨p', o' + k * 8 + 1, none⟩ = some (.int .i64 g.stream) ∧ w'.cell? ⟨p', o' + k * 8 + 2, none⟩ = some (.int .i64 g.offset) ∧ w'.cell? ⟨p', o' + k * 8 + 3, none⟩ = some (.int .i64 g.n) ∧ w'.cell? ⟨p', o' + k * 8 + 4, none⟩ = some (.int .i64 g.code) ∧ w'.cell? ⟨p', o' + k * 8 + 5, none⟩ = some (.bool g.fin) ∧ w'.cell? ⟨p', o' + k * 8 + 6, none⟩ = some (.slice da' g.data.length dc') ∧ w'.cell? ⟨p', o' + k * 8 + 7, none⟩ = some (.slice sa' g.spans.length sc'))
              (first
                | (exact ⟨q0, q1, q2, q3, q4, q5, q6, q7, r0, r1, r2, r3, r4, r5, r6, r7⟩)
                | (exact ⟨(b6.cell (p := ⟨p, _, none⟩) (Nat.lt_of_lt_of_le hp hz)).trans q0, (b6.cell (p := ⟨p, _, none⟩) (Nat.lt_of_lt_of_le hp hz)).trans q1, (b6.cell (p := ⟨p, _, none⟩) (Nat.lt_of_lt_of_le hp hz)).trans q2, (b6.cell (p := ⟨p, _, none⟩) (Nat.lt_of_lt_of_le hp hz)).trans q3, (b6.cell (p := ⟨p, _, none⟩) (Nat.lt_of_lt_of_le hp hz)).trans q4, (b6.cell (p := ⟨p, _, none⟩) (Nat.lt_of_lt_of_le hp hz)).trans q5, (b6.cell (p := ⟨p, _, none⟩) (Nat.lt_of_lt_of_le hp hz)).trans q6, (b6.cell (p := ⟨p, _, none⟩) (Nat.lt_of_lt_of_le hp hz)).trans q7, (b6.cell (p := ⟨p', _, none⟩) (Nat.lt_of_lt_of_le hp' hz)).trans r0, (b6.cell (p := ⟨p', _, none⟩) (Nat.lt_of_lt_of_le hp' hz)).trans r1, (b6.cell (p := ⟨p', _, none⟩) (Nat.lt_of_lt_of_le hp' hz)).trans r2, (b6.cell (p := ⟨p', _, none⟩) (Nat.lt_of_lt_of_le hp' hz)).trans r3, (b6.cell (p := ⟨p', _, none⟩) (Nat.lt_of_lt_of_le hp' hz)).trans r4, (b6.cell (p := ⟨p', _, none⟩) (Nat.lt_of_lt_of_le hp' hz)).trans r5, (b6.cell (p := ⟨p', _, none⟩) (Nat.lt_of_lt_of_le hp' hz)).trans r6, (b6.cell (p := ⟨p', _, none⟩) (Nat.lt_of_lt_of_le hp' hz)).trans r7⟩))
              (first
                | (go_at_call 25; refine OA.out.mono ?_; rintro e w6 ⟨rfl, b6⟩))
            go_wp2
            go_ret
            rw [HE.out]
            exact ⟨rfl, bD.trans (b6.mono hz)⟩
          · have HE : Hid (fs.take (k + 1) = gs.take (k + 1)) := HS.2 ((sameF_iff f g).1 hq)
            rw [hq] at OA
            clear hf hg hw hw' d1 d2 s1 s2 HS ef eg hq ks kt
            go_wp2_with fail
            go_region_held3 (fun w' => w'.cell? ⟨p, o + k * 8, none⟩ = some (.int .i64 f.kind) ∧ w'.cell? ⟨p, o + k * 8 + 1, none⟩ = some (.int .i64 f.stream) ∧ w'.cell? ⟨p, o + k * 8 + 2, none⟩ = some (.int .i64 f.offset) ∧ w'.cell? ⟨p, o + k * 8 + 3, none⟩ = some (.int .i64 f.n) ∧ w'.cell? ⟨p, o + k * 8 + 4, none⟩ = some (.int .i64 f.code) ∧ w'.cell? ⟨p, o + k * 8 + 5, none⟩ = some (.bool f.fin) ∧ w'.cell? ⟨p, o + k * 8 + 6, none⟩ = some (.slice da f.data.length dc) ∧ w'.cell? ⟨p, o + k * 8 + 7, none⟩ = some (.slice sa f.spans.length sc) ∧ w'.cell? ⟨p', o' + k * 8, none⟩ = some (.int .i64 g.kind) ∧ w'.cell? ⟨p', o' + k * 8 + 1, none⟩ = some (.int .i64 g.stream) ∧ w'.cell? ⟨p', o' + k * 8 + 2, none⟩ = some (.int .i64 g.offset) ∧ w'.cell? ⟨p', o' + k * 8 + 3, none⟩ = some (.int .i64 g.n) ∧ w'.cell? ⟨p', o' + k * 8 + 4, none⟩ = some (.int .i64 g.code) ∧ w'.cell? ⟨p', o' + k * 8 + 5, none⟩ = some (.bool g.fin) ∧ w'.cell? ⟨p', o' + k * 8 + 6, none⟩ = some (.slice da' g.data.length dc') ∧ w'.cell? ⟨p', o' + k * 8 + 7, none⟩ = some (.slice sa' g.spans.length sc'))
              (first
                | (exact ⟨q0, q1, q2, q3, q4, q5, q6, q7, r0, r1, r2, r3, r4, r5, r6, r7⟩)
                | (exact ⟨(b6.cell (p := ⟨p, _, none⟩) (Nat.lt_of_lt_of_le hp hz)).trans q0, (b6.cell (p := ⟨p, _, none⟩) (Nat.lt_of_lt_of_le hp hz)).trans q1, (b6.cell (p := ⟨p, _, none⟩) (Nat.lt_of_lt_of_le hp hz)).trans q2, (b6.cell (p := ⟨p, _, none⟩) (Nat.lt_of_lt_of_le hp hz)).trans q3, (b6.cell (p := ⟨p, _, none⟩) (Nat.lt_of_lt_of_le hp hz)).trans q4, (b6.cell (p := ⟨p, _, none⟩) (Nat.lt_of_lt_of_le hp hz)).trans q5, (b6.cell (p := ⟨p, _, none⟩) (Nat.lt_of_lt_of_le hp hz)).trans q6, (b6.cell (p := ⟨p, _, none⟩) (Nat.lt_of_lt_of_le hp hz)).trans q7, (b6.cell (p := ⟨p', _, none⟩) (Nat.lt_of_lt_of_le hp' hz)).trans r0, (b6.cell (p := ⟨p', _, none⟩) (Nat.lt_of_lt_of_le hp' hz)).trans r1, (b6.cell (p := ⟨p', _, none⟩) (Nat.lt_of_lt_of_le hp' hz)).trans r2, (b6.cell (p := ⟨p', _, none⟩) (Nat.lt_of_lt_of_le hp' hz)).trans r3, (b6.cell (p := ⟨p', _, none⟩) (Nat.lt_of_lt_of_le hp' hz)).trans r4, (b6.cell (p := ⟨p', _, none⟩) (Nat.lt_of_lt_of_le hp' hz)).trans r5, (b6.cell (p := ⟨p', _, none⟩) (Nat.lt_of_lt_of_le hp' hz)).trans r6, (b6.cell (p := ⟨p', _, none⟩) (Nat.lt_of_lt_of_le hp' hz)).trans r7⟩))
              (first
                | (go_at_call 25; refine OA.out.mono ?_; rintro e w6 ⟨rfl, b6⟩))
            go_wp2
            exact ⟨⟨k + 1, by go_num, by omega, HE.out, bD.trans (b6.mono hz)⟩, by simp [intOf]; omega⟩
        · have hk2 : k = n := by omega
          have HE : Hid (r = true) := by
            show _ = _
            refine HR.out.2 ?_
            have h := HTK.out
            rw [hk2, List.take_of_length_le (by rw [HLL.out]; exact Nat.le_refl _), List.take_of_length_le (by rw [HN.out]; exact Nat.le_refl _)] at h
            exact h
          clear hk2
          go_wp2
          go_ret
          rw [HE.out]
          exact ⟨rfl, hbel⟩
  · obtain ⟨aa, ac, rfl, _, _⟩ := RdF.isSlice ha
    obtain ⟨ba, bc, rfl, _, _⟩ := RdF.isSlice hb
    have e : r = false := by
      cases hr : r
      · rfl
      · exact absurd (congrArg List.length (hres.1 hr)) hl
    have hne : ((fs.length : Int) != (gs.length : Int)) = true := by simp; omega
    rw [e]
    clear ha hb hl e hres hx hy
    go_enter Tryd.func13, Tryd.ntmps13
    go_wp2
    go_ret
    exact ⟨rfl, Below.refl _ _⟩
end Go.Proofs.YtfkkimaebhjneaaDoor
