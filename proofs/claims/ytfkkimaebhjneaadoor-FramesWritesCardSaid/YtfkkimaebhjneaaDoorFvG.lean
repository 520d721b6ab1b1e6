/- Walks of layer 4: the law FramesWrites. -/
import Derived.Test.YtfkkimaebhjneaaDoorFvF
set_option linter.unusedSimpArgs false
set_option linter.unusedVariables false
namespace Go.Proofs.YtfkkimaebhjneaaDoor
open Go.RowKit

/-- what both Encodes hand back, at the law's test -/
def EncOut (w : World) (r : Except Int (List Int)) (u : Value) (c : Int) (w' : World) : Prop := ∃ bs, Rd .u8 w' u bs ∧ Bts bs ∧ ((r = .ok bs ∧ c = 0) ∨ (r = .error c ∧ bs = []))
theorem EncIs.out {w : World} {fs : List Fr} {e : Ending} {w' : World} (hx : BtsF fs) (h : EncIs w (encL fs) e w') : Below w.heap.size w w' ∧ ∃ u n c bs cc, e = .returned (.tuple #[.slice u n c, .int .i64 cc]) ∧ Rd .u8 w' (.slice u n c) bs ∧ Bts bs ∧ ((encL fs = .ok bs ∧ cc = 0) ∨ (encL fs = .error cc ∧ bs = [])) := by
  cases he : encL fs with
  | error c =>
    rw [he] at h
    obtain ⟨h1, h2⟩ := h
    exact ⟨h1, none, 0, 0, [], c, h2, Rd.nil _ _, nil_bts, .inr ⟨rfl, rfl⟩⟩
  | ok bs =>
    have hb := encL_bts hx he
    rw [he] at h
    obtain ⟨h1, u, h2, h3⟩ := h
    obtain ⟨ua, uc, rfl⟩ := h3.len
    exact ⟨h1, ua, bs.length, uc, bs, 0, h2, h3.rd, hb, .inl ⟨rfl, rfl⟩⟩
theorem encOut_eq {r : Except Int (List Int)} {bs cs : List Int} {c d : Int} (h : (r = .ok bs ∧ c = 0) ∨ (r = .error c ∧ bs = [])) (k : (r = .ok cs ∧ d = 0) ∨ (r = .error d ∧ cs = [])) : bs = cs ∧ c = d := by
  rcases h with ⟨rfl, rfl⟩ | ⟨rfl, rfl⟩
  · rcases k with ⟨h, rfl⟩ | ⟨h, _⟩
    · cases h; exact ⟨rfl, rfl⟩
    · cases h
  · rcases k with ⟨h, _⟩ | ⟨h, rfl⟩
    · cases h
    · cases h; exact ⟨rfl, rfl⟩

set_option maxHeartbeats 6400000 in
theorem framesWrites_walk (v z : Value) (fs gs : List Fr) (w : World) (ht : Tab w) (hr : RdF w v fs) (hs : RdF w z gs) (hx : BtsF fs) (hy : BtsF gs) : Calls Tryd.prog 3 #[v, z] w (Yes w) := by
  have hp := ht.pos
  have HT := Lib.hid ht
  have HR := Lib.hid hr
  have HS := Lib.hid hs
  have HX := Lib.hid hx
  have HY := Lib.hid hy
  have HE := Lib.hid (encode_any v fs w ht hr)
  obtain ⟨va, vc, rfl, hv1, hv2⟩ := hr.isSlice
  obtain ⟨za, zc, rfl, hz1, hz2⟩ := hs.isSlice
  have hm : fs.length ≤ maxLen := by omega
  unfold maxLen at hm
  clear ht hr hs hx hy hv1 hv2 hz1 hz2
  have AL : Hid (∀ V, Below w.heap.size w V → Calls Tryd.prog 18 #[] V (Yes V)) := fun V hV => alive_any V (HT.out.below hV hp)
  obtain ⟨r, hres⟩ : ∃ r : Bool, r = true ↔ fs = gs := by classical exact ⟨decide (fs = gs), by simp⟩
  have HRES := Lib.hid hres
  clear hres
  go_enter Tryd.func3, Tryd.ntmps3
  go_wp2_with fail
  refine HE.out.mono ?_
  rintro e w1 h1
  obtain ⟨b1, u1, n1, c1, bs1, cc1, rfl, rd1, bt1, o1⟩ := h1.out HX.out
  go_wp2_with fail
  refine (rencode_any _ fs w1 (HR.out.below b1) HX.out).mono ?_
  rintro e w2 h2
  obtain ⟨b2, u2, n2, c2, bs2, cc2, rfl, rd2, bt2, o2⟩ := h2.out HX.out
  obtain ⟨rfl, rfl⟩ := encOut_eq o1 o2
  have rd1' := rd1.below b2
  have B2 : Below w.heap.size w w2 := b1.trans (b2.mono b1.size)
  have SA := Lib.hid (same_yes (.slice u1 n1 c1) (.slice u2 n2 c2) bs1 w2 rd1' rd2 bt1)
  clear o1 o2 h1 h2 HE rd1 rd2 rd1' bt1 bt2
  go_wp2_with fail
  refine SA.out.mono ?_
  rintro e w' ⟨rfl, rfl⟩
  have FS := Lib.hid (fsames_any _ _ fs gs w2 (HR.out.below B2) (HS.out.below B2) HX.out HY.out r HRES.out)
  go_wp2_with fail
  refine FS.out.mono ?_
  rintro e w3 ⟨rfl, b3⟩
  have B3 : Below w.heap.size w w3 := B2.trans (b3.mono B2.size)
  go_wp2_with fail
  refine (rsame_any _ _ fs gs w3 (HR.out.below B3) (HS.out.below B3) HX.out HY.out r HRES.out).mono ?_
  rintro e w4 ⟨rfl, b4⟩
  have B4 : Below w.heap.size w w4 := B3.trans (b4.mono B3.size)
  have hrr : (r != r) = false := by simp
  clear SA FS
  go_wp2_with fail
  refine (fsames_any _ _ fs fs w4 (HR.out.below B4) (HR.out.below B4) HX.out HX.out true (by simp)).mono ?_
  rintro e w5 ⟨rfl, b5⟩
  have B5 : Below w.heap.size w w5 := B4.trans (b5.mono B4.size)
  go_wp2_with fail
  have HB5 := Lib.hid B5
  go_loopw [47] (fun i wr => ∃ (k : Nat), i = .int .i64 k ∧ k ≤ fs.length ∧ Below w.heap.size w wr) (fun i _ => fs.length - (intOf i).toNat)
  case atStart => exact ⟨0, rfl, Nat.zero_le _, HB5.out⟩
  case round =>
    obtain ⟨k, rfl, hk, hbel⟩ := hrel
    have hz := hbel.size
    by_cases hlt : k < fs.length
    · obtain ⟨b, o, c', hq, hb, _, _⟩ := HR.out.form (by intro h; rw [h] at hlt; simp at hlt)
      simp only [Value.slice.injEq] at hq
      obtain ⟨rfl, _, rfl⟩ := hq
      obtain ⟨f, da, sa, dc, sc, hf, _, hw⟩ := HR.out.at hb k hlt
      obtain ⟨⟨q0, q1, q2, q3, q4, q5, q6, q7⟩, hd, hs⟩ := hw wr hbel
      have hbt := HX.out f (List.mem_of_getElem? hf)
      have HW : Hid (∀ V, Below w.heap.size w V → Rd .u8 V (.slice da f.data.length dc) f.data ∧ RdS V (.slice sa f.spans.length sc) f.spans) := fun V hV => (hw V hV).2
      have HBT := Lib.hid hbt
      have HLEN : Hid (f.data.length ≤ maxLen) := hd.len
      have hi1 : (k : Int) < (fs.length : Int) := by omega
      have hw1 : IntKind.i64.wrap ((k : Int) + 1) = (k : Int) + 1 := wraps_i64' _ (by omega) (by omega)
      have bA : Below w.heap.size w (wr.alloc (.cells #[.int .i64 f.kind, .int .i64 f.stream, .int .i64 f.offset, .int .i64 f.n, .int .i64 f.code, .bool f.fin, .slice da f.data.length dc, .slice sa f.spans.length sc] 33)) := hbel.alloc hz _
      by_cases h100 : k < 100
      · have t1 : decide ((k : Int) < 100) = true := decide_eq_true (by omega)
        have t1' : decide (k < 100) = true := decide_eq_true h100
        have B0 : Below w.heap.size w (wr.alloc (.cells #[.int .i64 f.kind, .int .i64 f.stream, .int .i64 f.offset, .int .i64 f.n, .int .i64 f.code, .bool f.fin, .slice da f.data.length dc, .slice sa f.spans.length sc] 33)).drew := below_drewN bA 1
        have hsz : wr.heap.size + 1 ≤ (wr.alloc (.cells #[.int .i64 f.kind, .int .i64 f.stream, .int .i64 f.offset, .int .i64 f.n, .int .i64 f.code, .bool f.fin, .slice da f.data.length dc, .slice sa f.spans.length sc] 33)).drew.heap.size := by show _ ≤ (wr.alloc (.cells #[.int .i64 f.kind, .int .i64 f.stream, .int .i64 f.offset, .int .i64 f.n, .int .i64 f.code, .bool f.fin, .slice da f.data.length dc, .slice sa f.spans.length sc] 33)).heap.size; simp
        have Q : ∀ V, Below (wr.heap.size + 1) (wr.alloc (.cells #[.int .i64 f.kind, .int .i64 f.stream, .int .i64 f.offset, .int .i64 f.n, .int .i64 f.code, .bool f.fin, .slice da f.data.length dc, .slice sa f.spans.length sc] 33)).drew V → (V.cell? ⟨wr.heap.size, 0, none⟩ = some (.int .i64 f.kind) ∧ V.cell? ⟨wr.heap.size, 1, none⟩ = some (.int .i64 f.stream) ∧ V.cell? ⟨wr.heap.size, 2, none⟩ = some (.int .i64 f.offset) ∧ V.cell? ⟨wr.heap.size, 3, none⟩ = some (.int .i64 f.n) ∧ V.cell? ⟨wr.heap.size, 4, none⟩ = some (.int .i64 f.code) ∧ V.cell? ⟨wr.heap.size, 5, none⟩ = some (.bool f.fin) ∧ V.cell? ⟨wr.heap.size, 6, none⟩ = some (.slice da f.data.length dc) ∧ V.cell? ⟨wr.heap.size, 7, none⟩ = some (.slice sa f.spans.length sc)) := by
          intro V hV
          have kx := (hV.block wr.heap.size (by omega)).trans (show (wr.alloc (.cells #[.int .i64 f.kind, .int .i64 f.stream, .int .i64 f.offset, .int .i64 f.n, .int .i64 f.code, .bool f.fin, .slice da f.data.length dc, .slice sa f.spans.length sc] 33)).drew.heap[wr.heap.size]? = _ from alloc_at wr (.cells #[.int .i64 f.kind, .int .i64 f.stream, .int .i64 f.offset, .int .i64 f.n, .int .i64 f.code, .bool f.fin, .slice da f.data.length dc, .slice sa f.spans.length sc] 33))
          have kc := fun i => Joins.cell_of_block kx i
          exact ⟨kc 0, kc 1, kc 2, kc 3, kc 4, kc 5, kc 6, kc 7⟩
        have QA := Q _ (Below.refl _ _)
        have HQ := Lib.hid Q
        have hmm : (mayF f != mayF f) = false := by simp
        have haa : (asksF f != asksF f) = false := by simp
        clear hf hw hd hs hbt Q bA h100
        go_wp2_with fail
        go_region_held3 (fun w' => w'.cell? ⟨wr.heap.size, 0, none⟩ = some (.int .i64 f.kind) ∧ w'.cell? ⟨wr.heap.size, 1, none⟩ = some (.int .i64 f.stream) ∧ w'.cell? ⟨wr.heap.size, 2, none⟩ = some (.int .i64 f.offset) ∧ w'.cell? ⟨wr.heap.size, 3, none⟩ = some (.int .i64 f.n) ∧ w'.cell? ⟨wr.heap.size, 4, none⟩ = some (.int .i64 f.code) ∧ w'.cell? ⟨wr.heap.size, 5, none⟩ = some (.bool f.fin) ∧ w'.cell? ⟨wr.heap.size, 6, none⟩ = some (.slice da f.data.length dc) ∧ w'.cell? ⟨wr.heap.size, 7, none⟩ = some (.slice sa f.spans.length sc))
          (first
            | (exact QA)
            | (exact HQ.out _ c6)
            | (exact HQ.out _ c7)
            | (exact HQ.out _ c8)
            | (exact HQ.out _ c9))
          (first
            | (go_at_call 14; refine (may_any f da sa dc sc _ (HW.out _ B0).1 (HW.out _ B0).2).mono ?_; rintro e w6 ⟨rfl, b6⟩; have c6 : Below (wr.heap.size + 1) (wr.alloc (.cells #[.int .i64 f.kind, .int .i64 f.stream, .int .i64 f.offset, .int .i64 f.n, .int .i64 f.code, .bool f.fin, .slice da f.data.length dc, .slice sa f.spans.length sc] 33)).drew w6 := b6.mono hsz; have B6 := B0.trans (b6.mono B0.size); have s6 := Nat.le_trans hsz b6.size)
            | (go_at_call 15; refine (rmay_any f da sa dc sc _ (HW.out _ B6).1 (HW.out _ B6).2 HBT.out HLEN.out).mono ?_; rintro e w7 ⟨rfl, b7⟩; have c7 := c6.trans (b7.mono s6); have B7 := B6.trans (b7.mono B6.size); have s7 := Nat.le_trans s6 b7.size)
            | (go_at_call 16; refine (asks_any f da sa f.data.length f.spans.length dc sc _).mono ?_; rintro e w8 ⟨rfl, b8⟩; have c8 := c7.trans (b8.mono s7); have B8 := B7.trans (b8.mono B7.size); have s8 := Nat.le_trans s7 b8.size)
            | (go_at_call 17; refine (rasks_any f da sa f.data.length f.spans.length dc sc _).mono ?_; rintro e w9 ⟨rfl, b9⟩; have c9 := c8.trans (b9.mono s8); have B9 := B8.trans (b9.mono B8.size)))
        go_wp2_with fail
        exact ⟨⟨k + 1, by go_num, by omega, B9⟩, by simp [intOf]; omega⟩
      · have t1 : decide ((k : Int) < 100) = false := decide_eq_false (by omega)
        have t1' : decide (k < 100) = false := decide_eq_false h100
        clear hf hw hd hs hbt h100
        go_wp2_with fail
        go_quiet (fail)
        go_wp2_with fail
        exact ⟨⟨k + 1, by go_num, by omega, below_drewN bA _⟩, by simp [intOf]; omega⟩
    · have hlt2 : decide ((k : Int) < (fs.length : Int)) = false := decide_eq_false (by omega)
      go_wp2_with fail
      refine (AL.out _ hbel).mono ?_
      rintro e w6 ⟨rfl, b6⟩
      go_wp2_with fail
      go_ret
      exact ⟨rfl, hbel.trans (b6.mono hz)⟩
end Go.Proofs.YtfkkimaebhjneaaDoor
