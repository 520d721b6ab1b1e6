/- Walks of layer 4: the law FramesOwn. -/
import Derived.Test.YtfkkimaebhjneaaDoorFwF
import Derived.Test.YtfkkimaebhjneaaDoorFsO
import Derived.Lib.ConvBytes
set_option linter.unusedSimpArgs false
set_option linter.unusedVariables false
namespace Go.Proofs.YtfkkimaebhjneaaDoor
open Go.RowKit

theorem rd_bytesWorld (w : World) (xs : List Int) (hx : Bts xs) (hl : xs.length ≤ maxLen) : Rd .u8 (Lib.bytesWorld w 5 (strOfNums xs)) (.slice (some ⟨w.heap.size, 0, none⟩) (strOfNums xs).size (grownCap w (strOfNums xs).size 0 5)) xs := by
  have hz := strOfNums_size xs
  have h1 := grownCap_ge w (strOfNums xs).size 0 5
  have h2 := grownCap_le_maxLen w (strOfNums xs).size 0 5 (by rw [hz]; exact hl)
  by_cases h0 : xs = []
  · subst h0
    exact .inl ⟨rfl, _, _, rfl, h2, fun h => by cases h⟩
  · refine .inr ⟨h0, w.heap.size, 0, _, by rw [hz], by rw [← hz]; exact h1, h2, ?_, fun i hi => ?_⟩
    · rw [Lib.bytesWorld_size]; omega
    · rw [Nat.zero_add, Lib.bytesWorld_cell w _ _ i (by rw [hz]; exact hi)]
      have hb := hx xs[i] (List.getElem_mem hi)
      have e : (strOfNums xs).data.toList = xs.map (fun n => UInt8.ofNat n.toNat) := by simp [strOfNums]
      rw [e]
      simp only [List.getD, List.getElem?_map, List.getElem?_eq_getElem hi, Option.map_some, Option.getD_some]
      congr 2
      simp only [UInt8.toNat_ofNat']
      omega

/-- what Decode hands back, whether it went well or not -/
theorem DecIs.parts {w : World} {r : Except (Int × Int) (List Fr)} {e : Ending} {w' : World} (h : DecIs w r e w') :
    Below w.heap.size w w' ∧ ∃ ua uc y z fs, e = .returned (.tuple #[.slice ua fs.length uc, .agg #[.int .i64 y, .int .i64 z]]) ∧ OwnF w' w.heap.size (.slice ua fs.length uc) fs ∧ ((r = .ok fs ∧ y = 0 ∧ z = 0) ∨ (r = .error (y, z) ∧ fs = [])) := by
  obtain ⟨hb, h⟩ := h
  cases r with
  | error q =>
    obtain ⟨y, z⟩ := q
    exact ⟨hb, none, 0, y, z, [], h, OwnF.nil _ _, .inr ⟨rfl, rfl⟩⟩
  | ok fs =>
    obtain ⟨u, rfl, ho⟩ := h
    obtain ⟨ua, uc, rfl⟩ := ho.len
    exact ⟨hb, ua, uc, 0, 0, fs, rfl, ho, .inl ⟨rfl, rfl, rfl⟩⟩

set_option maxHeartbeats 3200000 in
theorem framesOwn_walk0 (HRD0 : ∀ (v : Value) (xs : List Int) (w : World), Rd .u8 w v xs → Bts xs → Calls Tryd.prog 20 #[v] w (DecIs w (decL xs)))
    (v : Value) (xs : List Int) (w : World) (ht : Tab w) (hr : Rd .u8 w v xs) (hx : Bts xs) (hl : xs.length ≤ maxLen) : Calls Tryd.prog 8 #[v] w (Yes w) := by
  have HRD := Lib.hid HRD0
  have hp := ht.pos
  have HT := Lib.hid ht
  have HR := Lib.hid hr
  have HX := Lib.hid hx
  have HL := Lib.hid hl
  have HD := Lib.hid (decode_any v xs w ht hr hx)
  have k0 := hr.conv Tryd.underlying23 Tryd.underlying5 Tryd.underlying9
  clear ht hr hx hl HRD0
  have AL : Hid (∀ V, Below w.heap.size w V → Calls Tryd.prog 18 #[] V (Yes V)) := fun V hV => alive_any V (HT.out.below hV hp)
  go_enter Tryd.func8, Tryd.ntmps8
  go_wp2_with fail
  refine HD.out.mono ?_
  rintro e w1 h1
  obtain ⟨b1, ua, uc, y1, z1, fs, rfl, o1, q1⟩ := h1.parts
  obtain ⟨l, hfs, ol⟩ := OwnL.of o1
  have hlen : fs.length = l.length := by rw [← hfs, List.length_map]
  have hm : l.length ≤ maxLen := by obtain ⟨_, _, _, h1, h2⟩ := o1.rd.isSlice; omega
  unfold maxLen at hm
  rw [hlen] at o1 ol ⊢
  have B1 : Below w.heap.size w (w1.alloc (.cells #[.int .i64 y1, .int .i64 z1] 37)) := b1.alloc b1.size _
  have OL := Lib.hid (ol.below ((Below.refl _ w1).alloc (Nat.le_refl _) (.cells #[.int .i64 y1, .int .i64 z1] 37)))
  have HB1 := Lib.hid B1
  clear o1 ol h1 hfs hlen q1 b1 k0 HD
  go_wp2_with fail
  go_loopw [22] (fun iv wr => ∃ (i : Nat), iv = .int .i64 i ∧ i ≤ l.length ∧ OwnL wr w.heap.size (.slice ua l.length uc) l ∧ Below w.heap.size w wr) (fun iv _ => l.length - (intOf iv).toNat)
  case atStart => exact ⟨0, rfl, Nat.zero_le _, OL.out, HB1.out⟩
  case round =>
    obtain ⟨i, rfl, hi, hol, hbel⟩ := hrel
    have OW := Lib.hid hol
    have HB := Lib.hid hbel
    clear hol hbel
    by_cases hlt : i < l.length
    · obtain ⟨g0, cap, da, dc, sa, sc, hq, hg0, hd, hs, q6, q7⟩ := OW.out.at i hlt
      simp only [Value.slice.injEq, true_and] at hq
      obtain ⟨rfl, rfl⟩ := hq
      have hi1 : (i : Int) < (l.length : Int) := by omega
      have hw1 : IntKind.i64.wrap ((i : Int) + 1) = (i : Int) + 1 := wraps_i64' _ (by omega) (by omega)
      have hbd := OW.out.bounds i hlt
      unfold maxLen at hbd
      generalize l[i].f.data.length = nd at q6 hbd hd
      generalize l[i].f.spans.length = ns at q7 hbd hs
      have HDV := Lib.hid hd
      have HSV := Lib.hid hs
      obtain ⟨hbd1, hbd2⟩ := hbd
      have HLT := Lib.hid hlt
      clear hd hs q7
      go_wp2_with fail
      go_loopw [31] (fun kv wr => ∃ (k : Nat), kv = .int .i64 k ∧ k ≤ nd ∧ OwnL wr w.heap.size (.slice (some ⟨g0, 0, none⟩) l.length uc) l ∧ Below w.heap.size w wr) (fun kv _ => nd - (intOf kv).toNat)
      case atStart => exact ⟨0, rfl, Nat.zero_le _, OW.out, HB.out⟩
      case round =>
        obtain ⟨k, rfl, hk, hol, hbel⟩ := hrel
        have OW2 := Lib.hid hol
        have HB2 := Lib.hid hbel
        clear hol hbel q6
        by_cases hkn : k < nd
        · obtain ⟨hg2, c6, _⟩ := OW2.out.cells i HLT.out
          rw [HDV.out] at c6
          obtain ⟨g, x, zs, rfl, hBg, hgs, cx, fx, hown⟩ := OW2.out.byte i HLT.out HDV.out k hkn
          have HOwn := Lib.hid hown
          have hk1 : (k : Int) < (nd : Int) := by omega
          have hw2 : IntKind.i64.wrap ((k : Int) + 1) = (k : Int) + 1 := wraps_i64' _ (by omega) (by omega)
          clear hown
          go_wp2
          exact ⟨⟨k + 1, by go_num, by omega, OW2.out.setByte HOwn.out k _, HB2.out.setCell hBg _⟩, by simp [intOf]; omega⟩
        · have hk1 : decide ((k : Int) < (nd : Int)) = false := decide_eq_false (by omega)
          have hk1' : decide (k < nd) = false := decide_eq_false hkn
          obtain ⟨hg2, _, c7⟩ := OW2.out.cells i HLT.out
          rw [HSV.out] at c7
          clear hkn
          go_wp2_with fail
          go_loopw [51] (fun kv wr => ∃ (k : Nat), kv = .int .i64 k ∧ k ≤ ns ∧ OwnL wr w.heap.size (.slice (some ⟨g0, 0, none⟩) l.length uc) l ∧ Below w.heap.size w wr) (fun kv _ => ns - (intOf kv).toNat)
          case atStart => exact ⟨0, rfl, Nat.zero_le _, OW2.out, HB2.out⟩
          case round =>
            obtain ⟨m, rfl, hm2, hol, hbel⟩ := hrel
            have OW3 := Lib.hid hol
            have HB3 := Lib.hid hbel
            clear hol hbel c7
            by_cases hmn : m < ns
            · obtain ⟨hg3, _, c7⟩ := OW3.out.cells i HLT.out
              rw [HSV.out] at c7
              obtain ⟨g, x, y, cs, rfl, hBg, hgs, cx, cy, fz, hcs⟩ := OW3.out.span i HLT.out HSV.out m hmn
              have hk1 : (m : Int) < (ns : Int) := by omega
              have hw2 : IntKind.i64.wrap ((m : Int) + 1) = (m : Int) + 1 := wraps_i64' _ (by omega) (by omega)
              have HCS := Lib.hid hcs
              clear hcs
              go_wp2
              exact ⟨⟨m + 1, by go_num, by omega, (OW3.out.setSpan HCS.out _ _).setSpan (Joins.block_setCell HCS.out _) _ _, (HB3.out.setCell hBg _).setCell hBg _⟩, by simp [intOf]; omega⟩
            · have hk2 : decide ((m : Int) < (ns : Int)) = false := decide_eq_false (by omega)
              have hk2' : decide (m < ns) = false := decide_eq_false hmn
              clear hmn
              go_wp2
              exact ⟨⟨i + 1, by go_num, by have := HLT.out; omega, OW3.out, HB3.out⟩, by have := HLT.out; simp [intOf]; omega⟩
    · have hi1 : decide ((i : Int) < (l.length : Int)) = false := decide_eq_false (by omega)
      have hi1' : decide (i < l.length) = false := decide_eq_false hlt
      have D2 := Lib.hid (decode_any v xs wr (HT.out.below HB.out hp) (HR.out.below HB.out) HX.out)
      clear hlt
      go_wp2_with fail
      refine D2.out.mono ?_
      rintro e w5 h5
      obtain ⟨b5, ua5, uc5, y5, z5, fs5, rfl, o5, q5⟩ := h5.parts
      have B5 : Below w.heap.size w w5 := HB.out.trans (b5.mono HB.out.size)
      have B6 : Below w.heap.size w (w5.alloc (.cells #[.int .i64 y5, .int .i64 z5] 37)) := B5.alloc B5.size _
      have hcv := Lib.run_convert_string_bytes (P := Tryd.prog) (w5.alloc (.cells #[.int .i64 y5, .int .i64 z5] 37)) 9 23 5 (strOfNums xs) Tryd.underlying9 Tryd.underlying23 Tryd.underlying5
      have HO5 := Lib.hid o5
      have HQ5 := Lib.hid q5
      have HB6 := Lib.hid B6
      have HB5 := Lib.hid b5
      clear o5 q5 h5 D2 b5 B5 B6
      go_wp2_with fail
      have Bc : Below w.heap.size w (Lib.bytesWorld (w5.alloc (.cells #[.int .i64 y5, .int .i64 z5] 37)) 5 (strOfNums xs)) := HB6.out.trans ((Joins.below_bytesWorld _ _ _ _ (Nat.le_refl _)).mono HB6.out.size)
      have D3 := HRD.out _ xs _ (rd_bytesWorld (w5.alloc (.cells #[.int .i64 y5, .int .i64 z5] 37)) xs HX.out HL.out) HX.out
      have hs5 : (w5.alloc (.cells #[.int .i64 y5, .int .i64 z5] 37)).heap.size = w5.heap.size + 1 := by simp
      rw [hs5] at D3
      refine D3.mono ?_
      rintro e w7 h7
      obtain ⟨b7, ua7, uc7, y7, z7, fs7, rfl, o7, q7⟩ := h7.parts
      have hfs : fs5 = fs7 ∧ y5 = y7 ∧ z5 = z7 := by
        rcases HQ5.out with ⟨e1, e2, e3⟩ | ⟨e1, e2⟩
        · rcases q7 with ⟨f1, f2, f3⟩ | ⟨f1, f2⟩
          · rw [e1] at f1; cases f1; exact ⟨rfl, by rw [e2, f2], by rw [e3, f3]⟩
          · rw [e1] at f1; cases f1
        · rcases q7 with ⟨f1, f2, f3⟩ | ⟨f1, f2⟩
          · rw [e1] at f1; cases f1
          · rw [e1] at f1; cases f1; exact ⟨by rw [e2, f2], rfl, rfl⟩
      obtain ⟨rfl, rfl, rfl⟩ := hfs
      have hbts : BtsF fs5 := by
        rcases q7 with ⟨f1, _, _⟩ | ⟨_, f2⟩
        · exact (decL_may HX.out f1).2.1
        · rw [f2]; intro f hf; cases hf
      have B7 : Below w.heap.size w w7 := Bc.trans (b7.mono Bc.size)
      have B8 : Below w.heap.size w (w7.alloc (.cells #[.int .i64 y5, .int .i64 z5] 37)) := B7.alloc B7.size _
      have b68 : Below (w5.alloc (.cells #[.int .i64 y5, .int .i64 z5] 37)).heap.size (w5.alloc (.cells #[.int .i64 y5, .int .i64 z5] 37)) (w7.alloc (.cells #[.int .i64 y5, .int .i64 z5] 37)) := by
        have h1 := Joins.below_bytesWorld (w5.alloc (.cells #[.int .i64 y5, .int .i64 z5] 37)).heap.size (w5.alloc (.cells #[.int .i64 y5, .int .i64 z5] 37)) 5 (strOfNums xs) (Nat.le_refl _)
        have h2 := h1.trans (b7.mono h1.size)
        exact h2.alloc h2.size _
      have k8 := (HR.out.below B8).conv Tryd.underlying23 Tryd.underlying5 Tryd.underlying9
      have kq := str_eq' HX.out HX.out
      have p0 := (b68.cell (p := ⟨w5.heap.size, 0, none⟩) (by simp)).trans (Joins.cell_of_block (alloc_at w5 (.cells #[.int .i64 y5, .int .i64 z5] 37)) 0)
      have p1 := (b68.cell (p := ⟨w5.heap.size, 1, none⟩) (by simp)).trans (Joins.cell_of_block (alloc_at w5 (.cells #[.int .i64 y5, .int .i64 z5] 37)) 1)
      have HB8 := Lib.hid B8
      have SA := Lib.hid (rsame_any _ _ fs5 fs5 _ ((HO5.out.rd.below ((Below.refl _ w5).alloc (Nat.le_refl _) _)).below b68) (o7.rd.below ((Below.refl _ w7).alloc (Nat.le_refl _) (.cells #[.int .i64 y5, .int .i64 z5] 37))) hbts hbts true (by simp))
      simp only [decide_true] at kq
      have z5' : w5.heap.size < (w7.alloc (.cells #[.int .i64 y5, .int .i64 z5] 37)).heap.size := Nat.lt_of_lt_of_le (by simp) b68.size
      clear q7 o7 h7 D3 b7 B7 Bc b68 B8 hs5 hcv hbts
      go_wp2_with fail
      refine SA.out.mono ?_
      rintro e w9 ⟨rfl, b9⟩
      have q0 := (b9.cell (p := ⟨w5.heap.size, 0, none⟩) z5').trans p0
      have q1 := (b9.cell (p := ⟨w5.heap.size, 1, none⟩) z5').trans p1
      have r0 := (b9.cell (p := ⟨w7.heap.size, 0, none⟩) (by simp)).trans (Joins.cell_of_block (alloc_at w7 (.cells #[.int .i64 y5, .int .i64 z5] 37)) 0)
      have r1 := (b9.cell (p := ⟨w7.heap.size, 1, none⟩) (by simp)).trans (Joins.cell_of_block (alloc_at w7 (.cells #[.int .i64 y5, .int .i64 z5] 37)) 1)
      have B9 : Below w.heap.size w w9 := HB8.out.trans (b9.mono HB8.out.size)
      have zz := Nat.lt_of_lt_of_le z5' b9.size
      have zy : w7.heap.size < w9.heap.size := Nat.lt_of_lt_of_le (by simp) b9.size
      clear p0 p1 k8
      go_wp2_with fail
      refine (AL.out _ B9).mono ?_
      rintro e wa ⟨rfl, ba⟩
      go_wp2_with fail
      go_ret
      exact ⟨rfl, B9.trans (ba.mono B9.size)⟩

theorem framesOwn_walk (v : Value) (xs : List Int) (w : World) (ht : Tab w) (hr : Rd .u8 w v xs) (hx : Bts xs) (hl : xs.length ≤ 140737488351232) : Calls Tryd.prog 8 #[v] w (Yes w) :=
  framesOwn_walk0 rdecode_any v xs w ht hr hx (by unfold maxLen; omega)
end Go.Proofs.YtfkkimaebhjneaaDoor
