/- Layer 4, plain: what is decoded may be told. -/
import Derived.Test.YtfkkimaebhjneaaDoorFuC
import Derived.Test.YtfkkimaebhjneaaDoorFsO
set_option linter.unusedSimpArgs false
set_option linter.unusedVariables false
namespace Go.Proofs.YtfkkimaebhjneaaDoor
open Go.RowKit

theorem risesB_cons {least : Int} {s : Int × Int} {r : List (Int × Int)} (h1 : least ≤ s.1) (h2 : s.1 ≤ s.2) (h3 : s.2 ≤ 4611686018427387903) (h : risesB (s.2 + 2) r = true) : risesB least (s :: r) = true := by
  rw [risesB, if_neg (by omega)]; exact h
theorem moreR_rises {xs : List Int} (hx : Bts xs) : ∀ {k : Nat} {low : Int} {i j : Nat} {l l' : List (Int × Int)}, 0 ≤ low → low ≤ 4611686018427387903 → (∀ least, least ≤ low → risesB least l = true) → moreR xs k low i l = .ok (l', j) → risesB 0 l' = true ∧ l'.length = l.length + k
  | 0, low, i, j, l, l', h0, h1, hl, h => by
    simp only [moreR, Except.ok.injEq, Prod.mk.injEq] at h
    obtain ⟨rfl, _⟩ := h
    exact ⟨hl 0 h0, rfl⟩
  | k + 1, low, i, j, l, l', h0, h1, hl, h => by
    unfold moreR at h
    split at h
    · cases h
    · rename_i g j1 hg
      have e1 := atMost_ok hx hg
      split at h
      · cases h
      · rename_i s j2 hs
        have e2 := span_ok hx hs
        have e3 := moreR_rises hx (by omega) (by omega) (fun least hle => risesB_cons hle (by omega) (by omega) (hl _ (by omega))) h
        exact ⟨e3.1, by rw [e3.2, List.length_cons]; omega⟩
theorem spansR_may {xs : List Int} (hx : Bts xs) {i j : Nat} {tp : Int} {l : List (Int × Int)} (htp : tp ≤ 4611686018427387903) (h : spansR xs i tp = .ok (l, j)) : spansB l true = true := by
  unfold spansR at h
  split at h
  · cases h
  · rename_i last j1 h1
    have e1 := atMost_ok hx h1
    split at h
    · cases h
    · rename_i s j2 h2
      have e2 := span_ok hx h2
      have e3 := moreR_rises hx (l := [s]) (by omega) (by omega) (fun least hle => risesB_cons hle (by omega) (by omega) rfl) h
      have : l.length = 1 + last.toNat := e3.2
      simp only [spansB, if_true, Bool.and_eq_true, decide_eq_true_eq]
      exact ⟨by omega, e3.1⟩
theorem dataR_bts {xs ys : List Int} (hx : Bts xs) {i j : Nat} {c : Int} (h : dataR xs i c = .ok (ys, j)) : Bts ys := by
  unfold dataR at h
  split at h
  · cases h
  · simp only [Except.ok.injEq, Prod.mk.injEq] at h
    obtain ⟨rfl, rfl⟩ := h
    exact fun x hm => hx x (List.mem_of_mem_drop (List.mem_of_mem_take hm))
theorem numB_y {n : Int} (h0 : 0 ≤ n) (h1 : n ≤ 4611686018427387903) : numB n true = true := by simp [numB, h0, h1]
theorem frameR_may {xs : List Int} (hx : Bts xs) (hl : xs.length ≤ 1200) {i j : Nat} {f : Fr} (hi : i < xs.length) (h : frameR xs i = .ok (f, j)) : mayF f = true ∧ Bts f.data := by
  have hnb : Bts [] := nil_bts
  unfold frameR at h
  split at h
  · rename_i k bt j0 hk
    have hk' := hk
    obtain rfl := kindR_ok hk
    unfold restR at h
    split at h
    · obtain ⟨x, a, h1, h⟩ := thn_inv h; obtain ⟨x2, a2, h2, h⟩ := thn_inv h; obtain ⟨x3, a3, h3, h⟩ := thn_inv h
      cases h
      have e1 := num_ok hx h1; have e2 := num_ok hx h2; have e3 := spansR_may hx e1.2.1 h3
      refine ⟨?_, hnb⟩
      unfold mayF
      simp only [show hStream 2 = false from rfl, show hCode 2 = false from rfl, show hOffset 2 = false from rfl, show hN 2 = true from rfl, show hSpans 2 = true from rfl, show hData 2 = false from rfl, e3, numB_y e2.1 e2.2.1]
      rfl
    split at h
    · obtain ⟨x, a, h1, h⟩ := thn_inv h; obtain ⟨x2, a2, h2, h⟩ := thn_inv h; obtain ⟨x3, a3, h3, h⟩ := thn_inv h
      cases h
      have e1 := num_ok hx h1; have e2 := num_ok hx h2; have e3 := num_ok hx h3
      refine ⟨?_, hnb⟩
      unfold mayF
      simp only [show hStream 4 = true from rfl, show hCode 4 = true from rfl, show hOffset 4 = true from rfl, numB_y e1.1 e1.2.1, numB_y e2.1 e2.2.1, numB_y e3.1 e3.2.1]
      rfl
    split at h
    · obtain ⟨x, a, h1, h⟩ := thn_inv h; obtain ⟨x2, a2, h2, h⟩ := thn_inv h
      cases h
      have e1 := num_ok hx h1; have e2 := num_ok hx h2
      refine ⟨?_, hnb⟩
      unfold mayF
      simp only [show hStream 5 = true from rfl, show hCode 5 = true from rfl, numB_y e1.1 e1.2.1, numB_y e2.1 e2.2.1]
      rfl
    split at h
    · obtain ⟨x, a, h1, h⟩ := thn_inv h; obtain ⟨x2, a2, h2, h⟩ := thn_inv h; obtain ⟨x3, a3, h3, h⟩ := thn_inv h; obtain ⟨x4, a4, h4, h⟩ := thn_inv h
      cases h
      have e1 := num_ok hx h1
      have e2 : a ≤ a2 ∧ a2 ≤ xs.length ∧ 0 ≤ x2 ∧ x2 ≤ 4611686018427387903 := by
        unfold offR at h2
        split at h2
        · cases h2; omega
        · have := num_ok hx h2; omega
      have e3 : a2 ≤ a3 ∧ a3 ≤ xs.length ∧ 0 ≤ x3 := by
        unfold countR at h3
        split at h3
        · simp only [Except.ok.injEq, Prod.mk.injEq] at h3; omega
        · have := num_ok hx h3; omega
      unfold tailR at h4
      split at h4
      · cases h4
      · have e4 := dataR_ok (by omega) e3.2.2 h4
        refine ⟨?_, dataR_bts hx h4⟩
        have hd : dataB x4.length x2 true = true := by simp only [dataB, if_true, decide_eq_true_eq]; omega
        unfold mayF
        simp only [show hStream 8 = true from rfl, show hOffset 8 = true from rfl, show hData 8 = true from rfl, show hFin 8 = true from rfl, hd, numB_y e1.1 e1.2.1, numB_y e2.2.2.1 e2.2.2.2]
        rfl
    split at h
    · rename_i hkk
      obtain ⟨x, a, h1, h⟩ := thn_inv h
      cases h
      have e1 := num_ok hx h1
      refine ⟨?_, hnb⟩
      unfold mayF
      rcases hkk with rfl | rfl
      · simp only [show hN 16 = true from rfl, numB_y e1.1 e1.2.1]
        rfl
      · simp only [show hN 18 = true from rfl, numB_y e1.1 e1.2.1]
        rfl
    split at h
    · obtain ⟨x, a, h1, h⟩ := thn_inv h; obtain ⟨x2, a2, h2, h⟩ := thn_inv h
      cases h
      have e1 := num_ok hx h1; have e2 := num_ok hx h2
      refine ⟨?_, hnb⟩
      unfold mayF
      simp only [show hStream 17 = true from rfl, show hN 17 = true from rfl, numB_y e1.1 e1.2.1, numB_y e2.1 e2.2.1]
      rfl
    split at h
    · obtain ⟨x, a, h1, h⟩ := thn_inv h; obtain ⟨x2, a2, h2, h⟩ := thn_inv h; obtain ⟨x3, a3, h3, h⟩ := thn_inv h
      cases h
      have e1 := num_ok hx h1; have e2 := num_ok hx h2; have e3 := dataR_ok (by omega) e2.1 h3
      refine ⟨?_, dataR_bts hx h3⟩
      have hd : dataB x3.length 0 true = true := by simp only [dataB, if_true, decide_eq_true_eq]; omega
      unfold mayF
      simp only [show hCode 28 = true from rfl, show hData 28 = true from rfl, hd, numB_y e1.1 e1.2.1]
      rfl
    · rename_i n2 n4 n5 n8 n168 n17 n28
      cases h
      refine ⟨?_, hnb⟩
      have hkn : k = 0 ∨ k = 1 ∨ k = 30 := by
        unfold kindR at hk'
        split at hk'
        · cases hk'; exact absurd rfl n8
        · split at hk'
          · rename_i hn
            cases hk'
            unfold knownK at hn
            omega
          · cases hk'
      rcases hkn with rfl | rfl | rfl <;> rfl
  · cases h
theorem decGo_may {xs : List Int} (hx : Bts xs) (hl : xs.length ≤ 1200) : ∀ {k i : Nat} {l fs : List Fr}, (∀ f ∈ l, mayF f = true ∧ Bts f.data) → decGo xs k i l = .ok fs → (∀ f ∈ fs, mayF f = true ∧ Bts f.data) ∧ fs.length ≤ l.length + k
  | 0, i, l, fs, ha, h => by
    unfold decGo at h
    split at h
    · cases h
    · cases h; exact ⟨ha, by omega⟩
  | k + 1, i, l, fs, ha, h => by
    unfold decGo at h
    split at h
    · rename_i hi
      split at h
      · cases h
      · rename_i f j hf
        have e := decGo_may hx hl (fun g hg => by
          rcases List.mem_append.1 hg with hg | hg
          · exact ha g hg
          · simp at hg; subst hg; exact frameR_may hx hl hi hf) h
        exact ⟨e.1, by have := e.2; rw [List.length_append] at this; simp at this; omega⟩
    · cases h; exact ⟨ha, by omega⟩
theorem decL_may {xs : List Int} (hx : Bts xs) {fs : List Fr} (h : decL xs = .ok fs) : (∀ f ∈ fs, mayF f = true) ∧ BtsF fs ∧ fs.length ≤ 64 := by
  unfold decL at h
  split at h
  · cases h
  · have e := decGo_may hx (by omega) (fun f hf => by cases hf) h
    exact ⟨fun f hf => (e.1 f hf).1, fun f hf => (e.1 f hf).2, by simpa using e.2⟩
theorem encL_may {fs : List Fr} (h : ∀ f ∈ fs, mayF f = true) (hl : fs.length ≤ 64) {c : Int} (he : encL fs = .error c) : c = 6 := by
  unfold encL at he
  rw [if_neg (by omega), if_pos (List.all_eq_true.2 h)] at he
  split at he
  · cases he; rfl
  · cases he
theorem atMostR_err {xs : List Int} {i : Nat} {m w y z : Int} (hw : w ≠ 0) (h : atMostR xs i m w = .error (y, z)) : y ≠ 0 := by
  unfold atMostR at h
  split at h
  · split at h
    · cases h; exact hw
    · cases h
  · rename_i e hn
    cases h
    have := (num_err hn).1; omega
theorem spanR_err {xs : List Int} {i : Nat} {tp y z : Int} (h : spanR xs i tp = .error (y, z)) : y ≠ 0 := by
  unfold spanR at h
  split at h
  · cases h
  · rename_i e hn; cases h; exact atMostR_err (by omega) hn
theorem moreR_err {xs : List Int} : ∀ {k : Nat} {low : Int} {i : Nat} {l : List (Int × Int)} {y z : Int}, moreR xs k low i l = .error (y, z) → y ≠ 0
  | 0, low, i, l, y, z, h => by simp [moreR] at h
  | k + 1, low, i, l, y, z, h => by
    unfold moreR at h
    split at h
    · rename_i e hn; cases h; exact atMostR_err (by omega) hn
    · split at h
      · rename_i e hn; cases h; exact spanR_err hn
      · exact moreR_err h
theorem spansR_err {xs : List Int} {i : Nat} {tp y z : Int} (h : spansR xs i tp = .error (y, z)) : y ≠ 0 := by
  unfold spansR at h
  split at h
  · rename_i e hn; cases h; exact atMostR_err (by omega) hn
  · split at h
    · rename_i e hn; cases h; exact spanR_err hn
    · exact moreR_err h
theorem dataR_err {xs : List Int} {i : Nat} {c y z : Int} (h : dataR xs i c = .error (y, z)) : y ≠ 0 := by
  unfold dataR at h
  split at h
  · cases h; omega
  · cases h
theorem numN_err {xs : List Int} {i : Nat} {y z : Int} (h : num xs i = .error (y, z)) : y ≠ 0 := by have := (num_err h).1; omega
theorem frameR_err {xs : List Int} (hx : Bts xs) {i : Nat} {y z : Int} (h : frameR xs i = .error (y, z)) : y ≠ 0 := by
  unfold frameR at h
  split at h
  · rename_i k bt j0 hk
    unfold restR at h
    split at h
    · rcases thn_inv_err h with h | ⟨x, a, h1, h⟩
      · exact numN_err h
      rcases thn_inv_err h with h | ⟨x2, a2, h2, h⟩
      · exact numN_err h
      rcases thn_inv_err h with h | ⟨x3, a3, h3, h⟩
      · exact spansR_err h
      · cases h
    split at h
    · rcases thn_inv_err h with h | ⟨x, a, h1, h⟩
      · exact numN_err h
      rcases thn_inv_err h with h | ⟨x2, a2, h2, h⟩
      · exact numN_err h
      rcases thn_inv_err h with h | ⟨x3, a3, h3, h⟩
      · exact numN_err h
      · cases h
    split at h
    · rcases thn_inv_err h with h | ⟨x, a, h1, h⟩
      · exact numN_err h
      rcases thn_inv_err h with h | ⟨x2, a2, h2, h⟩
      · exact numN_err h
      · cases h
    split at h
    · rcases thn_inv_err h with h | ⟨x, a, h1, h⟩
      · exact numN_err h
      rcases thn_inv_err h with h | ⟨x2, a2, h2, h⟩
      · unfold offR at h
        split at h
        · cases h
        · exact numN_err h
      rcases thn_inv_err h with h | ⟨x3, a3, h3, h⟩
      · unfold countR at h
        split at h
        · cases h
        · exact numN_err h
      rcases thn_inv_err h with h | ⟨x4, a4, h4, h⟩
      · unfold tailR at h
        split at h
        · cases h; omega
        · exact dataR_err h
      · cases h
    split at h
    · rcases thn_inv_err h with h | ⟨x, a, h1, h⟩
      · exact numN_err h
      · cases h
    split at h
    · rcases thn_inv_err h with h | ⟨x, a, h1, h⟩
      · exact numN_err h
      rcases thn_inv_err h with h | ⟨x2, a2, h2, h⟩
      · exact numN_err h
      · cases h
    split at h
    · rcases thn_inv_err h with h | ⟨x, a, h1, h⟩
      · exact numN_err h
      rcases thn_inv_err h with h | ⟨x2, a2, h2, h⟩
      · exact numN_err h
      rcases thn_inv_err h with h | ⟨x3, a3, h3, h⟩
      · exact dataR_err h
      · cases h
    · cases h
  · rename_i e hk
    cases h
    unfold kindR at hk
    split at hk
    · cases hk
    · split at hk
      · cases hk
      · simp at hk; omega
/-- a fault has a number -/
theorem decGo_err {xs : List Int} (hx : Bts xs) : ∀ {k i : Nat} {l : List Fr} {y z : Int}, decGo xs k i l = .error (y, z) → y ≠ 0
  | 0, i, l, y, z, h => by
    unfold decGo at h
    split at h
    · cases h; omega
    · cases h
  | k + 1, i, l, y, z, h => by
    unfold decGo at h
    split at h
    · split at h
      · rename_i e he
        cases h
        exact frameR_err hx he
      · exact decGo_err hx h
    · cases h
theorem decL_err_ne {xs : List Int} (hx : Bts xs) {y z : Int} (h : decL xs = .error (y, z)) : y ≠ 0 := by
  unfold decL at h
  split at h
  · cases h; omega
  · exact decGo_err hx h

set_option maxHeartbeats 3200000 in
theorem framesAgain_walk (v : Value) (xs : List Int) (w : World) (ht : Tab w) (hr : Rd .u8 w v xs) (hx : Bts xs) : Calls Tryd.prog 5 #[v] w (Yes w) := by
  have hp := ht.pos
  have HT := Lib.hid ht
  have HR := Lib.hid hr
  have HX := Lib.hid hx
  have HD := Lib.hid (decode_any v xs w ht hr hx)
  clear ht hr hx
  have AL : Hid (∀ V, Below w.heap.size w V → Calls Tryd.prog 18 #[] V (Yes V)) := fun V hV => alive_any V (HT.out.below hV hp)
  cases hd : decL xs with
  | error q =>
    obtain ⟨y, t⟩ := q
    rw [hd] at HD
    have hy0 : ¬ y = 0 := decL_err_ne HX.out hd
    go_enter Tryd.func5, Tryd.ntmps5
    go_wp2_with fail
    refine HD.out.mono ?_
    rintro e w1 ⟨b1, rfl⟩
    have B1 : Below w.heap.size w (w1.alloc (.cells #[.int .i64 y, .int .i64 t] 37)) := b1.alloc b1.size _
    go_wp2_with fail
    refine (AL.out _ B1).mono ?_
    rintro e w3 ⟨rfl, b3⟩
    go_wp2_with fail
    go_ret
    exact ⟨rfl, B1.trans (b3.mono B1.size)⟩
  | ok fs =>
    obtain ⟨m1, m2, m3⟩ := decL_may HX.out hd
    have M1 := Lib.hid m1
    have M2 := Lib.hid m2
    rw [hd] at HD
    clear m1 m2 hd
    go_enter Tryd.func5, Tryd.ntmps5
    go_wp2_with fail
    refine HD.out.mono ?_
    rintro e w1 ⟨b1, u, rfl, o1⟩
    have B1 : Below w.heap.size w (w1.alloc (.cells #[.int .i64 0, .int .i64 0] 37)) := b1.alloc b1.size _
    obtain ⟨ua, uc, rfl⟩ := o1.len
    have O1 := Lib.hid (o1.rd.below ((Below.refl _ w1).alloc (Nat.le_refl _) (.cells #[.int .i64 0, .int .i64 0] 37)))
    clear o1
    go_wp2_with fail
    go_loopw [27, 6, 29, 30, 31, 32, 33] (fun i x y z p q r wr => ∃ (k : Nat), i = .int .i64 k ∧ k ≤ fs.length ∧ Below (w1.alloc (.cells #[.int .i64 0, .int .i64 0] 37)).heap.size (w1.alloc (.cells #[.int .i64 0, .int .i64 0] 37)) wr) (fun i _ _ _ _ _ _ _ => fs.length - (intOf i).toNat)
    case atStart => exact ⟨0, rfl, Nat.zero_le _, Below.refl _ _⟩
    case round =>
      obtain ⟨k, rfl, hk, hbel⟩ := hrel
      have hz := hbel.size
      have BW : Below w.heap.size w wr := B1.trans (hbel.mono B1.size)
      by_cases hlt : k < fs.length
      · obtain ⟨bb, oo, cc, hq, hb, _, _⟩ := O1.out.form (by intro h; rw [h] at hlt; simp at hlt)
        simp only [Value.slice.injEq] at hq
        obtain ⟨rfl, _, rfl⟩ := hq
        obtain ⟨f, da, sa, dc, sc, hf, _, hw⟩ := O1.out.at hb k hlt
        obtain ⟨⟨q0, q1, q2, q3, q4, q5, q6, q7⟩, _, _⟩ := hw wr hbel
        have bA : Below (w1.alloc (.cells #[.int .i64 0, .int .i64 0] 37)).heap.size (w1.alloc (.cells #[.int .i64 0, .int .i64 0] 37)) (wr.alloc (.cells #[.int .i64 f.kind, .int .i64 f.stream, .int .i64 f.offset, .int .i64 f.n, .int .i64 f.code, .bool f.fin, .slice da f.data.length dc, .slice sa f.spans.length sc] 33)) := hbel.alloc hz _
        obtain ⟨_, hdd, hss⟩ := hw _ bA
        have hmem : f ∈ fs := List.mem_of_getElem? hf
        have MA := Lib.hid (rmay_any f da sa dc sc _ hdd hss (M2.out f hmem) hdd.len)
        rw [M1.out f hmem] at MA
        have hi1 : (k : Int) < (fs.length : Int) := by omega
        have hw1 : IntKind.i64.wrap ((k : Int) + 1) = (k : Int) + 1 := wraps_i64' _ (by omega) (by omega)
        clear hf hw hdd hss hmem
        go_wp2_with (go_at_call 15; refine MA.out.mono ?_; rintro e w2 ⟨rfl, b2⟩)
        exact ⟨⟨k + 1, by go_num, by omega, bA.trans (b2.mono bA.size)⟩, by simp [intOf]; omega⟩
      · obtain rfl : k = fs.length := by omega
        have EA := Lib.hid (encode_any _ fs wr (HT.out.below BW hp) (O1.out.below hbel))
        cases he : encL fs with
        | error c =>
          obtain rfl := encL_may M1.out m3 he
          rw [he] at EA
          clear he
          go_wp2_with (go_at_call 9; refine EA.out.mono ?_; rintro e w2 ⟨b2, rfl⟩; have B2 := BW.trans (b2.mono BW.size))
          refine (AL.out _ B2).mono ?_
          rintro e w3 ⟨rfl, b3⟩
          go_wp2_with fail
          go_ret
          exact ⟨rfl, B2.trans (b3.mono B2.size)⟩
        | ok bs =>
          have HDE := Lib.hid (dec_enc he)
          have HBB := Lib.hid (encL_bts M2.out he)
          rw [he] at EA
          clear he
          go_wp2_with (go_at_call 9; refine EA.out.mono ?_; rintro e w2 ⟨b2, u2, rfl, o2⟩; obtain ⟨ua2, uc2, rfl⟩ := o2.len; have B2 := BW.trans (b2.mono BW.size))
          have D3 := decode_any _ bs w2 (HT.out.below B2 hp) o2.rd HBB.out
          rw [HDE.out] at D3
          refine D3.mono ?_
          rintro e w3 ⟨b3, u3, rfl, o3⟩
          have B3 : Below w.heap.size w w3 := B2.trans (b3.mono B2.size)
          have B4 : Below w.heap.size w (w3.alloc (.cells #[.int .i64 0, .int .i64 0] 37)) := B3.alloc B3.size _
          obtain ⟨ua3, uc3, rfl⟩ := o3.len
          have O3 := Lib.hid (o3.rd.below ((Below.refl _ w3).alloc (Nat.le_refl _) (.cells #[.int .i64 0, .int .i64 0] 37)))
          have OO := Lib.hid (O1.out.below (hbel.trans ((b2.mono hz).trans ((b3.mono (Nat.le_trans hz b2.size)).alloc (Nat.le_trans hz (Nat.le_trans b2.size b3.size)) (.cells #[.int .i64 0, .int .i64 0] 37)))))
          clear o3 D3 o2
          go_wp2_with fail
          refine (rsame_any _ _ fs fs _ OO.out O3.out M2.out M2.out true (by simp)).mono ?_
          rintro e w5 ⟨rfl, b5⟩
          have B5 : Below w.heap.size w w5 := B4.trans (b5.mono B4.size)
          go_wp2_with fail
          refine (AL.out _ B5).mono ?_
          rintro e w6 ⟨rfl, b6⟩
          go_wp2_with fail
          go_ret
          exact ⟨rfl, B5.trans (b6.mono B5.size)⟩
end Go.Proofs.YtfkkimaebhjneaaDoor
