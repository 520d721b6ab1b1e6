/- Walks of layer 12: the reference's Encode. -/
import Derived.Test.YtjaeccealfeakaaHfF
set_option maxRecDepth 100000
set_option linter.unusedSimpArgs false
set_option linter.unusedVariables false
namespace Go.Proofs.Ytjaeccealfeakaa
open Go.RowKit

def slLen : Value → Nat
  | .slice _ n _ => n
  | _ => 0
theorem renc_no (v u : Value) (ls : List Int) (w : World) (hr : Rd .i64 w v ls) (hc : ¬ RightL ls) : Calls Try.prog 21 #[v, u] w fun e w' => e = .returned (.tuple #[.slice none 0 0, .int .i64 1]) ∧ w = w' := by
  have H := Lib.hid (rwords_no v ls w hr hc)
  clear hr hc
  go_enter Try.func21, Try.ntmps21
  go_wp2_with (go_at_call 11; refine H.out.mono ?_; rintro e w' ⟨rfl, rfl⟩)
  go_ret2
  exact ⟨rfl, rfl⟩
theorem or_u8 (c x : Nat) (hc : c < 128) (hx : x < 2) : bits .or .u8 ((c : Int) * 2) (x : Int) = ((2 * c + x : Nat) : Int) := by
  have := bits_join .u8 8 (by decide) wraps_u8 1 ((c : Int) * 2) (x : Int) (by omega) (by omega) (by omega) (by omega) (by omega) (by omega)
  rw [this]; omega
theorem getD_bit {l : List Nat} (h : ∀ x ∈ l, x < 2) (i : Nat) : l.getD i 0 < 2 := by
  by_cases hi : i < l.length
  · exact h _ (by simp [List.getD, hi])
  · simp [List.getD, List.getElem?_eq_none (Nat.le_of_not_lt hi)]
theorem enc_bit (W : List (Nat × Nat)) (ys : List Int) : ∀ x ∈ encN W ys, x < 2 := by
  intro x hx
  obtain ⟨s, _, hs⟩ := List.mem_flatMap.1 hx
  exact bd_bit _ _ x hs
theorem fill_bit {q : List Nat} (h : ∀ x ∈ q, x < 2) : ∀ x ∈ fillN q, x < 2 := by
  intro x hx
  rcases List.mem_append.1 hx with hx | hx
  · exact h x hx
  · rw [(List.mem_replicate.1 hx).2]; decide
theorem byte_val (c : Nat) (l : List Nat) (hc : c < 2 ^ 8) (h : bd c 8 = l) : unp [(c : Int)] = l := by rw [unp_one, Int.toNat_natCast, h]

set_option maxHeartbeats 8000000 in
theorem renc_yes (v u : Value) (ls ys : List Int) (w : World) (hr : Rd .i64 w v ls) (hu : Rd .u8 w u ys) (hy : Bts ys) (hyl : ys.length ≤ 68719476736) (hc : RightL ls) :
    Calls Try.prog 21 #[v, u] w (EncIs w (wordsN (ls.map Int.toNat)) ys) := by
  have H := Lib.hid (rwords_yes v ls w hr hc)
  have HOK := Lib.hid hc.code.words
  generalize hWd : wordsN (ls.map Int.toNat) = W at *
  have HWd := Lib.hid hWd
  have HU := Lib.hid hu
  have HY := Lib.hid hy
  obtain ⟨ua, uc, rfl⟩ := hu.isSlice
  clear hr hu hy hc hWd
  go_enter Try.func21, Try.ntmps21
  go_wp2_with (first
    | (go_at_call 11; refine H.out.mono ?_; rintro e w1 ⟨x, rfl, ho, hb⟩; rw [HWd.out] at ho; have OW := Lib.hid ho; have HB := Lib.hid hb; clear ho hb))
  refine (rbits_any _ _ W ys w1 OW.out.rd HOK.out (HU.out.below HB.out) HY.out hyl).mono ?_
  rintro e w2 ⟨hb2, ⟨hn, q0, rfl, hq0⟩ | ⟨hn, rfl⟩⟩
  · have HH := Lib.hid hn
    have hz : w.heap.size ≤ w1.heap.size := HB.out.size
    have B2 := Lib.hid (HB.out.trans (hb2.mono hz))
    have Q0 := Lib.hid (hq0.mono hz)
    have HEL := Lib.hid (enc_len HOK.out ys)
    have HBT := Lib.hid (enc_bit W ys)
    obtain ⟨qa, qc, rfl⟩ := hq0.len
    clear hn hb2 hq0 HU HY H OW
    obtain ⟨T, hT⟩ : ∃ T, T = encN W ys := ⟨_, rfl⟩
    rw [← hT] at Q0 HEL HBT ⊢
    have HTE := Lib.hid hT
    clear hT
    rw [bI_len]
    go_wp2_with fail
    go_loopw [8] (fun q wr => ∃ (Q : List Nat) (a : Option Addr) (c m : Nat), q = .slice a Q.length c ∧ Own .u8 5 wr w.heap.size q (bI Q) ∧ m ≤ (8 - T.length % 8) % 8 ∧ Hid (Q = T ++ List.replicate m 1) ∧ Below w.heap.size w wr) (fun q _ => (8 - slLen q % 8) % 8)
    case atStart =>
      exact ⟨T, qa, qc, 0, rfl, by have := Q0.out; rw [bI_len] at this; exact this, by omega, by show _ = _; simp, B2.out⟩
    case round =>
      obtain ⟨Q, qa', qc', m, rfl, ho, hm, hQ, hb⟩ := hrel
      clear Q0 B2
      have OO := Lib.hid ho
      have BB := Lib.hid hb
      have hz3 := hb.size
      have hql : Q.length = T.length + m := by rw [hQ.out, List.length_append, List.length_replicate]
      have hq47 : Q.length ≤ 1649267441664 + 8 := by have := HEL.out; omega
      clear ho hb
      by_cases h8 : Q.length % 8 = 0
      · have hdone : Hid (Q = fillN T) := by
          show _ = _
          rw [hQ.out, fillN, show m = (8 - T.length % 8) % 8 by omega]
        have d8 : ((Q.length : Int) % 8 == 0) = true := by simp; omega
        have d8a : (Q.length : Int) % 8 = 0 := by omega
        have d8b : ((Q.length : Int).tmod 8) = 0 := by rw [Int.tmod_eq_emod_of_nonneg (by omega)]; omega
        have HQB : Hid (∀ x ∈ Q, x < 2) := by show ∀ x ∈ Q, x < 2; rw [hdone.out]; exact fill_bit HBT.out
        have H8 := Lib.hid h8
        have HQ47 := Lib.hid hq47
        clear hQ hql hm hz h8 hq47 HEL HBT m
        go_wp2_with fail
        clear d8 d8a d8b
        have hQ63 : Q.length ≤ 1649267441664 + 8 := HQ47.out
        obtain ⟨w3, hw3⟩ : ∃ w3, w3 = wr := ⟨_, rfl⟩
        subst hw3
        have HZ3 := Lib.hid hz3
        go_loopw [10, 11] (fun q i wq => ∃ (j : Nat) (o : List Int), i = .int .i64 (8 * (j : Int)) ∧ 8 * j ≤ Q.length ∧ Own .u8 5 wq w3.heap.size q o ∧ Hid (unp o = Q.take (8 * j) ∧ Bts o) ∧ Below w3.heap.size w3 wq) (fun _ i _ => Q.length - (intOf i).toNat)
        case atStart => exact ⟨0, [], rfl, by omega, Own.nil _ _ _ _, ⟨by simp [unp], by intro z hz; cases hz⟩, Below.refl _ _⟩
        case round =>
          obtain ⟨j, o, rfl, hj, ho, hU, hb⟩ := hrel
          have OU := Lib.hid ho
          have B3 := Lib.hid hb
          have hz4 := hb.size
          clear ho hb
          by_cases hlt : 8 * j < Q.length
          · have hj8 : 8 * j + 8 ≤ Q.length := by have := H8.out; omega
            have dl : decide (8 * (j : Int) < (Q.length : Int)) = true := decide_eq_true (by omega)
            have QR : Hid (∃ b o, qa' = some ⟨b, o, none⟩ ∧ ∀ i, i < Q.length → wr.cell? ⟨b, o + i, none⟩ = some (.int .u8 ((Q.getD i 0 : Nat) : Int))) := by
              rcases (OO.out.below B3.out).rd with ⟨e, _⟩ | ⟨_, b, o, cp, he, h2, h3, h4, h5⟩
              · have h0 : Q.length = 0 := by have := congrArg List.length e; rw [bI_len] at this; exact this
                omega
              · simp only [Value.slice.injEq] at he
                refine ⟨b, o, he.1, fun i hi => ?_⟩
                have := h5 i (by rw [bI_len]; exact hi)
                rw [bI_get] at this
                exact this
            obtain ⟨b, ob, rfl, hcell⟩ := QR.out
            have HC := Lib.hid hcell
            clear QR hcell
            go_wp2_with fail
            go_loop [12, 13] (fun c i => ∃ (k C : Nat), k ≤ 8 ∧ i = .int .i64 (k : Int) ∧ c = .int .u8 (C : Int) ∧ C < 2 ^ k ∧ Hid (bd C k = (Q.drop (8 * j)).take k)) (fun _ i => 8 - (intOf i).toNat)
            case atStart => exact ⟨0, 0, by omega, rfl, rfl, by decide, by show _ = _; simp [bd]⟩
            case round =>
              obtain ⟨k, C, hk, rfl, rfl, hC, hB⟩ := hrel
              by_cases hk8 : k < 8
              · have dk : decide ((k : Int) < 8) = true := decide_eq_true (by omega)
                have dk' : decide (k < 8) = true := decide_eq_true (by omega)
                have hc := HC.out (8 * j + k) (by omega)
                have hx2 := getD_bit HQB.out (8 * j + k)
                have hC128 : C < 128 := by
                  have : 2 ^ k ≤ 2 ^ 7 := Nat.pow_le_pow_right (by decide) (by omega)
                  have e : (2 : Nat) ^ 7 = 128 := rfl
                  omega
                have HN : Hid (bd (2 * C + Q.getD (8 * j + k) 0) (k + 1) = (Q.drop (8 * j)).take (k + 1)) := by
                  show _ = _
                  rw [← bd_push C _ k hx2, hB.out, List.take_succ_eq_append_getElem (by rw [List.length_drop]; omega)]
                  congr 2
                  rw [List.getElem_drop]
                  simp [List.getD, show 8 * j + k < Q.length by omega]
                have HC2 : Hid (2 * C + Q.getD (8 * j + k) 0 < 2 ^ (k + 1)) := by
                  show _ < _
                  rw [Nat.pow_succ]; omega
                generalize Q.getD (8 * j + k) 0 = x at *
                have hor := or_u8 C x hC128 hx2
                have hwc : IntKind.u8.wrap ((C : Int) * 2) = (C : Int) * 2 := by rw [IntKind.wrap_u8]; omega
                have hidx : IntKind.i64.wrap (8 * (j : Int) + (k : Int)) = 8 * (j : Int) + (k : Int) := by rw [IntKind.wrap_i64]; omega
                have hi1 : (0 : Int) ≤ 8 * (j : Int) + (k : Int) := by omega
                have hi2 : 8 * (j : Int) + (k : Int) < (Q.length : Int) := by omega
                have hi3 : (8 * (j : Int) + (k : Int)).toNat = 8 * j + k := by omega
                clear hB hC hx2
                go_wp2_with fail
                go_round
                case rel => exact ⟨k + 1, 2 * C + x, by omega, by go_num, by first | rfl | go_num, HC2.out, HN⟩
                case measure => simp [intOf]; omega
              · have hk' : k = 8 := by omega
                have dk : decide ((k : Int) < 8) = false := decide_eq_false (by omega)
                have dk' : decide (k < 8) = false := decide_eq_false (by omega)
                have HCC : Hid (C < 256 ∧ bd C 8 = (Q.drop (8 * j)).take 8) := by rw [hk'] at hC hB; exact ⟨hC, hB.out⟩
                have HOL : Hid (8 * o.length = 8 * j) := by
                  show _ = _
                  have := congrArg List.length hU.out.1
                  rw [unp_len, List.length_take] at this
                  omega
                clear hk' hC hB
                go_wp2_with (at_builtin; ((with_reducible refine wpList_append_rd _ ?_ (.tmp 56) (.tmp 58) 36 ?_ elemU8 Try.underlying36 w3.heap.size u10 o ?_ (OU.out.alloc _) (.slice (some ⟨wr.heap.size, 0, none⟩) 1 1) [(C : Int)] ?_ (Rd.one .u8 5 wr _) ?_ ?_ ?_ ?_)); rfl; rfl; rfl; rfl; (have := HOL.out; simp; omega); (have := HOL.out; simp [maxLen]; omega); (simp; omega); intro v4 w4 o4 g4; have O4 := Lib.hid o4; have G4 := Lib.hid g4; clear o4 g4)
                refine ⟨⟨j + 1, o ++ [(C : Int)], by go_num, by omega, O4.out, ?_, (B3.out.alloc hz4 _).grown G4.out (by simp; omega) OU.out.blk⟩, ?_⟩
                · refine ⟨?_, hU.out.2.append (fun z hz => by rw [List.mem_singleton.1 hz]; have := HCC.out.1; omega)⟩
                  rw [unp_append, hU.out.1, byte_val C _ (by have := HCC.out.1; exact this) HCC.out.2, Nat.mul_add, List.take_add]
                · simp [intOf]; omega
          · have hend : 8 * j = Q.length := by omega
            have dl : decide (8 * (j : Int) < (Q.length : Int)) = false := decide_eq_false (by omega)
            have hU2 : Hid (unp o = fillN T ∧ Bts o) := by
              have := hU.out
              rw [hend, List.take_length, hdone.out] at this
              exact this
            clear hend hU
            go_wp2_with fail
            go_ret2
            exact ⟨BB.out.trans (B3.out.mono HZ3.out), .inl ⟨HH.out, _, o, rfl, OU.out.rd, hU2.out.2, by rw [← HTE.out]; exact hU2.out.1⟩⟩
      · have d8 : ((Q.length : Int) % 8 == 0) = false := by simp; omega
        have d8c : ((Q.length : Int) % 8 != 0) = true := by simp; omega
        have HQL := Lib.hid hql
        have HQ47 := Lib.hid hq47
        have HOL : Hid ((bI Q).length = Q.length) := bI_len Q
        have HN : Hid (Q ++ [1] = T ++ List.replicate (m + 1) 1) := by
          show _ = _; rw [hQ.out, List.append_assoc, List.replicate_succ']
        have HM : Hid (m + 1 ≤ (8 - T.length % 8) % 8 ∧ (8 - (Q.length + 1) % 8) % 8 < (8 - Q.length % 8) % 8) := by
          refine ⟨?_, ?_⟩ <;> omega
        have HB1 : Hid (bI (Q ++ [1]) = bI Q ++ [1]) := by show _ = _; rw [bI_append]; rfl
        have HLL : Hid ((bI Q ++ [1]).length = (bI Q).length + 1) := by show _ = _; simp
        clear hQ hql hq47 hm h8
        go_wp2_with (at_builtin; ((with_reducible refine wpList_append_rd _ ?_ (.tmp 34) (.tmp 35) 36 ?_ elemU8 Try.underlying36 w.heap.size (.slice qa' Q.length qc') (bI Q) ?_ (OO.out.alloc _) (.slice (some ⟨wr.heap.size, 0, none⟩) 1 1) [1] ?_ (Rd.one .u8 5 wr _) ?_ ?_ ?_ ?_)); rfl; rfl; rfl; rfl; (have := HQ47.out; rw [HOL.out]; simp; omega); (have := HQ47.out; rw [HOL.out]; simp [maxLen]; omega); (simp; omega); intro v4 w4 o4 g4; obtain ⟨a4, c4, hv4⟩ := o4.len; subst hv4; rw [HLL.out] at o4; have O4 := Lib.hid o4; have G4 := Lib.hid g4; clear o4 g4)
        go_roundw
        case rel =>
          refine ⟨Q ++ [1], a4, c4, m + 1, by simp [bI_len], ?_, HM.out.1, HN, (BB.out.alloc hz3 _).grown G4.out (by simp; omega) OO.out.blk⟩
          rw [HB1.out]; exact O4.out
        case measure => simp only [slLen]; rw [HOL.out]; exact HM.out.2
  · have e1 := Lib.hid hn
    have hz : w.heap.size ≤ w1.heap.size := HB.out.size
    have B2 := Lib.hid (HB.out.trans (hb2.mono hz))
    clear hn hb2
    go_wp2_with fail
    go_ret2
    exact ⟨B2.out, .inr ⟨e1.out, rfl⟩⟩
end Go.Proofs.Ytjaeccealfeakaa
