/- The law Over. -/
import Derived.Test.YtgckidgkimgpeaaRmO
set_option linter.unusedSimpArgs false
set_option linter.unusedVariables false
namespace Go.Proofs.Ytgckidgkimgpeaa
open Go.RowKit

theorem over_q {b r m : Nat} {q : St} {B : Nat} {w0 w : World} (h : Mine B b r m q w0 w) (y : Bool) (hy : overB q = y) : Calls Try.prog 13 #[.pointer (some ⟨b, 0, none⟩)] w fun e w' => e = .returned (.bool y) ∧ ∃ n, w' = w.drewN n := hy ▸ over_any w h.2.1
theorem at_q {b r m : Nat} {q : St} {B : Nat} {w0 w : World} (h : Mine B b r m q w0 w) (p : Nat) (hp : q.p = p) : Calls Try.prog 18 #[.pointer (some ⟨b, 0, none⟩)] w fun e w' => e = .returned (.int .i64 p) ∧ w' = w := hp ▸ at_any w h.2.1
theorem broken_q {b r m : Nat} {q : St} {B : Nat} {w0 w : World} (h : Mine B b r m q w0 w) (y : Bool) (hy : q.br = y) : Calls Try.prog 19 #[.pointer (some ⟨b, 0, none⟩)] w fun e w' => e = .returned (.bool y) ∧ w' = w := hy ▸ broken_any w h.2.1
theorem end_known {b r m : Nat} {q : St} {B : Nat} {w0 w : World} (h : Mine B b r m q w0 w) (x : Int) (hx : q.e = x) (h1 : x ≠ -1) : Calls Try.prog 20 #[.pointer (some ⟨b, 0, none⟩)] w fun e w' => e = .returned (.tuple #[.int .i64 x, .bool true]) ∧ w' = w := by
  subst hx
  have := end_any w h.2.1
  rw [if_neg h1, decide_eq_false h1] at this
  exact this
theorem end_some {b r m : Nat} {q : St} {B : Nat} {w0 w : World} (h : Mine B b r m q w0 w) : ∃ (x : Int) (y : Bool), Calls Try.prog 20 #[.pointer (some ⟨b, 0, none⟩)] w fun e w' => e = .returned (.tuple #[.int .i64 x, .bool y]) ∧ w' = w := ⟨_, _, end_any w h.2.1⟩
theorem over_same {q q' : St} (h : q'.p = q.p ∧ q'.br = q.br ∧ q'.e = q.e) : overB q' = overB q := by unfold overB; rw [h.1, h.2.1, h.2.2]
set_option maxRecDepth 100000 in
set_option maxHeartbeats 6400000 in
theorem over_no (x : Int) (v : Value) (w : World) (hn : withinB x 1 4096 = false) : Calls Try.prog 5 #[.int .i64 x, v] w (Yes w) := by
  have HN := Lib.hid hn
  clear hn
  go_enter Try.func5, Try.ntmps5
  go_wp2_with (first
    | (go_at_call 8; refine (new_not x _ HN.out).mono ?_; rintro e w1 ⟨rfl, h⟩; obtain rfl : w = w1 := h.symm)
    | (go_at_call 9; refine (alive_any _).mono ?_; rintro e w2 ⟨rfl, hb2⟩))
  go_ret
  exact ⟨rfl, hb2⟩
set_option maxRecDepth 100000 in
set_option maxHeartbeats 6400000 in
theorem over_none (x : Int) (a : Option Addr) (c : Nat) (w : World) (hn : withinB x 1 4096 = true) : Calls Try.prog 5 #[.int .i64 x, .slice a 0 c] w (Yes w) := by
  have HN := Lib.hid hn
  clear hn
  go_enter Try.func5, Try.ntmps5
  go_wp2_with (first
    | (go_at_call 8; refine (new_yes x _ HN.out).mono ?_; rintro e w1 ⟨b, r, m, rfl, hM1⟩; have HM1 := Lib.hid hM1; clear hM1)
    | (go_at_call 9; refine (alive_any _).mono ?_; rintro e w2 ⟨rfl, hb2⟩; have HM2 := Lib.hid (HM1.out.below hb2); clear hb2))
  refine wp_loop_rounds 1 ?_
  rw [rounds_succ]
  go_wp2_with fail
  go_ret
  exact ⟨rfl, HM2.out.2.2.2⟩
set_option maxRecDepth 100000 in
set_option maxHeartbeats 6400000 in
theorem over_some (x : Int) (bl o c : Nat) (l : List ActV) (w : World) (hn : withinB x 1 4096 = true) (hR : RdA w (.slice (some ⟨bl, o, none⟩) l.length c) l) (hb : bl < w.heap.size) (hc : l.length ≤ c) (hm : c ≤ maxLen) (hok : ∀ y ∈ l, ActOk w y) :
    Calls Try.prog 5 #[.int .i64 x, .slice (some ⟨bl, o, none⟩) l.length c] w (Yes w) := by
  unfold maxLen at hm
  have AT := Lib.hid (fun k (hk : k < l.length) W hW => hR.at hb k hk W hW)
  have OK := Lib.hid (fun k (hk : k < l.length) => hok _ (List.getElem_mem hk))
  have HN := Lib.hid hn
  clear hR hok hb hn
  go_enter Try.func5, Try.ntmps5
  go_wp2_with (first
    | (go_at_call 8; refine (new_yes x _ HN.out).mono ?_; rintro e w1 ⟨b, r, m, rfl, hM1⟩; have HM1 := Lib.hid hM1; clear hM1)
    | (go_at_call 9; refine (alive_any _).mono ?_; rintro e w2 ⟨rfl, hb2⟩; have HM2 := Lib.hid (HM1.out.below hb2); clear hb2))
  go_loopw [34] (fun i wr => ∃ (k : Nat) (q : St), i = .int .i64 k ∧ k ≤ l.length ∧ Mine w.heap.size b r m q w wr) (fun i _ => l.length - (intOf i).toNat)
  case atStart => exact ⟨0, _, rfl, Nat.zero_le _, HM2.out⟩
  case round =>
    obtain ⟨k, q, rfl, hk, hM⟩ := hrel
    have HM := Lib.hid hM
    clear hM
    by_cases hlt : k < l.length
    · obtain ⟨pp, hpp⟩ : ∃ pp, q.p = pp := ⟨_, rfl⟩
      obtain ⟨bb, hbb⟩ : ∃ bb, q.br = bb := ⟨_, rfl⟩
      obtain ⟨ee, hee⟩ : ∃ ee, q.e = ee := ⟨_, rfl⟩
      have HP := Lib.hid hpp
      have HBr := Lib.hid hbb
      have HEn := Lib.hid hee
      clear hpp hbb hee
      have hi1 : (k : Int) < (l.length : Int) := by omega
      have hi2 : (0 : Int) ≤ (k : Int) := by omega
      have hw1 : IntKind.i64.wrap ((k : Int) + 1) = (k : Int) + 1 := wraps_i64' _ (by omega) (by omega)
      obtain ⟨a0, a1, a2, a3⟩ := AT.out k hlt wr HM.out.2.2.2
      have hcc := OK.out k hlt
      generalize l[k] = cc at a0 a1 a2 a3 hcc
      obtain ⟨kk, n, bv, bs, fin⟩ := cc
      obtain ⟨hkk, hsp⟩ := hcc
      simp only at a0 a1 a2 a3 hkk hsp
      obtain ⟨sa, sc, rfl⟩ := hsp.isSlice
      have hlb := hsp.len
      unfold maxLen at hlb
      have HAp : Hid (bs ≠ [] → ∀ j, (Value.slice sa bs.length sc).ownBlock = some j → j ≠ b ∧ j ≠ r ∧ j ≠ m) := fun h0 j hj => by
        have h1 := hsp.blt h0 j hj
        have h2 := HM.out.2.2.1
        exact ⟨by omega, by omega, by omega⟩
      have HM6 := Lib.hid (HM.out.below (below1 wr (.cells #[.int .u8 kk, .int .i64 n, .slice sa bs.length sc, .bool fin] 37)))
      have HS6 := Lib.hid (hsp.below HM6.out.2.2.2)
      have CB : Hid (Cs (wr.alloc (.cells #[.int .u8 kk, .int .i64 n, .slice sa bs.length sc, .bool fin] 37)) wr.heap.size [.int .u8 kk, .int .i64 n, .slice sa bs.length sc, .bool fin]) := Cs.made wr #[.int .u8 kk, .int .i64 n, .slice sa bs.length sc, .bool fin] 37
      have hlt6 := HM.out.2.1.lt
      have HNB : Hid (wr.heap.size ∉ [b, r, m]) := fun hh => by simp at hh; omega
      have hmod : kk.tmod 3 = kk % 3 := Int.tmod_eq_emod_of_nonneg hkk.1
      have hmw : kk % 3 = 0 ∨ kk % 3 = 1 ∨ kk % 3 = 2 := by omega
      clear hsp hlt6
      go_upto_region 7 with fail
      generalize wr.alloc (.cells #[.int .u8 kk, .int .i64 n, .slice sa bs.length sc, .bool fin] 37) = w6 at HM6 HS6 CB ⊢
      clear a0 a1 a2 a3 hm
      have tok1 : True := trivial
      have tok2 : True := trivial
      have tok3 : True := trivial
      have tok4 : True := trivial
      have tok5 : True := trivial
      have hqb := neqBool
      obtain ⟨ov, hov⟩ : ∃ ov, overB q = ov := ⟨_, rfl⟩
      have HOv := Lib.hid hov
      cases ov
      · clear hov
        rcases hmw with h | h | h
        · have m0 : (kk.tmod 3 == 0) = true := by rw [hmod, h]; rfl
          have m0' : (kk % 3 == 0) = true := by rw [h]; rfl
          have HC := Lib.hid (fun W (hW : Mine w.heap.size b r m q w W) (hS : Rd .u8 W (.slice sa bs.length sc) bs) => data_mine hW n (.slice sa bs.length sc) bs fin hS HAp.out)
          clear h hmod
          go_wp2_with (first
            | (go_at_call 13; have _t := tok1; refine (over_q HM6.out _ HOv.out).mono ?_; rintro e w9 ⟨rfl, nn, rfl⟩; have HM8 := Lib.hid (HM6.out.drewN nn); have HS8 := Lib.hid (HS6.out.below (below_drewN (Below.refl _ w6) nn)); have CB8 : Hid (Cs (w6.drewN nn) wr.heap.size [.int .u8 kk, .int .i64 n, .slice sa bs.length sc, .bool fin]) := CB.out; generalize w6.drewN nn = w8 at HM8 HS8 CB8 ⊢; have c0 := CB8.out.get 0 _ rfl; have c1 := CB8.out.get 1 _ rfl; have c2 := CB8.out.get 2 _ rfl; have c3 := CB8.out.get 3 _ rfl; clear tok1)
            | (go_at_call 18; have _t := tok2; refine (at_q HM8.out _ HP.out).mono ?_; rintro e w9 ⟨rfl, h9⟩; obtain rfl := h9.symm; clear tok2)
            | (go_at_call 19; have _t := tok3; refine (broken_q HM8.out _ HBr.out).mono ?_; rintro e w9 ⟨rfl, h9⟩; obtain rfl := h9.symm; clear tok3)
            | (go_at_call 20; have _t := tok4; obtain ⟨x8, y8, hc8⟩ := end_some HM8.out; refine hc8.mono ?_; rintro e w9 ⟨rfl, h9⟩; obtain rfl := h9.symm; clear hc8 tok4)
            | (go_at_call 10; refine (HC.out _ HM8.out HS8.out).mono ?_; rintro e w7 ⟨rfl, hM7, hK7⟩; have HM7 := Lib.hid hM7; clear hM7 hK7)
            | (go_at_call 20; obtain ⟨x7, y7, hc9⟩ := end_some HM7.out; refine hc9.mono ?_; rintro e w9 ⟨rfl, h9⟩; obtain rfl := h9.symm; clear hc9))
          exact ⟨⟨k + 1, _, by go_num, hlt, HM7.out⟩, by simp [intOf, hw1]; omega⟩
        · have m0 : (kk.tmod 3 == 0) = false := by rw [hmod, h]; rfl
          have m0' : (kk % 3 == 0) = false := by rw [h]; rfl
          have m1 : (kk.tmod 3 == 1) = true := by rw [hmod, h]; rfl
          have m1' : (kk % 3 == 1) = true := by rw [h]; rfl
          have HC := Lib.hid (fun W (hW : Mine w.heap.size b r m q w W) => read_mine hW n)
          clear h hmod
          go_wp2_with (first
            | (go_at_call 13; have _t := tok1; refine (over_q HM6.out _ HOv.out).mono ?_; rintro e w9 ⟨rfl, nn, rfl⟩; have HM8 := Lib.hid (HM6.out.drewN nn); have HS8 := Lib.hid (HS6.out.below (below_drewN (Below.refl _ w6) nn)); have CB8 : Hid (Cs (w6.drewN nn) wr.heap.size [.int .u8 kk, .int .i64 n, .slice sa bs.length sc, .bool fin]) := CB.out; generalize w6.drewN nn = w8 at HM8 HS8 CB8 ⊢; have c0 := CB8.out.get 0 _ rfl; have c1 := CB8.out.get 1 _ rfl; have c2 := CB8.out.get 2 _ rfl; have c3 := CB8.out.get 3 _ rfl; clear tok1)
            | (go_at_call 18; have _t := tok2; refine (at_q HM8.out _ HP.out).mono ?_; rintro e w9 ⟨rfl, h9⟩; obtain rfl := h9.symm; clear tok2)
            | (go_at_call 19; have _t := tok3; refine (broken_q HM8.out _ HBr.out).mono ?_; rintro e w9 ⟨rfl, h9⟩; obtain rfl := h9.symm; clear tok3)
            | (go_at_call 20; have _t := tok4; obtain ⟨x8, y8, hc8⟩ := end_some HM8.out; refine hc8.mono ?_; rintro e w9 ⟨rfl, h9⟩; obtain rfl := h9.symm; clear hc8 tok4)
            | (go_at_call 11; have _t := tok5; refine (HC.out _ HM8.out).mono ?_; rintro e w7 ⟨v7, rfl, hG7, hM7, hK7⟩; obtain ⟨a7, c7, rfl⟩ := hG7.shape; have d1 := hK7.cell c1 HNB.out; have HM7 := Lib.hid hM7; clear hM7 hK7; clear hG7 tok5)
            | (go_at_call 20; obtain ⟨x7, y7, hc9⟩ := end_some HM7.out; refine hc9.mono ?_; rintro e w9 ⟨rfl, h9⟩; obtain rfl := h9.symm; clear hc9))
          exact ⟨⟨k + 1, _, by go_num, hlt, HM7.out⟩, by simp [intOf, hw1]; omega⟩
        · have m0 : (kk.tmod 3 == 0) = false := by rw [hmod, h]; rfl
          have m0' : (kk % 3 == 0) = false := by rw [h]; rfl
          have m1 : (kk.tmod 3 == 1) = false := by rw [hmod, h]; rfl
          have m1' : (kk % 3 == 1) = false := by rw [h]; rfl
          have HC := Lib.hid (fun W (hW : Mine w.heap.size b r m q w W) => reset_mine hW n)
          clear h hmod
          go_wp2_with (first
            | (go_at_call 13; have _t := tok1; refine (over_q HM6.out _ HOv.out).mono ?_; rintro e w9 ⟨rfl, nn, rfl⟩; have HM8 := Lib.hid (HM6.out.drewN nn); have HS8 := Lib.hid (HS6.out.below (below_drewN (Below.refl _ w6) nn)); have CB8 : Hid (Cs (w6.drewN nn) wr.heap.size [.int .u8 kk, .int .i64 n, .slice sa bs.length sc, .bool fin]) := CB.out; generalize w6.drewN nn = w8 at HM8 HS8 CB8 ⊢; have c0 := CB8.out.get 0 _ rfl; have c1 := CB8.out.get 1 _ rfl; have c2 := CB8.out.get 2 _ rfl; have c3 := CB8.out.get 3 _ rfl; clear tok1)
            | (go_at_call 18; have _t := tok2; refine (at_q HM8.out _ HP.out).mono ?_; rintro e w9 ⟨rfl, h9⟩; obtain rfl := h9.symm; clear tok2)
            | (go_at_call 19; have _t := tok3; refine (broken_q HM8.out _ HBr.out).mono ?_; rintro e w9 ⟨rfl, h9⟩; obtain rfl := h9.symm; clear tok3)
            | (go_at_call 20; have _t := tok4; obtain ⟨x8, y8, hc8⟩ := end_some HM8.out; refine hc8.mono ?_; rintro e w9 ⟨rfl, h9⟩; obtain rfl := h9.symm; clear hc8 tok4)
            | (go_at_call 15; refine (HC.out _ HM8.out).mono ?_; rintro e w7 ⟨rfl, hM7, hK7⟩; have HM7 := Lib.hid hM7; clear hM7 hK7)
            | (go_at_call 20; obtain ⟨x7, y7, hc9⟩ := end_some HM7.out; refine hc9.mono ?_; rintro e w9 ⟨rfl, h9⟩; obtain rfl := h9.symm; clear hc9))
          exact ⟨⟨k + 1, _, by go_num, hlt, HM7.out⟩, by simp [intOf, hw1]; omega⟩
      · have HEk : Hid (ee ≠ -1) := HEn.out ▸ over_known HM.out.1 hov
        rcases hmw with h | h | h
        · have m0 : (kk.tmod 3 == 0) = true := by rw [hmod, h]; rfl
          have m0' : (kk % 3 == 0) = true := by rw [h]; rfl
          have HC := Lib.hid (fun W (hW : Mine w.heap.size b r m q w W) (hS : Rd .u8 W (.slice sa bs.length sc) bs) => data_mine hW n (.slice sa bs.length sc) bs fin hS HAp.out)
          have hsame := over_data HM.out.1 hov n bs fin
          have HEn' : Hid ((dataE q n bs fin).1.e = ee) := hsame.2.2.trans HEn.out
          have HP' : Hid ((dataE q n bs fin).1.p = pp) := hsame.1.trans HP.out
          have HBr' : Hid ((dataE q n bs fin).1.br = bb) := hsame.2.1.trans HBr.out
          have HOv' : Hid (overB (dataE q n bs fin).1 = true) := (over_same hsame).trans hov
          clear hsame hov h hmod
          go_wp2_with (first
            | (go_at_call 13; have _t := tok1; refine (over_q HM6.out _ HOv.out).mono ?_; rintro e w9 ⟨rfl, nn, rfl⟩; have HM8 := Lib.hid (HM6.out.drewN nn); have HS8 := Lib.hid (HS6.out.below (below_drewN (Below.refl _ w6) nn)); have CB8 : Hid (Cs (w6.drewN nn) wr.heap.size [.int .u8 kk, .int .i64 n, .slice sa bs.length sc, .bool fin]) := CB.out; generalize w6.drewN nn = w8 at HM8 HS8 CB8 ⊢; have c0 := CB8.out.get 0 _ rfl; have c1 := CB8.out.get 1 _ rfl; have c2 := CB8.out.get 2 _ rfl; have c3 := CB8.out.get 3 _ rfl; clear tok1)
            | (go_at_call 18; have _t := tok2; refine (at_q HM8.out _ HP.out).mono ?_; rintro e w9 ⟨rfl, h9⟩; obtain rfl := h9.symm; clear tok2)
            | (go_at_call 19; have _t := tok3; refine (broken_q HM8.out _ HBr.out).mono ?_; rintro e w9 ⟨rfl, h9⟩; obtain rfl := h9.symm; clear tok3)
            | (go_at_call 20; have _t := tok4; refine (end_known HM8.out _ HEn.out HEk.out).mono ?_; rintro e w9 ⟨rfl, h9⟩; obtain rfl := h9.symm; clear tok4)
            | (go_at_call 10; refine (HC.out _ HM8.out HS8.out).mono ?_; rintro e w7 ⟨rfl, hM7, hK7⟩; have HM7 := Lib.hid hM7; clear hM7 hK7)
            | (go_at_call 20; refine (end_known HM7.out _ HEn'.out HEk.out).mono ?_; rintro e w9 ⟨rfl, h9⟩; obtain rfl := h9.symm)
            | (go_at_call 13; refine (over_q HM7.out true HOv'.out).mono ?_; rintro e w11 ⟨rfl, n11, rfl⟩; have HM11 := Lib.hid (HM7.out.drewN n11))
            | (go_at_call 18; refine (at_q HM11.out _ HP'.out).mono ?_; rintro e w9 ⟨rfl, h9⟩; obtain rfl := h9.symm)
            | (go_at_call 19; refine (broken_q HM11.out _ HBr'.out).mono ?_; rintro e w9 ⟨rfl, h9⟩; obtain rfl := h9.symm))
          exact ⟨⟨k + 1, _, by go_num, hlt, HM11.out⟩, by simp [intOf, hw1]; omega⟩
        · have m0 : (kk.tmod 3 == 0) = false := by rw [hmod, h]; rfl
          have m0' : (kk % 3 == 0) = false := by rw [h]; rfl
          have m1 : (kk.tmod 3 == 1) = true := by rw [hmod, h]; rfl
          have m1' : (kk % 3 == 1) = true := by rw [h]; rfl
          have HC := Lib.hid (fun W (hW : Mine w.heap.size b r m q w W) => read_mine hW n)
          have hrd := over_read HM.out.1 hov n
          rw [hrd] at HC
          have hsame : q.p = q.p ∧ q.br = q.br ∧ q.e = q.e := ⟨rfl, rfl, rfl⟩
          have HEn' : Hid (q.e = ee) := hsame.2.2.trans HEn.out
          have HP' : Hid (q.p = pp) := hsame.1.trans HP.out
          have HBr' : Hid (q.br = bb) := hsame.2.1.trans HBr.out
          have HOv' : Hid (overB q = true) := (over_same hsame).trans hov
          clear hrd hsame hov h hmod
          go_wp2_with (first
            | (go_at_call 13; have _t := tok1; refine (over_q HM6.out _ HOv.out).mono ?_; rintro e w9 ⟨rfl, nn, rfl⟩; have HM8 := Lib.hid (HM6.out.drewN nn); have HS8 := Lib.hid (HS6.out.below (below_drewN (Below.refl _ w6) nn)); have CB8 : Hid (Cs (w6.drewN nn) wr.heap.size [.int .u8 kk, .int .i64 n, .slice sa bs.length sc, .bool fin]) := CB.out; generalize w6.drewN nn = w8 at HM8 HS8 CB8 ⊢; have c0 := CB8.out.get 0 _ rfl; have c1 := CB8.out.get 1 _ rfl; have c2 := CB8.out.get 2 _ rfl; have c3 := CB8.out.get 3 _ rfl; clear tok1)
            | (go_at_call 18; have _t := tok2; refine (at_q HM8.out _ HP.out).mono ?_; rintro e w9 ⟨rfl, h9⟩; obtain rfl := h9.symm; clear tok2)
            | (go_at_call 19; have _t := tok3; refine (broken_q HM8.out _ HBr.out).mono ?_; rintro e w9 ⟨rfl, h9⟩; obtain rfl := h9.symm; clear tok3)
            | (go_at_call 20; have _t := tok4; refine (end_known HM8.out _ HEn.out HEk.out).mono ?_; rintro e w9 ⟨rfl, h9⟩; obtain rfl := h9.symm; clear tok4)
            | (go_at_call 11; have _t := tok5; refine (HC.out _ HM8.out).mono ?_; rintro e w7 ⟨v7, rfl, hG7, hM7, hK7⟩; obtain ⟨a7, c7, rfl⟩ := hG7.shape; have d1 := hK7.cell c1 HNB.out; have HM7 := Lib.hid hM7; clear hM7 hK7; clear hG7 tok5)
            | (go_at_call 11; refine (HC.out _ HM7.out).mono ?_; rintro e w10 ⟨v10, rfl, hG10, hM10, hK10⟩; obtain ⟨a10, c10, rfl⟩ := hG10.shape; have HM10 := Lib.hid hM10; clear hM10 hK10 hG10)
            | (go_at_call 20; refine (end_known HM10.out _ HEn'.out HEk.out).mono ?_; rintro e w9 ⟨rfl, h9⟩; obtain rfl := h9.symm)
            | (go_at_call 13; refine (over_q HM10.out true HOv'.out).mono ?_; rintro e w11 ⟨rfl, n11, rfl⟩; have HM11 := Lib.hid (HM10.out.drewN n11))
            | (go_at_call 18; refine (at_q HM11.out _ HP'.out).mono ?_; rintro e w9 ⟨rfl, h9⟩; obtain rfl := h9.symm)
            | (go_at_call 19; refine (broken_q HM11.out _ HBr'.out).mono ?_; rintro e w9 ⟨rfl, h9⟩; obtain rfl := h9.symm))
          exact ⟨⟨k + 1, _, by go_num, hlt, HM11.out⟩, by simp [intOf, hw1]; omega⟩
        · have m0 : (kk.tmod 3 == 0) = false := by rw [hmod, h]; rfl
          have m0' : (kk % 3 == 0) = false := by rw [h]; rfl
          have m1 : (kk.tmod 3 == 1) = false := by rw [hmod, h]; rfl
          have m1' : (kk % 3 == 1) = false := by rw [h]; rfl
          have HC := Lib.hid (fun W (hW : Mine w.heap.size b r m q w W) => reset_mine hW n)
          have hrs := over_reset HM.out.1 hov n
          rw [hrs] at HC
          have hsame : q.p = q.p ∧ q.br = q.br ∧ q.e = q.e := ⟨rfl, rfl, rfl⟩
          have HEn' : Hid (q.e = ee) := hsame.2.2.trans HEn.out
          have HP' : Hid (q.p = pp) := hsame.1.trans HP.out
          have HBr' : Hid (q.br = bb) := hsame.2.1.trans HBr.out
          have HOv' : Hid (overB q = true) := (over_same hsame).trans hov
          clear hrs hsame hov h hmod
          go_wp2_with (first
            | (go_at_call 13; have _t := tok1; refine (over_q HM6.out _ HOv.out).mono ?_; rintro e w9 ⟨rfl, nn, rfl⟩; have HM8 := Lib.hid (HM6.out.drewN nn); have HS8 := Lib.hid (HS6.out.below (below_drewN (Below.refl _ w6) nn)); have CB8 : Hid (Cs (w6.drewN nn) wr.heap.size [.int .u8 kk, .int .i64 n, .slice sa bs.length sc, .bool fin]) := CB.out; generalize w6.drewN nn = w8 at HM8 HS8 CB8 ⊢; have c0 := CB8.out.get 0 _ rfl; have c1 := CB8.out.get 1 _ rfl; have c2 := CB8.out.get 2 _ rfl; have c3 := CB8.out.get 3 _ rfl; clear tok1)
            | (go_at_call 18; have _t := tok2; refine (at_q HM8.out _ HP.out).mono ?_; rintro e w9 ⟨rfl, h9⟩; obtain rfl := h9.symm; clear tok2)
            | (go_at_call 19; have _t := tok3; refine (broken_q HM8.out _ HBr.out).mono ?_; rintro e w9 ⟨rfl, h9⟩; obtain rfl := h9.symm; clear tok3)
            | (go_at_call 20; have _t := tok4; refine (end_known HM8.out _ HEn.out HEk.out).mono ?_; rintro e w9 ⟨rfl, h9⟩; obtain rfl := h9.symm; clear tok4)
            | (go_at_call 15; refine (HC.out _ HM8.out).mono ?_; rintro e w7 ⟨rfl, hM7, hK7⟩; have HM7 := Lib.hid hM7; clear hM7 hK7)
            | (go_at_call 20; refine (end_known HM7.out _ HEn'.out HEk.out).mono ?_; rintro e w9 ⟨rfl, h9⟩; obtain rfl := h9.symm)
            | (go_at_call 13; refine (over_q HM7.out true HOv'.out).mono ?_; rintro e w11 ⟨rfl, n11, rfl⟩; have HM11 := Lib.hid (HM7.out.drewN n11))
            | (go_at_call 18; refine (at_q HM11.out _ HP'.out).mono ?_; rintro e w9 ⟨rfl, h9⟩; obtain rfl := h9.symm)
            | (go_at_call 19; refine (broken_q HM11.out _ HBr'.out).mono ?_; rintro e w9 ⟨rfl, h9⟩; obtain rfl := h9.symm))
          exact ⟨⟨k + 1, _, by go_num, hlt, HM11.out⟩, by simp [intOf, hw1]; omega⟩
    · have hi1 : ¬ ((k : Int) < (l.length : Int)) := by omega
      clear hlt hm
      go_wp2_with fail
      go_ret
      exact ⟨rfl, HM.out.2.2.2⟩
theorem over_walk (x : Int) (v : Value) (l : List ActV) (w : World) (hR : RdA w v l) (hok : ∀ y ∈ l, ActOk w y) : Calls Try.prog 5 #[.int .i64 x, v] w (Yes w) := by
  cases hn : withinB x 1 4096
  · exact over_no x v w hn
  · rcases RdC.form hR with ⟨h0, a, c, rfl⟩ | ⟨b, o, c, rfl, hb, hc, hm⟩
    · exact over_none x a c w hn
    · exact over_some x b o c l w hn hR hb hc hm hok
end Go.Proofs.Ytgckidgkimgpeaa
