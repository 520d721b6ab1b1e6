/- The law Bounds. -/
import Derived.Test.YtgckidgkimgpeaaRmO
import Derived.Deep.RegionHeld3
import Derived.Deep.DeepCutAuto
set_option linter.unusedSimpArgs false
set_option linter.unusedVariables false
namespace Go.Proofs.Ytgckidgkimgpeaa
open Go.RowKit

theorem limit_q {b r m : Nat} {q : St} {B : Nat} {w0 w : World} (h : Mine B b r m q w0 w) (x : Int) (hx : (q.p : Int) + (q.row.length : Int) = x) : Calls Try.prog 14 #[.pointer (some ⟨b, 0, none⟩)] w fun e w' => e = .returned (.int .i64 x) ∧ ∃ n, w' = w.drewN n := hx ▸ limit_i w h.1 h.2.1
theorem at_p {b r m : Nat} {q : St} {B : Nat} {w0 w : World} (h : Mine B b r m q w0 w) (p : Nat) (hp : q.p = p) : Calls Try.prog 18 #[.pointer (some ⟨b, 0, none⟩)] w fun e w' => e = .returned (.int .i64 p) ∧ w' = w := hp ▸ at_any w h.2.1
theorem held_p {b r m : Nat} {q : St} {B : Nat} {w0 w : World} (h : Mine B b r m q w0 w) (x : Nat) (hx : heldN q.came = x) : Calls Try.prog 16 #[.pointer (some ⟨b, 0, none⟩)] w fun e w' => e = .returned (.int .i64 x) ∧ w' = w := hx ▸ held_any w h.1 h.2.1
theorem ready_p {b r m : Nat} {q : St} {B : Nat} {w0 w : World} (h : Mine B b r m q w0 w) (x : Nat) (hx : readyN q = x) : Calls Try.prog 17 #[.pointer (some ⟨b, 0, none⟩)] w fun e w' => e = .returned (.int .i64 x) ∧ w' = w := hx ▸ ready_any w h.1 h.2.1
theorem data_row (q : St) (n : Int) (bs : List Int) (fin : Bool) : (dataE q n bs fin).1.row.length = q.row.length := by
  rcases data_ways q n bs fin with ⟨e, _⟩ | ⟨_, _, _, _, _, _, e⟩
  · rw [e]
  · rw [e]; exact take_row _ _
theorem reset_row (q : St) (n : Int) : (resetE q n).1.row.length = q.row.length ∧ (resetE q n).1.top = q.top := by
  rcases reset_ways q n with ⟨e, _⟩ | ⟨_, _, _, _, _, _, _, e⟩
  · rw [e]; exact ⟨rfl, rfl⟩
  · rw [e]; exact ⟨rfl, rfl⟩
theorem read_row {q : St} (hq : Ok q) (n : Int) : (readE q n).1.row.length = q.row.length ∧ (readE q n).1.top = q.top ∧ ((readE q n).2.length : Int) ≤ max n 0 := by
  rcases read_ways q n with ⟨e, _⟩ | ⟨m, h1, h2, h3, _, e⟩
  · rw [e]; exact ⟨rfl, rfl, by simp; omega⟩
  · rw [e]
    have hl := hq.ready_le
    refine ⟨?_, rfl, ?_⟩
    · show (splice q.row 0 (q.row.drop m)).length = _
      exact length_splice _ _ _ (by rw [List.length_drop]; omega)
    · show ((q.row.take m).length : Int) ≤ _
      rw [List.length_take]; omega
set_option maxRecDepth 100000 in
set_option maxHeartbeats 6400000 in
theorem bounds_no (x : Int) (v : Value) (w : World) (hn : withinB x 1 4096 = false) : Calls Try.prog 4 #[.int .i64 x, v] w (Yes w) := by
  have HN := Lib.hid hn
  clear hn
  go_enter Try.func4, Try.ntmps4
  go_wp2_with (first
    | (go_at_call 8; refine (new_not x _ HN.out).mono ?_; rintro e w1 ⟨rfl, h⟩; obtain rfl : w = w1 := h.symm)
    | (go_at_call 9; refine (alive_any _).mono ?_; rintro e w2 ⟨rfl, hb2⟩))
  go_ret
  exact ⟨rfl, hb2⟩
set_option maxRecDepth 100000 in
set_option maxHeartbeats 6400000 in
theorem bounds_none (x : Int) (a : Option Addr) (c : Nat) (w : World) (hn : withinB x 1 4096 = true) : Calls Try.prog 4 #[.int .i64 x, .slice a 0 c] w (Yes w) := by
  have HN := Lib.hid hn
  clear hn
  go_enter Try.func4, Try.ntmps4
  go_wp2_with (first
    | (go_at_call 8; refine (new_yes x _ HN.out).mono ?_; rintro e w1 ⟨b, r, m, rfl, hM1⟩; have HM1 := Lib.hid hM1; clear hM1)
    | (go_at_call 9; refine (alive_any _).mono ?_; rintro e w2 ⟨rfl, hb2⟩; have HM2 := Lib.hid (HM1.out.below hb2); clear hb2))
  refine wp_loop_rounds 1 ?_
  rw [rounds_succ]
  go_wp2_with fail
  go_ret
  exact ⟨rfl, HM2.out.2.2.2⟩
set_option maxRecDepth 100000 in
set_option maxHeartbeats 6400000 in
theorem bounds_some (x : Int) (bl o c : Nat) (l : List ActV) (w : World) (hn : withinB x 1 4096 = true) (hR : RdA w (.slice (some ⟨bl, o, none⟩) l.length c) l) (hb : bl < w.heap.size) (hc : l.length ≤ c) (hm : c ≤ maxLen) (hok : ∀ y ∈ l, ActOk w y) :
    Calls Try.prog 4 #[.int .i64 x, .slice (some ⟨bl, o, none⟩) l.length c] w (Yes w) := by
  unfold maxLen at hm
  have AT := Lib.hid (fun k (hk : k < l.length) W hW => hR.at hb k hk W hW)
  have OK := Lib.hid (fun k (hk : k < l.length) => hok _ (List.getElem_mem hk))
  have HN := Lib.hid hn
  clear hR hok hb hn
  go_enter Try.func4, Try.ntmps4
  go_wp2_with (first
    | (go_at_call 8; refine (new_yes x _ HN.out).mono ?_; rintro e w1 ⟨b, r, m, rfl, hM1⟩; have HM1 := Lib.hid hM1; clear hM1)
    | (go_at_call 9; refine (alive_any _).mono ?_; rintro e w2 ⟨rfl, hb2⟩; have HM2 := Lib.hid (HM1.out.below hb2); clear hb2))
  have hx := within_iff.1 HN.out
  go_loopw [7, 29] (fun fv i wr => ∃ (k F : Nat) (q : St), fv = .int .i64 F ∧ i = .int .i64 k ∧ k ≤ l.length ∧ q.top ≤ F ∧ F ≤ 4611686018427387903 ∧ (q.row.length : Int) = x ∧ Mine w.heap.size b r m q w wr) (fun _ i _ => l.length - (intOf i).toNat)
  case atStart => exact ⟨0, 0, _, rfl, rfl, Nat.zero_le _, Nat.le_refl _, by omega, by simp [fresh]; omega, HM2.out⟩
  case round =>
    obtain ⟨k, F, q, rfl, rfl, hk, htF, hF, hrow, hM⟩ := hrel
    have HM := Lib.hid hM
    clear hM
    by_cases hlt : k < l.length
    · obtain ⟨lim, hlim⟩ : ∃ lim : Int, (q.p : Int) + (q.row.length : Int) = lim := ⟨_, rfl⟩
      have HLi := Lib.hid hlim
      have HRow := Lib.hid hrow
      have HTF := Lib.hid htF
      clear hlim hrow htF
      have hi1 : (k : Int) < (l.length : Int) := by omega
      have hi2 : (0 : Int) ≤ (k : Int) := by omega
      have hw1 : IntKind.i64.wrap ((k : Int) + 1) = (k : Int) + 1 := wraps_i64' _ (by omega) (by omega)
      obtain ⟨a0, a1, a2, a3⟩ := AT.out k hlt wr HM.out.2.2.2
      have hcc := OK.out k hlt
      generalize l[k] = cc at a0 a1 a2 a3 hcc
      obtain ⟨kk, n, bv, bs, fin⟩ := cc
      obtain ⟨hkk, hsp⟩ := hcc
      simp only at a0 a1 a2 a3 hkk hsp
      obtain ⟨sa, sc, rfl⟩ := hsp.isSlice
      have hlb := hsp.len
      unfold maxLen at hlb
      have HAp : Hid (bs ≠ [] → ∀ j, (Value.slice sa bs.length sc).ownBlock = some j → j ≠ b ∧ j ≠ r ∧ j ≠ m) := fun h0 j hj => by
        have h1 := hsp.blt h0 j hj
        have h2 := HM.out.2.2.1
        exact ⟨by omega, by omega, by omega⟩
      have HM6 := Lib.hid (HM.out.below (below1 wr (.cells #[.int .u8 kk, .int .i64 n, .slice sa bs.length sc, .bool fin] 37)))
      have HS6 := Lib.hid (hsp.below HM6.out.2.2.2)
      have CB : Hid (Cs (wr.alloc (.cells #[.int .u8 kk, .int .i64 n, .slice sa bs.length sc, .bool fin] 37)) wr.heap.size [.int .u8 kk, .int .i64 n, .slice sa bs.length sc, .bool fin]) := Cs.made wr #[.int .u8 kk, .int .i64 n, .slice sa bs.length sc, .bool fin] 37
      have hlt6 := HM.out.2.1.lt
      have HNB : Hid (wr.heap.size ∉ [b, r, m]) := fun hh => by simp at hh; omega
      have hmod : kk.tmod 3 = kk % 3 := Int.tmod_eq_emod_of_nonneg hkk.1
      have hmw : kk % 3 = 0 ∨ kk % 3 = 1 ∨ kk % 3 = 2 := by omega
      clear hsp hlt6
      go_upto_region 8 with fail
      generalize wr.alloc (.cells #[.int .u8 kk, .int .i64 n, .slice sa bs.length sc, .bool fin] 37) = w6 at HM6 HS6 CB ⊢
      clear a0 a1 a2 a3 hm
      have tok1 : True := trivial
      rcases hmw with h | h | h
      · have m0 : (kk.tmod 3 == 0) = true := by rw [hmod, h]; rfl
        have m0' : (kk % 3 == 0) = true := by rw [h]; rfl
        have HC := Lib.hid (fun W (hW : Mine w.heap.size b r m q w W) (hS : Rd .u8 W (.slice sa bs.length sc) bs) => data_mine hW n (.slice sa bs.length sc) bs fin hS HAp.out)
        have hways := data_ways q n bs fin
        by_cases hf : (dataE q n bs fin).2 = 0
        · have hw7 := hways.resolve_left (fun k => k.2 hf)
          obtain ⟨g0, g1, g2, g3, g4, g5, g6⟩ := hw7
          have HTK : Hid ((dataE q n bs fin).1.top ≤ max q.top (n.toNat + bs.length)) := by
            show _ ≤ _; rw [g6]; exact (take_top n.toNat bs).2
          have hok7 := data_ok HM.out.1 n bs fin
          have hrw7 := data_row q n bs fin
          rw [hf] at HC
          obtain ⟨q7, hq7⟩ : ∃ q7, (dataE q n bs fin).1 = q7 := ⟨_, rfl⟩
          rw [hq7] at HC HTK hok7 hrw7
          obtain ⟨tt, hto⟩ : ∃ tt : Nat, n + (bs.length : Int) = (tt : Int) := ⟨(n + (bs.length : Int)).toNat, by omega⟩
          have hwt : IntKind.i64.wrap (n + (bs.length : Int)) = (tt : Int) := by rw [wraps_i64' _ (by omega) (by omega)]; exact hto
          have hlim := HLi.out
          have hto2 : tt ≤ 4611686018427387903 := by omega
          have hto3 : n.toNat + bs.length = tt := by omega
          rw [hto3] at HTK
          have t0 : decide ((tt : Int) > lim) = false := decide_eq_false (by omega)
          clear g0 g1 g2 g3 g4 g5 g6 hto hto3 hways hf hq7 h hmod hlim
          by_cases hFt : F < tt
          · have t9 : (F : Int) < (tt : Int) := by omega
            have hrow1 : (q7.row.length : Int) = x := by rw [hrw7]; exact HRow.out
            have htop1 : q7.top ≤ tt := by have := HTK.out; have := HTF.out; omega
            have hok1 : Ok q7 := hok7
            obtain ⟨he, hhe⟩ : ∃ he, heldN q7.came = he := ⟨_, rfl⟩
            obtain ⟨re, hre⟩ : ∃ re, readyN q7 = re := ⟨_, rfl⟩
            obtain ⟨pp, hpp⟩ : ∃ pp, q7.p = pp := ⟨_, rfl⟩
            have HHe := Lib.hid hhe
            have HRe := Lib.hid hre
            have HPp := Lib.hid hpp
            have HRow1 := Lib.hid hrow1
            have HTop1 := Lib.hid htop1
            have b1 : he ≤ q7.row.length := by rw [← hhe, ← hok1.len]; exact held_le _
            have b2 : re ≤ he := by rw [← hhe, ← hre]; exact lead_held _
            have b3 : pp ≤ tt := by rw [← hpp]; exact Nat.le_trans hok1.pt htop1
            have b4 : pp ≤ 4611686018427387903 := by rw [← hpp]; exact Nat.le_trans hok1.pt hok1.big
            have t1 : decide ((he : Int) < 0) = false := decide_eq_false (by omega)
            have t2 : decide ((he : Int) > x) = false := decide_eq_false (by omega)
            have t3 : decide ((re : Int) > (he : Int)) = false := decide_eq_false (by omega)
            have t4 : decide ((pp : Int) > (tt : Nat)) = false := decide_eq_false (by omega)
            have hwx : IntKind.i64.wrap ((pp : Int) + x) = (pp : Int) + x := wraps_i64' _ (by omega) (by omega)
            have HLi1 : Hid ((q7.p : Int) + (q7.row.length : Int) = (pp : Int) + x) := by show _ = _; rw [hpp, hrow1]
            clear hrow1 htop1 hok1 hhe hre hpp b1 b4
            clear hok7 hrw7 hFt
            go_wp2_with (first
              | (go_at_call 14; have _t := tok1; refine (limit_q HM6.out _ HLi.out).mono ?_; rintro e w9 ⟨rfl, nn, rfl⟩; have HM8 := Lib.hid (HM6.out.drewN nn); have HS8 := Lib.hid (HS6.out.below (below_drewN (Below.refl _ w6) nn)); have CB8 : Hid (Cs (w6.drewN nn) wr.heap.size [.int .u8 kk, .int .i64 n, .slice sa bs.length sc, .bool fin]) := CB.out; generalize w6.drewN nn = w8 at HM8 HS8 CB8 ⊢; have c0 := CB8.out.get 0 _ rfl; have c1 := CB8.out.get 1 _ rfl; have c2 := CB8.out.get 2 _ rfl; have c3 := CB8.out.get 3 _ rfl; clear tok1)
              | (go_at_call 10; refine (HC.out _ HM8.out HS8.out).mono ?_; rintro e w7 ⟨rfl, hM7, hK7⟩; have d1 := hK7.cell c1 HNB.out; have d2 := hK7.cell c2 HNB.out; have HM7 := Lib.hid hM7; clear hM7 hK7)
              | (go_at_call 16; refine (held_p HM7.out _ HHe.out).mono ?_; rintro e w9 ⟨rfl, h9⟩; obtain rfl := h9.symm)
              | (go_at_call 17; refine (ready_p HM7.out _ HRe.out).mono ?_; rintro e w9 ⟨rfl, h9⟩; obtain rfl := h9.symm)
              | (go_at_call 18; refine (at_p HM11.out _ HPp.out).mono ?_; rintro e w9 ⟨rfl, h9⟩; obtain rfl := h9.symm)
              | (go_at_call 18; refine (at_p HM7.out _ HPp.out).mono ?_; rintro e w9 ⟨rfl, h9⟩; obtain rfl := h9.symm)
              | (go_at_call 14; refine (limit_q HM7.out _ HLi1.out).mono ?_; rintro e w11 ⟨rfl, n11, rfl⟩; have HM11 := Lib.hid (HM7.out.drewN n11)))
            exact ⟨⟨k + 1, tt, _, by go_num, by go_num, hlt, HTop1.out, hto2, HRow1.out, HM11.out⟩, by simp [intOf, hw1]; omega⟩
          · have t9 : ¬ (F : Int) < (tt : Int) := by omega
            have hrow1 : (q7.row.length : Int) = x := by rw [hrw7]; exact HRow.out
            have htop1 : q7.top ≤ F := by have := HTK.out; have := HTF.out; omega
            have hok1 : Ok q7 := hok7
            obtain ⟨he, hhe⟩ : ∃ he, heldN q7.came = he := ⟨_, rfl⟩
            obtain ⟨re, hre⟩ : ∃ re, readyN q7 = re := ⟨_, rfl⟩
            obtain ⟨pp, hpp⟩ : ∃ pp, q7.p = pp := ⟨_, rfl⟩
            have HHe := Lib.hid hhe
            have HRe := Lib.hid hre
            have HPp := Lib.hid hpp
            have HRow1 := Lib.hid hrow1
            have HTop1 := Lib.hid htop1
            have b1 : he ≤ q7.row.length := by rw [← hhe, ← hok1.len]; exact held_le _
            have b2 : re ≤ he := by rw [← hhe, ← hre]; exact lead_held _
            have b3 : pp ≤ F := by rw [← hpp]; exact Nat.le_trans hok1.pt htop1
            have b4 : pp ≤ 4611686018427387903 := by rw [← hpp]; exact Nat.le_trans hok1.pt hok1.big
            have t1 : decide ((he : Int) < 0) = false := decide_eq_false (by omega)
            have t2 : decide ((he : Int) > x) = false := decide_eq_false (by omega)
            have t3 : decide ((re : Int) > (he : Int)) = false := decide_eq_false (by omega)
            have t4 : decide ((pp : Int) > (F : Nat)) = false := decide_eq_false (by omega)
            have hwx : IntKind.i64.wrap ((pp : Int) + x) = (pp : Int) + x := wraps_i64' _ (by omega) (by omega)
            have HLi1 : Hid ((q7.p : Int) + (q7.row.length : Int) = (pp : Int) + x) := by show _ = _; rw [hpp, hrow1]
            clear hrow1 htop1 hok1 hhe hre hpp b1 b4
            clear hok7 hrw7 hFt
            go_wp2_with (first
              | (go_at_call 14; have _t := tok1; refine (limit_q HM6.out _ HLi.out).mono ?_; rintro e w9 ⟨rfl, nn, rfl⟩; have HM8 := Lib.hid (HM6.out.drewN nn); have HS8 := Lib.hid (HS6.out.below (below_drewN (Below.refl _ w6) nn)); have CB8 : Hid (Cs (w6.drewN nn) wr.heap.size [.int .u8 kk, .int .i64 n, .slice sa bs.length sc, .bool fin]) := CB.out; generalize w6.drewN nn = w8 at HM8 HS8 CB8 ⊢; have c0 := CB8.out.get 0 _ rfl; have c1 := CB8.out.get 1 _ rfl; have c2 := CB8.out.get 2 _ rfl; have c3 := CB8.out.get 3 _ rfl; clear tok1)
              | (go_at_call 10; refine (HC.out _ HM8.out HS8.out).mono ?_; rintro e w7 ⟨rfl, hM7, hK7⟩; have d1 := hK7.cell c1 HNB.out; have d2 := hK7.cell c2 HNB.out; have HM7 := Lib.hid hM7; clear hM7 hK7)
              | (go_at_call 16; refine (held_p HM7.out _ HHe.out).mono ?_; rintro e w9 ⟨rfl, h9⟩; obtain rfl := h9.symm)
              | (go_at_call 17; refine (ready_p HM7.out _ HRe.out).mono ?_; rintro e w9 ⟨rfl, h9⟩; obtain rfl := h9.symm)
              | (go_at_call 18; refine (at_p HM11.out _ HPp.out).mono ?_; rintro e w9 ⟨rfl, h9⟩; obtain rfl := h9.symm)
              | (go_at_call 18; refine (at_p HM7.out _ HPp.out).mono ?_; rintro e w9 ⟨rfl, h9⟩; obtain rfl := h9.symm)
              | (go_at_call 14; refine (limit_q HM7.out _ HLi1.out).mono ?_; rintro e w11 ⟨rfl, n11, rfl⟩; have HM11 := Lib.hid (HM7.out.drewN n11)))
            exact ⟨⟨k + 1, F, _, by go_num, by go_num, hlt, HTop1.out, hF, HRow1.out, HM11.out⟩, by simp [intOf, hw1]; omega⟩
        · have hq1 : (dataE q n bs fin).1 = q := by
            rcases hways with h1 | h1
            · exact h1.1
            · exact absurd (congrArg Prod.snd h1.2.2.2.2.2.2) hf
          rw [hq1] at HC
          obtain ⟨f7, hf7⟩ : ∃ f7, (dataE q n bs fin).2 = f7 := ⟨_, rfl⟩
          rw [hf7] at HC hf
          have hf1 : (f7 == 0) = false := by simpa using hf
          clear hf hf7 hq1 hways h hmod
          have hrow1 : (q.row.length : Int) = x := HRow.out
          have htop1 : q.top ≤ F := HTF.out
          have hok1 : Ok q := HM.out.1
          obtain ⟨he, hhe⟩ : ∃ he, heldN q.came = he := ⟨_, rfl⟩
          obtain ⟨re, hre⟩ : ∃ re, readyN q = re := ⟨_, rfl⟩
          obtain ⟨pp, hpp⟩ : ∃ pp, q.p = pp := ⟨_, rfl⟩
          have HHe := Lib.hid hhe
          have HRe := Lib.hid hre
          have HPp := Lib.hid hpp
          have HRow1 := Lib.hid hrow1
          have HTop1 := Lib.hid htop1
          have b1 : he ≤ q.row.length := by rw [← hhe, ← hok1.len]; exact held_le _
          have b2 : re ≤ he := by rw [← hhe, ← hre]; exact lead_held _
          have b3 : pp ≤ F := by rw [← hpp]; exact Nat.le_trans hok1.pt htop1
          have b4 : pp ≤ 4611686018427387903 := by rw [← hpp]; exact Nat.le_trans hok1.pt hok1.big
          have t1 : decide ((he : Int) < 0) = false := decide_eq_false (by omega)
          have t2 : decide ((he : Int) > x) = false := decide_eq_false (by omega)
          have t3 : decide ((re : Int) > (he : Int)) = false := decide_eq_false (by omega)
          have t4 : decide ((pp : Int) > (F : Nat)) = false := decide_eq_false (by omega)
          have hwx : IntKind.i64.wrap ((pp : Int) + x) = (pp : Int) + x := wraps_i64' _ (by omega) (by omega)
          have HLi1 : Hid ((q.p : Int) + (q.row.length : Int) = (pp : Int) + x) := by show _ = _; rw [hpp, hrow1]
          clear hrow1 htop1 hok1 hhe hre hpp b1 b4
          go_wp2_with (first
            | (go_at_call 14; have _t := tok1; refine (limit_q HM6.out _ HLi.out).mono ?_; rintro e w9 ⟨rfl, nn, rfl⟩; have HM8 := Lib.hid (HM6.out.drewN nn); have HS8 := Lib.hid (HS6.out.below (below_drewN (Below.refl _ w6) nn)); have CB8 : Hid (Cs (w6.drewN nn) wr.heap.size [.int .u8 kk, .int .i64 n, .slice sa bs.length sc, .bool fin]) := CB.out; generalize w6.drewN nn = w8 at HM8 HS8 CB8 ⊢; have c0 := CB8.out.get 0 _ rfl; have c1 := CB8.out.get 1 _ rfl; have c2 := CB8.out.get 2 _ rfl; have c3 := CB8.out.get 3 _ rfl; clear tok1)
            | (go_at_call 10; refine (HC.out _ HM8.out HS8.out).mono ?_; rintro e w7 ⟨rfl, hM7, hK7⟩; have d1 := hK7.cell c1 HNB.out; have d2 := hK7.cell c2 HNB.out; have HM7 := Lib.hid hM7; clear hM7 hK7)
            | (go_at_call 16; refine (held_p HM7.out _ HHe.out).mono ?_; rintro e w9 ⟨rfl, h9⟩; obtain rfl := h9.symm)
            | (go_at_call 17; refine (ready_p HM7.out _ HRe.out).mono ?_; rintro e w9 ⟨rfl, h9⟩; obtain rfl := h9.symm)
            | (go_at_call 18; refine (at_p HM11.out _ HPp.out).mono ?_; rintro e w9 ⟨rfl, h9⟩; obtain rfl := h9.symm)
            | (go_at_call 18; refine (at_p HM7.out _ HPp.out).mono ?_; rintro e w9 ⟨rfl, h9⟩; obtain rfl := h9.symm)
            | (go_at_call 14; refine (limit_q HM7.out _ HLi1.out).mono ?_; rintro e w11 ⟨rfl, n11, rfl⟩; have HM11 := Lib.hid (HM7.out.drewN n11)))
          exact ⟨⟨k + 1, F, _, by go_num, by go_num, hlt, HTop1.out, hF, HRow1.out, HM11.out⟩, by simp [intOf, hw1]; omega⟩
      · have m0 : (kk.tmod 3 == 0) = false := by rw [hmod, h]; rfl
        have m0' : (kk % 3 == 0) = false := by rw [h]; rfl
        have m1 : (kk.tmod 3 == 1) = true := by rw [hmod, h]; rfl
        have m1' : (kk % 3 == 1) = true := by rw [h]; rfl
        have HC := Lib.hid (fun W (hW : Mine w.heap.size b r m q w W) => read_mine hW n)
        have hrr := read_row HM.out.1 n
        have hok7 := read_ok HM.out.1 n
        obtain ⟨q7, hq7⟩ : ∃ q7, (readE q n).1 = q7 := ⟨_, rfl⟩
        obtain ⟨y7, hy7⟩ : ∃ y7, (readE q n).2 = y7 := ⟨_, rfl⟩
        rw [hq7] at HC hrr hok7
        rw [hy7] at HC hrr
        have HLen := Lib.hid hrr.2.2
        have HRt := Lib.hid (And.intro hrr.1 hrr.2.1)
        clear hrr hq7 hy7 h hmod
        go_upto_region 17 with (go_at_call 14; have _t := tok1; refine (limit_q HM6.out _ HLi.out).mono ?_; rintro e w9 ⟨rfl, nn, rfl⟩; have HM8 := Lib.hid (HM6.out.drewN nn); have HS8 := Lib.hid (HS6.out.below (below_drewN (Below.refl _ w6) nn)); have CB8 : Hid (Cs (w6.drewN nn) wr.heap.size [.int .u8 kk, .int .i64 n, .slice sa bs.length sc, .bool fin]) := CB.out; generalize w6.drewN nn = w8 at HM8 HS8 CB8 ⊢; have c0 := CB8.out.get 0 _ rfl; have c1 := CB8.out.get 1 _ rfl; have c2 := CB8.out.get 2 _ rfl; have c3 := CB8.out.get 3 _ rfl; clear tok1)
        go_cut [79] (fun v wc => v = .bool false ∧ Mine w.heap.size b r m q7 w wc)
        case first =>
          by_cases hn0 : n < 0
          all_goals
           go_region_held3 (fun w' => w'.cell? ⟨wr.heap.size, 1, none⟩ = some (.int .i64 n))
             (first | (exact c1) | (exact d1) | fail)
             (first | (go_at_call 11; refine (HC.out _ (HM8.out.drewN 1)).mono ?_; rintro e w7 ⟨v7, rfl, hG7, hM7, hK7⟩; obtain ⟨a7, c7, rfl⟩ := hG7.shape; have d1 : w7.cell? ⟨wr.heap.size, 1, none⟩ = some (.int .i64 n) := hK7.cell (p := ⟨wr.heap.size, 1, none⟩) c1 HNB.out; have HM7 := Lib.hid hM7; clear hM7 hK7; clear hG7))
           all_goals
             go_wp2_with fail
             all_goals
               go_meet
               refine ⟨?_, HM7.out⟩
               have hh := HLen.out
               congr 1
               first | rfl | (simp only [decide_eq_false_iff_not]; omega) | (simp; omega)
        case rest =>
          obtain ⟨rfl, hM7⟩ := hcut
          have HM7 := Lib.hid hM7
          clear hM7
          have hrow1 : (q7.row.length : Int) = x := by rw [HRt.out.1]; exact HRow.out
          have htop1 : q7.top ≤ F := by rw [HRt.out.2]; exact HTF.out
          have hok1 : Ok q7 := hok7
          obtain ⟨he, hhe⟩ : ∃ he, heldN q7.came = he := ⟨_, rfl⟩
          obtain ⟨re, hre⟩ : ∃ re, readyN q7 = re := ⟨_, rfl⟩
          obtain ⟨pp, hpp⟩ : ∃ pp, q7.p = pp := ⟨_, rfl⟩
          have HHe := Lib.hid hhe
          have HRe := Lib.hid hre
          have HPp := Lib.hid hpp
          have HRow1 := Lib.hid hrow1
          have HTop1 := Lib.hid htop1
          have b1 : he ≤ q7.row.length := by rw [← hhe, ← hok1.len]; exact held_le _
          have b2 : re ≤ he := by rw [← hhe, ← hre]; exact lead_held _
          have b3 : pp ≤ F := by rw [← hpp]; exact Nat.le_trans hok1.pt htop1
          have b4 : pp ≤ 4611686018427387903 := by rw [← hpp]; exact Nat.le_trans hok1.pt hok1.big
          have t1 : decide ((he : Int) < 0) = false := decide_eq_false (by omega)
          have t2 : decide ((he : Int) > x) = false := decide_eq_false (by omega)
          have t3 : decide ((re : Int) > (he : Int)) = false := decide_eq_false (by omega)
          have t4 : decide ((pp : Int) > (F : Nat)) = false := decide_eq_false (by omega)
          have hwx : IntKind.i64.wrap ((pp : Int) + x) = (pp : Int) + x := wraps_i64' _ (by omega) (by omega)
          have HLi1 : Hid ((q7.p : Int) + (q7.row.length : Int) = (pp : Int) + x) := by show _ = _; rw [hpp, hrow1]
          clear hrow1 htop1 hok1 hhe hre hpp b1 b4
          clear hok7
          go_wp2_with (first
            | (go_at_call 16; refine (held_p HM7.out _ HHe.out).mono ?_; rintro e w9 ⟨rfl, h9⟩; obtain rfl := h9.symm)
            | (go_at_call 17; refine (ready_p HM7.out _ HRe.out).mono ?_; rintro e w9 ⟨rfl, h9⟩; obtain rfl := h9.symm)
            | (go_at_call 18; refine (at_p HM11.out _ HPp.out).mono ?_; rintro e w9 ⟨rfl, h9⟩; obtain rfl := h9.symm)
            | (go_at_call 18; refine (at_p HM7.out _ HPp.out).mono ?_; rintro e w9 ⟨rfl, h9⟩; obtain rfl := h9.symm)
            | (go_at_call 14; refine (limit_q HM7.out _ HLi1.out).mono ?_; rintro e w11 ⟨rfl, n11, rfl⟩; have HM11 := Lib.hid (HM7.out.drewN n11)))
          exact ⟨⟨k + 1, F, _, by go_num, by go_num, hlt, HTop1.out, hF, HRow1.out, HM11.out⟩, by simp [intOf, hw1]; omega⟩
      · have m0 : (kk.tmod 3 == 0) = false := by rw [hmod, h]; rfl
        have m0' : (kk % 3 == 0) = false := by rw [h]; rfl
        have m1 : (kk.tmod 3 == 1) = false := by rw [hmod, h]; rfl
        have m1' : (kk % 3 == 1) = false := by rw [h]; rfl
        have HC := Lib.hid (fun W (hW : Mine w.heap.size b r m q w W) => reset_mine hW n)
        have hrr := reset_row q n
        have hok7 := reset_ok HM.out.1 n
        obtain ⟨q7, hq7⟩ : ∃ q7, (resetE q n).1 = q7 := ⟨_, rfl⟩
        rw [hq7] at HC hrr hok7
        have HRt := Lib.hid hrr
        clear hrr hq7 h hmod
        have hrow1 : (q7.row.length : Int) = x := by rw [HRt.out.1]; exact HRow.out
        have htop1 : q7.top ≤ F := by rw [HRt.out.2]; exact HTF.out
        have hok1 : Ok q7 := hok7
        obtain ⟨he, hhe⟩ : ∃ he, heldN q7.came = he := ⟨_, rfl⟩
        obtain ⟨re, hre⟩ : ∃ re, readyN q7 = re := ⟨_, rfl⟩
        obtain ⟨pp, hpp⟩ : ∃ pp, q7.p = pp := ⟨_, rfl⟩
        have HHe := Lib.hid hhe
        have HRe := Lib.hid hre
        have HPp := Lib.hid hpp
        have HRow1 := Lib.hid hrow1
        have HTop1 := Lib.hid htop1
        have b1 : he ≤ q7.row.length := by rw [← hhe, ← hok1.len]; exact held_le _
        have b2 : re ≤ he := by rw [← hhe, ← hre]; exact lead_held _
        have b3 : pp ≤ F := by rw [← hpp]; exact Nat.le_trans hok1.pt htop1
        have b4 : pp ≤ 4611686018427387903 := by rw [← hpp]; exact Nat.le_trans hok1.pt hok1.big
        have t1 : decide ((he : Int) < 0) = false := decide_eq_false (by omega)
        have t2 : decide ((he : Int) > x) = false := decide_eq_false (by omega)
        have t3 : decide ((re : Int) > (he : Int)) = false := decide_eq_false (by omega)
        have t4 : decide ((pp : Int) > (F : Nat)) = false := decide_eq_false (by omega)
        have hwx : IntKind.i64.wrap ((pp : Int) + x) = (pp : Int) + x := wraps_i64' _ (by omega) (by omega)
        have HLi1 : Hid ((q7.p : Int) + (q7.row.length : Int) = (pp : Int) + x) := by show _ = _; rw [hpp, hrow1]
        clear hrow1 htop1 hok1 hhe hre hpp b1 b4
        clear hok7
        go_wp2_with (first
          | (go_at_call 14; have _t := tok1; refine (limit_q HM6.out _ HLi.out).mono ?_; rintro e w9 ⟨rfl, nn, rfl⟩; have HM8 := Lib.hid (HM6.out.drewN nn); have HS8 := Lib.hid (HS6.out.below (below_drewN (Below.refl _ w6) nn)); have CB8 : Hid (Cs (w6.drewN nn) wr.heap.size [.int .u8 kk, .int .i64 n, .slice sa bs.length sc, .bool fin]) := CB.out; generalize w6.drewN nn = w8 at HM8 HS8 CB8 ⊢; have c0 := CB8.out.get 0 _ rfl; have c1 := CB8.out.get 1 _ rfl; have c2 := CB8.out.get 2 _ rfl; have c3 := CB8.out.get 3 _ rfl; clear tok1)
          | (go_at_call 15; refine (HC.out _ HM8.out).mono ?_; rintro e w7 ⟨rfl, hM7, hK7⟩; have HM7 := Lib.hid hM7; clear hM7 hK7)
          | (go_at_call 16; refine (held_p HM7.out _ HHe.out).mono ?_; rintro e w9 ⟨rfl, h9⟩; obtain rfl := h9.symm)
          | (go_at_call 17; refine (ready_p HM7.out _ HRe.out).mono ?_; rintro e w9 ⟨rfl, h9⟩; obtain rfl := h9.symm)
          | (go_at_call 18; refine (at_p HM11.out _ HPp.out).mono ?_; rintro e w9 ⟨rfl, h9⟩; obtain rfl := h9.symm)
          | (go_at_call 18; refine (at_p HM7.out _ HPp.out).mono ?_; rintro e w9 ⟨rfl, h9⟩; obtain rfl := h9.symm)
          | (go_at_call 14; refine (limit_q HM7.out _ HLi1.out).mono ?_; rintro e w11 ⟨rfl, n11, rfl⟩; have HM11 := Lib.hid (HM7.out.drewN n11)))
        exact ⟨⟨k + 1, F, _, by go_num, by go_num, hlt, HTop1.out, hF, HRow1.out, HM11.out⟩, by simp [intOf, hw1]; omega⟩
    · have hi1 : ¬ ((k : Int) < (l.length : Int)) := by omega
      clear hlt hm
      go_wp2_with fail
      go_ret
      exact ⟨rfl, HM.out.2.2.2⟩
theorem bounds_walk (x : Int) (v : Value) (l : List ActV) (w : World) (hR : RdA w v l) (hok : ∀ y ∈ l, ActOk w y) : Calls Try.prog 4 #[.int .i64 x, v] w (Yes w) := by
  cases hn : withinB x 1 4096
  · exact bounds_no x v w hn
  · rcases RdC.form hR with ⟨h0, a, c, rfl⟩ | ⟨b, o, c, rfl, hb, hc, hm⟩
    · exact bounds_none x a c w hn
    · exact bounds_some x b o c l w hn hR hb hc hm hok
end Go.Proofs.Ytgckidgkimgpeaa
