/- The law Refused. -/
import Derived.Test.YtgckidgkimgpeaaRmO
set_option linter.unusedSimpArgs false
set_option linter.unusedVariables false
namespace Go.Proofs.Ytgckidgkimgpeaa
open Go.RowKit

theorem held_q {b r m : Nat} {q : St} {B : Nat} {w0 w : World} (h : Mine B b r m q w0 w) : Calls Try.prog 16 #[.pointer (some ⟨b, 0, none⟩)] w fun e w' => e = .returned (.int .i64 (heldN q.came)) ∧ w' = w := held_any w h.1 h.2.1
theorem ready_q {b r m : Nat} {q : St} {B : Nat} {w0 w : World} (h : Mine B b r m q w0 w) : Calls Try.prog 17 #[.pointer (some ⟨b, 0, none⟩)] w fun e w' => e = .returned (.int .i64 (readyN q)) ∧ w' = w := ready_any w h.1 h.2.1
theorem end_q {b r m : Nat} {q : St} {B : Nat} {w0 w : World} (h : Mine B b r m q w0 w) : Calls Try.prog 20 #[.pointer (some ⟨b, 0, none⟩)] w fun e w' => e = .returned (.tuple #[.int .i64 (if q.e = -1 then 0 else q.e), .bool (!decide (q.e = -1))]) ∧ w' = w := end_any w h.2.1
set_option maxRecDepth 100000 in
set_option maxHeartbeats 6400000 in
theorem refused_no (x : Int) (v : Value) (w : World) (hn : withinB x 1 4096 = false) : Calls Try.prog 6 #[.int .i64 x, v] w (Yes w) := by
  have HN := Lib.hid hn
  clear hn
  go_enter Try.func6, Try.ntmps6
  go_wp2_with (first
    | (go_at_call 8; refine (new_not x _ HN.out).mono ?_; rintro e w1 ⟨rfl, h⟩; obtain rfl : w = w1 := h.symm)
    | (go_at_call 9; refine (alive_any _).mono ?_; rintro e w2 ⟨rfl, hb2⟩))
  go_ret
  exact ⟨rfl, hb2⟩
set_option maxRecDepth 100000 in
set_option maxHeartbeats 6400000 in
theorem refused_none (x : Int) (a : Option Addr) (c : Nat) (w : World) (hn : withinB x 1 4096 = true) : Calls Try.prog 6 #[.int .i64 x, .slice a 0 c] w (Yes w) := by
  have HN := Lib.hid hn
  clear hn
  go_enter Try.func6, Try.ntmps6
  go_wp2_with (first
    | (go_at_call 8; refine (new_yes x _ HN.out).mono ?_; rintro e w1 ⟨b, r, m, rfl, hM1⟩; have HM1 := Lib.hid hM1; clear hM1)
    | (go_at_call 9; refine (alive_any _).mono ?_; rintro e w2 ⟨rfl, hb2⟩; have HM2 := Lib.hid (HM1.out.below hb2); clear hb2))
  refine wp_loop_rounds 1 ?_
  rw [rounds_succ]
  go_wp2_with fail
  go_ret
  exact ⟨rfl, HM2.out.2.2.2⟩
set_option maxRecDepth 100000 in
set_option maxHeartbeats 6400000 in
theorem refused_some (x : Int) (bl o c : Nat) (l : List ActV) (w : World) (hn : withinB x 1 4096 = true) (hR : RdA w (.slice (some ⟨bl, o, none⟩) l.length c) l) (hb : bl < w.heap.size) (hc : l.length ≤ c) (hm : c ≤ maxLen) (hok : ∀ y ∈ l, ActOk w y) :
    Calls Try.prog 6 #[.int .i64 x, .slice (some ⟨bl, o, none⟩) l.length c] w (Yes w) := by
  unfold maxLen at hm
  have AT := Lib.hid (fun k (hk : k < l.length) W hW => hR.at hb k hk W hW)
  have OK := Lib.hid (fun k (hk : k < l.length) => hok _ (List.getElem_mem hk))
  have HN := Lib.hid hn
  clear hR hok hb hn
  go_enter Try.func6, Try.ntmps6
  go_wp2_with (first
    | (go_at_call 8; refine (new_yes x _ HN.out).mono ?_; rintro e w1 ⟨b, r, m, rfl, hM1⟩; have HM1 := Lib.hid hM1; clear hM1)
    | (go_at_call 9; refine (alive_any _).mono ?_; rintro e w2 ⟨rfl, hb2⟩; have HM2 := Lib.hid (HM1.out.below hb2); clear hb2))
  go_loopw [34] (fun i wr => ∃ (k : Nat) (q : St), i = .int .i64 k ∧ k ≤ l.length ∧ Mine w.heap.size b r m q w wr) (fun i _ => l.length - (intOf i).toNat)
  case atStart => exact ⟨0, _, rfl, Nat.zero_le _, HM2.out⟩
  case round =>
    obtain ⟨k, q, rfl, hk, hM⟩ := hrel
    have HM := Lib.hid hM
    clear hM
    by_cases hlt : k < l.length
    · obtain ⟨he, hhe⟩ : ∃ he, he = heldN q.came := ⟨_, rfl⟩
      obtain ⟨re, hre⟩ : ∃ re, re = readyN q := ⟨_, rfl⟩
      obtain ⟨en, hen⟩ : ∃ en : Int, en = (if q.e = -1 then 0 else q.e) := ⟨_, rfl⟩
      obtain ⟨kn, hkn⟩ : ∃ kn, kn = !decide (q.e = -1) := ⟨_, rfl⟩
      have HQ1 : Hid (∀ W, Mine w.heap.size b r m q w W → Calls Try.prog 16 #[.pointer (some ⟨b, 0, none⟩)] W fun e w' => e = .returned (.int .i64 he) ∧ w' = W) := fun W h => by rw [hhe]; exact held_q h
      have HQ2 : Hid (∀ W, Mine w.heap.size b r m q w W → Calls Try.prog 17 #[.pointer (some ⟨b, 0, none⟩)] W fun e w' => e = .returned (.int .i64 re) ∧ w' = W) := fun W h => by rw [hre]; exact ready_q h
      have HQ3 : Hid (∀ W, Mine w.heap.size b r m q w W → Calls Try.prog 20 #[.pointer (some ⟨b, 0, none⟩)] W fun e w' => e = .returned (.tuple #[.int .i64 en, .bool kn]) ∧ w' = W) := fun W h => by rw [hen, hkn]; exact end_q h
      clear hhe hre hen hkn
      have hi1 : (k : Int) < (l.length : Int) := by omega
      have hi2 : (0 : Int) ≤ (k : Int) := by omega
      have hw1 : IntKind.i64.wrap ((k : Int) + 1) = (k : Int) + 1 := wraps_i64' _ (by omega) (by omega)
      obtain ⟨a0, a1, a2, a3⟩ := AT.out k hlt wr HM.out.2.2.2
      have hcc := OK.out k hlt
      generalize l[k] = cc at a0 a1 a2 a3 hcc
      obtain ⟨kk, n, bv, bs, fin⟩ := cc
      obtain ⟨hkk, hsp⟩ := hcc
      simp only at a0 a1 a2 a3 hkk hsp
      obtain ⟨sa, sc, rfl⟩ := hsp.isSlice
      have hlb := hsp.len
      unfold maxLen at hlb
      have HAp : Hid (bs ≠ [] → ∀ j, (Value.slice sa bs.length sc).ownBlock = some j → j ≠ b ∧ j ≠ r ∧ j ≠ m) := fun h0 j hj => by
        have h1 := hsp.blt h0 j hj
        have h2 := HM.out.2.2.1
        exact ⟨by omega, by omega, by omega⟩
      have HM6 := Lib.hid (HM.out.below (below1 wr (.cells #[.int .u8 kk, .int .i64 n, .slice sa bs.length sc, .bool fin] 37)))
      have HS6 := Lib.hid (hsp.below HM6.out.2.2.2)
      have CB : Hid (Cs (wr.alloc (.cells #[.int .u8 kk, .int .i64 n, .slice sa bs.length sc, .bool fin] 37)) wr.heap.size [.int .u8 kk, .int .i64 n, .slice sa bs.length sc, .bool fin]) := Cs.made wr #[.int .u8 kk, .int .i64 n, .slice sa bs.length sc, .bool fin] 37
      have hlt6 := HM.out.2.1.lt
      have HNB : Hid (wr.heap.size ∉ [b, r, m]) := fun hh => by simp at hh; omega
      have hmod : kk.tmod 3 = kk % 3 := Int.tmod_eq_emod_of_nonneg hkk.1
      have hmw : kk % 3 = 0 ∨ kk % 3 = 1 ∨ kk % 3 = 2 := by omega
      clear hsp hlt6
      go_upto_region 7 with fail
      generalize wr.alloc (.cells #[.int .u8 kk, .int .i64 n, .slice sa bs.length sc, .bool fin] 37) = w6 at HM6 HS6 CB ⊢
      have c0 := CB.out.get 0 _ rfl
      have c1 := CB.out.get 1 _ rfl
      have c2 := CB.out.get 2 _ rfl
      have c3 := CB.out.get 3 _ rfl
      clear a0 a1 a2 a3 hm
      have tok1 : True := trivial
      have tok2 : True := trivial
      have tok3 : True := trivial
      rcases hmw with h | h | h
      · have m0 : (kk.tmod 3 == 0) = true := by rw [hmod, h]; rfl
        have m0' : (kk % 3 == 0) = true := by rw [h]; rfl
        obtain ⟨q', f', hE⟩ : ∃ q' f', dataE q n bs fin = (q', f') := ⟨_, _, rfl⟩
        have hways := (data_ways q n bs fin).imp id (fun h => congrArg Prod.snd h.2.2.2.2.2.2)
        rw [hE] at hways
        have hc7 := data_mine HM6.out n (.slice sa bs.length sc) bs fin HS6.out HAp.out
        rw [hE] at hc7
        have HC := Lib.hid hc7
        clear hE hc7
        by_cases hf : f' = 0
        · subst hf
          clear h hmod hways
          go_wp2_with (first
            | (go_at_call 16; have _t := tok1; refine (HQ1.out _ HM6.out).mono ?_; rintro e w9 ⟨rfl, h9⟩; obtain rfl := h9.symm; clear tok1)
            | (go_at_call 17; have _t := tok2; refine (HQ2.out _ HM6.out).mono ?_; rintro e w9 ⟨rfl, h9⟩; obtain rfl := h9.symm; clear tok2)
            | (go_at_call 20; have _t := tok3; refine (HQ3.out _ HM6.out).mono ?_; rintro e w9 ⟨rfl, h9⟩; obtain rfl := h9.symm; clear tok3)
            | (go_at_call 10; refine HC.out.mono ?_; rintro e w7 ⟨rfl, hM7, hK7⟩; have HM7 := Lib.hid hM7; have HK7 := Lib.hid hK7; clear hM7 hK7)
            | (go_at_call 20; refine (end_q HM7.out).mono ?_; rintro e w9 ⟨rfl, h9⟩; obtain rfl := h9.symm))
          exact ⟨⟨k + 1, _, by go_num, hlt, HM7.out⟩, by simp [intOf, hw1]; omega⟩
        · have hq : q' = q := by
            rcases hways with ⟨h1, _⟩ | h1
            · exact h1
            · exact absurd h1 hf
          subst hq
          have hf1 : (f' == 0) = false := by simpa using hf
          have hf2 : (f' != 0) = true := by simpa using hf
          clear h hmod hways
          go_wp2_with (first
            | (go_at_call 16; have _t := tok1; refine (HQ1.out _ HM6.out).mono ?_; rintro e w9 ⟨rfl, h9⟩; obtain rfl := h9.symm; clear tok1)
            | (go_at_call 17; have _t := tok2; refine (HQ2.out _ HM6.out).mono ?_; rintro e w9 ⟨rfl, h9⟩; obtain rfl := h9.symm; clear tok2)
            | (go_at_call 20; have _t := tok3; refine (HQ3.out _ HM6.out).mono ?_; rintro e w9 ⟨rfl, h9⟩; obtain rfl := h9.symm; clear tok3)
            | (go_at_call 10; refine HC.out.mono ?_; rintro e w7 ⟨rfl, hM7, hK7⟩; have HM7 := Lib.hid hM7; have HK7 := Lib.hid hK7; clear hM7 hK7)
            | (go_at_call 20; refine (HQ3.out _ HM7.out).mono ?_; rintro e w9 ⟨rfl, h9⟩; obtain rfl := h9.symm)
            | (go_at_call 16; refine (HQ1.out _ HM7.out).mono ?_; rintro e w9 ⟨rfl, h9⟩; obtain rfl := h9.symm)
            | (go_at_call 17; refine (HQ2.out _ HM7.out).mono ?_; rintro e w9 ⟨rfl, h9⟩; obtain rfl := h9.symm))
          exact ⟨⟨k + 1, _, by go_num, hlt, HM7.out⟩, by simp [intOf, hw1]; omega⟩
      · have m0 : (kk.tmod 3 == 0) = false := by rw [hmod, h]; rfl
        have m0' : (kk % 3 == 0) = false := by rw [h]; rfl
        have m1 : (kk.tmod 3 == 1) = true := by rw [hmod, h]; rfl
        have m1' : (kk % 3 == 1) = true := by rw [h]; rfl
        obtain ⟨q', y', hE⟩ : ∃ q' y', readE q n = (q', y') := ⟨_, _, rfl⟩
        have hc7 := read_mine HM6.out n
        rw [hE] at hc7
        have HC := Lib.hid hc7
        clear hE hc7 h hmod
        go_wp2_with (first
          | (go_at_call 16; have _t := tok1; refine (HQ1.out _ HM6.out).mono ?_; rintro e w9 ⟨rfl, h9⟩; obtain rfl := h9.symm; clear tok1)
          | (go_at_call 17; have _t := tok2; refine (HQ2.out _ HM6.out).mono ?_; rintro e w9 ⟨rfl, h9⟩; obtain rfl := h9.symm; clear tok2)
          | (go_at_call 20; have _t := tok3; refine (HQ3.out _ HM6.out).mono ?_; rintro e w9 ⟨rfl, h9⟩; obtain rfl := h9.symm; clear tok3)
          | (go_at_call 11; refine HC.out.mono ?_; rintro e w7 ⟨v7, rfl, hG7, hM7, hK7⟩; obtain ⟨a7, c7, rfl⟩ := hG7.shape; have HM7 := Lib.hid hM7; have HK7 := Lib.hid hK7; clear hM7 hK7; clear hG7))
        exact ⟨⟨k + 1, _, by go_num, hlt, HM7.out⟩, by simp [intOf, hw1]; omega⟩
      · have m0 : (kk.tmod 3 == 0) = false := by rw [hmod, h]; rfl
        have m0' : (kk % 3 == 0) = false := by rw [h]; rfl
        have m1 : (kk.tmod 3 == 1) = false := by rw [hmod, h]; rfl
        have m1' : (kk % 3 == 1) = false := by rw [h]; rfl
        obtain ⟨q', f', hE⟩ : ∃ q' f', resetE q n = (q', f') := ⟨_, _, rfl⟩
        have hways := (reset_ways q n).imp id (fun h => congrArg Prod.snd h.2.2.2.2.2.2.2)
        rw [hE] at hways
        have hc7 := reset_mine HM6.out n
        rw [hE] at hc7
        have HC := Lib.hid hc7
        clear hE hc7
        by_cases hf : f' = 0
        · subst hf
          clear h hmod hways
          go_wp2_with (first
            | (go_at_call 16; have _t := tok1; refine (HQ1.out _ HM6.out).mono ?_; rintro e w9 ⟨rfl, h9⟩; obtain rfl := h9.symm; clear tok1)
            | (go_at_call 17; have _t := tok2; refine (HQ2.out _ HM6.out).mono ?_; rintro e w9 ⟨rfl, h9⟩; obtain rfl := h9.symm; clear tok2)
            | (go_at_call 20; have _t := tok3; refine (HQ3.out _ HM6.out).mono ?_; rintro e w9 ⟨rfl, h9⟩; obtain rfl := h9.symm; clear tok3)
            | (go_at_call 15; refine HC.out.mono ?_; rintro e w7 ⟨rfl, hM7, hK7⟩; have HM7 := Lib.hid hM7; have HK7 := Lib.hid hK7; clear hM7 hK7)
            | (go_at_call 20; refine (end_q HM7.out).mono ?_; rintro e w9 ⟨rfl, h9⟩; obtain rfl := h9.symm))
          exact ⟨⟨k + 1, _, by go_num, hlt, HM7.out⟩, by simp [intOf, hw1]; omega⟩
        · have hq : q' = q := by
            rcases hways with ⟨h1, _⟩ | h1
            · exact h1
            · exact absurd h1 hf
          subst hq
          have hf1 : (f' == 0) = false := by simpa using hf
          have hf2 : (f' != 0) = true := by simpa using hf
          clear h hmod hways
          go_wp2_with (first
            | (go_at_call 16; have _t := tok1; refine (HQ1.out _ HM6.out).mono ?_; rintro e w9 ⟨rfl, h9⟩; obtain rfl := h9.symm; clear tok1)
            | (go_at_call 17; have _t := tok2; refine (HQ2.out _ HM6.out).mono ?_; rintro e w9 ⟨rfl, h9⟩; obtain rfl := h9.symm; clear tok2)
            | (go_at_call 20; have _t := tok3; refine (HQ3.out _ HM6.out).mono ?_; rintro e w9 ⟨rfl, h9⟩; obtain rfl := h9.symm; clear tok3)
            | (go_at_call 15; refine HC.out.mono ?_; rintro e w7 ⟨rfl, hM7, hK7⟩; have HM7 := Lib.hid hM7; have HK7 := Lib.hid hK7; clear hM7 hK7)
            | (go_at_call 20; refine (HQ3.out _ HM7.out).mono ?_; rintro e w9 ⟨rfl, h9⟩; obtain rfl := h9.symm)
            | (go_at_call 16; refine (HQ1.out _ HM7.out).mono ?_; rintro e w9 ⟨rfl, h9⟩; obtain rfl := h9.symm)
            | (go_at_call 17; refine (HQ2.out _ HM7.out).mono ?_; rintro e w9 ⟨rfl, h9⟩; obtain rfl := h9.symm))
          exact ⟨⟨k + 1, _, by go_num, hlt, HM7.out⟩, by simp [intOf, hw1]; omega⟩
    · have hi1 : ¬ ((k : Int) < (l.length : Int)) := by omega
      clear hlt hm
      go_wp2_with fail
      go_ret
      exact ⟨rfl, HM.out.2.2.2⟩
theorem refused_walk (x : Int) (v : Value) (l : List ActV) (w : World) (hR : RdA w v l) (hok : ∀ y ∈ l, ActOk w y) : Calls Try.prog 6 #[.int .i64 x, v] w (Yes w) := by
  cases hn : withinB x 1 4096
  · exact refused_no x v w hn
  · rcases RdC.form hR with ⟨h0, a, c, rfl⟩ | ⟨b, o, c, rfl, hb, hc, hm⟩
    · exact refused_none x a c w hn
    · exact refused_some x b o c l w hn hR hb hc hm hok
end Go.Proofs.Ytgckidgkimgpeaa
