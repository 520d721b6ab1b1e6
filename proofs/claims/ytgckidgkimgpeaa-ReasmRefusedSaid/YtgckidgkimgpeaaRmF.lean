/- Walks of layer 9: Data. -/
import Derived.Test.YtgckidgkimgpeaaRmE
set_option linter.unusedSimpArgs false
set_option linter.unusedVariables false
namespace Go.Proofs.Ytgckidgkimgpeaa
open Go.RowKit

theorem take_same (q : St) (o : Nat) (b : List Int) : ({ takeE q o b with e := q.e } : St) = takeE q o b := by unfold takeE; split <;> rfl
theorem Str.setEnd {b r m : Nat} {q : St} {w : World} (h : Str b r m q w) (x : Int) : Str b r m { q with e := x } (w.setCell ⟨b, 4, none⟩ (.int .i64 x)) :=
  ⟨h.fields.set 4 (.int .i64 x), h.row.keep (keep_set b 4 w _) (by simp; exact Ne.symm h.ne.1), h.came.keep (keep_set b 4 w _) (by simp; exact Ne.symm h.ne.2.1), h.ne⟩
/-- what a call of a stream's does to the world -/
def Does (b r m : Nat) (q' : St) (w : World) (w' : World) : Prop := Str b r m q' w' ∧ Keep [b, r, m] w w'
theorem Does.same {b r m : Nat} {q : St} {w : World} (h : Str b r m q w) : Does b r m q w w := ⟨h, Keep.refl _ _⟩
theorem Does.drewN {b r m : Nat} {q : St} {w : World} (h : Str b r m q w) (n : Nat) : Does b r m q w (w.drewN n) := ⟨h.drewN n, (Keep.refl _ _).drewN n⟩
theorem mayEnd_b {b r m : Nat} {q : St} (x : Int) (w : World) (h : Str b r m q w) (y : Bool) (hy : mayEndB q x = y) : Calls Try.prog 24 #[.pointer (some ⟨b, 0, none⟩), .int .i64 x] w fun e w' => e = .returned (.bool y) ∧ w' = w := hy ▸ mayEnd_any x w h
theorem limit_i {b r m : Nat} {q : St} (w : World) (hq : Ok q) (h : Str b r m q w) : Calls Try.prog 14 #[.pointer (some ⟨b, 0, none⟩)] w fun e w' => e = .returned (.int .i64 ((q.p : Int) + (q.row.length : Int))) ∧ ∃ n, w' = w.drewN n := by
  have := limit_any w h (by have := hq.pt; have := hq.big; have := hq.few; omega)
  rwa [Int.natCast_add] at this

set_option maxRecDepth 100000 in
set_option maxHeartbeats 6400000 in
theorem data_any (b r m : Nat) (q : St) (off : Int) (bv : Value) (bs : List Int) (fin : Bool) (w : World) (hq : Ok q) (h : Str b r m q w) (hR : Rd .u8 w bv bs) (ha : bs ≠ [] → ∀ j, bv.ownBlock = some j → j ≠ b ∧ j ≠ r ∧ j ≠ m) :
    Calls Try.prog 10 #[.pointer (some ⟨b, 0, none⟩), .int .i64 off, bv, .bool fin] w fun e w' => e = .returned (.int .i64 (dataE q off bs fin).2) ∧ Does b r m (dataE q off bs fin).1 w w' := by
  obtain ⟨va, vc, hv⟩ := hR.isSlice
  have hlm := hR.len
  unfold maxLen at hlm
  subst hv
  have HM := Lib.hid (made_any w h)
  have HH := Lib.hid h
  have hw1 : IntKind.i64.wrap (4611686018427387903 - (bs.length : Int)) = 4611686018427387903 - (bs.length : Int) := wraps_i64' _ (by omega) (by omega)
  unfold dataE
  cases h1 : withinB off 0 (4611686018427387903 - (bs.length : Int))
  · have H1 := Lib.hid h1
    rw [if_pos rfl]
    clear h1 hR ha h hq
    go_enter Try.func10, Try.ntmps10
    go_wp2_with (first
      | (go_at_call 22; refine HM.out.mono ?_; rintro e w2 ⟨rfl, h⟩; obtain rfl : w = w2 := h.symm)
      | (go_at_call 21; refine (within_b _ _ _ _ H1.out _).mono ?_; rintro e w2 ⟨rfl, h⟩; obtain rfl : w = w2 := h.symm))
    go_ret
    exact ⟨rfl, Does.same HH.out⟩
  have H1 := Lib.hid h1
  rw [if_neg (by decide)]
  have hwi := within_iff.1 h1
  have hw2 : IntKind.i64.wrap (off + (bs.length : Int)) = off + (bs.length : Int) := wraps_i64' _ (by omega) (by omega)
  obtain ⟨_, _, _, _, c4, c5⟩ := h.fields.facts
  cases h2 : q.br
  case true =>
    rw [if_pos rfl]
    rw [h2] at c5
    clear h1 h2 hR ha h hq hwi
    go_enter Try.func10, Try.ntmps10
    go_wp2_with (first
      | (go_at_call 22; refine HM.out.mono ?_; rintro e w2 ⟨rfl, h⟩; obtain rfl : w = w2 := h.symm)
      | (go_at_call 21; refine (within_b _ _ _ _ H1.out _).mono ?_; rintro e w2 ⟨rfl, h⟩; obtain rfl : w = w2 := h.symm))
    go_ret
    exact ⟨rfl, Does.same HH.out⟩
  rw [if_neg (by decide)]
  rw [h2] at c5
  have HLim := Lib.hid (limit_i w hq h)
  obtain ⟨lim, hlim⟩ : ∃ lim : Int, lim = (q.p : Int) + (q.row.length : Int) := ⟨_, rfl⟩
  have HLE := Lib.hid hlim
  rw [← hlim] at HLim ⊢
  obtain ⟨tt, hto⟩ : ∃ tt : Int, tt = off + (bs.length : Int) := ⟨_, rfl⟩
  have HTo := Lib.hid hto
  have hw2' : IntKind.i64.wrap (off + (bs.length : Int)) = tt := hw2.trans hto.symm
  rw [← hto]
  clear hw2
  by_cases h3 : lim < tt
  · rw [if_pos h3]
    clear h1 h2 hR ha h hq hwi hlim hto
    go_enter Try.func10, Try.ntmps10
    go_wp2_with (first
      | (go_at_call 22; refine HM.out.mono ?_; rintro e w2 ⟨rfl, h⟩; obtain rfl : w = w2 := h.symm)
      | (go_at_call 21; refine (within_b _ _ _ _ H1.out _).mono ?_; rintro e w2 ⟨rfl, h⟩; obtain rfl : w = w2 := h.symm)
      | (go_at_call 14; refine HLim.out.mono ?_; rintro e w3 ⟨rfl, nn, rfl⟩))
    go_ret
    exact ⟨rfl, Does.drewN HH.out _⟩
  rw [if_neg h3]
  obtain ⟨o, rfl⟩ : ∃ o : Nat, off = (o : Int) := ⟨off.toNat, by omega⟩
  rw [Int.toNat_natCast]
  have HK := Lib.hid (fun n (x : Bool) hx => known_b (w.drewN n) (h.drewN n) x hx)
  have HME := Lib.hid (fun n (y : Bool) hy => mayEnd_b tt (w.drewN n) (h.drewN n) y hy)
  have HBig := Lib.hid (show o + bs.length ≤ 4611686018427387903 by omega)
  have HFit := Lib.hid (show o + bs.length ≤ q.p + q.row.length by omega)
  have HTk := Lib.hid (fun n => take_any b r m q o (.slice va bs.length vc) bs (w.drewN n) hq (h.drewN n) (hR.below (below_drewN (Below.refl _ w) n)) ha HFit.out HBig.out)
  have e3 : decide (tt > lim) = false := decide_eq_false h3
  obtain ⟨e0, he0⟩ : ∃ e0, e0 = q.e := ⟨_, rfl⟩
  rw [← he0] at c4 HK ⊢
  have HE0 := Lib.hid he0
  clear h1 h2 h3 hR ha h hq hwi hlim hto he0
  by_cases h4 : e0 = -1
  · have H4 : Hid ((!decide (e0 = -1)) = false) := by show _ = _; simp [h4]
    have HN : Hid (¬ (e0 ≠ -1 ∧ e0 < tt)) := fun k => k.1 h4
    clear h4
    cases fin
    · rw [if_neg (by rintro (h | h); exact HN.out h; exact absurd h.1 (by decide))]
      have hse : ({ takeE q o bs with e := if false = true then tt else e0 } : St) = takeE q o bs := by rw [HE0.out]; exact take_same q o bs
      rw [hse]
      clear hse
      go_enter Try.func10, Try.ntmps10
      go_wp2_with (first
        | (go_at_call 22; refine HM.out.mono ?_; rintro e w2 ⟨rfl, h⟩; obtain rfl : w = w2 := h.symm)
        | (go_at_call 21; refine (within_b _ _ _ _ H1.out _).mono ?_; rintro e w2 ⟨rfl, h⟩; obtain rfl : w = w2 := h.symm)
        | (go_at_call 14; refine HLim.out.mono ?_; rintro e w3 ⟨rfl, nn, rfl⟩; have c4' : (w.drewN nn).cell? ⟨b, 4, none⟩ = some (.int .i64 e0) := c4)
        | (go_at_call 23; refine (HK.out _ false H4.out).mono ?_; rintro e w4 ⟨rfl, h4⟩; obtain rfl := h4.symm)
        | (go_at_call 25; refine (HTk.out _).mono ?_; rintro e w5 ⟨rfl, hS5, hK5⟩
           have HS5 := Lib.hid hS5
           have HK5 := Lib.hid (((Keep.refl [b, r, m] w).drewN nn).trans hK5 (fun i hi => .inl hi))
           obtain ⟨_, _, _, _, y4, _⟩ := hS5.fields.facts
           obtain ⟨_, _, z4, _⟩ := hS5.fields.free
           clear hS5 hK5))
      go_ret
      exact ⟨rfl, HS5.out, HK5.out⟩
    · cases hy : mayEndB q tt
      · rw [if_pos (.inr ⟨rfl, rfl⟩)]
        have HY := Lib.hid hy
        clear hy
        go_enter Try.func10, Try.ntmps10
        go_wp2_with (first
          | (go_at_call 22; refine HM.out.mono ?_; rintro e w2 ⟨rfl, h⟩; obtain rfl : w = w2 := h.symm)
          | (go_at_call 21; refine (within_b _ _ _ _ H1.out _).mono ?_; rintro e w2 ⟨rfl, h⟩; obtain rfl : w = w2 := h.symm)
          | (go_at_call 14; refine HLim.out.mono ?_; rintro e w3 ⟨rfl, nn, rfl⟩; have c4' : (w.drewN nn).cell? ⟨b, 4, none⟩ = some (.int .i64 e0) := c4)
          | (go_at_call 23; refine (HK.out _ false H4.out).mono ?_; rintro e w4 ⟨rfl, h4⟩; obtain rfl := h4.symm)
          | (go_at_call 24; refine (HME.out _ false HY.out).mono ?_; rintro e w4 ⟨rfl, h4⟩; obtain rfl := h4.symm))
        go_ret
        exact ⟨rfl, Does.drewN HH.out _⟩
      · rw [if_neg (by rintro (h | h); exact HN.out h; exact absurd h.2 (by decide))]
        rw [if_pos rfl]
        have HY := Lib.hid hy
        clear hy
        go_enter Try.func10, Try.ntmps10
        go_wp2_with (first
          | (go_at_call 22; refine HM.out.mono ?_; rintro e w2 ⟨rfl, h⟩; obtain rfl : w = w2 := h.symm)
          | (go_at_call 21; refine (within_b _ _ _ _ H1.out _).mono ?_; rintro e w2 ⟨rfl, h⟩; obtain rfl : w = w2 := h.symm)
          | (go_at_call 14; refine HLim.out.mono ?_; rintro e w3 ⟨rfl, nn, rfl⟩; have c4' : (w.drewN nn).cell? ⟨b, 4, none⟩ = some (.int .i64 e0) := c4)
          | (go_at_call 23; refine (HK.out _ false H4.out).mono ?_; rintro e w4 ⟨rfl, h4⟩; obtain rfl := h4.symm)
          | (go_at_call 24; refine (HME.out _ true HY.out).mono ?_; rintro e w4 ⟨rfl, h4⟩; obtain rfl := h4.symm)
          | (go_at_call 25; refine (HTk.out _).mono ?_; rintro e w5 ⟨rfl, hS5, hK5⟩
             have HS5 := Lib.hid hS5
             have HK5 := Lib.hid (((Keep.refl [b, r, m] w).drewN nn).trans hK5 (fun i hi => .inl hi))
             obtain ⟨_, _, _, _, y4, _⟩ := hS5.fields.facts
             obtain ⟨_, _, z4, _⟩ := hS5.fields.free
             clear hS5 hK5))
        go_ret
        exact ⟨rfl, Str.setEnd HS5.out tt, HK5.out.trans (keep_set b 4 w5 _) (fun i hi => .inl (by simp at hi; simp [hi]))⟩
  · have H4 : Hid ((!decide (e0 = -1)) = true) := by show _ = _; simp [h4]
    by_cases h5 : e0 < tt
    · rw [if_pos (.inl ⟨h4, h5⟩)]
      have e5 : decide (tt > e0) = true := decide_eq_true h5
      clear h4 h5
      go_enter Try.func10, Try.ntmps10
      go_wp2_with (first
        | (go_at_call 22; refine HM.out.mono ?_; rintro e w2 ⟨rfl, h⟩; obtain rfl : w = w2 := h.symm)
        | (go_at_call 21; refine (within_b _ _ _ _ H1.out _).mono ?_; rintro e w2 ⟨rfl, h⟩; obtain rfl : w = w2 := h.symm)
        | (go_at_call 14; refine HLim.out.mono ?_; rintro e w3 ⟨rfl, nn, rfl⟩; have c4' : (w.drewN nn).cell? ⟨b, 4, none⟩ = some (.int .i64 e0) := c4)
        | (go_at_call 23; refine (HK.out _ true H4.out).mono ?_; rintro e w4 ⟨rfl, h4⟩; obtain rfl := h4.symm))
      go_ret
      exact ⟨rfl, Does.drewN HH.out _⟩
    · have HN : Hid (¬ (e0 ≠ -1 ∧ e0 < tt)) := fun k => h5 k.2
      have e5 : decide (tt > e0) = false := decide_eq_false h5
      clear h4 h5
      cases fin
      · rw [if_neg (by rintro (h | h); exact HN.out h; exact absurd h.1 (by decide))]
        have hse : ({ takeE q o bs with e := if false = true then tt else e0 } : St) = takeE q o bs := by rw [HE0.out]; exact take_same q o bs
        rw [hse]
        clear hse
        go_enter Try.func10, Try.ntmps10
        go_wp2_with (first
          | (go_at_call 22; refine HM.out.mono ?_; rintro e w2 ⟨rfl, h⟩; obtain rfl : w = w2 := h.symm)
          | (go_at_call 21; refine (within_b _ _ _ _ H1.out _).mono ?_; rintro e w2 ⟨rfl, h⟩; obtain rfl : w = w2 := h.symm)
          | (go_at_call 14; refine HLim.out.mono ?_; rintro e w3 ⟨rfl, nn, rfl⟩; have c4' : (w.drewN nn).cell? ⟨b, 4, none⟩ = some (.int .i64 e0) := c4)
          | (go_at_call 23; refine (HK.out _ true H4.out).mono ?_; rintro e w4 ⟨rfl, h4⟩; obtain rfl := h4.symm)
          | (go_at_call 25; refine (HTk.out _).mono ?_; rintro e w5 ⟨rfl, hS5, hK5⟩
             have HS5 := Lib.hid hS5
             have HK5 := Lib.hid (((Keep.refl [b, r, m] w).drewN nn).trans hK5 (fun i hi => .inl hi))
             obtain ⟨_, _, _, _, y4, _⟩ := hS5.fields.facts
             obtain ⟨_, _, z4, _⟩ := hS5.fields.free
             clear hS5 hK5))
        go_ret
        exact ⟨rfl, HS5.out, HK5.out⟩
      · cases hy : mayEndB q tt
        · rw [if_pos (.inr ⟨rfl, rfl⟩)]
          have HY := Lib.hid hy
          clear hy
          go_enter Try.func10, Try.ntmps10
          go_wp2_with (first
            | (go_at_call 22; refine HM.out.mono ?_; rintro e w2 ⟨rfl, h⟩; obtain rfl : w = w2 := h.symm)
            | (go_at_call 21; refine (within_b _ _ _ _ H1.out _).mono ?_; rintro e w2 ⟨rfl, h⟩; obtain rfl : w = w2 := h.symm)
            | (go_at_call 14; refine HLim.out.mono ?_; rintro e w3 ⟨rfl, nn, rfl⟩; have c4' : (w.drewN nn).cell? ⟨b, 4, none⟩ = some (.int .i64 e0) := c4)
            | (go_at_call 23; refine (HK.out _ true H4.out).mono ?_; rintro e w4 ⟨rfl, h4⟩; obtain rfl := h4.symm)
            | (go_at_call 24; refine (HME.out _ false HY.out).mono ?_; rintro e w4 ⟨rfl, h4⟩; obtain rfl := h4.symm))
          go_ret
          exact ⟨rfl, Does.drewN HH.out _⟩
        · rw [if_neg (by rintro (h | h); exact HN.out h; exact absurd h.2 (by decide))]
          rw [if_pos rfl]
          have HY := Lib.hid hy
          clear hy
          go_enter Try.func10, Try.ntmps10
          go_wp2_with (first
            | (go_at_call 22; refine HM.out.mono ?_; rintro e w2 ⟨rfl, h⟩; obtain rfl : w = w2 := h.symm)
            | (go_at_call 21; refine (within_b _ _ _ _ H1.out _).mono ?_; rintro e w2 ⟨rfl, h⟩; obtain rfl : w = w2 := h.symm)
            | (go_at_call 14; refine HLim.out.mono ?_; rintro e w3 ⟨rfl, nn, rfl⟩; have c4' : (w.drewN nn).cell? ⟨b, 4, none⟩ = some (.int .i64 e0) := c4)
            | (go_at_call 23; refine (HK.out _ true H4.out).mono ?_; rintro e w4 ⟨rfl, h4⟩; obtain rfl := h4.symm)
            | (go_at_call 24; refine (HME.out _ true HY.out).mono ?_; rintro e w4 ⟨rfl, h4⟩; obtain rfl := h4.symm)
            | (go_at_call 25; refine (HTk.out _).mono ?_; rintro e w5 ⟨rfl, hS5, hK5⟩
               have HS5 := Lib.hid hS5
               have HK5 := Lib.hid (((Keep.refl [b, r, m] w).drewN nn).trans hK5 (fun i hi => .inl hi))
               obtain ⟨_, _, _, _, y4, _⟩ := hS5.fields.facts
               obtain ⟨_, _, z4, _⟩ := hS5.fields.free
               clear hS5 hK5))
          go_ret
          exact ⟨rfl, Str.setEnd HS5.out tt, HK5.out.trans (keep_set b 4 w5 _) (fun i hi => .inl (by simp at hi; simp [hi]))⟩
end Go.Proofs.Ytgckidgkimgpeaa
