/- Walks of layer 9: Reset, Read. -/
import Derived.Test.YtgckidgkimgpeaaRmF
set_option linter.unusedSimpArgs false
set_option linter.unusedVariables false
namespace Go.Proofs.Ytgckidgkimgpeaa
open Go.RowKit

theorem Str.reset {b r m : Nat} {q : St} {w w' : World} (h : Str b r m q w) (x : Int) (hc : Cs w' m ((List.replicate q.came.length false).map Value.bool)) (hg : ((w.setCell ⟨b, 4, none⟩ (.int .i64 x)).setCell ⟨b, 5, none⟩ (.bool true)).grownBy w' (some m)) :
    Does b r m { q with e := x, br := true, came := List.replicate q.came.length false } w w' := by
  have k1 : Keep [b] w ((w.setCell ⟨b, 4, none⟩ (.int .i64 x)).setCell ⟨b, 5, none⟩ (.bool true)) := (keep_set b 4 w _).trans (keep_set b 5 _ _) (fun i hi => .inl hi)
  have f1 : StrC b r m q.row.length q.p q.top x true ((w.setCell ⟨b, 4, none⟩ (.int .i64 x)).setCell ⟨b, 5, none⟩ (.bool true)) := (Cs.set h.fields 4 (.int .i64 x)).set 5 (.bool true)
  have r1 := h.row.keep k1 (by simp; exact Ne.symm h.ne.1)
  refine ⟨⟨Cs.grown f1 hg (by simpa using h.ne.2.1), r1.grown hg (by simpa using h.ne.2.2), hc, h.ne⟩, ?_⟩
  exact ((Keep.refl [b, r, m] w).trans k1 (fun i hi => .inl (by simp at hi; simp [hi]))).trans (S' := [m]) (Keep.of_grown hg (fun j hj => .inl (by cases hj; simp))) (fun i hi => .inl (by simp at hi; simp [hi]))
theorem allCame_b {b r m : Nat} {q : St} (w : World) (hq : Ok q) (h : Str b r m q w) (x : Bool) (hx : allB q = x) : Calls Try.prog 27 #[.pointer (some ⟨b, 0, none⟩)] w fun e w' => e = .returned (.bool x) ∧ ∃ n, w' = w.drewN n := hx ▸ allCame_any w hq h
theorem fill_all (cs : List Bool) : splice cs 0 (List.replicate cs.length false) = List.replicate cs.length false := by simp [splice]

set_option maxRecDepth 100000 in
set_option maxHeartbeats 6400000 in
theorem reset_any (b r m : Nat) (q : St) (x : Int) (w : World) (hq : Ok q) (h : Str b r m q w) :
    Calls Try.prog 15 #[.pointer (some ⟨b, 0, none⟩), .int .i64 x] w fun e w' => e = .returned (.int .i64 (resetE q x).2) ∧ Does b r m (resetE q x).1 w w' := by
  have HM := Lib.hid (made_any w h)
  have HH := Lib.hid h
  unfold resetE
  cases h1 : withinB x 0 4611686018427387903
  · have H1 := Lib.hid h1
    rw [if_pos rfl]
    clear h1 h hq
    go_enter Try.func15, Try.ntmps15
    go_wp2_with (first
      | (go_at_call 22; refine HM.out.mono ?_; rintro e w2 ⟨rfl, h⟩; obtain rfl : w = w2 := h.symm)
      | (go_at_call 21; refine (within_b _ _ _ _ H1.out _).mono ?_; rintro e w2 ⟨rfl, h⟩; obtain rfl : w = w2 := h.symm))
    go_ret
    exact ⟨rfl, Does.same HH.out⟩
  have H1 := Lib.hid h1
  rw [if_neg (by decide)]
  obtain ⟨_, _, _, _, _, c5⟩ := h.fields.facts
  cases h2 : q.br
  case true =>
    rw [if_pos (.inl rfl)]
    rw [h2] at c5
    clear h1 h2 h hq
    go_enter Try.func15, Try.ntmps15
    go_wp2_with (first
      | (go_at_call 22; refine HM.out.mono ?_; rintro e w2 ⟨rfl, h⟩; obtain rfl : w = w2 := h.symm)
      | (go_at_call 21; refine (within_b _ _ _ _ H1.out _).mono ?_; rintro e w2 ⟨rfl, h⟩; obtain rfl : w = w2 := h.symm))
    go_ret
    exact ⟨rfl, Does.same HH.out⟩
  rw [h2] at c5
  cases h3 : allB q
  case true =>
    rw [if_pos (.inr rfl)]
    have HA := Lib.hid (allCame_b w hq h true h3)
    clear h1 h2 h3 h hq
    go_enter Try.func15, Try.ntmps15
    go_wp2_with (first
      | (go_at_call 22; refine HM.out.mono ?_; rintro e w2 ⟨rfl, h⟩; obtain rfl : w = w2 := h.symm)
      | (go_at_call 21; refine (within_b _ _ _ _ H1.out _).mono ?_; rintro e w2 ⟨rfl, h⟩; obtain rfl : w = w2 := h.symm)
      | (go_at_call 27; refine HA.out.mono ?_; rintro e w3 ⟨rfl, n3, rfl⟩))
    go_ret
    exact ⟨rfl, Does.drewN HH.out _⟩
  rw [if_neg (by rintro (h | h) <;> cases h)]
  have HA := Lib.hid (allCame_b w hq h false h3)
  have HLim := Lib.hid (fun n => limit_i (w.drewN n) hq (h.drewN n))
  obtain ⟨lim, hlim⟩ : ∃ lim : Int, lim = (q.p : Int) + (q.row.length : Int) := ⟨_, rfl⟩
  rw [← hlim] at HLim ⊢
  by_cases h4 : lim < x
  · rw [if_pos h4]
    clear h1 h2 h3 h hq hlim
    go_enter Try.func15, Try.ntmps15
    go_wp2_with (first
      | (go_at_call 22; refine HM.out.mono ?_; rintro e w2 ⟨rfl, h⟩; obtain rfl : w = w2 := h.symm)
      | (go_at_call 21; refine (within_b _ _ _ _ H1.out _).mono ?_; rintro e w2 ⟨rfl, h⟩; obtain rfl : w = w2 := h.symm)
      | (go_at_call 27; refine HA.out.mono ?_; rintro e w3 ⟨rfl, n3, rfl⟩)
      | (go_at_call 14; refine (HLim.out _).mono ?_; rintro e w4 ⟨rfl, n4, rfl⟩))
    go_ret
    exact ⟨rfl, HH.out.drewN (n3 + n4), (Keep.refl _ _).drewN (n3 + n4)⟩
  rw [if_neg h4]
  have e4 : decide (x > lim) = false := decide_eq_false h4
  have HME := Lib.hid (fun W (hW : Str b r m q W) (y : Bool) hy => mayEnd_b x W hW y hy)
  cases h5 : mayEndB q x
  · rw [if_pos rfl]
    have H5 := Lib.hid h5
    clear h1 h2 h3 h4 h5 h hq hlim
    go_enter Try.func15, Try.ntmps15
    go_wp2_with (first
      | (go_at_call 22; refine HM.out.mono ?_; rintro e w2 ⟨rfl, h⟩; obtain rfl : w = w2 := h.symm)
      | (go_at_call 21; refine (within_b _ _ _ _ H1.out _).mono ?_; rintro e w2 ⟨rfl, h⟩; obtain rfl : w = w2 := h.symm)
      | (go_at_call 27; refine HA.out.mono ?_; rintro e w3 ⟨rfl, n3, rfl⟩)
      | (go_at_call 14; refine (HLim.out _).mono ?_; rintro e w4 ⟨rfl, n4, rfl⟩)
      | (go_at_call 24; refine (HME.out _ (HH.out.drewN (n3 + n4)) _ H5.out).mono ?_; rintro e w5 ⟨rfl, h⟩; obtain rfl := h.symm))
    go_ret
    exact ⟨rfl, HH.out.drewN (n3 + n4), (Keep.refl _ _).drewN (n3 + n4)⟩
  · rw [if_neg (by decide)]
    have H5 := Lib.hid h5
    have HLen := Lib.hid hq.len
    have hpos : 0 < q.row.length := hq.low
    have HPos := Lib.hid hpos
    clear h1 h2 h3 h4 h5 h hq hlim hpos
    go_enter Try.func15, Try.ntmps15
    go_wp2_with (first
      | (go_at_call 22; refine HM.out.mono ?_; rintro e w2 ⟨rfl, h⟩; obtain rfl : w = w2 := h.symm)
      | (go_at_call 21; refine (within_b _ _ _ _ H1.out _).mono ?_; rintro e w2 ⟨rfl, h⟩; obtain rfl : w = w2 := h.symm)
      | (go_at_call 27; refine HA.out.mono ?_; rintro e w3 ⟨rfl, n3, rfl⟩)
      | (go_at_call 14; refine (HLim.out _).mono ?_; rintro e w4 ⟨rfl, n4, rfl⟩)
      | (go_at_call 24; refine (HME.out _ (HH.out.drewN (n3 + n4)) _ H5.out).mono ?_; rintro e w5 ⟨rfl, h⟩; obtain rfl := h.symm
         have HW := Lib.hid (HH.out.drewN (n3 + n4))
         have KW : Hid (Keep [b, r, m] w (w.drewN (n3 + n4))) := (Keep.refl _ _).drewN (n3 + n4)
         generalize w.drewN (n3 + n4) = W at HW KW ⊢
         obtain ⟨_, y1, _, _, y4, y5⟩ := HW.out.fields.facts
         obtain ⟨_, _, z4, z5⟩ := HW.out.fields.free)
      | (with_reducible refine wpList_clear_cs _ rfl (.tmp 37) 43 rfl 4 (.bool false) Try.underlying43 Try.zeroValue4 rfl rfl m 0 q.row.length q.row.length (by simp [Act.eval, Act.put]) HPos.out (q.came.map Value.bool) (HW.out.came.keep ((keep_set b 4 W (.int .i64 x)).trans (keep_set b 5 _ (.bool true)) (fun i hi => .inl hi)) (by simp; exact Ne.symm HW.out.ne.2.1)) (by rw [List.length_map, HLen.out]; omega) ?_
         intro w6 hr6 hg6
         have HR6 : Hid (Cs w6 m ((List.replicate q.came.length false).map Value.bool)) := by
           have := hr6.out
           rw [← HLen.out, ← rep_map, ← map_splice, fill_all] at this
           exact this
         have HG6 := Lib.hid hg6
         clear hr6 hg6))
    go_ret
    have hd := HW.out.reset x HR6.out HG6.out
    exact ⟨rfl, hd.1, KW.out.trans hd.2 (fun i hi => .inl hi)⟩
end Go.Proofs.Ytgckidgkimgpeaa
