/- Laws of layer 14: Back (the document's decoder reads what the encoder tells). -/
import Derived.Test.YtbkbabaoockigaaGreatDoorQmG
set_option maxRecDepth 100000
set_option linter.unusedSimpArgs false
set_option linter.unusedVariables false
namespace Go.Proofs.YtbkbabaoockigaaGreatDoor
open Go.RowKit

theorem rnewd_results {W : World} {tmps : Array Value} {A : Nat} {v0 v1 v2 v3 x : Value} (h4 : tmps[2]?.getD undef = .pointer (some ⟨A, 0, none⟩)) (h5 : tmps[3]?.getD undef = x)
    (c0 : W.cell? ⟨A, 0, none⟩ = some v0) (c1 : W.cell? ⟨A, 1, none⟩ = some v1) (c2 : W.cell? ⟨A, 2, none⟩ = some v2) (c3 : W.cell? ⟨A, 3, none⟩ = some v3) : (results Tryz.f10 tmps).run Tryz.prog W = .ok (.tuple #[.agg #[v0, v1, v2, v3], x]) W := by
  have hr : Tryz.f10.results = #[.cell 2 31, .tmp 3] := rfl
  simp only [results, hr]
  go_simp
theorem rnewd_any (n : Int) (w : World) (m y : Int) (hm : m = if n < 0 ∨ 4096 < n then 0 else n) (hy : y = if n < 0 ∨ 4096 < n then 1 else 0) : Calls Tryz.prog 10 #[.int .i64 n] w fun e w' => e = .returned (.tuple #[.agg #[.int .i64 m, .int .i64 0, .int .i64 0, .slice none 0 0], .int .i64 y]) ∧ Below w.heap.size w w' := by
  obtain ⟨w1, hw1⟩ : ∃ W, W = w.alloc (.cells #[.int .i64 0, .int .i64 0, .int .i64 0, .slice none 0 0] 31) := ⟨_, rfl⟩
  have B1 : Hid (Below w.heap.size w w1) := (by rw [hw1]; exact below1 w _ : Below _ _ _)
  have Q1 : Hid (Cs w1 w.heap.size [.int .i64 0, .int .i64 0, .int .i64 0, .slice none 0 0]) := (by rw [hw1]; exact Cs.made w #[.int .i64 0, .int .i64 0, .int .i64 0, .slice none 0 0] 31 : Cs _ _ _)
  have HN : Hid (Calls Tryz.prog 25 #[.int .i64 n] w1 fun e w' => e = .returned (.tuple #[.agg #[.int .i64 m, .int .i64 0, .int .i64 0, .slice none 0 0], .int .i64 y]) ∧ Below w1.heap.size w1 w') := by
    rw [hm, hy]; exact rnew_any n w1
  have HW1 := Lib.hid hw1
  have hzt := zeroTv
  clear hm hy hw1
  go_enter Tryz.func10, Tryz.ntmps10
  go_upto_region 1 with fail
  rw [← HW1.out]
  go_upto_region 2 with (go_at_call 25; refine HN.out.mono ?_; rintro e w2 ⟨rfl, hb⟩; have B2 := Lib.hid (B1.out.trans (hb.mono B1.out.size)); have Q2 := Lib.hid (Q1.out.below hb); clear hb)
  have hb3 := below1 w2 (.cells #[.int .i64 m, .int .i64 0, .int .i64 0, .slice none 0 0] 29)
  have N3 := Lib.hid (Cs.made w2 #[.int .i64 m, .int .i64 0, .int .i64 0, .slice none 0 0] 29)
  have B3 := Lib.hid (B2.out.trans (hb3.mono B2.out.size))
  have Q3 := Lib.hid (Q2.out.below hb3)
  clear hb3
  generalize w2.alloc (.cells #[.int .i64 m, .int .i64 0, .int .i64 0, .slice none 0 0] 29) = w3 at N3 B3 Q3 ⊢
  have n0 := N3.out.get 0 _ rfl
  have n1 := N3.out.get 1 _ rfl
  have n2 := N3.out.get 2 _ rfl
  have n3 := N3.out.get 3 _ rfl
  have x0 := Q3.out.get 0 _ rfl
  have x1 := Q3.out.get 1 _ rfl
  have x2 := Q3.out.get 2 _ rfl
  have x3 := Q3.out.get 3 _ rfl
  have z0 := Q3.out.free 0
  have z1 := Q3.out.free 1
  have z2 := Q3.out.free 2
  have z3 := Q3.out.free 3
  have hlz := Q3.out.lt
  go_wp2_with fail
  have QD := (((Q3.out.set 0 (.int .i64 m)).set 1 (.int .i64 0)).set 2 (.int .i64 0)).set 3 (.slice none 0 0)
  refine bodyPost_ret (rnewd_results rfl rfl (QD.get 0 _ rfl) (QD.get 1 _ rfl) (QD.get 2 _ rfl) (QD.get 3 _ rfl)) rfl ⟨rfl, ?_⟩
  exact (((B3.out.setCell (p := ⟨w.heap.size, 0, none⟩) (Nat.le_refl _) _).setCell (p := ⟨w.heap.size, 1, none⟩) (Nat.le_refl _) _).setCell (p := ⟨w.heap.size, 2, none⟩) (Nat.le_refl _) _).setCell (p := ⟨w.heap.size, 3, none⟩) (Nat.le_refl _) _

/-- the most that a table may have does not turn -/
theorem insert_most (q : TQ) (f : Fd) : (insertE q f).1.most = q.most := by
  unfold insertE
  split
  · rfl
  · split
    · rfl
    · rfl
theorem setCap_most (q : TQ) (n : Int) : (setCapE q n).1.most = q.most := by
  unfold setCapE
  split <;> rfl
theorem insE_most (q : TQ) (xs : List Int) (a : Nat) : (insE q xs a).1.most = q.most := by
  unfold insE
  repeat' split
  all_goals first
    | rfl
    | exact insert_most _ _
    | exact setCap_most _ _
theorem feedF_most : ∀ (m : Nat) (q : TQ) (xs : List Int) (a : Nat), (feedF m q xs a).1.most = q.most := by
  intro m
  induction m with
  | zero => intro q xs a; rfl
  | succ m ih =>
    intro q xs a
    unfold feedF
    split
    · rfl
    · split
      · rfl
      · rw [ih, insE_most]
theorem feed_most (q : TQ) (xs : List Int) (a : Nat) : (feedE q xs a).1.most = q.most := feedF_most _ _ _ _

/-- an encoder of a law's own, and the document's decoder -/
structure TwoR (w0 : World) (en c : Nat) (sl : Value) (q1 : TQ) (b : Nat) (v : Value) (q2 : TQ) (w : World) : Prop where
  m1 : Mq w0 en c sl q1 w
  r : RTb b v q2 w
  ok : TOk q2
  fr : w0.heap.size ≤ b
  vf : q2.l ≠ [] → ∀ j, v.ownBlock = some j → w0.heap.size ≤ j
  ap : b ∉ DS en c sl
  va : q2.l ≠ [] → ∀ j, v.ownBlock = some j → j ∉ DS en c sl
section
variable {w0 : World} {en c : Nat} {sl : Value} {q1 : TQ} {b : Nat} {v : Value} {q2 : TQ} {w : World}
theorem TwoR.below {w' : World} (h : TwoR w0 en c sl q1 b v q2 w) (hb : Below w.heap.size w w') : TwoR w0 en c sl q1 b v q2 w' := ⟨h.m1.below hb, h.r.below hb, h.ok, h.fr, h.vf, h.ap, h.va⟩
theorem TwoR.step1 {q' : TQ} {w' : World} {sl' : Value} (h : TwoR w0 en c sl q1 b v q2 w) (hd1 : Dcd en c sl' q' w') (h2 : ∀ j, sl'.ownBlock = some j → sl.ownBlock = some j ∨ w.heap.size ≤ j) (h3 : Keep (TS c sl) w w') : TwoR w0 en c sl' q' b v q2 w' := by
  have hn : ∀ i, i ∉ DS en c sl → i ∉ TS c sl := fun i hi hm => hi (List.mem_cons_of_mem _ hm)
  have hbel := h.m1.bel.trans (h3.to_below (fun i hi => h.m1.fresh i (List.mem_cons_of_mem _ hi)) h.m1.bel.size)
  have hnew : ∀ i, i < w.heap.size → i ∉ DS en c sl → i ∉ DS en c sl' := fun i hi hm hm' => by
    rcases mem_DS.1 hm' with e | e | e
    · exact hm (mem_DS.2 (.inl e))
    · exact hm (mem_DS.2 (.inr (.inl e)))
    · rcases h2 i e with e1 | e1
      · exact hm (mem_DS.2 (.inr (.inr e1)))
      · omega
  refine ⟨⟨hd1, fun i hi => ?_, hbel, h.m1.fix, h.m1.err⟩, h.r.keep h3 (hn _ h.ap) (fun h0 j hj => hn _ (h.va h0 j hj)), h.ok, h.fr, h.vf, hnew _ h.r.lt h.ap, fun h0 j hj => hnew _ (h.r.vlt h0 j hj) (h.va h0 j hj)⟩
  rcases mem_DS.1 hi with e | e | e
  · exact h.m1.fresh i (mem_DS.2 (.inl e))
  · exact h.m1.fresh i (mem_DS.2 (.inr (.inl e)))
  · rcases h2 i e with e1 | e1
    · exact h.m1.fresh i (mem_DS.2 (.inr (.inr e1)))
    · exact Nat.le_trans h.m1.bel.size e1
theorem TwoR.step2 {q' : TQ} {w' : World} (h : TwoR w0 en c sl q1 b v q2 w) (ho : TOk q') (hd : RDid b v q2 q' w w') : ∃ v', TwoR w0 en c sl q1 b v' q' w' ∧ Keep [b] w w' := by
  obtain ⟨v', h1, h2, h3⟩ := hd
  have hbel := h.m1.bel.trans (h3.to_below (fun i hi => by simp only [List.mem_singleton] at hi; rw [hi]; exact h.fr) h.m1.bel.size)
  refine ⟨v', ⟨⟨h.m1.dcd.keep h3 (fun hm => h.ap (mem_DS.2 (.inl (List.mem_singleton.1 hm).symm))) (fun hm => h.ap (mem_DS.2 (.inr (.inl (List.mem_singleton.1 hm).symm)))) (fun j hj hm => h.ap (mem_DS.2 (.inr (.inr (by rw [← List.mem_singleton.1 hm]; exact hj))))), h.m1.fresh, hbel, h.m1.fix, h.m1.err⟩, h1, ho, h.fr, fun h0 j hj => ?_, h.ap, fun h0 j hj => ?_⟩, h3⟩
  · rcases h2 h0 j hj with ⟨h4, h5⟩ | h4
    · exact h.vf h4 j h5
    · exact Nat.le_trans h.m1.bel.size h4
  · rcases h2 h0 j hj with ⟨h4, h5⟩ | h4
    · exact h.va h4 j h5
    · intro hm; have := h.m1.lt j hm; omega
end
theorem feedE_okT : ∀ (m : Nat) (q : TQ) (xs : List Int) (a : Nat), TOk q → TOk (feedF m q xs a).1 := by
  intro m
  induction m with
  | zero => intro q xs a h; exact h
  | succ m ih =>
    intro q xs a h
    unfold feedF
    split
    · exact h
    · split
      · exact h
      · exact ih _ _ _ (insE_okT h _ _)
section
variable {w : World} {en c : Nat} {sl1 : Value} {b : Nat} {v : Value} {q : TQ} {W : World}
/-- the decoder is fed what goes well -/
theorem feed_stepR {q1 : TQ} {vx : Value} {xs : List Int} (h : TwoR w en c sl1 q1 b v q W) (hr : Rd .u8 W vx xs) (hv : xs ≠ [] → ∀ j, vx.ownBlock = some j → j ≠ b) (hx : Bts xs) (hl : xs.length ≤ 1048576) (hc : countN q + xs.length ≤ 4611686018427387000) {q' : TQ} (hF : feedE q xs 0 = (q', 0, 0)) :
    Calls Tryz.prog 14 #[.pointer (some ⟨b, 0, none⟩), vx] W fun e' W2 => e' = .returned (.agg #[.int .i64 0, .int .i64 0]) ∧ ∃ v', TwoR w en c sl1 q1 b v' q' W2 ∧ Keep [b] W W2 := by
  refine (rfeed_yes W h.r hr hv hx hl h.ok hc hF).mono ?_
  rintro e w' ⟨he, hd⟩
  refine ⟨he, h.step2 ?_ hd⟩
  have := feedE_okT (xs.length + 1 - 0) q xs 0 h.ok
  have e : feedF (xs.length + 1 - 0) q xs 0 = (q', 0, 0) := hF
  rw [e] at this
  exact this
theorem cap_stepR (n : Int) (h : TwoR w en c sl1 q b v q W) (hc : countN q ≤ 4611686018427380000) :
    Calls Tryz.prog 13 #[.pointer (some ⟨en, 0, none⟩), .int .i64 n] W fun e W' => ∃ sl', TwoR w en c sl' (setCapE q n).1 b v q W' ∧ Keep (TS c sl1) W W' ∧ (∀ i, i < W.heap.size → i ∉ TS c sl1 → i ∉ TS c sl') ∧
      (((setCapE q n).2 ≠ 0 ∧ e = .returned (.tuple #[.slice none 0 0, .int .i64 (setCapE q n).2])) ∨
       ((setCapE q n).2 = 0 ∧ ∃ u, e = .returned (.tuple #[u, .int .i64 0]) ∧ Calls Tryz.prog 14 #[.pointer (some ⟨b, 0, none⟩), u] W' fun e' W2 => e' = .returned (.agg #[.int .i64 0, .int .i64 0]) ∧
        ∃ v', TwoR w en c sl' (setCapE q n).1 b v' (setCapE q n).1 W2 ∧ Keep [b] W' W2)) := by
  refine (esetcap_any n W h.m1.dcd (by omega)).mono ?_
  rintro e W' ⟨sl', ⟨h1, h2, h3⟩, hh⟩
  have t' := h.step1 h1 h2 h3
  refine ⟨sl', t', h3, out_of h2, ?_⟩
  rcases hh with ⟨h4, h5⟩ | ⟨h4, u, h5, h6, h7⟩
  · exact .inl ⟨h4, h5⟩
  · refine .inr ⟨h4, u, h5, ?_⟩
    obtain ⟨k, rfl⟩ : ∃ k : Nat, n = (k : Int) := ⟨n.toNat, by
      unfold setCapE at h4
      split at h4
      · cases h4
      · omega⟩
    have hk : k ≤ 4096 := by
      have := h.m1.dcd.ok.1
      unfold setCapE at h4
      split at h4
      · cases h4
      · omega
    have hen := sizeN_le (w := 5) (n := (k : Int)) (by omega)
    rw [← encP_len 32] at hen
    have hbl := h.r.lt
    exact feed_stepR t' h6.rd (fun _ j hj => by have := h6.blk j hj; omega) (encP_bts ⟨by decide, by decide, by omega, by omega⟩) (by omega) (by omega) (cap_fed q k (by omega) h4)
theorem enc_stepR (put : Bool) {u : Value} {l : List Fd} (h : TwoR w en c sl1 q b v q W) (hr : RdC 2 w u l.length (fdC l)) (hc : countN q ≤ 1000000) :
    Calls Tryz.prog 15 #[.pointer (some ⟨en, 0, none⟩), u, .bool put] W fun e W' =>
      (encErr l ≠ 0 → e = .returned (.tuple #[.slice none 0 0, .slice none 0 0, .int .i64 (encErr l)]) ∧ Below W.heap.size W W') ∧
      (encErr l = 0 → ∃ va n vc vs sl1' q', e = .returned (.tuple #[.slice va n vc, vs, .int .i64 0]) ∧ (put = false → n = 0) ∧ countN q' ≤ countN q + 64 ∧ q'.most = q.most ∧ Keep (TS c sl1) W W' ∧ TwoR w en c sl1' q' b v q W' ∧
        ∀ W1, Below W'.heap.size W' W1 → Calls Tryz.prog 14 #[.pointer (some ⟨b, 0, none⟩), .slice va n vc] W1 fun e' W2 => e' = .returned (.agg #[.int .i64 0, .int .i64 0]) ∧
          ∃ v', TwoR w en c sl1' q' b v' q' W2 ∧ Keep [b] W1 W2 ∧ Calls Tryz.prog 17 #[.pointer (some ⟨b, 0, none⟩), vs] W2 (DecIs14 W2 (l, 0, 0))) := by
  refine (encode_any put W h.m1.dcd (hr.below h.m1.bel) (fun h0 j hj hm => ?_) h.m1.fixN h.m1.fx (by omega)).mono ?_
  · have h1 := h.m1.fresh j (List.mem_cons_of_mem _ hm)
    have h2 := hr.blt (by cases l with | nil => exact absurd rfl h0 | cons a b => simp) j hj
    omega
  · rintro e W' ⟨he1, he2⟩
    refine ⟨he1, fun h0 => ?_⟩
    obtain ⟨q', m, need, kept, ins, lines, vi, vs, T, hm, he, oi, os, sl1', g1, g2, g3⟩ := he2 h0
    have hl := encErr_le h0
    have t' := h.step1 g1 g2 g3
    have hcq := T.cnt
    have hfed := T.fed
    have hmo : q'.most = q.most := by
      have := feed_most q ins 0
      rw [hfed] at this
      exact this
    obtain ⟨hbt, hln⟩ := sec_fits T (by omega)
    obtain ⟨va, vc, rfl⟩ := oi.rd.isSlice
    have hbl := h.r.lt
    refine ⟨va, ins.length, vc, vs, sl1', q', he, fun hp => by rw [(T.plain hp).1]; rfl, by omega, hmo, g3, t', fun W1 hW1 => ?_⟩
    have hsi := T.sI
    refine (feed_stepR (t'.below hW1) (oi.rd.below hW1) (fun _ j hj => by have := oi.blk j hj; omega) T.bI (by omega) (by omega) hfed).mono ?_
    rintro e' W2 ⟨hf, v', t2, k2⟩
    refine ⟨hf, v', t2, k2, ?_⟩
    have os2 := own_keep (os.below hW1) k2 (fun j hj => by have := os.blk j hj; simp; omega)
    exact rdecode_yes W2 t2.r os2.rd (fun _ j hj => by have := os.blk j hj; omega) hbt (by omega) (show countN q' ≤ 1152921504606846976 by omega) (T.dec hl (by omega) q' (Ext.refl _ _) T.need_le)
end

set_option maxHeartbeats 12800000 in
theorem back_yes {v : Value} {s : List ToldV} (most : Nat) (hmost : most ≤ 4096) (w : World) (hF : Fix w) (hE : ErrT w) (hs : Tolds w v s) :
    Calls Tryz.prog 3 #[.int .i64 (most : Int), v] w (Yes w) := by
  have HNE := Lib.hid (newEnc_yes most w hmost)
  have HND : Hid (∀ W, Calls Tryz.prog 10 #[.int .i64 (most : Int)] W fun e w' => e = .returned (.tuple #[.agg #[.int .i64 (most : Int), .int .i64 0, .int .i64 0, .slice none 0 0], .int .i64 0]) ∧ Below W.heap.size W w') := fun W => rnewd_any most W most 0 (by rw [if_neg (by omega)]) (by rw [if_neg (by omega)])
  have HF := Lib.hid hF
  have HE := Lib.hid hE
  have HA := Lib.hid hs
  clear hF hE hs
  have qt : ∀ W, (Op.equalIn 10000 42 (.agg #[.int .i64 0, .int .i64 0]) (.agg #[.int .i64 0, .int .i64 0])).run Tryz.prog W = .ok true W := fun W => by have := eqQ_any 0 0 0 0 W; rw [decide_eq_true ⟨rfl, rfl⟩] at this; exact this
  have HMO := Lib.hid hmost
  clear hmost
  go_enter Tryz.func3, Tryz.ntmps3
  go_upto_region 3 with (first
    | (go_at_call 9; refine HNE.out.mono ?_; rintro e w1 ⟨en, c, rfl, h1, h2, h3, h4⟩; have H1 := Lib.hid h1; have H2 := Lib.hid h2; have H3 := Lib.hid h3; have H4 := Lib.hid h4; clear h1 h2 h3 h4)
    | (go_at_call 10; refine (HND.out _).mono ?_; rintro e w2 ⟨rfl, hb⟩; have B2 := Lib.hid hb; clear hb))
  have hb3 := below1 w2 (.cells #[.int .i64 (most : Int), .int .i64 0, .int .i64 0, .slice none 0 0] 31)
  have N3 := Cs.made w2 #[.int .i64 (most : Int), .int .i64 0, .int .i64 0, .slice none 0 0] 31
  have hbz := B2.out.size
  have hcz := H1.out.lt
  have hcz2 := H1.out.tbl.lt
  have hsl : ∀ j : Nat, (Value.slice none 0 0).ownBlock = some j → False := fun j hj => by cases hj
  have TWO3 : Hid (TwoR w en c (.slice none 0 0) (newT most) w2.heap.size (.slice none 0 0) (newT most) (w2.alloc (.cells #[.int .i64 (most : Int), .int .i64 0, .int .i64 0, .slice none 0 0] 31))) := by
    have hbb := B2.out.trans (hb3.mono hbz)
    refine ⟨⟨H1.out.below hbb, fun i hi => ?_, H4.out.trans (hbb.mono H4.out.size), HF.out, HE.out⟩, ⟨N3, ⟨rfl, .inl ⟨rfl, none, 0, rfl, Nat.zero_le _, fun _ => rfl⟩⟩, fun h => absurd rfl h⟩, newT_ok _ HMO.out, Nat.le_trans H4.out.size hbz, fun h => absurd rfl h, fun hm => ?_, fun h => absurd rfl h⟩
    · rcases mem_DS.1 hi with e | e | e
      · rw [e]; exact H2.out
      · rw [e]; exact H3.out
      · exact (hsl _ e).elim
    · rcases mem_DS.1 hm with e | e | e
      · omega
      · omega
      · exact (hsl _ e).elim
  clear hb3 N3 hbz hcz hcz2 hsl
  generalize w2.alloc (.cells #[.int .i64 (most : Int), .int .i64 0, .int .i64 0, .slice none 0 0] 31) = w3 at TWO3 ⊢
  obtain ⟨d, hd⟩ : ∃ d, d = w2.heap.size := ⟨_, rfl⟩
  rw [← hd] at TWO3 ⊢
  clear HND HNE H1 H2 H3 H4 B2 hd
  go_wp2_with (first
    | (go_at_call 11; refine (alive_any _ TWO3.out.m1.fixN (HE.out.below TWO3.out.m1.bel)).mono ?_; rintro e w4 ⟨rfl, hb3⟩; have TWO4 := Lib.hid (TWO3.out.below hb3); clear hb3)
    | (go_at_call 12; refine (short_any _ (HA.out.below TWO4.out.m1.bel)).mono ?_; rintro e w5 ⟨v4, rfl, hsh0, hw4⟩; have hsh := hsh0 w HA.out; obtain rfl : w4 = w5 := hw4.symm; obtain ⟨s4, hs4⟩ : ∃ S, S = s.take 40 := ⟨_, rfl⟩; have HL4 : Hid (s4.length ≤ 40) := (by rw [hs4, List.length_take]; exact Nat.min_le_left _ _ : s4.length ≤ 40); rw [← hs4] at hsh; obtain ⟨va, vc, hv4, _, _⟩ := hsh.row.isSlice; subst hv4; have HSH := Lib.hid hsh; clear hsh hsh0 hs4))
  go_loopw [47] (fun i wr => ∃ (k : Nat) (sl1 v2 : Value) (q : TQ), i = .int .i64 (k : Int) ∧ k ≤ s4.length ∧ TwoR w en c sl1 q d v2 q wr ∧ countN q ≤ 64 * k ∧ Hid (q.most = most)) (fun i _ => s4.length - (intOf i).toNat)
  case atStart => exact ⟨0, _, _, _, rfl, Nat.zero_le _, TWO4.out, by simp [countN, newT], Lib.hid rfl⟩
  case round =>
    obtain ⟨k, sl1, v2, q, rfl, hk, htw, hcq, QM⟩ := hrel
    have HTW := Lib.hid htw
    have HCQ := Lib.hid hcq
    clear htw hcq TWO3 TWO4
    by_cases hkl : k < s4.length
    · obtain ⟨g, o, c', hs2, hgc, hgm, hg⟩ := rd_form (HSH.out.below HTW.out.m1.bel).row (by omega)
      simp only [Value.slice.injEq, true_and] at hs2
      obtain ⟨rfl, rfl⟩ := hs2
      obtain ⟨c0, c1, c2⟩ := (HSH.out.below HTW.out.m1.bel).at k hkl
      have hrl := HSH.out.each s4[k] (List.getElem_mem hkl)
      obtain ⟨⟨fv, put, cap, l⟩, hak⟩ : ∃ a, a = s4[k] := ⟨_, rfl⟩
      rw [← hak] at c0 c1 c2 hrl
      simp only at c0 c1 c2 hrl
      obtain ⟨fa, fc, rfl, _, _⟩ := hrl.isSlice
      have HR2 := Lib.hid hrl
      have hi1 : (k : Int) < (s4.length : Int) := by omega
      have hi2 : (0 : Int) ≤ (k : Int) := by omega
      have hw1 : IntKind.i64.wrap ((k : Int) + 1) = ((k + 1 : Nat) : Int) := by rw [wraps_i64' _ (by omega) (by have := HL4.out; omega)]; omega
      have HKL := Lib.hid hkl
      obtain ⟨w2, hw2⟩ : ∃ W, W = wr.alloc (.cells #[.slice fa l.length fc, .bool put, .int .i64 cap] 37) := ⟨_, rfl⟩
      have hb2 : Below wr.heap.size wr w2 := by rw [hw2]; exact below1 wr _
      have hq2 : Cs w2 wr.heap.size [.slice fa l.length fc, .bool put, .int .i64 cap] := by rw [hw2]; exact Cs.made wr _ _
      have HQ2 := Lib.hid hq2
      have x0 := hq2.get 0 _ rfl
      have x1 := hq2.get 1 _ rfl
      have x2 := hq2.get 2 _ rfl
      have T2 := Lib.hid (HTW.out.below hb2)
      have HYN : Hid (wr.heap.size ∉ TS c sl1 ∧ wr.heap.size ∉ [d]) := ⟨fun hm => by have := HTW.out.m1.lt _ (List.mem_cons_of_mem _ hm); omega, fun hm => by have := HTW.out.r.lt; have := List.mem_singleton.1 hm; omega⟩
      have HW2 := Lib.hid hw2
      clear hak hkl hk hg hgc hgm hrl hb2 hw2 hq2 HTW
      by_cases hcap : cap < 0
      · have dc : decide (cap ≥ 0) = false := decide_eq_false (by omega)
        have TW := T2
        have HY := HQ2
        have HYX := HYN
        have y0 := x0
        have y1 := x1
        have CN : Hid (countN q ≤ 1000000) := by have := HCQ.out; have := HL4.out; have := HKL.out; show countN q ≤ 1000000; omega
        have CQ : Hid (countN q ≤ 64 * k) := HCQ.out
        have QN : Hid (q.most = most) := QM
        clear hcap
        go_upto_region 10 with fail
        rw [← HW2.out]
        obtain ⟨WX, hWX⟩ : ∃ WX, WX = w2 := ⟨_, rfl⟩
        rw [← hWX] at TW HY y0 y1 ⊢
        rw [← hWX] at x0 x1 x2
        clear hWX
        have HENC := Lib.hid (enc_stepR put TW.out HR2.out CN.out)
        by_cases herr : encErr l = 0
        · have HER := Lib.hid herr
          have HLL : Hid (l.length ≤ 4611686018427387904) := by have := encErr_le herr; show l.length ≤ 4611686018427387904; omega
          have HRT : Hid (∀ W, Below w.heap.size w W → Calls Tryz.prog 16 #[.slice fa l.length fc] W fun e w' => e = .returned (.int .i64 0) ∧ Below W.heap.size W w') := fun W hW => by
            have := r14right_any W (HR2.out.below hW)
            rw [herr] at this
            exact this
          clear herr
          cases put with
          | true =>
            go_wp2_with (first
              | (go_at_call 15; refine HENC.out.mono ?_; rintro e wE he; obtain ⟨via, vin, vic, vs, slE, q', rfl, hp0, hcc, hmm, hkE, htE, hfd⟩ := he.2 HER.out; have FD := Lib.hid hfd; have CC := Lib.hid hcc; have MM := Lib.hid hmm; have TE := Lib.hid htE; have YE := Lib.hid (HY.out.keep hkE HYX.out.1); have yE0 := YE.out.get 0 _ rfl; clear he hp0 hcc hmm hkE htE hfd)
              | (go_at_call 16; refine (HRT.out _ TE.out.m1.bel).mono ?_; rintro e wR ⟨rfl, hbR⟩; have FDR := Lib.hid (FD.out wR hbR); have YR := Lib.hid (YE.out.below hbR); clear hbR)
              | (go_at_call 14; refine FDR.out.mono ?_; rintro e wF ⟨rfl, vF, htF, hkF, hdF⟩; have TF := Lib.hid htF; have DF := Lib.hid hdF; have YF := Lib.hid (YR.out.keep hkF HYX.out.2); have yF1 := YF.out.get 1 _ rfl; clear htF hkF hdF)
              | (go_at_call 17; refine DF.out.mono ?_; rintro e wG ⟨ug, rfl, hoG, hbG⟩; obtain ⟨uga, ugc, hug, _, _⟩ := (RdC.of_owns hoG).isSlice; subst hug; obtain ⟨wH, hwH⟩ : ∃ W, W = wG.alloc (.cells #[.int .i64 0, .int .i64 0] 42) := ⟨_, rfl⟩; have hbH : Below wG.heap.size wG wH := (by rw [hwH]; exact below1 wG _); have BH := Lib.hid (hbG.trans (hbH.mono hbG.size)); have TH := Lib.hid (TF.out.below BH.out); have YH := (YF.out.below BH.out).get 0 _ rfl; have qH : Cs wH wG.heap.size [.int .i64 0, .int .i64 0] := (by rw [hwH]; exact Cs.made wG _ _); have y0 := qH.get 0 _ rfl; have y1 := qH.get 1 _ rfl; have HSM := Lib.hid (same_eq wH ((RdC.of_owns hoG).below hbH) (HR2.out.below TH.out.m1.bel) HLL.out); rw [hwH] at YH y0 y1; have HWH := Lib.hid hwH; clear hoG hbG hwH hbH qH)
              | (go_at_call 18; rw [← HWH.out]; refine HSM.out.mono ?_; rintro e wS ⟨rfl, hbS⟩; have TS2 := Lib.hid (TH.out.below hbS); clear hbS))
            refine ⟨⟨k + 1, _, _, q', by simp, HKL.out, TS2.out, by have := CC.out; have := CQ.out; omega, Lib.hid (MM.out.trans QN.out)⟩, by simp [intOf]; have := HKL.out; omega⟩
          | false =>
            go_wp2_with (first
              | (go_at_call 15; refine HENC.out.mono ?_; rintro e wE he; obtain ⟨via, vin, vic, vs, slE, q', rfl, hp0, hcc, hmm, hkE, htE, hfd⟩ := he.2 HER.out; have FD := Lib.hid hfd; have CC := Lib.hid hcc; have MM := Lib.hid hmm; have TE := Lib.hid htE; have YE := Lib.hid (HY.out.keep hkE HYX.out.1); have yE0 := YE.out.get 0 _ rfl; obtain rfl := hp0 rfl; clear he hp0 hcc hmm hkE htE hfd)
              | (go_at_call 16; refine (HRT.out _ TE.out.m1.bel).mono ?_; rintro e wR ⟨rfl, hbR⟩; have FDR := Lib.hid (FD.out wR hbR); have YR := Lib.hid (YE.out.below hbR); clear hbR)
              | (go_at_call 14; refine FDR.out.mono ?_; rintro e wF ⟨rfl, vF, htF, hkF, hdF⟩; have TF := Lib.hid htF; have DF := Lib.hid hdF; have YF := Lib.hid (YR.out.keep hkF HYX.out.2); have yF1 := YF.out.get 1 _ rfl; clear htF hkF hdF)
              | (go_at_call 17; refine DF.out.mono ?_; rintro e wG ⟨ug, rfl, hoG, hbG⟩; obtain ⟨uga, ugc, hug, _, _⟩ := (RdC.of_owns hoG).isSlice; subst hug; obtain ⟨wH, hwH⟩ : ∃ W, W = wG.alloc (.cells #[.int .i64 0, .int .i64 0] 42) := ⟨_, rfl⟩; have hbH : Below wG.heap.size wG wH := (by rw [hwH]; exact below1 wG _); have BH := Lib.hid (hbG.trans (hbH.mono hbG.size)); have TH := Lib.hid (TF.out.below BH.out); have YH := (YF.out.below BH.out).get 0 _ rfl; have qH : Cs wH wG.heap.size [.int .i64 0, .int .i64 0] := (by rw [hwH]; exact Cs.made wG _ _); have y0 := qH.get 0 _ rfl; have y1 := qH.get 1 _ rfl; have HSM := Lib.hid (same_eq wH ((RdC.of_owns hoG).below hbH) (HR2.out.below TH.out.m1.bel) HLL.out); rw [hwH] at YH y0 y1; have HWH := Lib.hid hwH; clear hoG hbG hwH hbH qH)
              | (go_at_call 18; rw [← HWH.out]; refine HSM.out.mono ?_; rintro e wS ⟨rfl, hbS⟩; have TS2 := Lib.hid (TH.out.below hbS); clear hbS))
            refine ⟨⟨k + 1, _, _, q', by simp, HKL.out, TS2.out, by have := CC.out; have := CQ.out; omega, Lib.hid (MM.out.trans QN.out)⟩, by simp [intOf]; have := HKL.out; omega⟩
        · have HER : Hid (encErr l ≠ 0) := herr
          have d2 : (encErr l != 0) = true := by simp [herr]
          have d3 : (encErr l != encErr l) = false := by simp
          have HEE : Hid (Calls Tryz.prog 15 #[.pointer (some ⟨en, 0, none⟩), .slice fa l.length fc, .bool put] WX fun e w' => e = .returned (.tuple #[.slice none 0 0, .slice none 0 0, .int .i64 (encErr l)]) ∧ Below WX.heap.size WX w') := HENC.out.mono fun e w' he => he.1 HER.out
          have HRT : Hid (∀ W, Below w.heap.size w W → Calls Tryz.prog 16 #[.slice fa l.length fc] W fun e w' => e = .returned (.int .i64 (encErr l)) ∧ Below W.heap.size W w') := fun W hW => r14right_any W (HR2.out.below hW)
          clear herr HENC HER
          generalize encErr l = er at HEE HRT d2 d3
          go_wp2_with (first
            | (go_at_call 15; refine HEE.out.mono ?_; rintro e wE ⟨rfl, hb5⟩; have TE := Lib.hid (TW.out.below hb5); have YE := Lib.hid (HY.out.below hb5); have yE0 := YE.out.get 0 _ rfl; clear hb5)
            | (go_at_call 16; refine (HRT.out _ TE.out.m1.bel).mono ?_; rintro e wR ⟨rfl, hbR⟩; have TR := Lib.hid (TE.out.below hbR); clear hbR))
          refine ⟨⟨k + 1, _, _, _, by simp, HKL.out, TR.out, by have := CQ.out; omega, QN⟩, by simp [intOf]; have := HKL.out; omega⟩
      · have dc : decide (cap ≥ 0) = true := decide_eq_true (by omega)
        have HCAP := Lib.hid (cap_stepR cap T2.out (by have := HCQ.out; have := HL4.out; have := HKL.out; omega))
        have HCC : Hid (countN (setCapE q cap).1 = countN q) := set_count1 q cap
        have HCM : Hid ((setCapE q cap).1.most = most) := (setCap_most q cap).trans QM.out
        by_cases hcm : cap ≤ (most : Int)
        · have dm : decide (cap ≤ (most : Int)) = true := decide_eq_true hcm
          have hs0 : (setCapE q cap).2 = 0 := by
            unfold setCapE
            rw [if_neg (by have := QM.out; omega)]
          obtain ⟨⟨q1, y⟩, hsc⟩ : ∃ r, setCapE q cap = r := ⟨_, rfl⟩
          rw [hsc] at HCAP HCC HCM hs0
          simp only at HCAP HCC HCM hs0
          subst hs0
          have HCP : Hid (Calls Tryz.prog 13 #[.pointer (some ⟨en, 0, none⟩), .int .i64 cap] w2 fun e W' => ∃ sl' u, e = .returned (.tuple #[u, .int .i64 0]) ∧ Keep (TS c sl1) w2 W' ∧ (∀ i, i < w2.heap.size → i ∉ TS c sl1 → i ∉ TS c sl') ∧ Calls Tryz.prog 14 #[.pointer (some ⟨d, 0, none⟩), u] W' fun e' W2 => e' = .returned (.agg #[.int .i64 0, .int .i64 0]) ∧
              ∃ v', TwoR w en c sl' q1 d v' q1 W2 ∧ Keep [d] W' W2) := by
            refine HCAP.out.mono ?_
            rintro e W' ⟨sl', h1, h2, h6, ⟨h3, _⟩ | ⟨_, u, h4, h5⟩⟩
            · exact absurd rfl h3
            · exact ⟨sl', u, h4, h2, h6, h5⟩
          clear hcm hcap hsc HCAP
          go_upto_region 10 with fail
          rw [← HW2.out]
          go_upto_region 14 with (first
            | (go_at_call 13; refine HCP.out.mono ?_; rintro e w5 ⟨slA, v5, rfl, hk5, ho5, hf5⟩; have F5 := Lib.hid hf5; have K5 := Lib.hid (HQ2.out.keep hk5 HYN.out.1); have OA := Lib.hid (ho5 _ HQ2.out.lt HYN.out.1); have u2 := K5.out.get 2 _ rfl; clear hk5 ho5 hf5)
            | (go_at_call 14; refine F5.out.mono ?_; rintro e WX ⟨rfl, slB, htx, hkx⟩; have TW := Lib.hid htx; have HY := Lib.hid (K5.out.keep hkx HYN.out.2); have y0 := HY.out.get 0 _ rfl; have y1 := HY.out.get 1 _ rfl; clear htx hkx))
          have HYX : Hid (wr.heap.size ∉ TS c slA ∧ wr.heap.size ∉ [d]) := ⟨OA.out, HYN.out.2⟩
          have CN : Hid (countN q1 ≤ 1000000) := by have := HCC.out; have := HCQ.out; have := HL4.out; have := HKL.out; show countN q1 ≤ 1000000; omega
          have CQ : Hid (countN q1 ≤ 64 * k) := by have := HCC.out; have := HCQ.out; show countN q1 ≤ 64 * k; omega
          have QN : Hid (q1.most = most) := HCM
          have HENC := Lib.hid (enc_stepR put TW.out HR2.out CN.out)
          by_cases herr : encErr l = 0
          · have HER := Lib.hid herr
            have HLL : Hid (l.length ≤ 4611686018427387904) := by have := encErr_le herr; show l.length ≤ 4611686018427387904; omega
            have HRT : Hid (∀ W, Below w.heap.size w W → Calls Tryz.prog 16 #[.slice fa l.length fc] W fun e w' => e = .returned (.int .i64 0) ∧ Below W.heap.size W w') := fun W hW => by
              have := r14right_any W (HR2.out.below hW)
              rw [herr] at this
              exact this
            clear herr
            cases put with
            | true =>
              go_wp2_with (first
                | (go_at_call 15; refine HENC.out.mono ?_; rintro e wE he; obtain ⟨via, vin, vic, vs, slE, q', rfl, hp0, hcc, hmm, hkE, htE, hfd⟩ := he.2 HER.out; have FD := Lib.hid hfd; have CC := Lib.hid hcc; have MM := Lib.hid hmm; have TE := Lib.hid htE; have YE := Lib.hid (HY.out.keep hkE HYX.out.1); have yE0 := YE.out.get 0 _ rfl; clear he hp0 hcc hmm hkE htE hfd)
                | (go_at_call 16; refine (HRT.out _ TE.out.m1.bel).mono ?_; rintro e wR ⟨rfl, hbR⟩; have FDR := Lib.hid (FD.out wR hbR); have YR := Lib.hid (YE.out.below hbR); clear hbR)
                | (go_at_call 14; refine FDR.out.mono ?_; rintro e wF ⟨rfl, vF, htF, hkF, hdF⟩; have TF := Lib.hid htF; have DF := Lib.hid hdF; have YF := Lib.hid (YR.out.keep hkF HYX.out.2); have yF1 := YF.out.get 1 _ rfl; clear htF hkF hdF)
                | (go_at_call 17; refine DF.out.mono ?_; rintro e wG ⟨ug, rfl, hoG, hbG⟩; obtain ⟨uga, ugc, hug, _, _⟩ := (RdC.of_owns hoG).isSlice; subst hug; obtain ⟨wH, hwH⟩ : ∃ W, W = wG.alloc (.cells #[.int .i64 0, .int .i64 0] 42) := ⟨_, rfl⟩; have hbH : Below wG.heap.size wG wH := (by rw [hwH]; exact below1 wG _); have BH := Lib.hid (hbG.trans (hbH.mono hbG.size)); have TH := Lib.hid (TF.out.below BH.out); have YH := (YF.out.below BH.out).get 0 _ rfl; have qH : Cs wH wG.heap.size [.int .i64 0, .int .i64 0] := (by rw [hwH]; exact Cs.made wG _ _); have y0 := qH.get 0 _ rfl; have y1 := qH.get 1 _ rfl; have HSM := Lib.hid (same_eq wH ((RdC.of_owns hoG).below hbH) (HR2.out.below TH.out.m1.bel) HLL.out); rw [hwH] at YH y0 y1; have HWH := Lib.hid hwH; clear hoG hbG hwH hbH qH)
                | (go_at_call 18; rw [← HWH.out]; refine HSM.out.mono ?_; rintro e wS ⟨rfl, hbS⟩; have TS2 := Lib.hid (TH.out.below hbS); clear hbS))
              refine ⟨⟨k + 1, _, _, q', by simp, HKL.out, TS2.out, by have := CC.out; have := CQ.out; omega, Lib.hid (MM.out.trans QN.out)⟩, by simp [intOf]; have := HKL.out; omega⟩
            | false =>
              go_wp2_with (first
                | (go_at_call 15; refine HENC.out.mono ?_; rintro e wE he; obtain ⟨via, vin, vic, vs, slE, q', rfl, hp0, hcc, hmm, hkE, htE, hfd⟩ := he.2 HER.out; have FD := Lib.hid hfd; have CC := Lib.hid hcc; have MM := Lib.hid hmm; have TE := Lib.hid htE; have YE := Lib.hid (HY.out.keep hkE HYX.out.1); have yE0 := YE.out.get 0 _ rfl; obtain rfl := hp0 rfl; clear he hp0 hcc hmm hkE htE hfd)
                | (go_at_call 16; refine (HRT.out _ TE.out.m1.bel).mono ?_; rintro e wR ⟨rfl, hbR⟩; have FDR := Lib.hid (FD.out wR hbR); have YR := Lib.hid (YE.out.below hbR); clear hbR)
                | (go_at_call 14; refine FDR.out.mono ?_; rintro e wF ⟨rfl, vF, htF, hkF, hdF⟩; have TF := Lib.hid htF; have DF := Lib.hid hdF; have YF := Lib.hid (YR.out.keep hkF HYX.out.2); have yF1 := YF.out.get 1 _ rfl; clear htF hkF hdF)
                | (go_at_call 17; refine DF.out.mono ?_; rintro e wG ⟨ug, rfl, hoG, hbG⟩; obtain ⟨uga, ugc, hug, _, _⟩ := (RdC.of_owns hoG).isSlice; subst hug; obtain ⟨wH, hwH⟩ : ∃ W, W = wG.alloc (.cells #[.int .i64 0, .int .i64 0] 42) := ⟨_, rfl⟩; have hbH : Below wG.heap.size wG wH := (by rw [hwH]; exact below1 wG _); have BH := Lib.hid (hbG.trans (hbH.mono hbG.size)); have TH := Lib.hid (TF.out.below BH.out); have YH := (YF.out.below BH.out).get 0 _ rfl; have qH : Cs wH wG.heap.size [.int .i64 0, .int .i64 0] := (by rw [hwH]; exact Cs.made wG _ _); have y0 := qH.get 0 _ rfl; have y1 := qH.get 1 _ rfl; have HSM := Lib.hid (same_eq wH ((RdC.of_owns hoG).below hbH) (HR2.out.below TH.out.m1.bel) HLL.out); rw [hwH] at YH y0 y1; have HWH := Lib.hid hwH; clear hoG hbG hwH hbH qH)
                | (go_at_call 18; rw [← HWH.out]; refine HSM.out.mono ?_; rintro e wS ⟨rfl, hbS⟩; have TS2 := Lib.hid (TH.out.below hbS); clear hbS))
              refine ⟨⟨k + 1, _, _, q', by simp, HKL.out, TS2.out, by have := CC.out; have := CQ.out; omega, Lib.hid (MM.out.trans QN.out)⟩, by simp [intOf]; have := HKL.out; omega⟩
          · have HER : Hid (encErr l ≠ 0) := herr
            have d2 : (encErr l != 0) = true := by simp [herr]
            have d3 : (encErr l != encErr l) = false := by simp
            have HEE : Hid (Calls Tryz.prog 15 #[.pointer (some ⟨en, 0, none⟩), .slice fa l.length fc, .bool put] WX fun e w' => e = .returned (.tuple #[.slice none 0 0, .slice none 0 0, .int .i64 (encErr l)]) ∧ Below WX.heap.size WX w') := HENC.out.mono fun e w' he => he.1 HER.out
            have HRT : Hid (∀ W, Below w.heap.size w W → Calls Tryz.prog 16 #[.slice fa l.length fc] W fun e w' => e = .returned (.int .i64 (encErr l)) ∧ Below W.heap.size W w') := fun W hW => r14right_any W (HR2.out.below hW)
            clear herr HENC HER
            generalize encErr l = er at HEE HRT d2 d3
            go_wp2_with (first
              | (go_at_call 15; refine HEE.out.mono ?_; rintro e wE ⟨rfl, hb5⟩; have TE := Lib.hid (TW.out.below hb5); have YE := Lib.hid (HY.out.below hb5); have yE0 := YE.out.get 0 _ rfl; clear hb5)
              | (go_at_call 16; refine (HRT.out _ TE.out.m1.bel).mono ?_; rintro e wR ⟨rfl, hbR⟩; have TR := Lib.hid (TE.out.below hbR); clear hbR))
            refine ⟨⟨k + 1, _, _, _, by simp, HKL.out, TR.out, by have := CQ.out; omega, QN⟩, by simp [intOf]; have := HKL.out; omega⟩
        · have dm : decide (cap ≤ (most : Int)) = false := decide_eq_false hcm
          have hs0 : setCapE q cap = (q, 1) := by
            unfold setCapE
            rw [if_pos (by have := QM.out; omega)]
          rw [hs0] at HCAP
          simp only at HCAP
          have HCP : Hid (Calls Tryz.prog 13 #[.pointer (some ⟨en, 0, none⟩), .int .i64 cap] w2 fun e W' => ∃ sl', e = .returned (.tuple #[.slice none 0 0, .int .i64 1]) ∧ Keep (TS c sl1) w2 W' ∧ (∀ i, i < w2.heap.size → i ∉ TS c sl1 → i ∉ TS c sl') ∧ TwoR w en c sl' q d v2 q W') := by
            refine HCAP.out.mono ?_
            rintro e W' ⟨sl', h1, h2, h6, ⟨_, h3⟩ | ⟨h3, _⟩⟩
            · exact ⟨sl', h3, h2, h6, h1⟩
            · exact absurd h3 (by decide)
          clear hcm hcap hs0 HCAP HCC HCM
          go_upto_region 10 with fail
          rw [← HW2.out]
          go_upto_region 14 with (go_at_call 13; refine HCP.out.mono ?_; rintro e WX ⟨slA, rfl, hk5, ho5, htx⟩; have TW := Lib.hid htx; have HY := Lib.hid (HQ2.out.keep hk5 HYN.out.1); have y0 := HY.out.get 0 _ rfl; have y1 := HY.out.get 1 _ rfl; have y2 := HY.out.get 2 _ rfl; have OA := Lib.hid (ho5 _ HQ2.out.lt HYN.out.1); clear hk5 ho5 htx)
          have HYX : Hid (wr.heap.size ∉ TS c slA ∧ wr.heap.size ∉ [d]) := ⟨OA.out, HYN.out.2⟩
          have CN : Hid (countN q ≤ 1000000) := by have := HCQ.out; have := HL4.out; have := HKL.out; show countN q ≤ 1000000; omega
          have CQ : Hid (countN q ≤ 64 * k) := HCQ.out
          have QN : Hid (q.most = most) := QM
          have HENC := Lib.hid (enc_stepR put TW.out HR2.out CN.out)
          by_cases herr : encErr l = 0
          · have HER := Lib.hid herr
            have HLL : Hid (l.length ≤ 4611686018427387904) := by have := encErr_le herr; show l.length ≤ 4611686018427387904; omega
            have HRT : Hid (∀ W, Below w.heap.size w W → Calls Tryz.prog 16 #[.slice fa l.length fc] W fun e w' => e = .returned (.int .i64 0) ∧ Below W.heap.size W w') := fun W hW => by
              have := r14right_any W (HR2.out.below hW)
              rw [herr] at this
              exact this
            clear herr
            cases put with
            | true =>
              go_wp2_with (first
                | (go_at_call 15; refine HENC.out.mono ?_; rintro e wE he; obtain ⟨via, vin, vic, vs, slE, q', rfl, hp0, hcc, hmm, hkE, htE, hfd⟩ := he.2 HER.out; have FD := Lib.hid hfd; have CC := Lib.hid hcc; have MM := Lib.hid hmm; have TE := Lib.hid htE; have YE := Lib.hid (HY.out.keep hkE HYX.out.1); have yE0 := YE.out.get 0 _ rfl; clear he hp0 hcc hmm hkE htE hfd)
                | (go_at_call 16; refine (HRT.out _ TE.out.m1.bel).mono ?_; rintro e wR ⟨rfl, hbR⟩; have FDR := Lib.hid (FD.out wR hbR); have YR := Lib.hid (YE.out.below hbR); clear hbR)
                | (go_at_call 14; refine FDR.out.mono ?_; rintro e wF ⟨rfl, vF, htF, hkF, hdF⟩; have TF := Lib.hid htF; have DF := Lib.hid hdF; have YF := Lib.hid (YR.out.keep hkF HYX.out.2); have yF1 := YF.out.get 1 _ rfl; clear htF hkF hdF)
                | (go_at_call 17; refine DF.out.mono ?_; rintro e wG ⟨ug, rfl, hoG, hbG⟩; obtain ⟨uga, ugc, hug, _, _⟩ := (RdC.of_owns hoG).isSlice; subst hug; obtain ⟨wH, hwH⟩ : ∃ W, W = wG.alloc (.cells #[.int .i64 0, .int .i64 0] 42) := ⟨_, rfl⟩; have hbH : Below wG.heap.size wG wH := (by rw [hwH]; exact below1 wG _); have BH := Lib.hid (hbG.trans (hbH.mono hbG.size)); have TH := Lib.hid (TF.out.below BH.out); have YH := (YF.out.below BH.out).get 0 _ rfl; have qH : Cs wH wG.heap.size [.int .i64 0, .int .i64 0] := (by rw [hwH]; exact Cs.made wG _ _); have y0 := qH.get 0 _ rfl; have y1 := qH.get 1 _ rfl; have HSM := Lib.hid (same_eq wH ((RdC.of_owns hoG).below hbH) (HR2.out.below TH.out.m1.bel) HLL.out); rw [hwH] at YH y0 y1; have HWH := Lib.hid hwH; clear hoG hbG hwH hbH qH)
                | (go_at_call 18; rw [← HWH.out]; refine HSM.out.mono ?_; rintro e wS ⟨rfl, hbS⟩; have TS2 := Lib.hid (TH.out.below hbS); clear hbS))
              refine ⟨⟨k + 1, _, _, q', by simp, HKL.out, TS2.out, by have := CC.out; have := CQ.out; omega, Lib.hid (MM.out.trans QN.out)⟩, by simp [intOf]; have := HKL.out; omega⟩
            | false =>
              go_wp2_with (first
                | (go_at_call 15; refine HENC.out.mono ?_; rintro e wE he; obtain ⟨via, vin, vic, vs, slE, q', rfl, hp0, hcc, hmm, hkE, htE, hfd⟩ := he.2 HER.out; have FD := Lib.hid hfd; have CC := Lib.hid hcc; have MM := Lib.hid hmm; have TE := Lib.hid htE; have YE := Lib.hid (HY.out.keep hkE HYX.out.1); have yE0 := YE.out.get 0 _ rfl; obtain rfl := hp0 rfl; clear he hp0 hcc hmm hkE htE hfd)
                | (go_at_call 16; refine (HRT.out _ TE.out.m1.bel).mono ?_; rintro e wR ⟨rfl, hbR⟩; have FDR := Lib.hid (FD.out wR hbR); have YR := Lib.hid (YE.out.below hbR); clear hbR)
                | (go_at_call 14; refine FDR.out.mono ?_; rintro e wF ⟨rfl, vF, htF, hkF, hdF⟩; have TF := Lib.hid htF; have DF := Lib.hid hdF; have YF := Lib.hid (YR.out.keep hkF HYX.out.2); have yF1 := YF.out.get 1 _ rfl; clear htF hkF hdF)
                | (go_at_call 17; refine DF.out.mono ?_; rintro e wG ⟨ug, rfl, hoG, hbG⟩; obtain ⟨uga, ugc, hug, _, _⟩ := (RdC.of_owns hoG).isSlice; subst hug; obtain ⟨wH, hwH⟩ : ∃ W, W = wG.alloc (.cells #[.int .i64 0, .int .i64 0] 42) := ⟨_, rfl⟩; have hbH : Below wG.heap.size wG wH := (by rw [hwH]; exact below1 wG _); have BH := Lib.hid (hbG.trans (hbH.mono hbG.size)); have TH := Lib.hid (TF.out.below BH.out); have YH := (YF.out.below BH.out).get 0 _ rfl; have qH : Cs wH wG.heap.size [.int .i64 0, .int .i64 0] := (by rw [hwH]; exact Cs.made wG _ _); have y0 := qH.get 0 _ rfl; have y1 := qH.get 1 _ rfl; have HSM := Lib.hid (same_eq wH ((RdC.of_owns hoG).below hbH) (HR2.out.below TH.out.m1.bel) HLL.out); rw [hwH] at YH y0 y1; have HWH := Lib.hid hwH; clear hoG hbG hwH hbH qH)
                | (go_at_call 18; rw [← HWH.out]; refine HSM.out.mono ?_; rintro e wS ⟨rfl, hbS⟩; have TS2 := Lib.hid (TH.out.below hbS); clear hbS))
              refine ⟨⟨k + 1, _, _, q', by simp, HKL.out, TS2.out, by have := CC.out; have := CQ.out; omega, Lib.hid (MM.out.trans QN.out)⟩, by simp [intOf]; have := HKL.out; omega⟩
          · have HER : Hid (encErr l ≠ 0) := herr
            have d2 : (encErr l != 0) = true := by simp [herr]
            have d3 : (encErr l != encErr l) = false := by simp
            have HEE : Hid (Calls Tryz.prog 15 #[.pointer (some ⟨en, 0, none⟩), .slice fa l.length fc, .bool put] WX fun e w' => e = .returned (.tuple #[.slice none 0 0, .slice none 0 0, .int .i64 (encErr l)]) ∧ Below WX.heap.size WX w') := HENC.out.mono fun e w' he => he.1 HER.out
            have HRT : Hid (∀ W, Below w.heap.size w W → Calls Tryz.prog 16 #[.slice fa l.length fc] W fun e w' => e = .returned (.int .i64 (encErr l)) ∧ Below W.heap.size W w') := fun W hW => r14right_any W (HR2.out.below hW)
            clear herr HENC HER
            generalize encErr l = er at HEE HRT d2 d3
            go_wp2_with (first
              | (go_at_call 15; refine HEE.out.mono ?_; rintro e wE ⟨rfl, hb5⟩; have TE := Lib.hid (TW.out.below hb5); have YE := Lib.hid (HY.out.below hb5); have yE0 := YE.out.get 0 _ rfl; clear hb5)
              | (go_at_call 16; refine (HRT.out _ TE.out.m1.bel).mono ?_; rintro e wR ⟨rfl, hbR⟩; have TR := Lib.hid (TE.out.below hbR); clear hbR))
            refine ⟨⟨k + 1, _, _, _, by simp, HKL.out, TR.out, by have := CQ.out; omega, QN⟩, by simp [intOf]; have := HKL.out; omega⟩
    · obtain rfl : k = s4.length := by omega
      have hi1 : ¬ ((s4.length : Int) < (s4.length : Int)) := by omega
      clear hk hkl
      go_wp2_with fail
      go_ret
      exact ⟨rfl, HTW.out.m1.bel⟩
theorem back_no {v : Value} (most : Int) (hmost : most < 0 ∨ 4096 < most) (w : World) (hF : Fix w) (hE : ErrT w) :
    Calls Tryz.prog 3 #[.int .i64 most, v] w (Yes w) := by
  have HNE := Lib.hid (newEnc_no most w hmost)
  have HND := Lib.hid (rnewd_any most w 0 1 (by rw [if_pos hmost]) (by rw [if_pos hmost]))
  have HAL : Hid (∀ W, Below w.heap.size w W → Calls Tryz.prog 11 #[] W (Yes W)) := fun W hW => alive_any W (hF.below hW hF.pos) (hE.below hW)
  clear hmost hF hE
  go_enter Tryz.func3, Tryz.ntmps3
  go_wp2_with (first
    | (go_at_call 9; refine HNE.out.mono ?_; rintro e w1 ⟨rfl, hh⟩; obtain rfl := hh.symm)
    | (go_at_call 10; refine HND.out.mono ?_; rintro e w2 ⟨rfl, hb⟩; have B2 := Lib.hid (hb.trans ((below1 w2 (.cells #[.int .i64 0, .int .i64 0, .int .i64 0, .slice none 0 0] 31)).mono hb.size)); clear hb)
    | (go_at_call 11; refine (HAL.out _ B2.out).mono ?_; rintro e w3 ⟨rfl, hb3⟩; have B3 := Lib.hid (B2.out.trans (hb3.mono B2.out.size)); clear hb3))
  go_ret
  exact ⟨rfl, B3.out⟩
theorem back_any {v : Value} {s : List ToldV} (most : Int) (w : World) (hF : Fix w) (hE : ErrT w) (hs : Tolds w v s) :
    Calls Tryz.prog 3 #[.int .i64 most, v] w (Yes w) := by
  by_cases h : most < 0 ∨ 4096 < most
  · exact back_no most h w hF hE
  · obtain ⟨k, rfl⟩ : ∃ k : Nat, most = (k : Int) := ⟨most.toNat, by omega⟩
    exact back_yes k (by omega) w hF hE hs
end Go.Proofs.YtbkbabaoockigaaGreatDoor
