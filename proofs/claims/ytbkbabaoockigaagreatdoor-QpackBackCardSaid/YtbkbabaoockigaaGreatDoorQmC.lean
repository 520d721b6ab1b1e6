/- Walks of layer 14, the document's decoder: fields of tables, instructions that go well. -/
import Derived.Test.YtbkbabaoockigaaGreatDoorQmB
import Derived.Test.YtbkbabaoockigaaGreatDoorPk6
set_option maxRecDepth 100000
set_option linter.unusedSimpArgs false
set_option linter.unusedVariables false
namespace Go.Proofs.YtbkbabaoockigaaGreatDoor
open Go.RowKit

theorem rdget_results {W : World} {tmps : Array Value} {A : Nat} {v0 v1 x : Value} (h4 : tmps[8]?.getD undef = .pointer (some ⟨A, 0, none⟩)) (h5 : tmps[9]?.getD undef = x)
    (c0 : W.cell? ⟨A, 0, none⟩ = some v0) (c1 : W.cell? ⟨A, 1, none⟩ = some v1) : (results Tryz.f48 tmps).run Tryz.prog W = .ok (.tuple #[.agg #[v0, v1], x]) W := by
  have hr : Tryz.f48.results = #[.cell 8 74, .tmp 9] := rfl
  simp only [results, hr]
  go_simp
theorem rdget_any {b : Nat} {v : Value} {q : TQ} (fx : Bool) (n m : Int) (w : World) (h : RTb b v q w) (hc : countN q ≤ 4611686018427387904) {x y : ByteArray} {z : Int} (hr : (if fx = true then fixedE n else getE q m) = (⟨x, y⟩, z)) :
    Calls Tryz.prog 48 #[.pointer (some ⟨b, 0, none⟩), .bool fx, .int .i64 n, .int .i64 m] w fun e w' => e = .returned (.tuple #[.agg #[.string x, .string y], .int .i64 z]) ∧ Below w.heap.size w w' := by
  have hz := zeroFv
  have HM := Lib.hid (Cs.made w #[.string ⟨#[]⟩, .string ⟨#[]⟩] 74)
  have HT := Lib.hid (h.below (below1 w (.cells #[.string ⟨#[]⟩, .string ⟨#[]⟩] 74)))
  have MS := Lib.hid (fun a b W h => made_set w a b W h)
  cases fx with
  | true =>
    rw [if_pos rfl] at hr
    have HC := Lib.hid (rfixed_any n (w.alloc (.cells #[.string ⟨#[]⟩, .string ⟨#[]⟩] 74)))
    rw [hr] at HC
    clear hr h hc HT
    go_enter Tryz.func48, Tryz.ntmps48
    go_wp2_with (go_at_call 78; refine HC.out.mono ?_; rintro e w2 ⟨rfl, b2⟩; have B2 := Lib.hid b2; have M2 := HM.out.below b2; have m0 := M2.get 0 _ rfl; have m1 := M2.get 1 _ rfl; have f0 := M2.free 0; have f1 := M2.free 1; have hlz := M2.lt; clear b2 M2)
    obtain ⟨q0, q1, q2⟩ := MS.out (.string x) (.string y) _ (B2.out.mono (by simp))
    exact bodyPost_ret (rdget_results rfl rfl q0 q1) rfl ⟨rfl, q2⟩
  | false =>
    rw [if_neg (by decide)] at hr
    have HC := Lib.hid (rget_any m _ HT.out hc)
    rw [hr] at HC
    clear hr h hc HT
    go_enter Tryz.func48, Tryz.ntmps48
    go_wp2_with (go_at_call 51; refine HC.out.mono ?_; rintro e w2 ⟨rfl, b2⟩; have B2 := Lib.hid b2; have M2 := HM.out.below b2; have m0 := M2.get 0 _ rfl; have m1 := M2.get 1 _ rfl; have f0 := M2.free 0; have f1 := M2.free 1; have hlz := M2.lt; clear b2 M2)
    obtain ⟨q0, q1, q2⟩ := MS.out (.string x) (.string y) _ (B2.out.mono (by simp))
    exact bodyPost_ret (rdget_results rfl rfl q0 q1) rfl ⟨rfl, q2⟩
theorem rdbelow_results {W : World} {tmps : Array Value} {A : Nat} {v0 v1 x : Value} (h4 : tmps[6]?.getD undef = .pointer (some ⟨A, 0, none⟩)) (h5 : tmps[7]?.getD undef = x)
    (c0 : W.cell? ⟨A, 0, none⟩ = some v0) (c1 : W.cell? ⟨A, 1, none⟩ = some v1) : (results Tryz.f87 tmps).run Tryz.prog W = .ok (.tuple #[.agg #[v0, v1], x]) W := by
  have hr : Tryz.f87.results = #[.cell 6 74, .tmp 7] := rfl
  simp only [results, hr]
  go_simp
theorem rdbelow_any {b : Nat} {v : Value} {q : TQ} (n : Int) (need : Nat) (w : World) (h : RTb b v q w) (hc : countN q ≤ 4611686018427387904) {x y : ByteArray} {z : Int} (hr : getB q need n = (⟨x, y⟩, z)) :
    Calls Tryz.prog 87 #[.pointer (some ⟨b, 0, none⟩), .int .i64 n, .int .i64 (need : Int)] w fun e w' => e = .returned (.tuple #[.agg #[.string x, .string y], .int .i64 z]) ∧ Below w.heap.size w w' := by
  have hz := zeroFv
  have HM := Lib.hid (Cs.made w #[.string ⟨#[]⟩, .string ⟨#[]⟩] 74)
  have HT := Lib.hid (h.below (below1 w (.cells #[.string ⟨#[]⟩, .string ⟨#[]⟩] 74)))
  have MS := Lib.hid (fun a b W h => made_set w a b W h)
  unfold getB at hr
  by_cases hn : (need : Int) ≤ n
  · rw [if_pos hn] at hr
    simp only [noFd, Prod.mk.injEq, Fd.mk.injEq] at hr
    obtain ⟨⟨rfl, rfl⟩, rfl⟩ := hr
    have d1 : decide (n ≥ (need : Int)) = true := decide_eq_true hn
    have m0 := HM.out.get 0 _ rfl
    have m1 := HM.out.get 1 _ rfl
    have f0 := HM.out.free 0
    have f1 := HM.out.free 1
    clear h hc HT hn
    go_enter Tryz.func87, Tryz.ntmps87
    go_wp2_with fail
    first
      | exact bodyPost_ret (rdbelow_results rfl rfl m0 m1) rfl ⟨rfl, below1 w _⟩
      | (obtain ⟨q0, q1, q2⟩ := MS.out (.string ⟨#[]⟩) (.string ⟨#[]⟩) _ (Below.refl _ _)
         exact bodyPost_ret (rdbelow_results rfl rfl q0 q1) rfl ⟨rfl, q2⟩)
  · rw [if_neg hn] at hr
    have d1 : decide (n ≥ (need : Int)) = false := decide_eq_false hn
    have HC := Lib.hid (rget_any n _ HT.out hc)
    rw [hr] at HC
    clear hr h hc HT hn
    go_enter Tryz.func87, Tryz.ntmps87
    go_wp2_with (go_at_call 51; refine HC.out.mono ?_; rintro e w2 ⟨rfl, b2⟩; have B2 := Lib.hid b2; have M2 := HM.out.below b2; have m0 := M2.get 0 _ rfl; have m1 := M2.get 1 _ rfl; have f0 := M2.free 0; have f1 := M2.free 1; have hlz := M2.lt; clear b2 M2)
    obtain ⟨q0, q1, q2⟩ := MS.out (.string x) (.string y) _ (B2.out.mono (by simp))
    exact bodyPost_ret (rdbelow_results rfl rfl q0 q1) rfl ⟨rfl, q2⟩
theorem rdnamed_results {W : World} {tmps : Array Value} {A : Nat} {v0 v1 x : Value} (h4 : tmps[10]?.getD undef = .pointer (some ⟨A, 0, none⟩)) (h5 : tmps[11]?.getD undef = x)
    (c0 : W.cell? ⟨A, 0, none⟩ = some v0) (c1 : W.cell? ⟨A, 1, none⟩ = some v1) : (results Tryz.f56 tmps).run Tryz.prog W = .ok (.tuple #[.agg #[v0, v1], x]) W := by
  have hr : Tryz.f56.results = #[.cell 10 74, .tmp 11] := rfl
  simp only [results, hr]
  go_simp
theorem rdnamed_any {b : Nat} {v : Value} {q : TQ} (fx : Bool) (n m : Int) (need : Nat) (w : World) (h : RTb b v q w) (hc : countN q ≤ 4611686018427387904) {x y : ByteArray} {z : Int} (hr : (if fx = true then fixedE n else getB q need m) = (⟨x, y⟩, z)) :
    Calls Tryz.prog 56 #[.pointer (some ⟨b, 0, none⟩), .bool fx, .int .i64 n, .int .i64 m, .int .i64 (need : Int)] w fun e w' => e = .returned (.tuple #[.agg #[.string x, .string y], .int .i64 z]) ∧ Below w.heap.size w w' := by
  have hz := zeroFv
  have HM := Lib.hid (Cs.made w #[.string ⟨#[]⟩, .string ⟨#[]⟩] 74)
  have HT := Lib.hid (h.below (below1 w (.cells #[.string ⟨#[]⟩, .string ⟨#[]⟩] 74)))
  have MS := Lib.hid (fun a b W h => made_set w a b W h)
  cases fx with
  | true =>
    rw [if_pos rfl] at hr
    have HC := Lib.hid (rfixed_any n (w.alloc (.cells #[.string ⟨#[]⟩, .string ⟨#[]⟩] 74)))
    rw [hr] at HC
    clear hr h hc HT
    go_enter Tryz.func56, Tryz.ntmps56
    go_wp2_with (go_at_call 78; refine HC.out.mono ?_; rintro e w2 ⟨rfl, b2⟩; have B2 := Lib.hid b2; have M2 := HM.out.below b2; have m0 := M2.get 0 _ rfl; have m1 := M2.get 1 _ rfl; have f0 := M2.free 0; have f1 := M2.free 1; have hlz := M2.lt; clear b2 M2)
    obtain ⟨q0, q1, q2⟩ := MS.out (.string x) (.string y) _ (B2.out.mono (by simp))
    exact bodyPost_ret (rdnamed_results rfl rfl q0 q1) rfl ⟨rfl, q2⟩
  | false =>
    rw [if_neg (by decide)] at hr
    have HC := Lib.hid (rdbelow_any m need _ HT.out hc hr)
    clear hr h hc HT
    go_enter Tryz.func56, Tryz.ntmps56
    go_wp2_with (go_at_call 87; refine HC.out.mono ?_; rintro e w2 ⟨rfl, b2⟩; have B2 := Lib.hid b2; have M2 := HM.out.below b2; have m0 := M2.get 0 _ rfl; have m1 := M2.get 1 _ rfl; have f0 := M2.free 0; have f1 := M2.free 1; have hlz := M2.lt; clear b2 M2)
    obtain ⟨q0, q1, q2⟩ := MS.out (.string x) (.string y) _ (B2.out.mono (by simp))
    exact bodyPost_ret (rdnamed_results rfl rfl q0 q1) rfl ⟨rfl, q2⟩
theorem rdafter_results {W : World} {tmps : Array Value} {A : Nat} {v0 v1 x : Value} (h4 : tmps[8]?.getD undef = .pointer (some ⟨A, 0, none⟩)) (h5 : tmps[9]?.getD undef = x)
    (c0 : W.cell? ⟨A, 0, none⟩ = some v0) (c1 : W.cell? ⟨A, 1, none⟩ = some v1) : (results Tryz.f57 tmps).run Tryz.prog W = .ok (.tuple #[.agg #[v0, v1], x]) W := by
  have hr : Tryz.f57.results = #[.cell 8 74, .tmp 9] := rfl
  simp only [results, hr]
  go_simp
theorem rdafter_any {b : Nat} {v : Value} {q : TQ} (base n : Int) (need : Nat) (w : World) (h : RTb b v q w) (hc : countN q ≤ 4611686018427387904) (hn0 : 0 ≤ n) (hnd : need ≤ 4611686018427387904) (hb0 : 0 ≤ base) (hb1 : base ≤ 9223372036854775807) {x y : ByteArray} {z : Int} (hr : getB q need (base + n) = (⟨x, y⟩, z)) :
    Calls Tryz.prog 57 #[.pointer (some ⟨b, 0, none⟩), .int .i64 base, .int .i64 n, .int .i64 (need : Int)] w fun e w' => e = .returned (.tuple #[.agg #[.string x, .string y], .int .i64 z]) ∧ Below w.heap.size w w' := by
  have hz := zeroFv
  have HM := Lib.hid (Cs.made w #[.string ⟨#[]⟩, .string ⟨#[]⟩] 74)
  have HT := Lib.hid (h.below (below1 w (.cells #[.string ⟨#[]⟩, .string ⟨#[]⟩] 74)))
  have MS := Lib.hid (fun a b W h => made_set w a b W h)
  obtain ⟨s, hs⟩ : ∃ s : Int, s = (need : Int) - base := ⟨_, rfl⟩
  have hws : IntKind.i64.wrap ((need : Int) - base) = s := by rw [wraps_i64' _ (by omega) (by omega)]; omega
  by_cases hn : s ≤ n
  · unfold getB at hr
    rw [if_pos (by omega)] at hr
    simp only [noFd, Prod.mk.injEq, Fd.mk.injEq] at hr
    obtain ⟨⟨rfl, rfl⟩, rfl⟩ := hr
    have d1 : decide (n ≥ s) = true := decide_eq_true hn
    have m0 := HM.out.get 0 _ rfl
    have m1 := HM.out.get 1 _ rfl
    have f0 := HM.out.free 0
    have f1 := HM.out.free 1
    clear h hc HT hn hs
    go_enter Tryz.func57, Tryz.ntmps57
    go_wp2_with fail
    first
      | exact bodyPost_ret (rdafter_results rfl rfl m0 m1) rfl ⟨rfl, below1 w _⟩
      | (obtain ⟨q0, q1, q2⟩ := MS.out (.string ⟨#[]⟩) (.string ⟨#[]⟩) _ (Below.refl _ _)
         exact bodyPost_ret (rdafter_results rfl rfl q0 q1) rfl ⟨rfl, q2⟩)
  · have d1 : decide (n ≥ s) = false := decide_eq_false hn
    obtain ⟨t, ht⟩ : ∃ t : Int, t = base + n := ⟨_, rfl⟩
    have hwt : IntKind.i64.wrap (base + n) = t := by rw [wraps_i64' _ (by omega) (by omega)]; omega
    rw [← ht] at hr
    have HC := Lib.hid (rdbelow_any t need _ HT.out hc hr)
    clear hr h hc HT hn hs ht
    go_enter Tryz.func57, Tryz.ntmps57
    go_wp2_with (go_at_call 87; refine HC.out.mono ?_; rintro e w2 ⟨rfl, b2⟩; have B2 := Lib.hid b2; have M2 := HM.out.below b2; have m0 := M2.get 0 _ rfl; have m1 := M2.get 1 _ rfl; have f0 := M2.free 0; have f1 := M2.free 1; have hlz := M2.lt; clear b2 M2)
    obtain ⟨q0, q1, q2⟩ := MS.out (.string x) (.string y) _ (B2.out.mono (by simp))
    exact bodyPost_ret (rdafter_results rfl rfl q0 q1) rfl ⟨rfl, q2⟩

/-- the document's decoder at b and a reader at g, apart -/
structure RF (g b : Nat) (v : Value) (q : TQ) (vx : Value) (xs : List Int) (a : Nat) (w : World) : Prop where
  tb : RTb b v q w
  rd : RR g vx xs a w
  ne : b ≠ g
  vg : q.l ≠ [] → ∀ j, v.ownBlock = some j → j ≠ g
  xb : xs ≠ [] → ∀ j, vx.ownBlock = some j → j ≠ b
section
variable {g b : Nat} {v : Value} {q : TQ} {vx : Value} {xs : List Int} {a : Nat} {w w' : World}
theorem RF.bel (h : RF g b v q vx xs a w) (hb : Below w.heap.size w w') : RF g b v q vx xs a w' := ⟨h.tb.below hb, h.rd.bel hb, h.ne, h.vg, h.xb⟩
theorem RF.drw (h : RF g b v q vx xs a w) (n : Nat) : RF g b v q vx xs a (w.drewN n) := h.bel (below_drewN (Below.refl _ _) n)
theorem RF.move {x : Nat} (h : RF g b v q vx xs a w) (k : Keep [g] w w') (hr : RR g vx xs x w') : RF g b v q vx xs x w' :=
  ⟨h.tb.keep k (by simpa using h.ne) (fun h0 j hj => by simpa using h.vg h0 j hj), hr, h.ne, h.vg, h.xb⟩
/-- what an instruction leaves -/
def ROne (g b : Nat) (v : Value) (q q' : TQ) (vx : Value) (xs : List Int) (x : Nat) (w w' : World) : Prop :=
  ∃ v', RF g b v' q' vx xs x w' ∧ (q'.l ≠ [] → ∀ j, v'.ownBlock = some j → (q.l ≠ [] ∧ v.ownBlock = some j) ∨ w.heap.size ≤ j) ∧ Keep [b, g] w w'
theorem RF.did {q' : TQ} (h : RF g b v q vx xs a w) (hd : RDid b v q q' w w') : ROne g b v q q' vx xs a w w' := by
  obtain ⟨v', h1, h2, h3⟩ := hd
  refine ⟨v', ⟨h1, h.rd.keep h3 (by simpa using fun e => h.ne e.symm) (fun h0 j hj => by simpa using h.xb h0 j hj), h.ne, fun h0 j hj => ?_, h.xb⟩, h2, h3.more (fun i hi => by simp at hi ⊢; exact .inl hi)⟩
  rcases h2 h0 j hj with ⟨h4, h5⟩ | h4
  · exact h.vg h4 j h5
  · have := h.rd.lt; omega
/-- what was ahead of it -/
theorem ROne.ahead {q' : TQ} {x : Nat} {w0 : World} (h : ROne g b v q q' vx xs x w w') (k : Keep [g] w0 w) : ROne g b v q q' vx xs x w0 w' := by
  obtain ⟨v', h1, h2, h3⟩ := h
  exact ⟨v', h1, fun h0 j hj => (h2 h0 j hj).imp id (fun h => Nat.le_trans k.size h), (k.more (fun i hi => by simp at hi ⊢; exact .inr hi)).trans h3 (fun i hi => .inl hi)⟩
theorem RF.num (h : RF g b v q vx xs a w) (hx : Bts xs) (k : Int) {f : Int} {n x : Nat} (hN : numE xs a k = (f, n, x, 0)) :
    Calls Tryz.prog 33 #[.pointer (some ⟨g, 0, none⟩), .int .i64 k] w fun e w' => e = .returned (.tuple #[.int .i64 f, .int .i64 (n : Int)]) ∧ Keep [g] w w' ∧ RF g b v q vx xs x w' :=
  (rnum_yes k w h.rd hx hN).mono fun _ _ ⟨h1, h2, h3⟩ => ⟨h1, h2, h.move h2 h3⟩
theorem RF.txt (h : RF g b v q vx xs a w) (hx : Bts xs) (hl : xs.length ≤ 1048576) (k : Int) (most : Nat) (hb0 : 2 ≤ k) (hb : k ≤ 8) (hm : most ≤ 512) {s : ByteArray} {x : Nat} (hT : textE xs a k most = (s, x, 0)) :
    Calls Tryz.prog 47 #[.pointer (some ⟨g, 0, none⟩), .int .i64 k, .int .i64 (most : Int)] w fun e w' => e = .returned (.string s) ∧ Keep [g] w w' ∧ RF g b v q vx xs x w' :=
  (rtext_yes k most w h.rd hx hl hb0 hb hm hT).mono fun _ _ ⟨h1, h2, h3⟩ => ⟨h1, h2, h.move h2 h3⟩
theorem rput_yes (h : RF g b v q vx xs a w) (ho : TOk q) (hc : countN q ≤ 4611686018427387000) (f : Fd) {q' : TQ} {z : Int} (hi : insertE q f = (q', z, 0)) :
    Calls Tryz.prog 49 #[.pointer (some ⟨b, 0, none⟩), .agg #[.string f.n, .string f.v]] w fun e w' => e = .returned (.int .i64 0) ∧ ROne g b v q q' vx xs a w w' := by
  have HC : Hid (∀ W, Below w.heap.size w W → Calls Tryz.prog 79 #[.pointer (some ⟨b, 0, none⟩), .agg #[.string f.n, .string f.v]] W fun e w' => e = .returned (.tuple #[.int .i64 z, .int .i64 0]) ∧ ROne g b v q q' vx xs a w w') := by
    intro W hW
    have := rinsert_any f W (h.bel hW).tb ho hc
    rw [hi] at this
    exact this.mono fun e w' ⟨h1, h2⟩ => ⟨h1, ((h.bel hW).did h2).ahead (Keep.of_below hW)⟩
  obtain ⟨w1, hw1⟩ : ∃ W, W = w.alloc (.cells #[.string f.n, .string f.v] 74) := ⟨_, rfl⟩
  have hb1 : Below w.heap.size w w1 := by rw [hw1]; exact below1 w _
  have hq1 : Cs w1 w.heap.size [.string f.n, .string f.v] := by rw [hw1]; exact Cs.made w #[.string f.n, .string f.v] 74
  have c0 := hq1.get 0 _ rfl
  have c1 := hq1.get 1 _ rfl
  have hq2 := hq1.below (below_drewN (Below.refl _ _) 1)
  have d0 : w1.drew.cell? ⟨w.heap.size, 0, none⟩ = some (.string f.n) := hq2.get 0 _ rfl
  have d1 : w1.drew.cell? ⟨w.heap.size, 1, none⟩ = some (.string f.v) := hq2.get 1 _ rfl
  have BD : Hid (Below w.heap.size w w1.drew) := below_drewN hb1 1
  have HW1 := Lib.hid hw1
  obtain ⟨fn, fv⟩ := f
  simp only at *
  clear hw1 h ho hc hi hb1 hq1 hq2
  go_enter Tryz.func49, Tryz.ntmps49
  go_upto_region 1 with fail
  rw [← HW1.out]
  go_region_law (first | (go_simp; go_at_call 79; refine (HC.out _ BD.out).mono ?_; rintro e w2 ⟨rfl, hd⟩; have HD := Lib.hid hd; clear hd))
  all_goals
    go_wp2_with fail
    go_ret
    exact ⟨rfl, HD.out⟩
end
end Go.Proofs.YtbkbabaoockigaaGreatDoor
