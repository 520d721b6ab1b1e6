/- Walks of layer 13: a table of the call's own; alive. -/
import Derived.Test.YtfacpncbcplocaaDoorQtH
import Derived.Test.YtfacpncbcplocaaDoorQtO
set_option maxRecDepth 100000
set_option linter.unusedSimpArgs false
set_option linter.unusedVariables false
set_option linter.unnecessarySimpa false
namespace Go.Proofs.YtfacpncbcplocaaDoor
open Go.RowKit

/-- a table of the call's own (from block B on) -/
structure Tm (B b : Nat) (sl : Value) (q : TQ) (w0 w : World) : Prop where
  ok : TOk q
  tbl : Tbl b sl q w
  low : B ≤ b
  slow : ∀ j, sl.ownBlock = some j → B ≤ j
  bel : Below B w0 w
theorem Tm.size {B b : Nat} {sl : Value} {q : TQ} {w0 w : World} (h : Tm B b sl q w0 w) : B ≤ w.heap.size := by have := h.tbl.lt; have := h.low; omega
theorem Tm.below {B b : Nat} {sl : Value} {q : TQ} {w0 w w' : World} (h : Tm B b sl q w0 w) (hb : Below w.heap.size w w') : Tm B b sl q w0 w' :=
  ⟨h.ok, h.tbl.below hb, h.low, h.slow, h.bel.trans (hb.mono h.size)⟩
theorem Tm.keep {B b : Nat} {sl : Value} {q : TQ} {w0 w w' : World} {S : List Nat} (h : Tm B b sl q w0 w) (hk : Keep S w w') (hS : ∀ i ∈ S, B ≤ i) (hb : b ∉ S) (hs : ∀ j, sl.ownBlock = some j → j ∉ S) : Tm B b sl q w0 w' :=
  ⟨h.ok, h.tbl.keep hk hb hs, h.low, h.slow, h.bel.trans (hk.to_below hS h.size)⟩
theorem Tm.drewN {B b : Nat} {sl : Value} {q : TQ} {w0 w : World} (h : Tm B b sl q w0 w) (n : Nat) : Tm B b sl q w0 (w.drewN n) := h.below (below_drewN (Below.refl _ _) n)
theorem Tm.ts {B b : Nat} {sl : Value} {q : TQ} {w0 w : World} (h : Tm B b sl q w0 w) : ∀ i ∈ TS b sl, B ≤ i := fun i hi => by
  rcases mem_TS.1 hi with rfl | h1
  · exact h.low
  · exact h.slow i h1
theorem Tm.step {B b : Nat} {sl : Value} {q q' : TQ} {w0 w w' : World} (h : Tm B b sl q w0 w) (ho : TOk q') (hd : Did b sl q' w w') :
    ∃ sl', Tm B b sl' q' w0 w' ∧ (∀ j, sl'.ownBlock = some j → sl.ownBlock = some j ∨ w.heap.size ≤ j) ∧ Keep (TS b sl) w w' := by
  obtain ⟨sl', h1, h2, h3⟩ := hd
  refine ⟨sl', ⟨ho, h1, h.low, fun j hj => ?_, h.bel.trans (h3.to_below h.ts h.size)⟩, h2, h3⟩
  rcases h2 j hj with h4 | h4
  · exact h.slow j h4
  · exact Nat.le_trans h.size h4
/-- what a method that writes leaves -/
def Step (B b : Nat) (sl : Value) (q' : TQ) (w0 w w' : World) : Prop := ∃ sl', Tm B b sl' q' w0 w' ∧ (∀ j, sl'.ownBlock = some j → sl.ownBlock = some j ∨ w.heap.size ≤ j) ∧ Keep (TS b sl) w w'
theorem setCap_m {B b : Nat} {sl : Value} {q : TQ} {w0 w : World} (h : Tm B b sl q w0 w) (n : Int) (hc : countN q ≤ 4611686018427387000) :
    Calls Tryd.prog 20 #[.pointer (some ⟨b, 0, none⟩), .int .i64 n] w fun e w' => e = .returned (.int .i64 (setCapE q n).2) ∧ Step B b sl (setCapE q n).1 w0 w w' :=
  (setCap_any n w h.ok h.tbl (by omega)).mono fun e w' hh => ⟨hh.1, h.step (setCap_ok h.ok n) hh.2⟩
theorem insert_m {B b : Nat} {sl : Value} {q : TQ} {w0 w : World} (h : Tm B b sl q w0 w) (f : Fd) (hc : countN q ≤ 4611686018427387000) :
    Calls Tryd.prog 18 #[.pointer (some ⟨b, 0, none⟩), .agg #[.string f.n, .string f.v]] w fun e w' => e = .returned (.tuple #[.int .i64 (insertE q f).2.1, .int .i64 (insertE q f).2.2]) ∧ Step B b sl (insertE q f).1 w0 w w' :=
  (insert_any f w h.tbl h.ok hc).mono fun e w' hh => ⟨hh.1, h.step (insert_ok h.ok f) hh.2⟩
theorem new_yes (n : Int) (w : World) (h1 : 0 ≤ n) (h2 : n ≤ 4096) :
    Calls Tryd.prog 16 #[.int .i64 n] w fun e w' => ∃ b, e = .returned (.tuple #[.pointer (some ⟨b, 0, none⟩), .int .i64 0]) ∧ Tm w.heap.size b (.slice none 0 0) (newT n.toNat) w w' := by
  refine (new_any n w).mono ?_
  rintro e w' (⟨h, _⟩ | ⟨_, b, rfl, ht, hl, hb⟩)
  · omega
  · exact ⟨b, rfl, newT_ok _ (by omega), ht, hl, (fun j hj => by cases hj), hb⟩
theorem new_no (n : Int) (w : World) (h1 : n < 0 ∨ 4096 < n) :
    Calls Tryd.prog 16 #[.int .i64 n] w fun e w' => e = .returned (.tuple #[.pointer none, .int .i64 1]) ∧ w' = w := by
  refine (new_any n w).mono ?_
  rintro e w' (⟨_, h⟩ | ⟨h, _⟩)
  · exact h
  · omega

theorem al_is : ∃ q1 q2 q3 q4 : TQ, setCapE (newT 100) 70 = (q1, 0) ∧ countN q1 = 0 ∧ insertE q1 ⟨⟨#[97]⟩, ⟨#[98]⟩⟩ = (q2, 0, 0) ∧ countN q2 = 1 ∧ insertE q2 ⟨⟨#[99]⟩, ⟨#[100]⟩⟩ = (q3, 1, 0) ∧ countN q3 = 2 ∧ insertE q3 ⟨⟨#[101]⟩, ⟨#[102]⟩⟩ = (q4, 2, 0) ∧ q4.first = 1 ∧ countN q4 = 3 ∧ rooms q4.l = 68 :=
  ⟨_, _, _, _, rfl, rfl, rfl, rfl, rfl, rfl, rfl, rfl, rfl, rfl⟩
theorem fx1 : fixedE 1 = (⟨⟨#[58, 112, 97, 116, 104]⟩, ⟨#[47]⟩⟩, 0) := rfl

set_option maxHeartbeats 3200000 in
theorem alive_any (w : World) (hF : Fix w) : Calls Tryd.prog 15 #[] w fun e w' => e = .returned (.bool true) ∧ Below w.heap.size w w' := by
  obtain ⟨q1, q2, q3, q4, e1, d1, e2, d2, e3, d3, e4, e5, e6, e7⟩ := al_is
  have E1 := Lib.hid e1
  have D1 := Lib.hid d1
  have E2 := Lib.hid e2
  have D2 := Lib.hid d2
  have E3 := Lib.hid e3
  have D3 := Lib.hid d3
  have E4 := Lib.hid e4
  have E5 := Lib.hid e5
  have E6 := Lib.hid e6
  have E7 := Lib.hid e7
  have HF := Lib.hid hF
  have hpos := hF.pos
  clear e1 d1 e2 d2 e3 d3 e4 e5 e6 e7 hF
  have tok1 : True := trivial
  have tok2 : True := trivial
  go_enter Tryd.func15, Tryd.ntmps15
  go_wp2_with (first
    | (go_at_call 16; refine (new_yes 100 _ (by decide) (by decide)).mono ?_; rintro e w1 ⟨b, rfl, M1⟩
       have h1 := setCap_m M1 70 (by show countN (newT 100) ≤ _; decide)
       have h1' : Calls Tryd.prog 20 #[.pointer (some ⟨b, 0, none⟩), .int .i64 70] w1 fun e w' => e = .returned (.int .i64 0) ∧ Step w.heap.size b (.slice none 0 0) q1 w w1 w' := by
         have := E1.out
         refine h1.mono fun e w' hh => ?_
         rw [show (100 : Int).toNat = 100 from rfl, this] at hh
         exact hh
       have H1 := Lib.hid h1'
       clear M1 h1 h1')
    | (go_at_call 20; refine H1.out.mono ?_; rintro e w2 ⟨rfl, s2, M2, _, _⟩
       have h2 := insert_m M2 ⟨⟨#[97]⟩, ⟨#[98]⟩⟩ (by rw [D1.out]; omega)
       rw [E2.out] at h2
       have H2 := Lib.hid h2
       clear M2 h2)
    | (go_at_call 18; have _t := tok1; refine H2.out.mono ?_; rintro e w3 ⟨rfl, s3, M3, _, _⟩
       clear tok1
       have h3 := insert_m M3 ⟨⟨#[99]⟩, ⟨#[100]⟩⟩ (by rw [D2.out]; omega)
       rw [E3.out] at h3
       have H3 := Lib.hid h3
       clear M3 h3)
    | (go_at_call 18; have _t := tok2; refine H3.out.mono ?_; rintro e w4 ⟨rfl, s4, M4, _, _⟩
       clear tok2
       have h4 := insert_m M4 ⟨⟨#[101]⟩, ⟨#[102]⟩⟩ (by rw [D3.out]; omega)
       rw [E4.out] at h4
       have H4 := Lib.hid h4
       clear M4 h4)
    | (go_at_call 18; refine H4.out.mono ?_; rintro e w5 ⟨rfl, s5, M5, _, _⟩
       have HM5 := Lib.hid M5
       have hx := fixed_any 1 w5 (HF.out.below M5.bel hpos)
       rw [fx1] at hx
       have HX := Lib.hid hx
       clear M5 hx)
    | (go_at_call 9; refine HX.out.mono ?_; rintro e w6 ⟨rfl, b6⟩
       have M6 := HM5.out.below b6
       have HM6 := Lib.hid (M6.below (below1 w6 (.cells #[.string ⟨#[58, 112, 97, 116, 104]⟩, .string ⟨#[47]⟩] 23)))
       have h7 := first_any _ HM6.out.tbl
       have h8 := count_any _ HM6.out.tbl (by rw [E6.out]; omega)
       rw [E5.out] at h7
       rw [E6.out] at h8
       have H7 := Lib.hid h7
       have H8 := Lib.hid h8
       clear M6 b6 h7 h8)
    | (go_at_call 29; refine H7.out.mono ?_; rintro e w7 ⟨rfl, h⟩; obtain rfl := h)
    | (go_at_call 30; refine H8.out.mono ?_; rintro e w8 ⟨rfl, nd, h⟩; obtain rfl := h
       have h9 := used_any _ (HM6.out.drewN nd).tbl
       rw [E7.out] at h9
       have H9 := Lib.hid h9
       have xx := (Cs.made w6 #[.string ⟨#[58, 112, 97, 116, 104]⟩, .string ⟨#[47]⟩] 23).get 1 _ rfl
       clear h9)
    | (go_at_call 27; refine H9.out.mono ?_; rintro e w9 ⟨rfl, h⟩; obtain rfl := h))
  go_ret
  exact ⟨rfl, (HM6.out.drewN nd).bel⟩
end Go.Proofs.YtfacpncbcplocaaDoor
