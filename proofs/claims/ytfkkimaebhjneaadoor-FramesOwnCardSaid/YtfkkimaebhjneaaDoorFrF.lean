/- Walks of layer 4: the reader's spans. -/
/- Layer 4: one frame, as it is read; the state of its reading. -/
import Derived.Test.YtfkkimaebhjneaaDoorFrB
import Derived.Test.YtfkkimaebhjneaaDoorSpan
import Derived.Test.YtfkkimaebhjneaaDoorFrD
set_option linter.unusedSimpArgs false
set_option linter.unusedVariables false
namespace Go.Proofs.YtfkkimaebhjneaaDoor
open Go.RowKit

theorem elemSpan : ElemC Tryd.prog 44 2 16 (.agg #[.int .i64 0, .int .i64 0]) := ⟨info_parts (by kernel_rfl), rfl, by decide⟩

theorem Tab.kept {w w' : World} {p : Nat} (h : Tab w) (hg : w.grownBy w' (some p)) (hp : 0 < p) : Tab w' := by
  obtain ⟨c0, c1, c2, c3⟩ := h
  have hne : ∀ o, some (⟨0, o, none⟩ : Addr).block ≠ some p := fun o e => by simp only [Option.some.injEq] at e; omega
  exact ⟨hg.cell c0 (hne 0), hg.cell c1 (hne 1), hg.cell c2 (hne 2), hg.cell c3 (hne 3)⟩

/-- k spans more, each below the last one that was read -/
def moreR (xs : List Int) : Nat → Int → Nat → List (Int × Int) → Except (Int × Int) (List (Int × Int) × Nat)
  | 0, _, i, l => .ok (l, i)
  | k + 1, low, i, l => match atMostR xs i (low - 2) 5 with
    | .error e => .error e
    | .ok (g, j) => match spanR xs j (low - 2 - g) with
      | .error e => .error e
      | .ok (s, j') => moreR xs k s.1 j' (s :: l)
def spansR (xs : List Int) (i : Nat) (greatest : Int) : Except (Int × Int) (List (Int × Int) × Nat) := match atMostR xs i 31 6 with
  | .error e => .error e
  | .ok (last, j) => match spanR xs j greatest with
    | .error e => .error e
    | .ok (s, j') => moreR xs last.toNat s.1 j' [s]
def spansV (B : Nat) (l : List (Int × Int)) (w : World) (u : Value) : Prop := OwnS w B u l

theorem span_ok {xs : List Int} (hx : Bts xs) {i j : Nat} {tp : Int} {s : Int × Int} (h : spanR xs i tp = .ok (s, j)) : 0 ≤ s.1 ∧ s.1 ≤ tp ∧ s.2 = tp ∧ i < j ∧ j ≤ xs.length := by
  unfold spanR at h
  split at h
  · rename_i n j' hn
    obtain ⟨h1, h2, h3, h4, h5⟩ := atMost_ok hx hn
    cases h
    refine ⟨?_, ?_, rfl, h4, h5⟩
    · show 0 ≤ tp - n; omega
    · show tp - n ≤ tp; omega
  · cases h

/-- WHERE THE ROUNDS STAND -/
structure Rounds (xs : List Int) (p : Nat) (v : Value) (w W : World) (g n : Nat) (tot : Except (Int × Int) (List (Int × Int) × Nat)) (k : Nat) (low : Int) (j : Nat) (l : List (Int × Int)) : Prop where
  is : moreR xs k low j l = tot
  lo : 0 ≤ low
  hi : low ≤ 4611686018427387903
  pl : j ≤ xs.length
  len : l.length + k = n
  hd : ∃ s r, l = s :: r ∧ s.1 = low
  at_ : At W p v j
  own : OwnS W w.heap.size (.slice (some ⟨g, 0, none⟩) n n) (List.replicate k (0, 0) ++ l)
  gr : w.grownBy W (some p)

set_option maxHeartbeats 3200000 in
theorem spans_any (p : Nat) (v : Value) (xs : List Int) (a : Nat) (tp : Int) (w : World) (ht : Tab w) (hA : At w p v a) (hr : Rd .u8 w v xs) (hx : Bts xs) (ha : a ≤ xs.length) (h0 : 0 ≤ tp) (htp : tp ≤ 4611686018427387903) (hfree : ∀ j, v.ownBlock = some j → some p ≠ some j) (hp0 : 0 < p) :
    Calls Tryd.prog 48 #[.pointer (some ⟨p, 0, none⟩), .int .i64 tp] w (StepIs (spansV w.heap.size) w p v (spansR xs a tp)) := by
  have hlt := hA.lt
  have HA := Lib.hid hA
  have HT := Lib.hid ht
  have HR := Lib.hid hr
  have HX := Lib.hid hx
  have HF := Lib.hid hfree
  have HN := Lib.hid (atMost_any p v xs a 31 6 w ht hA hr hx ha)
  clear hA hr ht hfree
  cases hn : atMostR xs a 31 6 with
  | error e =>
    obtain ⟨y, z⟩ := e
    have HM : Hid (spansR xs a tp = .error (y, z)) := by show _ = _; unfold spansR; rw [hn]
    have HE : Hid (atMostR xs a 31 6 = .error (y, z)) := hn
    clear hn
    go_enter Tryd.func48, Tryd.ntmps48
    go_wp2_with (go_at_call 58; refine HN.out.mono ?_; rintro e w1 h1; obtain ⟨g1, rfl⟩ := h1.err HE.out)
    refine ⟨rfl, ?_⟩
    rw [HM.out]
    exact ⟨g1, rfl⟩
  | ok y =>
    obtain ⟨last, j⟩ := y
    have HE : Hid (atMostR xs a 31 6 = .ok (last, j)) := hn
    obtain ⟨b0, b1, b2, b3, b4⟩ := atMost_ok hx hn
    obtain ⟨k, rfl⟩ := Int.eq_ofNat_of_zero_le b0
    have hw1 : IntKind.i64.wrap ((k : Int) + 1) = (k : Int) + 1 := wraps_i64' _ (by omega) (by omega)
    have hw2 : IntKind.i64.wrap ((k : Int) - 1) = (k : Int) - 1 := by rw [IntKind.wrap_i64]; omega
    have HK : Hid (k ≤ 31) := by show _ ≤ _; omega
    clear hn b0 b1 b2
    go_enter Tryd.func48, Tryd.ntmps48
    go_wp2_with (first
      | (go_at_call 58; refine HN.out.mono ?_; rintro e w1 h1; obtain ⟨g1, ⟨u, rfl, rfl⟩, A1⟩ := h1.ok HE.out)
      | (at_make; refine wpList_make_full _ rfl _ _ 31 rfl w.heap.size 44 _ _ 2 Tryd.underlying31 elemSpan.info.choose_spec.1 elemSpan.info.choose_spec.2.1 elemSpan.info.choose_spec.2.2.1 .i64 .i64 _ _ (k + 1) rfl rfl (by simp) (by simp) (by rw [elemSpan.info.choose_spec.2.2.2]; have := HK.out; omega) (by have := HK.out; unfold maxLen; omega) g1.size ?_; intro w2 o2 g2))
    have G2 : w.grownBy w2 (some p) := grownBy_trans g1 (grownBy_none g2)
    have A2 : At w2 p v j := ⟨(g2.block p A1.lt (by simp)).trans A1.is⟩
    have O2 : OwnS w2 w.heap.size (.slice (some ⟨w1.heap.size, 0, none⟩) (k + 1) (k + 1)) (List.replicate (k + 1) (0, 0)) := by
      unfold OwnS
      rw [List.length_replicate, spC_zero, ← madeCells_zero]
      exact o2
    have z12 : w.heap.size ≤ w1.heap.size := g1.size
    have hpg : p ≠ w1.heap.size := by omega
    have T2 : Tab w2 := HT.out.kept G2 hp0
    have R2 : Rd .u8 w2 v xs := HR.out.kept G2 HF.out
    have S2 := Lib.hid (span_any p v xs j tp w2 T2 A2 R2 HX.out b4 (by omega) htp)
    cases hs : spanR xs j tp with
    | error e =>
      obtain ⟨y, z⟩ := e
      have HE2 : Hid (spanR xs j tp = .error (y, z)) := hs
      have HM : Hid (spansR xs a tp = .error (y, z)) := by show _ = _; unfold spansR; rw [HE.out]; show (match spanR xs j tp with | .error e => _ | .ok (s, j') => _) = _; rw [hs]
      clear hs o2 g2 A2 O2 T2 R2
      go_wp2_with (go_at_call 59; refine S2.out.mono ?_; rintro e w3 h3; obtain ⟨g3, rfl⟩ := h3.err HE2.out)
      refine ⟨rfl, ?_⟩
      rw [HM.out]
      exact ⟨grownBy_trans G2 g3, rfl⟩
    | ok y =>
      obtain ⟨⟨lo, hi⟩, j'⟩ := y
      obtain ⟨s1, s2, s3, s4, s5⟩ := span_ok HX.out hs
      simp only at s1 s2 s3
      subst s3
      have HE2 : Hid (spanR xs j hi = .ok ((lo, hi), j')) := hs
      have HM : Hid (moreR xs k lo j' [(lo, hi)] = spansR xs a hi) := by show _ = _; unfold spansR; rw [HE.out]; show _ = (match spanR xs j hi with | .error e => _ | .ok (s, j') => _); rw [hs]; rfl
      have hi1 : (k : Int) < (k : Int) + 1 := by omega
      have hi2 : (k : Int) < ((k + 1 : Nat) : Int) := by omega
      clear hs o2 g2 A2 T2 R2
      go_wp2_with (go_at_call 59; refine S2.out.mono ?_; rintro e w3 h3; obtain ⟨g3, ⟨u, rfl, rfl⟩, A3⟩ := h3.ok HE2.out; have O3 := O2.kept g3 (fun jj hj => by simp only [Value.ownBlock, Option.some.injEq] at hj; subst hj; exact fun e => hpg (by cases e; rfl)); have q0 := O3.at0 k (by simp); have q1 := O3.at1 k (by simp); have qf := O3.fz)
      have G3 : w.grownBy w3 (some p) := grownBy_trans G2 g3
      have ST : Hid (Rounds xs p v w ((w3.setCell ⟨w1.heap.size, k * 2, none⟩ (.int .i64 lo)).setCell ⟨w1.heap.size, k * 2 + 1, none⟩ (.int .i64 hi)) w1.heap.size (k + 1) (spansR xs a hi) k lo j' [(lo, hi)]) :=
        ⟨HM.out, s1, by omega, s5, by simp; omega, ⟨_, [], rfl, rfl⟩, (A3.other (q := ⟨w1.heap.size, k * 2, none⟩) hpg _).other (q := ⟨w1.heap.size, k * 2 + 1, none⟩) hpg _, by
          have := O3.set k lo hi
          rw [show List.replicate (k + 1) ((0, 0) : Int × Int) = List.replicate (k + 1) (0, 0) ++ [] by simp, zero_set] at this
          exact this, grownBy_set (grownBy_set G3 _ _ (.inr z12)) _ _ (.inr z12)⟩
      generalize ((w3.setCell ⟨w1.heap.size, k * 2, none⟩ (.int .i64 lo)).setCell ⟨w1.heap.size, k * 2 + 1, none⟩ (.int .i64 hi)) = w4 at ST ⊢
      clear A3 O3 q0 q1 qf g3 G3 O2
      go_loopw [7] (fun i wr => ∃ (r : Nat) (low : Int) (jj : Nat) (l : List (Int × Int)), i = .int .i64 ((r : Int) - 1) ∧ Rounds xs p v w wr w1.heap.size (k + 1) (spansR xs a hi) r low jj l) (fun i _ => (intOf i + 1).toNat)
      case atStart => exact ⟨k, lo, j', [(lo, hi)], rfl, ST.out⟩
      case round =>
        obtain ⟨r, low, jj, l, rfl, RD⟩ := hrel
        have RH := Lib.hid RD
        clear RD
        cases r with
        | zero =>
          go_wp2
          go_ret
          rw [← RH.out.is]
          exact ⟨RH.out.gr, ⟨_, rfl, by have := RH.out.own; have e := RH.out.len; simp only [Nat.add_zero] at e; unfold spansV; rw [List.replicate_zero, List.nil_append] at this; exact this⟩, RH.out.at_⟩
        | succ r =>
          obtain ⟨s0, l0, hl, hs0⟩ := RH.out.hd
          have q2 : wr.cell? ⟨w1.heap.size, (r + 1) * 2, none⟩ = some (.int .i64 low) := by
            have hh := RH.out.own.at0 (r + 1) (by rw [hl]; simp)
            rw [hh, hl]
            simp [List.getD, hs0]
          have hrk : r + 1 < k + 1 := by have := RH.out.len; rw [hl] at this; simp at this; omega
          have hlo := RH.out.lo
          have hhi := RH.out.hi
          have hk31 := HK.out
          have e0 : (((r + 1 : Nat) : Int) - 1) = (r : Int) := by omega
          rw [e0]
          have hw4 : IntKind.i64.wrap ((r : Int) + 1) = (r : Int) + 1 := wraps_i64' _ (by omega) (by omega)
          have hw5 : IntKind.i64.wrap (low - 2) = low - 2 := by rw [IntKind.wrap_i64]; omega
          have hi3 : (r : Int) + 1 < (k : Int) + 1 := by omega
          have hi4 : (r : Int) < (k : Int) + 1 := by omega
          have hi5 : (0 : Int) ≤ (r : Int) + 1 := by omega
          have hi6 : (0 : Int) ≤ (r : Int) := by omega
          have TW : Tab wr := HT.out.kept RH.out.gr hp0
          have RW : Rd .u8 wr v xs := HR.out.kept RH.out.gr HF.out
          have M1 := Lib.hid (atMost_any p v xs jj (low - 2) 5 wr TW RH.out.at_ RW HX.out RH.out.pl)
          clear TW RW
          cases hm : atMostR xs jj (low - 2) 5 with
          | error e =>
            obtain ⟨y, z⟩ := e
            have HE3 : Hid (atMostR xs jj (low - 2) 5 = .error (y, z)) := hm
            have HM3 : Hid (spansR xs a hi = .error (y, z)) := by show _ = _; rw [← RH.out.is]; unfold moreR; rw [hm]
            clear hm hl hs0
            go_wp2_with (go_at_call 58; refine M1.out.mono ?_; rintro e w5 h5; obtain ⟨g5, rfl⟩ := h5.err HE3.out)
            refine ⟨rfl, ?_⟩
            rw [HM3.out]
            exact ⟨grownBy_trans RH.out.gr g5, rfl⟩
          | ok y =>
            obtain ⟨gap, j2⟩ := y
            have HE3 : Hid (atMostR xs jj (low - 2) 5 = .ok (gap, j2)) := hm
            obtain ⟨a0, a1, a2, a3, a4⟩ := atMost_ok HX.out hm
            have hw6 : IntKind.i64.wrap (low - 2 - gap) = low - 2 - gap := by rw [IntKind.wrap_i64]; omega
            cases hsp : spanR xs j2 (low - 2 - gap) with
            | error e =>
              obtain ⟨y, z⟩ := e
              have HE4 : Hid (spanR xs j2 (low - 2 - gap) = .error (y, z)) := hsp
              have HM3 : Hid (spansR xs a hi = .error (y, z)) := by show _ = _; rw [← RH.out.is]; unfold moreR; rw [hm]; show (match spanR xs j2 (low - 2 - gap) with | .error e => _ | .ok (s, j') => _) = _; rw [hsp]
              clear hm hl hs0 hsp
              go_wp2_with (first
                | (go_at_call 58; refine M1.out.mono ?_; rintro e w5 h5; obtain ⟨g5, ⟨u, rfl, rfl⟩, A5⟩ := h5.ok HE3.out; have G5 := grownBy_trans RH.out.gr g5; have T5 := HT.out.kept G5 hp0; have R5 := HR.out.kept G5 HF.out)
                | (go_at_call 59; refine (span_any p v xs j2 _ _ T5 A5 R5 HX.out a4 (by omega) (by omega)).mono ?_; rintro e w6 h6; obtain ⟨g6, rfl⟩ := h6.err HE4.out))
              refine ⟨rfl, ?_⟩
              rw [HM3.out]
              exact ⟨grownBy_trans G5 g6, rfl⟩
            | ok y =>
              obtain ⟨⟨lo6, hi6'⟩, j6⟩ := y
              obtain ⟨s1, s2, s3, s4, s5⟩ := span_ok HX.out hsp
              simp only at s1 s2 s3
              subst s3
              have HE4 : Hid (spanR xs j2 (low - 2 - gap) = .ok ((lo6, low - 2 - gap), j6)) := hsp
              have HM3 : Hid (moreR xs r lo6 j6 ((lo6, low - 2 - gap) :: l) = spansR xs a hi) := by
                show _ = _
                rw [← RH.out.is, moreR, hm]
                show _ = (match spanR xs j2 (low - 2 - gap) with | .error e => _ | .ok (s, j') => _)
                rw [hsp]
              have hrl : r < (List.replicate (r + 1) ((0, 0) : Int × Int) ++ l).length := by simp; omega
              clear hm hl hs0 hsp
              go_wp2_with (first
                | (go_at_call 58; refine M1.out.mono ?_; rintro e w5 h5; obtain ⟨g5, ⟨u, rfl, rfl⟩, A5⟩ := h5.ok HE3.out; have G5 := grownBy_trans RH.out.gr g5; have T5 := HT.out.kept G5 hp0; have R5 := HR.out.kept G5 HF.out; have O5 := RH.out.own.kept g5 (fun jj hj => by simp only [Value.ownBlock, Option.some.injEq] at hj; subst hj; exact fun e => hpg (by cases e; rfl)))
                | (go_at_call 59; refine (span_any p v xs j2 _ _ T5 A5 R5 HX.out a4 (by omega) (by omega)).mono ?_; rintro e w6 h6; obtain ⟨g6, ⟨u, rfl, rfl⟩, A6⟩ := h6.ok HE4.out; have O6 := O5.kept g6 (fun jj hj => by simp only [Value.ownBlock, Option.some.injEq] at hj; subst hj; exact fun e => hpg (by cases e; rfl)); have q0 := O6.at0 r hrl; have q1 := O6.at1 r hrl; have qf := O6.fz))
              refine ⟨⟨r, lo6, j6, (lo6, low - 2 - gap) :: l, rfl, ⟨HM3.out, s1, by omega, s5, by have := RH.out.len; simp only [List.length_cons]; omega, ⟨_, l, rfl, rfl⟩, (A6.other (q := ⟨w1.heap.size, r * 2, none⟩) hpg _).other (q := ⟨w1.heap.size, r * 2 + 1, none⟩) hpg _, ?_, grownBy_set (grownBy_set (grownBy_trans G5 g6) _ _ (.inr z12)) _ _ (.inr z12)⟩⟩, by simp [intOf]⟩
              have := O6.set r lo6 (low - 2 - gap)
              rw [zero_set] at this
              exact this
end Go.Proofs.YtfkkimaebhjneaaDoor

namespace Go.Proofs.YtfkkimaebhjneaaDoor
open Go.RowKit

/-- a frame -/
structure Fr where
  kind : Int
  stream : Int
  offset : Int
  n : Int
  code : Int
  fin : Bool
  data : List Int
  spans : List (Int × Int)

/-- what follows a number that was read -/
def thn {α β : Type} (r : Except (Int × Int) (α × Nat)) (k : α → Nat → Except (Int × Int) (β × Nat)) : Except (Int × Int) (β × Nat) := match r with
  | .ok (x, j) => k x j
  | .error e => .error e
theorem thn_ok {α β : Type} {r : Except (Int × Int) (α × Nat)} {k : α → Nat → Except (Int × Int) (β × Nat)} {x : α} {j : Nat} (h : r = .ok (x, j)) : thn r k = k x j := by subst h; rfl
theorem thn_err {α β : Type} {r : Except (Int × Int) (α × Nat)} {k : α → Nat → Except (Int × Int) (β × Nat)} {e : Int × Int} (h : r = .error e) : thn r k = .error e := by subst h; rfl

def bareFr (k : Int) : Fr := ⟨k, 0, 0, 0, 0, false, [], []⟩
/-- the bytes that end a frame: so many; i: where the frame begins -/
def tailR (xs : List Int) (i : Nat) (off : Int) (count : Int) (j : Nat) : Except (Int × Int) (List Int × Nat) := if 4611686018427387903 - off < count then .error (7, i) else dataR xs j count
def countR (xs : List Int) (bt : Int) (j : Nat) : Except (Int × Int) (Int × Nat) := if bt / 2 % 2 = 0 then .ok ((xs.length : Int) - j, j) else num xs j
def offR (xs : List Int) (bt : Int) (j : Nat) : Except (Int × Int) (Int × Nat) := if bt / 4 % 2 = 0 then .ok (0, j) else num xs j
/-- the rest of a frame behind its type -/
def restR (xs : List Int) (i : Nat) (k bt : Int) (j : Nat) : Except (Int × Int) (Fr × Nat) :=
  if k = 2 then thn (num xs j) fun great j => thn (num xs j) fun n j => thn (spansR xs j great) fun l j => .ok (⟨2, 0, 0, n, 0, false, [], l⟩, j)
  else if k = 4 then thn (num xs j) fun s j => thn (num xs j) fun c j => thn (num xs j) fun o j => .ok (⟨4, s, o, 0, c, false, [], []⟩, j)
  else if k = 5 then thn (num xs j) fun s j => thn (num xs j) fun c j => .ok (⟨5, s, 0, 0, c, false, [], []⟩, j)
  else if k = 8 then thn (num xs j) fun s j => thn (offR xs bt j) fun o j => thn (countR xs bt j) fun c j => thn (tailR xs i o c j) fun d j => .ok (⟨8, s, o, 0, 0, (bt % 2 != 0), d, []⟩, j)
  else if k = 16 ∨ k = 18 then thn (num xs j) fun n j => .ok (⟨k, 0, 0, n, 0, false, [], []⟩, j)
  else if k = 17 then thn (num xs j) fun s j => thn (num xs j) fun n j => .ok (⟨17, s, 0, n, 0, false, [], []⟩, j)
  else if k = 28 then thn (num xs j) fun c j => thn (num xs j) fun m j => thn (dataR xs j m) fun d j => .ok (⟨28, 0, 0, 0, c, false, d, []⟩, j)
  else .ok (bareFr k, j)
def frameR (xs : List Int) (i : Nat) : Except (Int × Int) (Fr × Nat) := match kindR xs i with
  | .ok ((k, bt), j) => restR xs i k bt j
  | .error e => .error e

/-- u IS THE FRAME f, its bytes and spans the call's own -/
def frV (B : Nat) (f : Fr) (w : World) (u : Value) : Prop := ∃ dv sv, u = .agg #[.int .i64 f.kind, .int .i64 f.stream, .int .i64 f.offset, .int .i64 f.n, .int .i64 f.code, .bool f.fin, dv, sv] ∧ Own .u8 5 w B dv f.data ∧ OwnS w B sv f.spans

/-- WHERE THE READING OF A FRAME STANDS: R, P, F: the blocks of the result, of the parts, of the frame -/
structure FS (w0 W : World) (p : Nat) (v : Value) (xs : List Int) (R P F : Nat) (ps cs : Array Value) (j : Nat) : Prop where
  at_ : At W p v j
  gr : w0.grownBy W (some p)
  tab : Tab W
  rd : Rd .u8 W v xs
  res : W.heap[R]? = some (.cells #[.int .i64 0, .int .i64 0, .int .i64 0, .int .i64 0, .int .i64 0, .bool false, .slice none 0 0, .slice none 0 0] 33 (0, 0))
  par : W.heap[P]? = some (.cells ps 52 (0, 0))
  frm : W.heap[F]? = some (.cells cs 33 (0, 0))
  pR : p < R
  RP : R < P
  PF : P < F
  hR : w0.heap.size ≤ R
  p0 : 0 < p
  free : ∀ j, v.ownBlock = some j → some p ≠ some j
  old : ∀ j, v.ownBlock = some j → j < w0.heap.size

section
variable {w0 W W' : World} {p : Nat} {v : Value} {xs : List Int} {R P F : Nat} {ps cs : Array Value} {j j' : Nat}
theorem FS.step (h : FS w0 W p v xs R P F ps cs j) (hg : W.grownBy W' (some p)) (hA : At W' p v j') : FS w0 W' p v xs R P F ps cs j' := by
  have a := h.pR; have b := h.RP; have c := h.PF
  exact ⟨hA, grownBy_trans h.gr hg, h.tab.kept hg h.p0, h.rd.kept hg h.free, block_kept h.res hg (by simp; omega), block_kept h.par hg (by simp; omega), block_kept h.frm hg (by simp; omega), h.pR, h.RP, h.PF, h.hR, h.p0, h.free, h.old⟩
theorem FS.put (h : FS w0 W p v xs R P F ps cs j) (i : Nat) (x : Value) : FS w0 (W.setCell ⟨F, i, none⟩ x) p v xs R P F ps (cs.setIfInBounds i x) j := by
  have a := h.pR; have b := h.RP; have c := h.PF; have d := h.hR
  have hg : W.grownBy (W.setCell ⟨F, i, none⟩ x) (some F) := grownBy_set (World.grownBy.refl _ _) _ _ (.inl rfl)
  refine ⟨h.at_.other (q := ⟨F, i, none⟩) (by show p ≠ F; omega) _, grownBy_set h.gr _ _ (.inr (by show w0.heap.size ≤ F; omega)), h.tab.kept hg (by omega), h.rd.kept hg (fun j hj => ?_), block_kept h.res hg (by simp; omega), block_kept h.par hg (by simp; omega), Joins.block_setCell h.frm x, h.pR, h.RP, h.PF, h.hR, h.p0, h.free, h.old⟩
  have := h.old j hj
  simp; omega
theorem FS.start {Z : World} (hA : At Z p v j) (hg : w0.grownBy Z (some p)) (ht : Tab Z) (hr : Rd .u8 Z v xs) (hres : Z.heap[R]? = some (.cells #[.int .i64 0, .int .i64 0, .int .i64 0, .int .i64 0, .int .i64 0, .bool false, .slice none 0 0, .slice none 0 0] 33 (0, 0)))
    (hpR : p < R) (hR : w0.heap.size ≤ R) (hp : 0 < p) (hfree : ∀ j, v.ownBlock = some j → some p ≠ some j) (hold : ∀ j, v.ownBlock = some j → j < w0.heap.size) :
    FS w0 ((Z.alloc (.cells ps 52)).alloc (.cells cs 33)) p v xs R Z.heap.size (Z.heap.size + 1) ps cs j := by
  have hb : Below Z.heap.size Z ((Z.alloc (.cells ps 52)).alloc (.cells cs 33)) := ((Below.refl _ _).alloc (Nat.le_refl _) _).alloc (by simp) _
  have hRl : R < Z.heap.size := (Array.getElem?_eq_some_iff.1 hres).1
  refine ⟨hA.kept hb, grownBy_trans hg (grownBy_of_below hb), ht.below hb ht.pos, hr.below hb, (hb.block R hRl).trans hres, ?_, ?_, hpR, hRl, by omega, hR, hp, hfree, hold⟩
  · exact (Below.heap_alloc _ _ _ (by simp)).trans (alloc_at _ _)
  · have := alloc_at (Z.alloc (.cells ps 52)) (.cells cs 33)
    simp only [World.size_alloc] at this
    exact this
/-- all that is left behind the last step: the frame goes over into the result -/
theorem set8 (W : World) (R : Nat) (x0 x1 x2 x3 x4 x5 x6 x7 : Value) :
    W.grownBy ((((((((W.setCell ⟨R, 0, none⟩ x0).setCell ⟨R, 1, none⟩ x1).setCell ⟨R, 2, none⟩ x2).setCell ⟨R, 3, none⟩ x3).setCell ⟨R, 4, none⟩ x4).setCell ⟨R, 5, none⟩ x5).setCell ⟨R, 6, none⟩ x6).setCell ⟨R, 7, none⟩ x7) (some R) := by
  repeat (refine grownBy_set ?_ _ _ (.inl rfl))
  exact World.grownBy.refl _ _
theorem At.keptG {w w' : World} {p : Nat} {v : Value} {a : Int} {row : Option Nat} (h : At w p v a) (hg : w.grownBy w' row) (hne : row ≠ some p) : At w' p v a := ⟨block_kept h.is hg hne⟩
theorem grownBy_trans_new {a b c : World} {row : Option Nat} {g : Nat} (h : a.grownBy b row) (k : b.grownBy c (some g)) (hg : a.heap.size ≤ g) : a.grownBy c row :=
  ⟨k.os.trans h.os, k.tape.trans h.tape, k.output.trans h.output, Nat.le_trans h.size k.size, fun j hj hne => (k.block j (Nat.lt_of_lt_of_le hj h.size) (fun e => by cases e; omega)).trans (h.block j hj hne)⟩
theorem FS.done (h : FS w0 W p v xs R P F ps cs j) (hg : W.grownBy W' (some R)) : w0.grownBy W' (some p) ∧ At W' p v j :=
  ⟨grownBy_trans_new h.gr hg h.hR, h.at_.keptG hg (by have := h.pR; simp; omega)⟩
end
end Go.Proofs.YtfkkimaebhjneaaDoor
