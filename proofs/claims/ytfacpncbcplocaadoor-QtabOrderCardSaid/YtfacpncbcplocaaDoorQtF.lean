/- Walks of layer 13: Find. -/
import Derived.Test.YtfacpncbcplocaaDoorQtE
set_option maxRecDepth 100000
set_option linter.unusedSimpArgs false
set_option linter.unusedVariables false
set_option linter.unnecessarySimpa false
namespace Go.Proofs.YtfacpncbcplocaaDoor
open Go.RowKit

theorem lastN_step (p : Fd → Bool) (first : Nat) (l : List Fd) (k : Nat) (h : k < l.length) : lastN p first l (k + 1) = if p l[k] then ((first + k : Nat) : Int) else lastN p first l k := by
  simp only [lastN]; rw [getD_of h]
theorem tl_ne {x y : ByteArray} (h : ¬ x = y) : ¬ x.toList = y.toList := fun e => h (by
  have := str_beq x y
  rw [e] at this
  simpa using this)

set_option maxHeartbeats 1600000 in
theorem find_any {b : Nat} {sl : Value} {q : TQ} (f : Fd) (w : World) (h : Tbl b sl q w) (hc : countN q ≤ 4611686018427387904) :
    Calls Tryd.prog 24 #[.pointer (some ⟨b, 0, none⟩), .agg #[.string f.n, .string f.v]] w fun e w' => e = .returned (.tuple #[.int .i64 (findE q f).1, .int .i64 (findE q f).2]) ∧ Below w.heap.size w w' := by
  obtain ⟨fn, fv⟩ := f
  unfold findE
  simp only
  have hb1 := below1 w (.cells #[.string fn, .string fv] 23)
  have hT := h.below hb1
  have HG := Lib.hid (given_any _ hT)
  have BX : Hid (Cs (w.alloc (.cells #[.string fn, .string fv] 23)) w.heap.size [.string fn, .string fv]) := Cs.made w _ _
  obtain ⟨sa, sc, hsl, hsc, hsm⟩ := hT.shape
  subst hsl
  have HT := Lib.hid hT
  have HB := Lib.hid hb1
  have HC := Lib.hid hc
  obtain ⟨_, _, _, _, c4, c5⟩ := hT.facts
  have hlt := h.lt
  clear h hb1 hT hc
  go_enter Tryd.func24, Tryd.ntmps24
  go_wp2_with (go_at_call 34; refine HG.out.mono ?_; rintro e w2 ⟨rfl, h⟩; obtain rfl := h)
  go_loopw [6, 7, 20] (fun i6 i7 i20 wr => ∃ k : Nat, i6 = .int .i64 (lastN (isF ⟨fn, fv⟩) q.first q.l k) ∧ i7 = .int .i64 (lastN (namedF ⟨fn, fv⟩) q.first q.l k) ∧ i20 = .int .i64 k ∧ k ≤ q.l.length ∧ Below (w.heap.size + 1) (w.alloc (.cells #[.string fn, .string fv] 23)) wr) (fun _ _ i _ => q.l.length - (intOf i).toNat)
  case atStart => exact ⟨0, rfl, rfl, rfl, Nat.zero_le _, Below.refl _ _⟩
  case round =>
    obtain ⟨k, rfl, rfl, rfl, hk, hbel⟩ := hrel
    obtain ⟨wh, hwh⟩ : ∃ x, x = lastN (isF ⟨fn, fv⟩) q.first q.l k := ⟨_, rfl⟩
    obtain ⟨nm, hnm⟩ : ∃ x, x = lastN (namedF ⟨fn, fv⟩) q.first q.l k := ⟨_, rfl⟩
    rw [← hwh, ← hnm]
    have HWH := Lib.hid hwh
    have HNM := Lib.hid hnm
    clear hwh hnm
    have BW : Hid (Below (w.alloc (.cells #[.string fn, .string fv] 23)).heap.size (w.alloc (.cells #[.string fn, .string fv] 23)) wr) := (by simpa using hbel : Below _ _ _)
    have HTr := Lib.hid (HT.out.below BW.out)
    have hX := BX.out.below BW.out
    have x0 : wr.cell? ⟨w.heap.size, 0, none⟩ = some (.string fn) := hX.get 0 _ rfl
    have x1 : wr.cell? ⟨w.heap.size, 1, none⟩ = some (.string fv) := hX.get 1 _ rfl
    have z0 : w.heap.size < wr.heap.size := hX.lt
    have zb : b < wr.heap.size := by omega
    obtain ⟨_, _, _, _, y4, y5⟩ := HTr.out.facts
    by_cases hkl : k < q.l.length
    · obtain ⟨g, gc, hs2, hg, hgc, hgm⟩ := OwnF.form (show OwnF wr _ _ from HTr.out.row) (fun e => by rw [e] at hkl; simp at hkl)
      simp only [Value.slice.injEq, true_and] at hs2
      obtain ⟨rfl, rfl⟩ := hs2
      obtain ⟨e0, e1⟩ := OwnF.at (show OwnF wr _ _ from HTr.out.row) k hkl
      have s1 := lastN_step (isF ⟨fn, fv⟩) q.first q.l k hkl
      have s2 := lastN_step (namedF ⟨fn, fv⟩) q.first q.l k hkl
      obtain ⟨⟨x, v⟩, hfd⟩ : ∃ fd, fd = q.l[k] := ⟨_, rfl⟩
      rw [← hfd] at e0 e1 s1 s2
      rw [← HWH.out] at s1
      rw [← HNM.out] at s2
      simp only at e0 e1
      clear hfd
      have hi1 : (k : Int) < (q.l.length : Int) := by omega
      have hi2 : (0 : Int) ≤ (k : Int) := by omega
      have hw1 : IntKind.i64.wrap ((k : Int) + 1) = ((k + 1 : Nat) : Int) := by rw [wraps_i64' _ (by omega) (by have := HC.out; unfold countN at this; omega)]; omega
      have hw2 : IntKind.i64.wrap ((q.first : Int) + (k : Int)) = ((q.first + k : Nat) : Int) := by rw [wraps_i64' _ (by omega) (by have := HC.out; unfold countN at this; omega)]; omega
      have HKL := Lib.hid hkl
      have fin : ∀ W, Below wr.heap.size wr W → Below (w.heap.size + 1) (w.alloc (.cells #[.string fn, .string fv] 23)) W := fun W hW => hbel.trans (hW.mono (by omega))
      have FIN := Lib.hid fin
      have hgd := guardF
      by_cases h1 : x = fn
      · subst h1
        have n1 : namedF ⟨x, fv⟩ ⟨x, v⟩ = true := by simp [namedF]
        rw [if_pos n1] at s2
        by_cases h2 : v = fv
        · subst h2
          have m1 : isF ⟨x, v⟩ ⟨x, v⟩ = true := by simp [isF]
          rw [if_pos m1] at s1
          have qe : ∀ W, (Op.equalIn 10000 23 (.agg #[.string x, .string v]) (.agg #[.string x, .string v])).run Tryd.prog W = .ok true W := fun W => by rw [eqF_any ⟨x, v⟩ ⟨x, v⟩, decide_eq_true rfl]
          have S1 := Lib.hid s1
          have S2 := Lib.hid s2
          clear s1 s2 n1 m1 hbel hX hkl hgc hgm hk fin
          go_wp2
          refine ⟨⟨k + 1, by rw [S1.out]; first | rfl | simp, by rw [S2.out]; first | rfl | simp, by first | rfl | simp, HKL.out, FIN.out _ (below1 _ _)⟩, by simp [intOf]; have := HKL.out; omega⟩
        · have m1 : ¬ isF ⟨x, fv⟩ ⟨x, v⟩ = true := by simp [isF, h2]
          rw [if_neg m1] at s1
          have qe : ∀ W, (Op.equalIn 10000 23 (.agg #[.string x, .string v]) (.agg #[.string x, .string fv])).run Tryd.prog W = .ok false W := fun W => by rw [eqF_any ⟨x, v⟩ ⟨x, fv⟩, decide_eq_false (by simp [h2])]
          have H2 := Lib.hid h2
          clear h2
          have S1 := Lib.hid s1
          have S2 := Lib.hid s2
          clear s1 s2 n1 m1 hbel hX hkl hgc hgm hk fin
          go_wp2
          refine ⟨⟨k + 1, by rw [S1.out], by rw [S2.out]; first | rfl | simp, by first | rfl | simp, HKL.out, FIN.out _ (below1 _ _)⟩, by simp [intOf]; have := HKL.out; omega⟩
      · have n1 : ¬ namedF ⟨fn, fv⟩ ⟨x, v⟩ = true := by simp [namedF, h1]
        have m1 : ¬ isF ⟨fn, fv⟩ ⟨x, v⟩ = true := by simp [isF, h1]
        rw [if_neg m1] at s1
        rw [if_neg n1] at s2
        have qe : ∀ W, (Op.equalIn 10000 23 (.agg #[.string x, .string v]) (.agg #[.string fn, .string fv])).run Tryd.prog W = .ok false W := fun W => by rw [eqF_any ⟨x, v⟩ ⟨fn, fv⟩, decide_eq_false (by simp [h1])]
        have tn : (x.toList == fn.toList) = false := by rw [str_beq]; exact decide_eq_false h1
        have H1 := Lib.hid h1
        clear h1
        have S1 := Lib.hid s1
        have S2 := Lib.hid s2
        clear s1 s2 n1 m1 hbel hX hkl hgc hgm hk fin
        go_wp2
        refine ⟨⟨k + 1, by rw [S1.out], by rw [S2.out], by first | rfl | simp, HKL.out, FIN.out _ (below1 _ _)⟩, by simp [intOf]; have := HKL.out; omega⟩
    · obtain rfl : k = q.l.length := by omega
      have hi1 : ¬ ((q.l.length : Int) < (q.l.length : Int)) := by omega
      have hb := hbel.mono (Nat.le_succ w.heap.size)
      have H := Lib.hid (HB.out.trans hb)
      clear hbel hX hb
      go_wp2
      go_ret2
      exact ⟨by rw [← HWH.out, ← HNM.out]; rfl, H.out⟩
end Go.Proofs.YtfacpncbcplocaaDoor
