/- Walks of layer 13: the document's tables: shrink, SetCap, New. -/
import Derived.Test.YtfacpncbcplocaaDoorQtI
set_option maxRecDepth 100000
set_option linter.unusedSimpArgs false
set_option linter.unusedVariables false
set_option linter.unnecessarySimpa false
namespace Go.Proofs.YtfacpncbcplocaaDoor
open Go.RowKit

/-- all but the first one -/
theorem rd_tail {w : World} {g o n c : Nat} {l : List Fd} (h : RdC 2 w (.slice (some ⟨g, o, none⟩) n c) l.length (fdC l)) (h0 : 0 < l.length) :
    RdC 2 w (.slice (some ⟨g, o + 2, none⟩) (n - 1) (c - 1)) (l.drop 1).length (fdC (l.drop 1)) ∧ n = l.length ∧ n ≤ c ∧ c ≤ maxLen := by
  obtain ⟨h1, ⟨h2, _⟩ | ⟨_, g', o', c', e, h3, h4, h5, h6⟩⟩ := h
  · omega
  · simp only [Value.slice.injEq, Option.some.injEq, Addr.mk.injEq, and_true] at e
    obtain ⟨⟨rfl, rfl⟩, rfl, rfl⟩ := e
    refine ⟨⟨fdC_len _, ?_⟩, rfl, h3, h4⟩
    have hl : (l.drop 1).length = l.length - 1 := List.length_drop
    by_cases hz : l.length = 1
    · exact .inl ⟨by omega, some ⟨g, o + 2, none⟩, c - 1, by rw [hz], by omega, by simp⟩
    · refine .inr ⟨by omega, g, o + 2, c - 1, by rw [hl], by omega, by omega, h5, fun j u hu => ?_⟩
      rw [fdC_drop, List.getElem?_drop] at hu
      have := h6 _ u hu
      rw [show o + 2 + j = o + (1 * 2 + j) by omega]
      exact this
def lenAt (b : Nat) (w : World) : Nat := match w.cell? ⟨b, 3, none⟩ with | some (.slice _ n _) => n | _ => 0
theorem lenAt_is {b : Nat} {w : World} {a : Option Addr} {n c : Nat} (h : w.cell? ⟨b, 3, none⟩ = some (.slice a n c)) : lenAt b w = n := by unfold lenAt; rw [h]
theorem drop_first (l : List Fd) (k : Nat) : (l.drop k).drop 1 = l.drop (k + 1) := by rw [List.drop_drop]

set_option maxHeartbeats 3200000 in
theorem rshrink_any {b : Nat} {v : Value} {q : TQ} (room : Nat) (w : World) (h : RTb b v q w) (hr : rooms q.l ≤ 8192) (hc : countN q ≤ 4611686018427387904) :
    Calls Tryd.prog 37 #[.pointer (some ⟨b, 0, none⟩), .int .i64 (room : Int)] w fun e w' => e = .returned (.tuple #[]) ∧ ∃ v', RTb b v' (shrinkE room q) w' ∧ ((shrinkE room q).l ≠ [] → v'.ownBlock = v.ownBlock) ∧ Keep [b] w w' := by
  obtain ⟨most, cap, first, l⟩ := q
  simp only [countN] at hr hc
  have HT := Lib.hid h
  have HR := Lib.hid hr
  have HC := Lib.hid hc
  clear h hr hc
  go_enter Tryd.func37, Tryd.ntmps37
  go_wp2_with fail
  go_loopw [] (fun wr => ∃ (k : Nat) (vk : Value), k ≤ l.length ∧ (∀ j, j < k → room < rooms (l.drop j)) ∧ RTb b vk ⟨most, cap, first + k, l.drop k⟩ wr ∧ (l.drop k ≠ [] → vk.ownBlock = v.ownBlock) ∧ Keep [b] w wr) (fun wr => lenAt b wr)
  case atStart => exact ⟨0, v, Nat.zero_le _, fun j hj => by omega, HT.out, fun _ => rfl, Keep.refl _ _⟩
  case round =>
    obtain ⟨k, vk, hk, hwant, hT, hv, hK⟩ := hrel
    have WANT := Lib.hid hwant
    have T := Lib.hid hT
    have VV := Lib.hid hv
    have K := Lib.hid hK
    have hlen : l.length ≤ 256 := by have := rooms_len l; have := HR.out; omega
    have hru := rused_any wr hT (by simp only; exact Nat.le_trans (rooms_drop_le l k) HR.out)
    simp only at hru
    obtain ⟨u, hu⟩ : ∃ u, u = rooms (l.drop k) := ⟨_, rfl⟩
    rw [← hu] at hru
    have HRU := Lib.hid hru
    have HU := Lib.hid hu
    clear hu hru hwant hv hK
    by_cases hlt : room < u
    · have hkl : k < l.length := by
        rcases Nat.lt_or_ge k l.length with h | h
        · exact h
        · have := HU.out; rw [List.drop_eq_nil_of_le h] at this; simp [rooms] at this; omega
      have hne : l.drop k ≠ [] := fun e => by have := congrArg List.length e; simp at this; omega
      have hvo := VV.out hne
      obtain ⟨g, o, c, hvk, hgc, hgm, hg⟩ := rd_form hT.row (by simp only [List.length_drop]; omega)
      simp only [List.length_drop] at hvk
      subst hvk
      obtain ⟨htl, _, hnc, _⟩ := rd_tail hT.row (by simp only [List.length_drop]; omega)
      simp only at htl
      rw [drop_first] at htl
      have HTL := Lib.hid htl
      have hbg : g ≠ b := hT.ne hne g rfl
      have HBG := Lib.hid hbg
      have hi1 : (room : Int) < (u : Int) := by omega
      have hw1 : IntKind.i64.wrap (((first + k : Nat) : Int) + 1) = ((first + (k + 1) : Nat) : Int) := by rw [wraps_i64' _ (by omega) (by have := HC.out; omega)]; omega
      have hw1' : IntKind.i64.wrap ((first : Int) + (k : Int) + 1) = ((first + (k + 1) : Nat) : Int) := by rw [wraps_i64' _ (by omega) (by have := HC.out; omega)]; omega
      have hn1 : (1 : Int) ≤ ((l.length - k : Nat) : Int) := by omega
      have hn2 : ((l.length - k : Nat) : Int) ≤ (c : Int) := by omega
      have hn3 : (1 : Int) ≤ (c : Int) := by omega
      have HLT := Lib.hid hlt
      have HKL := Lib.hid hkl
      have hmeas := lenAt_is hT.facts.2.2.2
      have HM := Lib.hid hmeas
      have HVO := Lib.hid hvo
      clear hT hlt hk htl hmeas hne hvo VV
      go_upto_region 1 with (first
        | (go_at_call 28; refine HRU.out.mono ?_; rintro x w3 ⟨rfl, b3⟩
           have T3 := Lib.hid (T.out.below b3)
           have K3 := Lib.hid (K.out.then_below b3)
           have TL3 := Lib.hid (HTL.out.below b3)
           have y3 := T3.out.facts.2.2.2
           have y2 := T3.out.facts.2.2.1
           have z3 := T3.out.free 3
           have z2 := T3.out.free 2
           simp only at y3 y2
           clear b3))
      by_cases hc1 : c = 1
      · subst hc1
        have hk1 : l.length - k = 1 := by omega
        have HK1 := Lib.hid hk1
        rw [hk1] at y3 hn1 hn2
        clear hk1 hnc
        go_wp2_with fail
        have TLX : Hid (RdC 2 w3 (.slice (some ⟨g, o, none⟩) 0 0) (l.drop (k + 1)).length (fdC (l.drop (k + 1)))) := (by
          have hz : (l.drop (k + 1)).length = 0 := by rw [List.length_drop]; have := HK1.out; omega
          have hz2 : l.drop (k + 1) = [] := List.eq_nil_of_length_eq_zero hz
          rw [hz2]
          exact ⟨rfl, .inl ⟨rfl, _, 0, rfl, by simp, fun h => by cases h⟩⟩ : RdC 2 w3 _ _ _)
        refine ⟨⟨k + 1, .slice (some ⟨g, o, none⟩) 0 0, HKL.out, ?_, ?_, ?_, ?_⟩, ?_⟩
        · intro j hj
          by_cases hjk : j < k
          · exact WANT.out j hjk
          · obtain rfl : j = k := by omega
            rw [← HU.out]; exact HLT.out
        · refine ⟨?_, rdC_keep (rdC_keep TLX.out (keep_set b 3 w3 _) (fun _ j hj => by simp only [Value.ownBlock, Option.some.injEq] at hj; subst hj; simpa using HBG.out)) (keep_set b 2 _ _) (fun _ j hj => by simp only [Value.ownBlock, Option.some.injEq] at hj; subst hj; simpa using HBG.out), fun _ j hj => by simp only [Value.ownBlock, Option.some.injEq] at hj; subst hj; exact HBG.out⟩
          exact (T3.out.fields.set 3 _).set 2 _
        · intro _; rw [← HVO.out]; rfl
        · exact (K3.out.trans (keep_set b 3 w3 _) (fun i hi => .inl hi)).trans (keep_set b 2 _ _) (fun i hi => .inl hi)
        · rw [lenAt_is (((T3.out.fields.set 3 (.slice (some ⟨g, o, none⟩) 0 0)).set 2 _).get 3 _ rfl), HM.out]
          have := HKL.out
          omega
      · have hc1' : ¬ c = 1 := hc1
        have HBL : Hid (1 ≤ l.length - k) := (by omega : 1 ≤ l.length - k)
        obtain ⟨m, hm⟩ : ∃ m, m = l.length - k := ⟨_, rfl⟩
        rw [← hm] at y3 hn1 hn2 TL3 HVO hnc HM HBL T T3
        have HMM := Lib.hid hm
        clear hm
        go_wp2_with fail
        have TLX := TL3
        refine ⟨⟨k + 1, .slice (some ⟨g, o + 2, none⟩) (m - 1) (c - 1), HKL.out, ?_, ?_, ?_, ?_⟩, ?_⟩
        · intro j hj
          by_cases hjk : j < k
          · exact WANT.out j hjk
          · obtain rfl : j = k := by omega
            rw [← HU.out]; exact HLT.out
        · refine ⟨?_, rdC_keep (rdC_keep TLX.out (keep_set b 3 w3 _) (fun _ j hj => by simp only [Value.ownBlock, Option.some.injEq] at hj; subst hj; simpa using HBG.out)) (keep_set b 2 _ _) (fun _ j hj => by simp only [Value.ownBlock, Option.some.injEq] at hj; subst hj; simpa using HBG.out), fun _ j hj => by simp only [Value.ownBlock, Option.some.injEq] at hj; subst hj; exact HBG.out⟩
          exact (T3.out.fields.set 3 _).set 2 _
        · intro _; rw [← HVO.out]; rfl
        · exact (K3.out.trans (keep_set b 3 w3 _) (fun i hi => .inl hi)).trans (keep_set b 2 _ _) (fun i hi => .inl hi)
        · rw [lenAt_is (((T3.out.fields.set 3 (.slice (some ⟨g, o + 2, none⟩) (m - 1) (c - 1))).set 2 _).get 3 _ rfl), HM.out]
          have := HKL.out
          have := HMM.out
          omega
    · have hi1 : ¬ (room : Int) < (u : Int) := by omega
      have HG := Lib.hid (goneN_is room l k WANT.out (by rw [← HU.out]; omega))
      clear hT hlt hk
      go_wp2_with (go_at_call 28; refine HRU.out.mono ?_; rintro x w3 ⟨rfl, b3⟩)
      go_end0
      refine ⟨rfl, vk, ?_, ?_, K.out.then_below b3⟩
      · unfold shrinkE
        simp only
        rw [HG.out]
        exact T.out.below b3
      · unfold shrinkE
        simp only
        rw [HG.out]
        exact VV.out
end Go.Proofs.YtfacpncbcplocaaDoor
