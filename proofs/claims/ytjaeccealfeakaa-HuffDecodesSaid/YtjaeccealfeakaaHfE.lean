/- Walks of layer 12: fill, Encode. -/
import Derived.Test.YtjaeccealfeakaaHfP
set_option maxRecDepth 100000
set_option linter.unusedSimpArgs false
set_option linter.unusedVariables false
namespace Go.Proofs.Ytjaeccealfeakaa
open Go.RowKit

set_option maxHeartbeats 4000000 in
theorem fill_any (B e : Nat) (T : List Nat) (w : World) (hW : WrHas B e w T) (hB : B ≤ e) (hT : T.length ≤ 8796093022208) :
    Calls Try.prog 30 #[.pointer (some ⟨e, 0, none⟩)] w (PutW B e w (fillN T)) := by
  obtain ⟨u, o, R, k, hW, hk, hR, hTe⟩ := hW
  have hTl := congrArg List.length hTe
  rw [List.length_append, unp_len, bd_len] at hTl
  have HW := Lib.hid hW
  obtain ⟨c0, c1, c2⟩ := hW.row.facts
  by_cases h0 : k = 0
  · have HF : Hid (unp o ++ bd R k = fillN T) := by
      show _ = _
      rw [hTe, fillN, show (8 - T.length % 8) % 8 = 0 by omega]; simp
    have HR := Lib.hid hR
    subst h0
    clear hTl hW hTe hR
    go_enter Try.func30, Try.ntmps30
    go_wp2_with fail
    go_end0
    exact ⟨rfl, ⟨u, o, R, 0, HW.out, by omega, HR.out, HF.out⟩, Below.refl _ _⟩
  · have dk : decide ((k : Int) > 0) = true := decide_eq_true (by omega)
    have dk' : decide (k > 0) = true := decide_eq_true (by omega)
    have dk'' : decide (0 < k) = true := decide_eq_true (by omega)
    have hsub : IntKind.i64.wrap (8 - (k : Int)) = ((8 - k : Nat) : Int) := by rw [IntKind.wrap_i64]; omega
    have hp : 2 ^ (8 - k) - 1 < 2 ^ (8 - k) := by have : 0 < 2 ^ (8 - k) := Nat.pow_pos (by decide); omega
    have HF : Hid ((unp o ++ bd R k) ++ bd (2 ^ (8 - k) - 1) (8 - k) = fillN T) := by
      show _ = _
      rw [hTe, fillN, bd_ones, show (8 - T.length % 8) % 8 = 8 - k by omega]
    have H1 := Lib.hid (fun W => ones_any (8 - k) (by omega) W)
    have H2 := Lib.hid (fun W (h : Wr B e W u o R k) => put_any B e u o R k (2 ^ (8 - k) - 1) (8 - k) W h hB hk hR (by omega) hp (by omega))
    rw [HF.out] at H2
    clear hp hW hTe hR hTl h0 HF
    generalize 8 - k = m at *
    generalize 2 ^ m - 1 = q at *
    go_enter Try.func30, Try.ntmps30
    go_wp2_with fail
    refine (H1.out _).mono ?_
    rintro x w1 ⟨rfl, hb1⟩
    have HB := Lib.hid hb1
    have W1 := Lib.hid (HW.out.below hb1)
    clear hb1
    go_wp2_with fail
    refine (H2.out _ W1.out).mono ?_
    rintro x w2 ⟨rfl, h3, h4⟩
    have K3 := Lib.hid h3
    have K4 := Lib.hid h4
    clear h3 h4
    go_wp2_with fail
    go_end0
    exact ⟨rfl, K3.out, (HB.out.mono (by have := HW.out.row.lt; omega)).trans K4.out⟩

/-- WHAT IS ANSWERED OF SYMBOLS IN A CODE THAT MAY BE -/
def EncIs (w : World) (W : List (Nat × Nat)) (ys : List Int) (e : Ending) (w' : World) : Prop :=
  Below w.heap.size w w' ∧ ((HasN W ys ∧ ∃ v o, e = .returned (.tuple #[v, .int .i64 0]) ∧ Rd .u8 w' v o ∧ Bts o ∧ unp o = fillN (encN W ys)) ∨
    (¬ HasN W ys ∧ e = .returned (.tuple #[.slice none 0 0, .int .i64 1])))

theorem enc_no (v u : Value) (ls : List Int) (w : World) (hr : Rd .i64 w v ls) (hc : ¬ RightL ls) : Calls Try.prog 20 #[v, u] w fun e w' => e = .returned (.tuple #[.slice none 0 0, .int .i64 1]) ∧ w = w' := by
  have H := Lib.hid (words_no v ls w hr hc)
  clear hr hc
  go_enter Try.func20, Try.ntmps20
  go_wp2_with (go_at_call 10; refine H.out.mono ?_; rintro e w' ⟨rfl, rfl⟩)
  go_ret2
  exact ⟨rfl, rfl⟩

theorem enc_len {W : List (Nat × Nat)} (h : WordsOk W) (ys : List Int) : (encN W ys).length ≤ 24 * ys.length := by
  induction ys with
  | nil => simp [encN]
  | cons s r ih => rw [enc_cons, List.length_append, bd_len, List.length_cons]; have := h.long s.toNat; omega
theorem has_take {W : List (Nat × Nat)} (ys : List Int) (k : Nat) (hk : k < ys.length) (h : HasN W (ys.take k)) (hs : (ys.getD k 0).toNat < W.length ∧ (W.getD (ys.getD k 0).toNat (0, 0)).2 ≠ 0) : HasN W (ys.take (k + 1)) := by
  rw [List.take_succ_eq_append_getElem hk]
  intro s hss
  rcases List.mem_append.1 hss with h1 | h1
  · exact h s h1
  · have : s = ys.getD k 0 := by simpa [List.getD, hk] using h1
    rw [this]; exact hs
theorem enc_take (W : List (Nat × Nat)) (ys : List Int) (k : Nat) (hk : k < ys.length) : encN W (ys.take (k + 1)) = encN W (ys.take k) ++ bd (W.getD (ys.getD k 0).toNat (0, 0)).1 (W.getD (ys.getD k 0).toNat (0, 0)).2 := by
  rw [List.take_succ_eq_append_getElem hk, enc_append]
  simp [encN, List.getD, hk]

set_option maxHeartbeats 4000000 in
theorem enc_yes (v u : Value) (ls ys : List Int) (w : World) (hr : Rd .i64 w v ls) (hu : Rd .u8 w u ys) (hy : Bts ys) (hyl : ys.length ≤ 68719476736) (hc : RightL ls) :
    Calls Try.prog 20 #[v, u] w (EncIs w (wordsN (ls.map Int.toNat)) ys) := by
  have H := Lib.hid (words_yes v ls w hr hc)
  have HOK := Lib.hid hc.code.words
  generalize hWd : wordsN (ls.map Int.toNat) = W at *
  have HWd := Lib.hid hWd
  have HU := Lib.hid hu
  have HY := Lib.hid hy
  obtain ⟨ua, uc, rfl⟩ := hu.isSlice
  clear hr hu hy hc hWd
  go_enter Try.func20, Try.ntmps20
  go_wp2_with (go_at_call 10; refine H.out.mono ?_; rintro e w1 ⟨x, rfl, ho, hb⟩; rw [HWd.out] at ho; have OW := Lib.hid ho; have HB := Lib.hid hb; obtain ⟨xa, xc, rfl, _, _⟩ := ho.slice; clear ho hb)
  have hz : w.heap.size ≤ w1.heap.size := HB.out.size
  have W0 : Hid (WrHas w1.heap.size w1.heap.size (w1.alloc (.cells #[.slice none 0 0, .int .i64 0, .int .i64 0] 52)) (encN W (ys.take 0))) :=
    ⟨.slice none 0 0, [], 0, 0, ⟨alloc_at _ _, Own.nil _ _ _ _, by intro z hz; cases hz⟩, by decide, by decide, by simp [encN, unp, bd]⟩
  have B0 := Lib.hid ((Below.refl w1.heap.size w1).alloc (Nat.le_refl _) (.cells #[.slice none 0 0, .int .i64 0, .int .i64 0] 52))
  have hlt0 : w1.heap.size < (w1.alloc (.cells #[.slice none 0 0, .int .i64 0, .int .i64 0] 52)).heap.size := by simp
  generalize w1.alloc _ = w2 at *
  go_loopw [21] (fun i wr => ∃ k : Nat, k ≤ ys.length ∧ i = .int .i64 (k : Int) ∧ WrHas w1.heap.size w1.heap.size wr (encN W (ys.take k)) ∧ Hid (HasN W (ys.take k)) ∧ Below w1.heap.size w1 wr) (fun i _ => ys.length - (intOf i).toNat)
  case atStart => exact ⟨0, Nat.zero_le _, rfl, W0.out, (by intro s hs; simp at hs), B0.out⟩
  case round =>
    obtain ⟨k, hk, rfl, hw, hh, hb⟩ := hrel
    clear W0 B0
    have HW := Lib.hid hw
    have BB := Lib.hid hb
    have BW := Lib.hid (HB.out.trans (hb.mono hz))
    have hz2 := hb.size
    clear hw hb
    by_cases hlt : k < ys.length
    · obtain ⟨s, hs⟩ : ∃ s : Nat, s = (ys.getD k 0).toNat := ⟨_, rfl⟩
      have hs0 := getD_bts HY.out k
      have hx : ys.getD k 0 = (s : Int) := by omega
      have hs256 : s < 256 := by omega
      have hcell : ∃ b o, ua = some ⟨b, o, none⟩ ∧ wr.cell? ⟨b, o + k, none⟩ = some (.int .u8 (s : Int)) := by
        rcases HU.out.below BW.out with ⟨rfl, _⟩ | ⟨_, b, o, cp, he, h2, h3, h4, h5⟩
        · simp at hlt
        · simp only [Value.slice.injEq] at he
          exact ⟨b, o, he.1, by rw [← hx]; exact h5 _ hlt⟩
      obtain ⟨b, o, rfl, hcell⟩ := hcell
      have hmem : ys.getD k 0 ∈ ys := by simp [List.getD, hlt]
      by_cases hsl : s < W.length
      · have d1 : decide ((s : Int) ≥ (W.length : Int)) = false := decide_eq_false (by omega)
        have d1' : decide (s ≥ W.length) = false := decide_eq_false (by omega)
        have d1'' : decide (W.length ≤ s) = false := decide_eq_false (by omega)
        obtain ⟨g, rfl, hg, hg2⟩ := OW.out.shape (by omega)
        have O2 := Lib.hid (OW.out.below BB.out)
        have c0 := O2.out.at0 s hsl
        have c1 := O2.out.at1 s hsl
        have hi1 : (0 : Int) ≤ (s : Int) := by omega
        have hi2 : (s : Int) < (W.length : Int) := by omega
        have HE := Lib.hid (enc_take W ys k hlt)
        have HL := Lib.hid (enc_len HOK.out (ys.take k))
        have hlong := HOK.out.long s
        have hroom := fun h => HOK.out.room s h
        have HH : Hid ((W.getD s (0, 0)).2 ≠ 0 → HasN W (ys.take (k + 1))) := fun h => has_take ys k hlt hh.out (by rw [← hs]; exact ⟨hsl, h⟩)
        have HNO : Hid ((W.getD s (0, 0)).2 = 0 → ¬ HasN W ys) := fun h hn => (hn _ hmem).2 (by rw [← hs]; exact h)
        rw [← hs] at HE
        generalize (W.getD s (0, 0)).1 = x at *
        generalize (W.getD s (0, 0)).2 = n at *
        clear hs hs0 hx hmem O2
        by_cases hn : n = 0
        · have e1 := Lib.hid (HNO.out hn)
          subst hn
          clear hroom HH HNO HE HL
          go_wp2_with fail
          go_ret2
          exact ⟨BW.out, .inr ⟨e1.out, rfl⟩⟩
        · have dn : ((n : Int) == 0) = false := by simp; omega
          have dn' : (n == 0) = false := by simp; omega
          have HR := Lib.hid (hroom (by omega))
          have HH2 := Lib.hid (HH.out hn)
          obtain ⟨u', o', R, k', hW, hk', hR, hTe⟩ := HW.out
          have hll : (unp o').length ≤ (encN W (ys.take k)).length := by rw [← hTe, List.length_append]; omega
          rw [unp_len] at hll
          have hlt' : (ys.take k).length ≤ k := List.length_take_le _ _
          have HP := Lib.hid (put_any w1.heap.size w1.heap.size u' o' R k' x n wr hW (Nat.le_refl _) hk' hR hlong (by have := HR.out; omega) (by have := HL.out; omega))
          rw [hTe, ← HE.out] at HP
          clear hroom HH HNO HE HL hW hk' hR hTe hll hlt' hn HR
          go_wp2_with (go_at_call 29; refine HP.out.mono ?_; rintro z w3 ⟨rfl, h3, h4⟩; have K3 := Lib.hid h3; have K4 := Lib.hid h4; clear h3 h4)
          go_roundw
          case rel => exact ⟨k + 1, by omega, by go_num, K3.out, HH2, BB.out.trans K4.out⟩
          case measure => simp [intOf]; omega
      · have d1 : decide ((s : Int) ≥ (W.length : Int)) = true := decide_eq_true (by omega)
        have d1' : decide (s ≥ W.length) = true := decide_eq_true (by omega)
        have d1'' : decide (W.length ≤ s) = true := decide_eq_true (by omega)
        have e1 : Hid (¬ HasN W ys) := fun hn => hsl (by rw [hs]; exact (hn _ hmem).1)
        clear hs hs0 hx hmem hsl
        go_wp2_with fail
        go_ret2
        exact ⟨BW.out, .inr ⟨e1.out, rfl⟩⟩
    · have hend : k = ys.length := by omega
      have dl : decide ((k : Int) < (ys.length : Int)) = false := decide_eq_false (by omega)
      have dl' : decide (k < ys.length) = false := decide_eq_false (by omega)
      have HH : Hid (HasN W ys) := by
        have := hh.out; rw [hend, List.take_length] at this; exact this
      have HL := enc_len HOK.out ys
      have HF := Lib.hid (fill_any w1.heap.size w1.heap.size (encN W ys) wr (by have := HW.out; rw [hend, List.take_length] at this; exact this) (Nat.le_refl _) (by omega))
      clear hend HL
      go_wp2_with (go_at_call 30; refine HF.out.mono ?_; rintro z w3 ⟨rfl, ⟨u3, o3, R3, k3, r3, hk3, hR3, hT3⟩, h4⟩; have K4 := Lib.hid h4; have R3' := Lib.hid r3; have HT3 := Lib.hid hT3; obtain ⟨q0, q1, q2⟩ := r3.row.facts; clear h4 r3 hT3 hR3)
      go_ret2
      have hk0 : k3 = 0 := by
        have := congrArg List.length HT3.out
        rw [List.length_append, unp_len, bd_len] at this
        have := fill_len (encN W ys)
        omega
      subst hk0
      have e2 : unp o3 = fillN (encN W ys) := by have := HT3.out; simpa [bd] using this
      exact ⟨HB.out.trans ((BB.out.trans K4.out).mono hz), .inl ⟨HH.out, u3, o3, rfl, R3'.out.own.rd, R3'.out.bts, e2⟩⟩
end Go.Proofs.Ytjaeccealfeakaa
