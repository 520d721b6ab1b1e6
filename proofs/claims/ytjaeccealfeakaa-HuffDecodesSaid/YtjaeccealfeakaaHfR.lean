/- Layer 12: the laws Encodes, Decodes, Words, Back, One. -/
import Derived.Test.YtjaeccealfeakaaHfO
set_option maxRecDepth 100000
set_option linter.unusedSimpArgs false
set_option linter.unusedVariables false
namespace Go.Proofs.Ytjaeccealfeakaa
open Go.RowKit

/-- the words of a code -/
abbrev wdsOf (ls : List Int) : List (Nat × Nat) := wordsN (ls.map Int.toNat)
/-- WHAT Encode ANSWERS, whatever comes in -/
def EncAll (w : World) (ls ys : List Int) (e : Ending) (w' : World) : Prop :=
  Below w.heap.size w w' ∧ (((RightL ls ∧ HasN (wdsOf ls) ys) ∧ ∃ v o, e = .returned (.tuple #[v, .int .i64 0]) ∧ Rd .u8 w' v o ∧ Bts o ∧ unp o = fillN (encN (wdsOf ls) ys)) ∨
    (¬ (RightL ls ∧ HasN (wdsOf ls) ys) ∧ e = .returned (.tuple #[.slice none 0 0, .int .i64 1])))
theorem EncIs.all {w : World} {ls ys : List Int} {e : Ending} {w' : World} (hc : RightL ls) (h : EncIs w (wdsOf ls) ys e w') : EncAll w ls ys e w' := by
  obtain ⟨hb, ⟨a, b⟩ | ⟨a, b⟩⟩ := h
  · exact ⟨hb, .inl ⟨⟨hc, a⟩, b⟩⟩
  · exact ⟨hb, .inr ⟨fun x => a x.2, b⟩⟩
theorem enc_all (v u : Value) (ls ys : List Int) (w : World) (hr : Rd .i64 w v ls) (hu : Rd .u8 w u ys) (hy : Bts ys) (hyl : ys.length ≤ 68719476736) : Calls Try.prog 20 #[v, u] w (EncAll w ls ys) := by
  by_cases hc : RightL ls
  · exact (enc_yes v u ls ys w hr hu hy hyl hc).mono fun e w' h => h.all hc
  · exact (enc_no v u ls w hr hc).mono fun e w' ⟨h1, h2⟩ => ⟨h2 ▸ Below.refl _ _, .inr ⟨fun x => hc x.1, h1⟩⟩
theorem renc_all (v u : Value) (ls ys : List Int) (w : World) (hr : Rd .i64 w v ls) (hu : Rd .u8 w u ys) (hy : Bts ys) (hyl : ys.length ≤ 68719476736) : Calls Try.prog 21 #[v, u] w (EncAll w ls ys) := by
  by_cases hc : RightL ls
  · exact (renc_yes v u ls ys w hr hu hy hyl hc).mono fun e w' h => h.all hc
  · exact (renc_no v u ls w hr hc).mono fun e w' ⟨h1, h2⟩ => ⟨h2 ▸ Below.refl _ _, .inr ⟨fun x => hc x.1, h1⟩⟩
/-- WHAT Decode ANSWERS, whatever comes in -/
def DecAll (w : World) (ls xs : List Int) (e : Ending) (w' : World) : Prop :=
  Below w.heap.size w w' ∧ ((RightL ls ∧ ∃ ys v, decN (wdsOf ls) (unp xs) 0 0 = some ys ∧ e = .returned (.tuple #[v, .int .i64 0]) ∧ Rd .u8 w' v ys ∧ Bts ys) ∨
    ∃ c : Int, c ≠ 0 ∧ c = (if RightL ls then 12 else 1) ∧ (RightL ls → decN (wdsOf ls) (unp xs) 0 0 = none) ∧ e = .returned (.tuple #[.slice none 0 0, .int .i64 c]))
theorem DecIs.all {w : World} {ls xs : List Int} {e : Ending} {w' : World} (hc : RightL ls) (h : DecIs w (decN (wdsOf ls) (unp xs) 0 0) e w') : DecAll w ls xs e w' := by
  obtain ⟨hb, ⟨a, b⟩ | ⟨a, b⟩⟩ := h
  · exact ⟨hb, .inl ⟨hc, a, b⟩⟩
  · exact ⟨hb, .inr ⟨12, by decide, by rw [if_pos hc], fun _ => a, b⟩⟩
theorem dec_all (v u : Value) (ls xs : List Int) (w : World) (hr : Rd .i64 w v ls) (hu : Rd .u8 w u xs) (hx : Bts xs) (hxl : xs.length ≤ 68719476736) : Calls Try.prog 23 #[v, u] w (DecAll w ls xs) := by
  by_cases hc : RightL ls
  · exact (dec_yes v u ls xs w hr hu hx hxl hc).mono fun e w' h => h.all hc
  · exact (dec_no v u ls w hr hc).mono fun e w' ⟨h1, h2⟩ => ⟨h2 ▸ Below.refl _ _, .inr ⟨1, by decide, by rw [if_neg hc], fun h => absurd h hc, h1⟩⟩
theorem rdec_all (v u : Value) (ls xs : List Int) (w : World) (hr : Rd .i64 w v ls) (hu : Rd .u8 w u xs) (hx : Bts xs) (hxl : xs.length ≤ 68719476736) : Calls Try.prog 24 #[v, u] w (DecAll w ls xs) := by
  by_cases hc : RightL ls
  · exact (rdec_yes v u ls xs w hr hu hx hxl hc).mono fun e w' h => h.all hc
  · exact (rdec_no v u ls w hr hc).mono fun e w' ⟨h1, h2⟩ => ⟨h2 ▸ Below.refl _ _, .inr ⟨1, by decide, by rw [if_neg hc], fun h => absurd h hc, h1⟩⟩
theorem bts_nil : Bts [] := by intro x hx; cases hx

set_option maxHeartbeats 4000000 in
theorem huffEncodes_walk (v u : Value) (ls ys : List Int) (w : World) (hr : Rd .i64 w v ls) (hu : Rd .u8 w u ys) (hy : Bts ys) (hyl : ys.length ≤ 68719476736) : Calls Try.prog 4 #[v, u] w (Yes w) := by
  have HR := Lib.hid hr
  have HU := Lib.hid hu
  have HY := Lib.hid hy
  have HYL := Lib.hid hyl
  clear hr hu hy hyl
  go_enter Try.func4, Try.ntmps4
  go_wp2_with fail
  refine (enc_all v u ls ys w HR.out HU.out HY.out HYL.out).mono ?_
  rintro e w1 ⟨hb1, ⟨ok, a, o, rfl, ha, ht, he⟩ | ⟨no, rfl⟩⟩
  · have OK := Lib.hid ok
    have HE := Lib.hid he
    have HT := Lib.hid ht
    have HA := Lib.hid ha
    have B1 := Lib.hid hb1
    clear ok he ht ha hb1
    go_wp2_with fail
    refine (renc_all v u ls ys w1 (HR.out.below B1.out) (HU.out.below B1.out) HY.out HYL.out).mono ?_
    rintro e w2 ⟨hb2, ⟨_, b, q, rfl, hb, hq, he2⟩ | ⟨no, _⟩⟩
    · have e0 : q = o := unp_inj hq HT.out (by rw [he2, HE.out])
      subst e0
      have HB := Lib.hid hb
      have B2 := Lib.hid (B1.out.trans (hb2.mono B1.out.size))
      have HA2 := Lib.hid (HA.out.below hb2)
      clear hb hb2 hq he2
      go_wp2_with fail
      refine (same_yes a b q _ HA2.out HB.out HT.out).mono ?_
      rintro e w' ⟨rfl, rfl⟩
      go_wp2_with fail
      refine (alive_any _).mono ?_
      rintro e w3 ⟨rfl, hb3⟩
      go_wp2_with fail
      go_ret
      exact ⟨rfl, B2.out.trans (hb3.mono B2.out.size)⟩
    · exact absurd OK.out no
  · have NO := Lib.hid no
    have B1 := Lib.hid hb1
    clear no hb1
    go_wp2_with fail
    refine (renc_all v u ls ys w1 (HR.out.below B1.out) (HU.out.below B1.out) HY.out HYL.out).mono ?_
    rintro e w2 ⟨hb2, ⟨ok, _⟩ | ⟨_, rfl⟩⟩
    · exact absurd ok NO.out
    · have B2 := Lib.hid (B1.out.trans (hb2.mono B1.out.size))
      clear hb2
      go_wp2_with fail
      refine (same_yes (.slice none 0 0) (.slice none 0 0) [] _ (Rd.nil _ _) (Rd.nil _ _) bts_nil).mono ?_
      rintro e w' ⟨rfl, rfl⟩
      go_wp2_with fail
      refine (alive_any _).mono ?_
      rintro e w3 ⟨rfl, hb3⟩
      go_wp2_with fail
      go_ret
      exact ⟨rfl, B2.out.trans (hb3.mono B2.out.size)⟩

set_option maxHeartbeats 4000000 in
theorem huffDecodes_walk (v u : Value) (ls xs : List Int) (w : World) (hr : Rd .i64 w v ls) (hu : Rd .u8 w u xs) (hx : Bts xs) : Calls Try.prog 5 #[v, u] w (Yes w) := by
  have HR := Lib.hid hr
  have HU := Lib.hid hu
  have HX := Lib.hid hx
  obtain ⟨ua, uc, rfl⟩ := hu.isSlice
  clear hr hu hx
  by_cases h3 : 3000 < xs.length
  · have d3 : decide ((xs.length : Int) > 3000) = true := decide_eq_true (by omega)
    clear h3
    go_enter Try.func5, Try.ntmps5
    go_wp2_with fail
    refine (alive_any _).mono ?_
    rintro e w3 ⟨rfl, hb3⟩
    go_wp2_with fail
    go_ret
    exact ⟨rfl, hb3⟩
  have d3 : decide ((xs.length : Int) > 3000) = false := decide_eq_false (by omega)
  have HXL : Hid (xs.length ≤ 68719476736) := by show _ ≤ _; omega
  clear h3
  go_enter Try.func5, Try.ntmps5
  go_wp2_with fail
  refine (dec_all v _ ls xs w HR.out HU.out HX.out HXL.out).mono ?_
  rintro e w1 ⟨hb1, ⟨ok, ys, a, e1, rfl, ha, ht⟩ | ⟨c, c0, hc, hn, rfl⟩⟩
  · have OK := Lib.hid ok
    have E1 := Lib.hid e1
    have HT := Lib.hid ht
    have HA := Lib.hid ha
    have B1 := Lib.hid hb1
    clear ok e1 ht ha hb1
    go_wp2_with fail
    refine (rdec_all v _ ls xs w1 (HR.out.below B1.out) (HU.out.below B1.out) HX.out HXL.out).mono ?_
    rintro e w2 ⟨hb2, ⟨_, zs, b, e2, rfl, hb, _⟩ | ⟨c, c0, hc, hn, _⟩⟩
    · have e0 : zs = ys := by have := e2.symm.trans E1.out; cases this; rfl
      subst e0
      have HB := Lib.hid hb
      have B2 := Lib.hid (B1.out.trans (hb2.mono B1.out.size))
      have HA2 := Lib.hid (HA.out.below hb2)
      clear hb hb2 e2
      go_wp2_with fail
      refine (same_yes a b zs _ HA2.out HB.out HT.out).mono ?_
      rintro e w' ⟨rfl, rfl⟩
      go_wp2_with fail
      refine (alive_any _).mono ?_
      rintro e w3 ⟨rfl, hb3⟩
      go_wp2_with fail
      go_ret
      exact ⟨rfl, B2.out.trans (hb3.mono B2.out.size)⟩
    · have := (hn OK.out).symm.trans E1.out
      cases this
  · have HC := Lib.hid hc
    have HN := Lib.hid hn
    have B1 := Lib.hid hb1
    clear hc hn hb1 c0
    go_wp2_with fail
    refine (rdec_all v _ ls xs w1 (HR.out.below B1.out) (HU.out.below B1.out) HX.out HXL.out).mono ?_
    rintro e w2 ⟨hb2, ⟨ok, zs, b, e2, _⟩ | ⟨c', c0, hc, hn, rfl⟩⟩
    · have := (HN.out ok).symm.trans e2
      cases this
    · have e0 : c' = c := by rw [hc, HC.out]
      subst e0
      have B2 := Lib.hid (B1.out.trans (hb2.mono B1.out.size))
      clear hb2 hc hn c0
      go_wp2_with fail
      refine (same_yes (.slice none 0 0) (.slice none 0 0) [] _ (Rd.nil _ _) (Rd.nil _ _) bts_nil).mono ?_
      rintro e w' ⟨rfl, rfl⟩
      go_wp2_with fail
      refine (alive_any _).mono ?_
      rintro e w3 ⟨rfl, hb3⟩
      go_wp2_with fail
      go_ret
      exact ⟨rfl, B2.out.trans (hb3.mono B2.out.size)⟩

set_option maxHeartbeats 4000000 in
theorem huffBack_walk (v u : Value) (ls ys : List Int) (w : World) (hr : Rd .i64 w v ls) (hu : Rd .u8 w u ys) (hy : Bts ys) (hyl : ys.length ≤ 1048576) : Calls Try.prog 6 #[v, u] w (Yes w) := by
  have HR := Lib.hid hr
  have HU := Lib.hid hu
  have HY := Lib.hid hy
  have HYL := Lib.hid hyl
  clear hr hu hy hyl
  go_enter Try.func6, Try.ntmps6
  go_wp2_with fail
  refine (enc_all v u ls ys w HR.out HU.out HY.out (by have := HYL.out; omega)).mono ?_
  rintro e w1 ⟨hb1, ⟨ok, a, o, rfl, ha, ht, he⟩ | ⟨no, rfl⟩⟩
  · have hdec : decN (wdsOf ls) (unp o) 0 0 = some ys := by
      obtain ⟨m, hm, e1⟩ := fill_back (encN (wdsOf ls) ys)
      rw [he, e1]
      exact dec_enc ok.1.code.words m hm ys (fun s hs => (HY.out s hs).1) ok.2
    have hol : o.length ≤ 68719476736 := by
      have h1 := congrArg List.length he
      rw [unp_len, fillN, List.length_append, List.length_replicate] at h1
      have h2 : (encN (wdsOf ls) ys).length ≤ 24 * ys.length := enc_len ok.1.code.words ys
      have := HYL.out
      omega
    have HD := Lib.hid hdec
    have HOL := Lib.hid hol
    have OK := Lib.hid ok.1
    have HT := Lib.hid ht
    have HA := Lib.hid ha
    have B1 := Lib.hid hb1
    clear ok he ht ha hb1 hdec hol
    go_wp2_with fail
    refine (dec_all v a ls o w1 (HR.out.below B1.out) HA.out HT.out HOL.out).mono ?_
    rintro e w2 ⟨hb2, ⟨_, zs, b, e2, rfl, hb, _⟩ | ⟨c, c0, hc, hn, _⟩⟩
    · have e0 : zs = ys := by have := e2.symm.trans HD.out; cases this; rfl
      subst e0
      have HB := Lib.hid hb
      have B2 := Lib.hid (B1.out.trans (hb2.mono B1.out.size))
      have HU2 := Lib.hid (HU.out.below B2.out)
      clear hb hb2 e2
      go_wp2_with fail
      refine (same_yes b u zs _ HB.out HU2.out HY.out).mono ?_
      rintro e w' ⟨rfl, rfl⟩
      go_wp2_with fail
      refine (alive_any _).mono ?_
      rintro e w3 ⟨rfl, hb3⟩
      go_wp2_with fail
      go_ret
      exact ⟨rfl, B2.out.trans (hb3.mono B2.out.size)⟩
    · have := (hn OK.out).symm.trans HD.out
      cases this
  · have B1 := Lib.hid hb1
    clear no hb1
    go_wp2_with fail
    refine (alive_any _).mono ?_
    rintro e w3 ⟨rfl, hb3⟩
    go_wp2_with fail
    go_ret
    exact ⟨rfl, B1.out.trans (hb3.mono B1.out.size)⟩

set_option maxHeartbeats 4000000 in
theorem huffOne_walk (v u : Value) (ls xs : List Int) (w : World) (hr : Rd .i64 w v ls) (hu : Rd .u8 w u xs) (hx : Bts xs) (hxl : xs.length ≤ 1048576) : Calls Try.prog 7 #[v, u] w (Yes w) := by
  have HR := Lib.hid hr
  have HU := Lib.hid hu
  have HX := Lib.hid hx
  have HXL := Lib.hid hxl
  clear hr hu hx hxl
  go_enter Try.func7, Try.ntmps7
  go_wp2_with fail
  refine (dec_all v u ls xs w HR.out HU.out HX.out (by have := HXL.out; omega)).mono ?_
  rintro e w1 ⟨hb1, ⟨ok, ys, a, e1, rfl, ha, ht⟩ | ⟨c, c0, hc, hn, rfl⟩⟩
  · obtain ⟨hf, hh, hs⟩ := fill_dec e1
    have hyl : ys.length ≤ 68719476736 := by
      have hlen : ∀ zs : List Int, HasN (wdsOf ls) zs → zs.length ≤ (encN (wdsOf ls) zs).length := fun zs => by
        induction zs with
        | nil => intro _; simp [encN]
        | cons z r ih =>
          intro hz
          have h1 := (hz z (by simp)).2
          have h2 := ih fun t htt => hz t (by simp [htt])
          rw [enc_cons, List.length_append, bd_len, List.length_cons]; omega
      have h1 := hlen ys hh
      have h2 := congrArg List.length hf
      rw [unp_len, fillN, List.length_append] at h2
      have := HXL.out
      omega
    have HF := Lib.hid hf
    have HH := Lib.hid hh
    have HYL := Lib.hid hyl
    have OK := Lib.hid ok
    have HT := Lib.hid ht
    have HA := Lib.hid ha
    have B1 := Lib.hid hb1
    clear ok e1 ht ha hb1 hf hh hs hyl
    go_wp2_with fail
    refine (enc_all v a ls ys w1 (HR.out.below B1.out) HA.out HT.out HYL.out).mono ?_
    rintro e w2 ⟨hb2, ⟨_, b, q, rfl, hb, hq, he2⟩ | ⟨no, _⟩⟩
    · have e0 : q = xs := unp_inj hq HX.out (by rw [he2, HF.out])
      subst e0
      have HB := Lib.hid hb
      have B2 := Lib.hid (B1.out.trans (hb2.mono B1.out.size))
      have HU2 := Lib.hid (HU.out.below B2.out)
      clear hb hb2 hq he2
      go_wp2_with fail
      refine (same_yes u b q _ HU2.out HB.out HX.out).mono ?_
      rintro e w' ⟨rfl, rfl⟩
      go_wp2_with fail
      refine (alive_any _).mono ?_
      rintro e w3 ⟨rfl, hb3⟩
      go_wp2_with fail
      go_ret
      exact ⟨rfl, B2.out.trans (hb3.mono B2.out.size)⟩
    · exact absurd ⟨OK.out, HH.out⟩ no
  · have B1 := Lib.hid hb1
    have dc : (c == 0) = false := by simp [c0]
    have dc' : (c != 0) = true := by simp [c0]
    clear hc hn hb1 c0
    go_wp2_with fail
    refine (alive_any _).mono ?_
    rintro e w3 ⟨rfl, hb3⟩
    go_wp2_with fail
    go_ret
    exact ⟨rfl, B1.out.trans (hb3.mono B1.out.size)⟩

set_option maxHeartbeats 4000000 in
theorem huffWords_walk (v : Value) (ls : List Int) (w : World) (hr : Rd .i64 w v ls) : Calls Try.prog 3 #[v] w (Yes w) := by
  have HR := Lib.hid hr
  clear hr
  by_cases hc : RightL ls
  · have HC := Lib.hid hc
    have HT : Hid (decide (RightL ls) = true) := decide_eq_true hc
    have HL := Lib.hid hc.code.words.few
    clear hc
    go_enter Try.func3, Try.ntmps3
    go_wp2_with fail
    refine (words_yes v ls w HR.out HC.out).mono ?_
    rintro e w1 ⟨a, rfl, ha, hb⟩
    have HA := Lib.hid ha
    have B1 := Lib.hid hb
    clear ha hb
    go_wp2_with fail
    refine (rwords_yes v ls w1 (HR.out.below B1.out) HC.out).mono ?_
    rintro e w2 ⟨b, rfl, hb', hb⟩
    have HB := Lib.hid hb'
    have B2 := Lib.hid (B1.out.trans (hb.mono B1.out.size))
    have A2 := Lib.hid (HA.out.below hb)
    clear hb' hb HA B1
    go_wp2_with fail
    refine (ours_any a _ w2 A2.out.rd HL.out).mono ?_
    rintro e w3 ⟨c, rfl, hc3, hb⟩
    have C3 := Lib.hid hc3
    have B3 := Lib.hid (B2.out.trans (hb.mono B2.out.size))
    have HB3 := Lib.hid (HB.out.below hb)
    clear hc3 hb A2
    go_wp2_with fail
    refine (same12_yes c b _ w3 C3.out HB3.out.rd HL.out).mono ?_
    rintro e w4 ⟨rfl, hb⟩
    have B4 := Lib.hid (B3.out.trans (hb.mono B3.out.size))
    clear hb
    go_wp2_with fail
    refine (right_any v ls w4 (HR.out.below B4.out)).mono ?_
    rintro e w' ⟨rfl, rfl⟩
    rw [HT.out]
    go_wp2_with fail
    refine (rright_any v ls w4 (HR.out.below B4.out)).mono ?_
    rintro e w' ⟨rfl, rfl⟩
    rw [HT.out]
    go_wp2_with fail
    refine (fields_any w4).mono ?_
    rintro e w5 ⟨f, rfl, hf, hb⟩
    have F5 := Lib.hid hf
    have B5 := Lib.hid (B4.out.trans (hb.mono B4.out.size))
    clear hf hb
    go_wp2_with fail
    refine (rfields_any w5).mono ?_
    rintro e w6 ⟨g, rfl, hg, hb⟩
    have G6 := Lib.hid hg
    have F6 := Lib.hid (F5.out.below hb)
    have B6 := Lib.hid (B5.out.trans (hb.mono B5.out.size))
    clear hg hb
    go_wp2_with fail
    refine (ints_yes f g fldL w6 F6.out.rd G6.out.rd (by simp [fldL])).mono ?_
    rintro e w7 ⟨rfl, hb⟩
    have B7 := Lib.hid (B6.out.trans (hb.mono B6.out.size))
    clear hb
    go_wp2_with fail
    refine (alive_any _).mono ?_
    rintro e w8 ⟨rfl, hb⟩
    have B8 := Lib.hid (B7.out.trans (hb.mono B7.out.size))
    clear hb
    go_wp2_with fail
    go_ret
    exact ⟨rfl, B8.out⟩
  · have HC := Lib.hid hc
    have HT : Hid (decide (RightL ls) = false) := decide_eq_false hc
    clear hc
    go_enter Try.func3, Try.ntmps3
    go_wp2_with fail
    refine (words_no v ls w HR.out HC.out).mono ?_
    rintro e w' ⟨rfl, rfl⟩
    go_wp2_with fail
    refine (rwords_no v ls w HR.out HC.out).mono ?_
    rintro e w' ⟨rfl, rfl⟩
    go_wp2_with fail
    refine (ours_any _ [] w (RdW.nil _) (by simp)).mono ?_
    rintro e w3 ⟨c, rfl, hc3, hb⟩
    have C3 := Lib.hid hc3
    have B3 := Lib.hid hb
    clear hc3 hb
    go_wp2_with fail
    refine (same12_yes c _ [] w3 C3.out (RdW.nil _) (by simp)).mono ?_
    rintro e w4 ⟨rfl, hb⟩
    have B4 := Lib.hid (B3.out.trans (hb.mono B3.out.size))
    clear hb
    go_wp2_with fail
    refine (right_any v ls w4 (HR.out.below B4.out)).mono ?_
    rintro e w' ⟨rfl, rfl⟩
    rw [HT.out]
    go_wp2_with fail
    refine (rright_any v ls w4 (HR.out.below B4.out)).mono ?_
    rintro e w' ⟨rfl, rfl⟩
    rw [HT.out]
    go_wp2_with fail
    refine (fields_any w4).mono ?_
    rintro e w5 ⟨f, rfl, hf, hb⟩
    have F5 := Lib.hid hf
    have B5 := Lib.hid (B4.out.trans (hb.mono B4.out.size))
    clear hf hb
    go_wp2_with fail
    refine (rfields_any w5).mono ?_
    rintro e w6 ⟨g, rfl, hg, hb⟩
    have G6 := Lib.hid hg
    have F6 := Lib.hid (F5.out.below hb)
    have B6 := Lib.hid (B5.out.trans (hb.mono B5.out.size))
    clear hg hb
    go_wp2_with fail
    refine (ints_yes f g fldL w6 F6.out.rd G6.out.rd (by simp [fldL])).mono ?_
    rintro e w7 ⟨rfl, hb⟩
    have B7 := Lib.hid (B6.out.trans (hb.mono B6.out.size))
    clear hb
    go_wp2_with fail
    refine (alive_any _).mono ?_
    rintro e w8 ⟨rfl, hb⟩
    have B8 := Lib.hid (B7.out.trans (hb.mono B7.out.size))
    clear hb
    go_wp2_with fail
    go_ret
    exact ⟨rfl, B8.out⟩
end Go.Proofs.Ytjaeccealfeakaa
