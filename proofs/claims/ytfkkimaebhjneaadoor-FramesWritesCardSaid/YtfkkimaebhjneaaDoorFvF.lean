/- Walks of layer 4: the reference's Encode. -/
import Derived.Test.YtfkkimaebhjneaaDoorFvE
set_option linter.unusedSimpArgs false
set_option linter.unusedVariables false
namespace Go.Proofs.YtfkkimaebhjneaaDoor
open Go.RowKit

theorem rbytes_any (f : Fr) (da sa : Option Addr) (dc sc : Nat) (w : World) (hm : mayF f = true) (hd : Rd .u8 w (.slice da f.data.length dc) f.data) (hs : RdS w (.slice sa f.spans.length sc) f.spans) :
    Calls Tryd.prog 22 #[.agg #[.int .i64 f.kind, .int .i64 f.stream, .int .i64 f.offset, .int .i64 f.n, .int .i64 f.code, .bool f.fin, .slice da f.data.length dc, .slice sa f.spans.length sc]] w (PutsIs w w.heap.size (encF f)) := by
  obtain ⟨hk, h1, h2, h3, h4, h5, h6, h7⟩ := mayF_parts hm
  unfold knownK at hk
  rcases hk with hk | hk | hk | hk | hk | hk | hk | hk | hk | hk | hk
  · have h := rbytes_4 f da sa dc sc w hk hm; rw [← hk] at h; exact h
  · have h := rbytes_5 f da sa dc sc w hk hm; rw [← hk] at h; exact h
  · cases hf : f.fin
    · have h := rbytes_80 f da sa dc sc w hk hm hd hf; rw [← hk] at h; exact h
    · have h := rbytes_81 f da sa dc sc w hk hm hd hf; rw [← hk] at h; exact h
  · have h := rbytes_17 f da sa dc sc w hk hm; rw [← hk] at h; exact h
  · have h := rbytes_16 f da sa dc sc w hk hm; rw [← hk] at h; exact h
  · have h := rbytes_18 f da sa dc sc w hk hm; rw [← hk] at h; exact h
  · have hne : f.spans ≠ [] := by
      intro e
      rw [hk, e] at h5
      simp [spansB, hSpans] at h5
    obtain ⟨b, o, c, hq, hb⟩ := hs.form hne
    simp only [Value.slice.injEq] at hq
    obtain ⟨rfl, _, rfl⟩ := hq
    have h := rbytes_2 f da b o dc sc w hk hm hs hb; rw [← hk] at h; exact h
  · have h := rbytes_28 f da sa dc sc w hk hm hd; rw [← hk] at h; exact h
  · have h := rbytes_0 f da sa dc sc w hk hm; rw [← hk] at h; exact h
  · have h := rbytes_1 f da sa dc sc w hk hm; rw [← hk] at h; exact h
  · have h := rbytes_30 f da sa dc sc w hk hm; rw [← hk] at h; exact h

theorem encFs_len : ∀ (l : List Fr), (∀ f ∈ l, mayF f = true) → (encFs l).length ≤ 1800 * l.length := by
  intro l
  induction l with
  | nil => intro _; simp [encFs]
  | cons f l ih =>
    intro h
    have a := encF_le (h f (by simp))
    have b := ih fun g hg => h g (by simp [hg])
    simp only [encFs, List.flatMap_cons, List.length_append, List.length_cons] at b ⊢
    omega
theorem encFs_take {fs : List Fr} {k : Nat} {f : Fr} (hlt : k < fs.length) (hf : fs[k]? = some f) : encFs (fs.take (k + 1)) = encFs (fs.take k) ++ encF f := by
  rw [List.take_succ_eq_append_getElem hlt]
  have : fs[k] = f := by rw [List.getElem?_eq_getElem hlt] at hf; exact Option.some.inj hf
  rw [this]
  unfold encFs
  rw [List.flatMap_append, List.flatMap_cons, List.flatMap_nil, List.append_nil]

theorem rencode_long (v : Value) (fs : List Fr) (w : World) (hr : RdF w v fs) (hl : 64 < fs.length) : Calls Tryd.prog 10 #[v] w (EncIs w (.error 6)) := by
  obtain ⟨va, vc, rfl, _, _⟩ := hr.isSlice
  have t1 : decide (64 < (fs.length : Int)) = true := decide_eq_true (by omega)
  clear hr
  go_enter Tryd.func10, Tryd.ntmps10
  go_wp2
  go_ret2
  exact ⟨Below.refl _ _, rfl⟩

set_option maxHeartbeats 3200000 in
theorem rencode_short (va : Option Addr) (c : Nat) (fs : List Fr) (w : World) (hr : RdF w (.slice va fs.length c) fs) (hx : BtsF fs) (hl : fs.length ≤ 64) (hall : fs.all mayF = true) (r : Except Int (List Int)) (hres : r = if 1200 < (encFs fs).length then .error 6 else .ok (encFs fs)) :
    Calls Tryd.prog 10 #[.slice va fs.length c] w (EncIs w r) := by
  have HRS := Lib.hid hres
  have HX := Lib.hid hx
  have HR := Lib.hid hr
  have HAll := Lib.hid hall
  have t1 : decide (64 < (fs.length : Int)) = false := decide_eq_false (by omega)
  clear hr hall hres hx
  go_enter Tryd.func10, Tryd.ntmps10
  go_wp2_with fail
  go_loopw [5] (fun i wr => ∃ (k : Nat), i = .int .i64 k ∧ k ≤ fs.length ∧ Below w.heap.size w wr) (fun i _ => fs.length - (intOf i).toNat)
  case atStart => exact ⟨0, rfl, Nat.zero_le _, Below.refl _ _⟩
  case round =>
    obtain ⟨k, rfl, hk, hbel⟩ := hrel
    have hz := hbel.size
    by_cases hlt : k < fs.length
    · obtain ⟨b, o, c', hq, hb, _, _⟩ := HR.out.form (by intro h; rw [h] at hlt; simp at hlt)
      simp only [Value.slice.injEq] at hq
      obtain ⟨rfl, _, rfl⟩ := hq
      obtain ⟨f, da, sa, dc, sc, hf, _, hw⟩ := HR.out.at hb k hlt
      obtain ⟨⟨q0, q1, q2, q3, q4, q5, q6, q7⟩, hd, hs⟩ := hw wr hbel
      have hmem := List.mem_of_getElem? hf
      have hmay : mayF f = true := List.all_eq_true.1 HAll.out f hmem
      have MA := Lib.hid (rmay_any f da sa dc sc wr hd hs (HX.out f hmem) hd.len)
      rw [hmay] at MA
      have hi1 : (k : Int) < (fs.length : Int) := by omega
      have hw1 : IntKind.i64.wrap ((k : Int) + 1) = (k : Int) + 1 := wraps_i64' _ (by omega) (by omega)
      clear hf hw hmay hd hs hmem
      go_wp2_with (go_at_call 15; refine MA.out.mono ?_; rintro e w2 ⟨rfl, b2⟩)
      exact ⟨⟨k + 1, by go_num, by omega, hbel.trans (b2.mono hz)⟩, by simp [intOf]; omega⟩
    · have hlt2 : decide ((k : Int) < (fs.length : Int)) = false := decide_eq_false (by omega)
      go_wp2_with fail
      go_loopw [6, 4] (fun i zz wx => ∃ (k : Nat) (z : Value), i = .int .i64 k ∧ z = zz ∧ k ≤ fs.length ∧ Own .u8 5 wx w.heap.size z (encFs (fs.take k)) ∧ Below w.heap.size w wx) (fun i _ _ => fs.length - (intOf i).toNat)
      case atStart => exact ⟨0, _, rfl, rfl, Nat.zero_le _, by simpa [encFs] using Own.nil _ _ _ _, hbel⟩
      case round =>
        obtain ⟨k, z, rfl, rfl, hk, hown, hbel2⟩ := hrel
        have hz2 := hbel2.size
        have hlen : (encFs (fs.take k)).length ≤ 115200 := by
          have := encFs_len (fs.take k) (fun f hf => List.all_eq_true.1 HAll.out f (List.mem_of_mem_take hf))
          rw [List.length_take] at this
          omega
        have HO := Lib.hid hown
        have HB := Lib.hid hbel2
        by_cases hlt : k < fs.length
        · obtain ⟨b, o, c', hq, hb, _, _⟩ := HR.out.form (by intro h; rw [h] at hlt; simp at hlt)
          simp only [Value.slice.injEq] at hq
          obtain ⟨rfl, _, rfl⟩ := hq
          obtain ⟨f, da, sa, dc, sc, hf, _, hw⟩ := HR.out.at hb k hlt
          obtain ⟨⟨q0, q1, q2, q3, q4, q5, q6, q7⟩, hd, hs⟩ := hw _ hbel2
          have hmem := List.mem_of_getElem? hf
          have hmay : mayF f = true := List.all_eq_true.1 HAll.out f hmem
          have HTk := Lib.hid (encFs_take hlt hf)
          have hfl := encF_le hmay
          have MB := Lib.hid (rbytes_any f da sa dc sc _ hmay hd hs)
          have hi1 : (k : Int) < (fs.length : Int) := by omega
          have hw1 : IntKind.i64.wrap ((k : Int) + 1) = (k : Int) + 1 := wraps_i64' _ (by omega) (by omega)
          have hl9 : Hid ((encFs (fs.take k)).length + (encF f).length ≤ 1048576) := by show _ ≤ _; omega
          clear hf hw hmay hd hs hmem hlen hfl hown hbel2
          go_wp2_with (first
            | (go_at_call 22; refine MB.out.mono ?_; rintro e w2 ⟨y, rfl, oy, by2⟩; have b2 := HB.out.trans (by2.mono hz2); have z2 := b2.size; have O2 := HO.out.below by2)
            | (at_builtin; (refine wpList_append_rd _ rfl (.tmp 28) (.tmp 33) 23 rfl elemU8 Tryd.underlying23 w.heap.size z (encFs (fs.take k)) rfl O2 y (encF f) rfl oy.rd ?_ ?_ ?_ ?_; (have := hl9.out; omega); (have := hl9.out; unfold maxLen; omega); (exact z2); intro v3 w3 o3 g3; have b3 := b2.grown g3 z2 O2.blk)))
          exact ⟨⟨k + 1, _, by go_num, rfl, by omega, by rw [HTk.out]; exact o3, b3⟩, by simp [intOf]; omega⟩
        · have hlt3 : decide ((k : Int) < (fs.length : Int)) = false := decide_eq_false (by omega)
          have hkl : k = fs.length := by omega
          have HE : Hid (encFs (fs.take k) = encFs fs) := by show _ = _; rw [hkl, List.take_length]
          obtain ⟨za, zc, rfl⟩ := hown.len
          generalize hbs : encFs (fs.take k) = bs at HO HE
          clear hown hbel2 hlen hkl hbs
          by_cases hbig : 1200 < bs.length
          · have t5 : decide (1200 < (bs.length : Int)) = true := decide_eq_true (by omega)
            have HE2 : Hid (r = .error 6) := by show _ = _; rw [HRS.out, ← HE.out]; exact if_pos hbig
            go_wp2
            go_ret2
            rw [HE2.out]
            exact ⟨HB.out, rfl⟩
          · have t5 : decide (1200 < (bs.length : Int)) = false := decide_eq_false (by omega)
            have HE2 : Hid (r = .ok bs) := by show _ = _; rw [HRS.out, ← HE.out]; exact if_neg hbig
            go_wp2
            go_ret2
            rw [HE2.out]
            exact ⟨HB.out, _, rfl, HO.out⟩

set_option maxHeartbeats 3200000 in
theorem rencode_bad (va : Option Addr) (c : Nat) (fs : List Fr) (w : World) (hr : RdF w (.slice va fs.length c) fs) (hx : BtsF fs) (hl : fs.length ≤ 64) (hall : ¬ fs.all mayF = true) :
    Calls Tryd.prog 10 #[.slice va fs.length c] w (EncIs w (.error 1)) := by
  have HR := Lib.hid hr
  have HX := Lib.hid hx
  have HAll := Lib.hid hall
  have t1 : decide (64 < (fs.length : Int)) = false := decide_eq_false (by omega)
  clear hr hall hx
  go_enter Tryd.func10, Tryd.ntmps10
  go_wp2_with fail
  go_loopw [5] (fun i wr => ∃ (k : Nat), i = .int .i64 k ∧ k ≤ fs.length ∧ (∀ f ∈ fs.take k, mayF f = true) ∧ Below w.heap.size w wr) (fun i _ => fs.length - (intOf i).toNat)
  case atStart => exact ⟨0, rfl, Nat.zero_le _, by simp, Below.refl _ _⟩
  case round =>
    obtain ⟨k, rfl, hk, hok, hbel⟩ := hrel
    have hz := hbel.size
    have HOK : Hid (∀ f ∈ fs.take k, mayF f = true) := hok
    clear hok
    by_cases hlt : k < fs.length
    · obtain ⟨b, o, c', hq, hb, _, _⟩ := HR.out.form (by intro h; rw [h] at hlt; simp at hlt)
      simp only [Value.slice.injEq] at hq
      obtain ⟨rfl, _, rfl⟩ := hq
      obtain ⟨f, da, sa, dc, sc, hf, _, hw⟩ := HR.out.at hb k hlt
      obtain ⟨⟨q0, q1, q2, q3, q4, q5, q6, q7⟩, hd, hs⟩ := hw wr hbel
      have hmem := List.mem_of_getElem? hf
      have MA := Lib.hid (rmay_any f da sa dc sc wr hd hs (HX.out f hmem) hd.len)
      have hi1 : (k : Int) < (fs.length : Int) := by omega
      have hw1 : IntKind.i64.wrap ((k : Int) + 1) = (k : Int) + 1 := wraps_i64' _ (by omega) (by omega)
      have hTk : fs.take (k + 1) = fs.take k ++ [f] := by
        rw [List.take_succ_eq_append_getElem hlt]
        have : fs[k] = f := by rw [List.getElem?_eq_getElem hlt] at hf; exact Option.some.inj hf
        rw [this]
      cases hmay : mayF f
      · rw [hmay] at MA
        clear hf hw hmay hd hs hTk hmem
        go_wp2_with (go_at_call 15; refine MA.out.mono ?_; rintro e w2 ⟨rfl, b2⟩)
        go_ret2
        exact ⟨hbel.trans (b2.mono hz), rfl⟩
      · rw [hmay] at MA
        have HN : Hid (∀ g ∈ fs.take (k + 1), mayF g = true) := fun g hg => by
          rw [hTk] at hg
          rcases List.mem_append.1 hg with h | h
          · exact HOK.out g h
          · simp at h; subst h; exact hmay
        clear hf hw hmay hd hs hTk hmem
        go_wp2_with (go_at_call 15; refine MA.out.mono ?_; rintro e w2 ⟨rfl, b2⟩)
        exact ⟨⟨k + 1, by go_num, by omega, HN.out, hbel.trans (b2.mono hz)⟩, by simp [intOf]; omega⟩
    · exact absurd (by
        have hkl : k = fs.length := by omega
        have h := HOK.out
        rw [hkl, List.take_length] at h
        exact List.all_eq_true.2 h) HAll.out

/-- THE REFERENCE's ENCODE, WHATEVER THE FRAMES -/
theorem rencode_any (v : Value) (fs : List Fr) (w : World) (hr : RdF w v fs) (hx : BtsF fs) : Calls Tryd.prog 10 #[v] w (EncIs w (encL fs)) := by
  by_cases hl : 64 < fs.length
  · have e : encL fs = .error 6 := if_pos hl
    rw [e]
    exact rencode_long v fs w hr hl
  obtain ⟨va, vc, rfl, _, _⟩ := hr.isSlice
  by_cases hall : fs.all mayF = true
  · have e : encL fs = if 1200 < (encFs fs).length then .error 6 else .ok (encFs fs) := by unfold encL; rw [if_neg hl, if_pos hall]
    exact rencode_short va vc fs w hr hx (by omega) hall _ e
  · have e : encL fs = .error 1 := by unfold encL; rw [if_neg hl, if_neg hall]
    rw [e]
    exact rencode_bad va vc fs w hr hx (by omega) hall
end Go.Proofs.YtfkkimaebhjneaaDoor
