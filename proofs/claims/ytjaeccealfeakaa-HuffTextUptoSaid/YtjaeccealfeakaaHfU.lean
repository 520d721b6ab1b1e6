/- Layer 12: the law Text. -/
import Derived.Test.YtjaeccealfeakaaHfR
import Derived.Lib.ConvBytes
set_option maxRecDepth 100000
set_option linter.unusedSimpArgs false
set_option linter.unusedVariables false
namespace Go.Proofs.Ytjaeccealfeakaa
open Go.RowKit

theorem right_fld : RightL fldL := by
  refine ⟨by decide +kernel, ?_, by decide +kernel⟩
  have : fldL.all (fun x => decide (0 ≤ x ∧ x ≤ 24)) = true := by decide +kernel
  intro x hx
  simpa using List.all_eq_true.1 this x hx
theorem has_fld (ys : List Int) (hy : Bts ys) : HasN (wdsOf fldL) ys := by
  have : ∀ n : Fin 256, n.val < (wdsOf fldL).length ∧ ((wdsOf fldL).getD n.val (0, 0)).2 ≠ 0 := by decide +kernel
  intro s hs
  have h := hy s hs
  exact this ⟨s.toNat, by omega⟩

/-- a text's bytes -/
def bytesOf (s : ByteArray) : List Int := s.data.toList.map fun b => (b.toNat : Int)
theorem bytesOf_bts (s : ByteArray) : Bts (bytesOf s) := by
  intro x hx
  obtain ⟨b, _, rfl⟩ := List.mem_map.1 hx
  have := b.toNat_lt
  omega
theorem bytesOf_len (s : ByteArray) : (bytesOf s).length = s.size := by simp only [bytesOf, List.length_map]; rfl
theorem str_back (s : ByteArray) : strOfNums (bytesOf s) = s := by
  have h : (bytesOf s).map (fun n => UInt8.ofNat n.toNat) = s.data.toList := by
    rw [bytesOf, List.map_map]
    conv => rhs; rw [← List.map_id s.data.toList]
    refine List.map_congr_left fun b _ => ?_
    simp
  have e : ∀ l : List Int, strOfNums l = ⟨(l.map (fun n => UInt8.ofNat n.toNat)).toArray⟩ := fun l => rfl
  rw [e, h]
theorem bytes_below (w : World) (e : TypeId) (s : ByteArray) : Below w.heap.size w (Lib.bytesWorld w e s) := by
  refine ⟨?_, ?_, ?_, by rw [Lib.bytesWorld_size]; omega, fun i hi => Lib.bytesWorld_at_old w e s i hi⟩ <;>
    (unfold Lib.bytesWorld World.freeze; split <;> rfl)
theorem bytes_rd (w : World) (e : TypeId) (s : ByteArray) (hs : s.size ≤ 1048576) : Rd .u8 (Lib.bytesWorld w e s) (.slice (some ⟨w.heap.size, 0, none⟩) s.size (grownCap w s.size 0 e)) (bytesOf s) := by
  have hm := grownCap_le_maxLen w s.size 0 e (by unfold maxLen; omega)
  by_cases h0 : s.size = 0
  · refine .inl ⟨List.eq_nil_of_length_eq_zero (by rw [bytesOf_len]; exact h0), some ⟨w.heap.size, 0, none⟩, grownCap w s.size 0 e, by generalize grownCap w s.size 0 e = c; rw [h0], hm, fun h => by cases h⟩
  · refine .inr ⟨fun h => h0 (by rw [← bytesOf_len, h]; rfl), w.heap.size, 0, _, by rw [bytesOf_len], by rw [bytesOf_len]; exact grownCap_ge _ _ _ _, hm, by rw [Lib.bytesWorld_size]; omega, fun i hi => ?_⟩
    rw [bytesOf_len] at hi
    rw [Nat.zero_add, Lib.bytesWorld_cell w e s i hi]
    have hl : i < s.data.toList.length := hi
    simp [bytesOf, List.getD, hi]

set_option maxHeartbeats 4000000 in
theorem huffText_walk (s : ByteArray) (w : World) (hs : s.size ≤ 1048576) : Calls Try.prog 9 #[.string s] w (Yes w) := by
  go_enter Try.func9, Try.ntmps9
  go_wp2_with fail
  refine (fields_any w).mono ?_
  rintro e w1 ⟨f, rfl, hf, hb⟩
  have F1 := Lib.hid hf
  have B1 := Lib.hid hb
  clear hf hb
  have hcv := Lib.run_convert_string_bytes (P := Try.prog) w1 9 36 5 s (u := .string) Try.underlying9 Try.underlying36 Try.underlying5
  go_wp2_with fail
  have S2 := Lib.hid (bytes_rd w1 5 s hs)
  have F2 := Lib.hid (F1.out.below (bytes_below w1 5 s))
  have B2 := Lib.hid (B1.out.trans ((bytes_below w1 5 s).mono B1.out.size))
  have BT := Lib.hid (bytesOf_bts s)
  clear hcv F1
  refine (enc_all f _ fldL (bytesOf s) _ F2.out.rd S2.out BT.out (by rw [bytesOf_len]; omega)).mono ?_
  rintro e w3 ⟨hb3, ⟨ok, a, o, rfl, ha, ht, he⟩ | ⟨no, _⟩⟩
  · have hdec : decN (wdsOf fldL) (unp o) 0 0 = some (bytesOf s) := by
      obtain ⟨m, hm, e1⟩ := fill_back (encN (wdsOf fldL) (bytesOf s))
      rw [he, e1]
      exact dec_enc right_fld.code.words m hm _ (fun x hx => (BT.out x hx).1) ok.2
    have hol : o.length ≤ 68719476736 := by
      have h1 := congrArg List.length he
      rw [unp_len, fillN, List.length_append, List.length_replicate] at h1
      have h2 : (encN (wdsOf fldL) (bytesOf s)).length ≤ 24 * (bytesOf s).length := enc_len right_fld.code.words (bytesOf s)
      rw [bytesOf_len] at h2
      omega
    have HD := Lib.hid hdec
    have HOL := Lib.hid hol
    have HT := Lib.hid ht
    have HA := Lib.hid ha
    have B3 := Lib.hid (B2.out.trans (hb3.mono B2.out.size))
    clear ok he ht ha hb3 hdec hol S2 F2 B2 B1
    go_wp2_with fail
    refine (fields_any w3).mono ?_
    rintro e w4 ⟨g, rfl, hg, hb⟩
    have G4 := Lib.hid hg
    have B4 := Lib.hid (B3.out.trans (hb.mono B3.out.size))
    have HA4 := Lib.hid (HA.out.below hb)
    clear hg hb HA B3
    go_wp2_with fail
    refine (dec_all g a fldL o w4 G4.out.rd HA4.out HT.out HOL.out).mono ?_
    rintro e w5 ⟨hb5, ⟨_, zs, b, e2, rfl, hb, _⟩ | ⟨c, c0, hc, hn, _⟩⟩
    · have e0 : zs = bytesOf s := by have := e2.symm.trans HD.out; cases this; rfl
      subst e0
      have B5 := Lib.hid (B4.out.trans (hb5.mono B4.out.size))
      have h1 := hb.conv Try.underlying36 Try.underlying5 Try.underlying9
      rw [str_back] at h1
      clear hb hb5 e2
      go_wp2_with fail
      refine (alive_any _).mono ?_
      rintro e w6 ⟨rfl, hb6⟩
      go_wp2_with fail
      go_ret
      exact ⟨rfl, B5.out.trans (hb6.mono B5.out.size)⟩
    · have := (hn right_fld).symm.trans HD.out
      cases this
  · exact absurd ⟨right_fld, has_fld _ BT.out⟩ no
end Go.Proofs.Ytjaeccealfeakaa
