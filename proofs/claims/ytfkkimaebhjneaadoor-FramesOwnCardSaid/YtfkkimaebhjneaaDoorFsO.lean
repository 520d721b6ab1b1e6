/- Walks of layer 4: the law FramesBack. -/
import Derived.Test.YtfkkimaebhjneaaDoorFsD
import Derived.Test.YtfkkimaebhjneaaDoorFsN
set_option linter.unusedSimpArgs false
set_option linter.unusedVariables false
namespace Go.Proofs.YtfkkimaebhjneaaDoor
open Go.RowKit

theorem nil_bts : Bts [] := fun x h => by cases h
theorem downL_bts (hi : Int × Int) (l : List (Int × Int)) : Bts (downL hi l) := by
  induction l generalizing hi with
  | nil => exact nil_bts
  | cons s r ih => exact ((E_bts _).append (E_bts _)).append (ih s)
theorem spanBytes_bts (ss : List (Int × Int)) : Bts (spanBytes ss) := by
  unfold spanBytes
  split
  · exact nil_bts
  · exact ((E_bts _).append (E_bts _)).append (downL_bts _ _)
theorem encF_bts {f : Fr} (h : Bts f.data) : Bts (encF f) := by
  have b : ∀ (c : Bool) (l : List Int), Bts l → Bts (if c = true then l else []) := fun c l hl => by
    cases c
    · exact nil_bts
    · exact hl
  rw [encF]
  exact (E_bts _).append ((b _ _ (E_bts _)).append ((b _ _ (E_bts _)).append ((b _ _ (E_bts _)).append ((b _ _ (E_bts _)).append ((b _ _ (E_bts _)).append ((b _ _ (spanBytes_bts _)).append (b _ _ ((E_bts _).append h))))))))
theorem encFs_bts {fs : List Fr} (h : BtsF fs) : Bts (encFs fs) := by
  induction fs with
  | nil => exact nil_bts
  | cons f fs ih =>
    rw [encFs_cons]
    exact (encF_bts (h f (by simp))).append (ih fun g hg => h g (by simp [hg]))
theorem encL_bts {fs : List Fr} {bs : List Int} (h : BtsF fs) (he : encL fs = .ok bs) : Bts bs := by
  unfold encL at he
  split at he
  · cases he
  · split at he
    · split at he
      · cases he
      · cases he; exact encFs_bts h
    · cases he
theorem encL_err {fs : List Fr} {c : Int} (he : encL fs = .error c) : c = 1 ∨ c = 6 := by
  unfold encL at he
  split at he
  · cases he; exact .inr rfl
  · split at he
    · split at he
      · cases he; exact .inr rfl
      · cases he
    · cases he; exact .inl rfl

set_option maxHeartbeats 1600000 in
theorem framesBack_walk (v : Value) (fs : List Fr) (w : World) (ht : Tab w) (hr : RdF w v fs) (hx : BtsF fs) : Calls Tryd.prog 4 #[v] w (Yes w) := by
  have hp := ht.pos
  have HT := Lib.hid ht
  have HR := Lib.hid hr
  have HX := Lib.hid hx
  have HE := Lib.hid (encode_any v fs w ht hr)
  clear ht hr hx
  cases he : encL fs with
  | error c =>
    have hc : (c != 0) = true := by rcases encL_err he with rfl | rfl <;> decide
    rw [he] at HE
    go_enter Tryd.func4, Tryd.ntmps4
    go_wp2_with fail
    refine HE.out.mono ?_
    rintro e w1 ⟨b1, rfl⟩
    go_wp2_with fail
    refine (alive_any _ (HT.out.below b1 hp)).mono ?_
    rintro e w2 ⟨rfl, b2⟩
    go_wp2_with fail
    go_ret
    exact ⟨rfl, b1.trans (b2.mono b1.size)⟩
  | ok bs =>
    have HD := Lib.hid (dec_enc he)
    have HB := Lib.hid (encL_bts HX.out he)
    rw [he] at HE
    clear he
    go_enter Tryd.func4, Tryd.ntmps4
    go_wp2_with fail
    refine HE.out.mono ?_
    rintro e w1 ⟨b1, u, rfl, o1⟩
    go_wp2_with fail
    refine (decode_any u bs w1 (HT.out.below b1 hp) o1.rd HB.out).mono ?_
    rw [HD.out]
    rintro e w2 ⟨b2, u2, rfl, o2⟩
    have B2 : Below w.heap.size w w2 := b1.trans (b2.mono b1.size)
    have B3 : Below w.heap.size w (w2.alloc (.cells #[.int .i64 0, .int .i64 0] 37)) := B2.alloc B2.size _
    obtain ⟨ua, uc, rfl⟩ := o2.len
    have O2 := Lib.hid o2
    clear o2 o1
    go_wp2_with fail
    refine (rsame_any v _ fs fs _ (HR.out.below B3) (O2.out.rd.below ((Below.refl _ _).alloc (Nat.le_refl _) _)) HX.out HX.out true (by simp)).mono ?_
    rintro e w4 ⟨rfl, b4⟩
    have B4 : Below w.heap.size w w4 := B3.trans (b4.mono B3.size)
    go_wp2_with fail
    refine (alive_any _ (HT.out.below B4 hp)).mono ?_
    rintro e w5 ⟨rfl, b5⟩
    go_wp2_with fail
    go_ret
    exact ⟨rfl, B4.trans (b5.mono B4.size)⟩
end Go.Proofs.YtfkkimaebhjneaaDoor
