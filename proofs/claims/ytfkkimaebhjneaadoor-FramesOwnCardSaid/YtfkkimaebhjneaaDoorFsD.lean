/- Walks of layer 4: alive. -/
import Derived.Test.YtfkkimaebhjneaaDoorFsC
import Derived.Test.YtfkkimaebhjneaaDoorFrQ
set_option linter.unusedSimpArgs false
set_option linter.unusedVariables false
namespace Go.Proofs.YtfkkimaebhjneaaDoor
open Go.RowKit

theorem RdC.lit (m n : Nat) (w : World) (cs : Array Value) (e : TypeId) (hm : cs.size = n * m) (hn : 0 < n) (hx : n ≤ maxLen) : RdC m (w.alloc (.cells cs e)) (.slice (some ⟨w.heap.size, 0, none⟩) n n) n cs.toList := by
  refine ⟨by simpa using hm, .inr ⟨hn, w.heap.size, 0, n, rfl, Nat.le_refl _, hx, by simp, fun j u hu => ?_⟩⟩
  rw [World.cell?_alloc_at _ _ _ _ rfl, Nat.zero_add]
  simpa using hu
theorem RdF.one {w : World} {g : FV} (h : FvRd w g) : RdF (w.alloc (.cells (frCell g).toArray 33)) (.slice (some ⟨w.heap.size, 0, none⟩) 1 1) [g.f] := by
  have hb : Below w.heap.size w (w.alloc (.cells (frCell g).toArray 33)) := (Below.refl _ _).alloc (Nat.le_refl _) _
  refine ⟨[g], rfl, ?_, fun x hx => ?_⟩
  · have := RdC.lit 8 1 w (frCell g).toArray 33 rfl (by omega) (by decide)
    simpa [frC] using this
  · simp only [List.mem_singleton] at hx
    subst hx
    exact ⟨h.1.below hb, h.2.below hb⟩

theorem same_yes (a b : Value) (xs : List Int) (w : World) (ha : Rd .u8 w a xs) (hb : Rd .u8 w b xs) (hx : Bts xs) :
    Calls Tryd.prog 11 #[a, b] w fun e w' => e = .returned (.bool true) ∧ w = w' :=
  (same_any a b xs xs w ha hb hx hx).mono fun e w' h => by simpa using h
def liveF : Fr := ⟨2, 0, 0, 0, 0, false, [], [(2, 3), (7, 9)]⟩
theorem live_enc : encL [liveF] = .ok [2, 9, 0, 1, 2, 2, 1] := by kernel_rfl
theorem live_dec : decL [2, 9, 0, 1, 2, 2, 1] = .ok [liveF] := by kernel_rfl
theorem live_may : mayF liveF = true := by decide +kernel

set_option maxHeartbeats 3200000 in
theorem alive_any (w : World) (ht : Tab w) : Calls Tryd.prog 18 #[] w (Yes w) := by
  have hp := ht.pos
  have HT := Lib.hid ht
  have b1 : Below w.heap.size w (w.alloc (.cells #[.int .i64 2, .int .i64 3, .int .i64 7, .int .i64 9] 44)) := (Below.refl _ _).alloc (Nat.le_refl _) _
  have s1 : RdS (w.alloc (.cells #[.int .i64 2, .int .i64 3, .int .i64 7, .int .i64 9] 44)) (.slice (some ⟨w.heap.size, 0, none⟩) 2 2) [(2, 3), (7, 9)] := RdC.lit 2 2 w #[.int .i64 2, .int .i64 3, .int .i64 7, .int .i64 9] 44 rfl (by omega) (by decide)
  clear ht
  go_enter Tryd.func18, Tryd.ntmps18
  go_wp2_with fail
  have b2 : Below w.heap.size w ((w.alloc (.cells #[.int .i64 2, .int .i64 3, .int .i64 7, .int .i64 9] 44)).alloc (.cells #[.int .i64 2, .int .i64 0, .int .i64 0, .int .i64 0, .int .i64 0, .bool false, .slice none 0 0, .slice (some ⟨w.heap.size, 0, none⟩) 2 2] 33)) := b1.alloc b1.size _
  have b3 : Below w.heap.size w (((w.alloc (.cells #[.int .i64 2, .int .i64 3, .int .i64 7, .int .i64 9] 44)).alloc (.cells #[.int .i64 2, .int .i64 0, .int .i64 0, .int .i64 0, .int .i64 0, .bool false, .slice none 0 0, .slice (some ⟨w.heap.size, 0, none⟩) 2 2] 33)).alloc (.cells #[.int .i64 2, .int .i64 0, .int .i64 0, .int .i64 0, .int .i64 0, .bool false, .slice none 0 0, .slice (some ⟨w.heap.size, 0, none⟩) 2 2] 33)) := b2.alloc b2.size _
  have r3 : RdF (((w.alloc (.cells #[.int .i64 2, .int .i64 3, .int .i64 7, .int .i64 9] 44)).alloc (.cells #[.int .i64 2, .int .i64 0, .int .i64 0, .int .i64 0, .int .i64 0, .bool false, .slice none 0 0, .slice (some ⟨w.heap.size, 0, none⟩) 2 2] 33)).alloc (.cells #[.int .i64 2, .int .i64 0, .int .i64 0, .int .i64 0, .int .i64 0, .bool false, .slice none 0 0, .slice (some ⟨w.heap.size, 0, none⟩) 2 2] 33)) (.slice (some ⟨w.heap.size + 1 + 1, 0, none⟩) 1 1) [liveF] := by
    have := RdF.one (w := ((w.alloc (.cells #[.int .i64 2, .int .i64 3, .int .i64 7, .int .i64 9] 44)).alloc (.cells #[.int .i64 2, .int .i64 0, .int .i64 0, .int .i64 0, .int .i64 0, .bool false, .slice none 0 0, .slice (some ⟨w.heap.size, 0, none⟩) 2 2] 33))) (g := ⟨liveF, .slice none 0 0, .slice (some ⟨w.heap.size, 0, none⟩) 2 2⟩) ⟨Rd.nil _ _, s1.below ((Below.refl _ _).alloc (Nat.le_refl _) _)⟩
    rw [World.size_alloc, World.size_alloc] at this
    exact this
  have k3 : Hid ((((w.alloc (.cells #[.int .i64 2, .int .i64 3, .int .i64 7, .int .i64 9] 44)).alloc (.cells #[.int .i64 2, .int .i64 0, .int .i64 0, .int .i64 0, .int .i64 0, .bool false, .slice none 0 0, .slice (some ⟨w.heap.size, 0, none⟩) 2 2] 33)).alloc (.cells #[.int .i64 2, .int .i64 0, .int .i64 0, .int .i64 0, .int .i64 0, .bool false, .slice none 0 0, .slice (some ⟨w.heap.size, 0, none⟩) 2 2] 33)).heap[w.heap.size + 1]? = some (.cells #[.int .i64 2, .int .i64 0, .int .i64 0, .int .i64 0, .int .i64 0, .bool false, .slice none 0 0, .slice (some ⟨w.heap.size, 0, none⟩) 2 2] 33 (0, 0))) := by
    refine (Below.heap_alloc _ _ _ (by simp)).trans ?_
    have := alloc_at (w.alloc (.cells #[.int .i64 2, .int .i64 3, .int .i64 7, .int .i64 9] 44)) (.cells #[.int .i64 2, .int .i64 0, .int .i64 0, .int .i64 0, .int .i64 0, .bool false, .slice none 0 0, .slice (some ⟨w.heap.size, 0, none⟩) 2 2] 33)
    rw [World.size_alloc] at this
    exact this
  have s3 : Hid (RdS (((w.alloc (.cells #[.int .i64 2, .int .i64 3, .int .i64 7, .int .i64 9] 44)).alloc (.cells #[.int .i64 2, .int .i64 0, .int .i64 0, .int .i64 0, .int .i64 0, .bool false, .slice none 0 0, .slice (some ⟨w.heap.size, 0, none⟩) 2 2] 33)).alloc (.cells #[.int .i64 2, .int .i64 0, .int .i64 0, .int .i64 0, .int .i64 0, .bool false, .slice none 0 0, .slice (some ⟨w.heap.size, 0, none⟩) 2 2] 33)) (.slice (some ⟨w.heap.size, 0, none⟩) 2 2) [(2, 3), (7, 9)]) := s1.below (((Below.refl _ _).alloc (Nat.le_refl _) _).alloc (by simp) _)
  refine (encode_any _ [liveF] _ (HT.out.below b3 hp) r3).mono ?_
  rw [live_enc]
  rintro e w4 ⟨b4, u4, rfl, o4⟩
  have B4 : Below w.heap.size w w4 := b3.trans (b4.mono b3.size)
  have hsz : (((w.alloc (.cells #[.int .i64 2, .int .i64 3, .int .i64 7, .int .i64 9] 44)).alloc (.cells #[.int .i64 2, .int .i64 0, .int .i64 0, .int .i64 0, .int .i64 0, .bool false, .slice none 0 0, .slice (some ⟨w.heap.size, 0, none⟩) 2 2] 33)).alloc (.cells #[.int .i64 2, .int .i64 0, .int .i64 0, .int .i64 0, .int .i64 0, .bool false, .slice none 0 0, .slice (some ⟨w.heap.size, 0, none⟩) 2 2] 33)).heap.size = w.heap.size + 3 := by simp
  have k4 : Hid (w4.heap[w.heap.size + 1]? = _) := (b4.block _ (by simp)).trans k3.out
  have s4 : Hid (RdS w4 (.slice (some ⟨w.heap.size, 0, none⟩) 2 2) [(2, 3), (7, 9)]) := s3.out.below b4
  have O4 := Lib.hid o4
  have z4 := B4.size
  clear b1 b2 b3 s1 r3 k3 s3 b4 o4 hsz
  go_wp2_with fail
  refine (decode_any u4 [2, 9, 0, 1, 2, 2, 1] w4 (HT.out.below B4 hp) O4.out.rd (by intro x hx; simp at hx; omega)).mono ?_
  rw [live_dec]
  rintro e w5 ⟨b5, u5, rfl, o5⟩
  have B5 : Below w.heap.size w w5 := B4.trans (b5.mono B4.size)
  have l4 : w.heap.size + 1 < w4.heap.size := (Array.getElem?_eq_some_iff.1 k4.out).1
  have k5 : Hid (w5.heap[w.heap.size + 1]? = _) := (b5.block _ l4).trans k4.out
  have s5 : Hid (RdS w5 (.slice (some ⟨w.heap.size, 0, none⟩) 2 2) [(2, 3), (7, 9)]) := s4.out.below b5
  obtain ⟨ua, uc, rfl⟩ := o5.len
  have O5 := Lib.hid o5
  have z5 := B5.size
  have OB := Lib.hid (O4.out.below b5)
  clear b5 k4 s4 o5 O4
  go_wp2_with fail
  have b6 : Below w5.heap.size w5 ((w5.alloc (.cells #[.int .i64 0, .int .i64 0] 37)).alloc (.cells #[.int .u8 2, .int .u8 9, .int .u8 0, .int .u8 1, .int .u8 2, .int .u8 2, .int .u8 1] 5)) := ((Below.refl _ _).alloc (Nat.le_refl _) _).alloc (by simp) _
  have l5 : w.heap.size + 1 < w5.heap.size := (Array.getElem?_eq_some_iff.1 k5.out).1
  refine (same_yes u4 _ [2, 9, 0, 1, 2, 2, 1] _ (OB.out.rd.below b6) (Rd.lit' [2, 9, 0, 1, 2, 2, 1] (by simp) 7 _ rfl (by decide) _ rfl (by simp)) (by intro x hx; simp at hx; omega)).mono ?_
  rintro e w' ⟨rfl, rfl⟩
  have k6 : Hid (((w5.alloc (.cells #[.int .i64 0, .int .i64 0] 37)).alloc (.cells #[.int .u8 2, .int .u8 9, .int .u8 0, .int .u8 1, .int .u8 2, .int .u8 2, .int .u8 1] 5)).heap[w.heap.size + 1]? = _) := (b6.block _ l5).trans k5.out
  have c0 := Joins.cell_of_block k6.out 0
  have c1 := Joins.cell_of_block k6.out 1
  have c2 := Joins.cell_of_block k6.out 2
  have c3 := Joins.cell_of_block k6.out 3
  have c4 := Joins.cell_of_block k6.out 4
  have c5 := Joins.cell_of_block k6.out 5
  have c6 := Joins.cell_of_block k6.out 6
  have c7 := Joins.cell_of_block k6.out 7
  have n1 : ¬ (w.heap.size + 1 = w5.heap.size) := by omega
  have n2 : ¬ (w.heap.size = w5.heap.size) := by omega
  have s6 : Hid (RdS ((w5.alloc (.cells #[.int .i64 0, .int .i64 0] 37)).alloc (.cells #[.int .u8 2, .int .u8 9, .int .u8 0, .int .u8 1, .int .u8 2, .int .u8 2, .int .u8 1] 5)) (.slice (some ⟨w.heap.size, 0, none⟩) 2 2) [(2, 3), (7, 9)]) := s5.out.below b6
  go_wp2_with fail
  have b7 : Below w5.heap.size w5 (((w5.alloc (.cells #[.int .i64 0, .int .i64 0] 37)).alloc (.cells #[.int .u8 2, .int .u8 9, .int .u8 0, .int .u8 1, .int .u8 2, .int .u8 2, .int .u8 1] 5)).alloc (.cells #[.int .i64 2, .int .i64 0, .int .i64 0, .int .i64 0, .int .i64 0, .bool false, .slice none 0 0, .slice (some ⟨w.heap.size, 0, none⟩) 2 2] 33)) := b6.alloc b6.size _
  have r7 : RdF (((w5.alloc (.cells #[.int .i64 0, .int .i64 0] 37)).alloc (.cells #[.int .u8 2, .int .u8 9, .int .u8 0, .int .u8 1, .int .u8 2, .int .u8 2, .int .u8 1] 5)).alloc (.cells #[.int .i64 2, .int .i64 0, .int .i64 0, .int .i64 0, .int .i64 0, .bool false, .slice none 0 0, .slice (some ⟨w.heap.size, 0, none⟩) 2 2] 33)) (.slice (some ⟨w5.heap.size + 1 + 1, 0, none⟩) 1 1) [liveF] := by
    have := RdF.one (w := ((w5.alloc (.cells #[.int .i64 0, .int .i64 0] 37)).alloc (.cells #[.int .u8 2, .int .u8 9, .int .u8 0, .int .u8 1, .int .u8 2, .int .u8 2, .int .u8 1] 5))) (g := ⟨liveF, .slice none 0 0, .slice (some ⟨w.heap.size, 0, none⟩) 2 2⟩) ⟨Rd.nil _ _, s6.out⟩
    rw [World.size_alloc, World.size_alloc] at this
    exact this
  have hbt : BtsF [liveF] := by intro f hf; simp only [List.mem_singleton] at hf; subst hf; intro x hx; cases hx
  refine (rsame_any _ _ [liveF] [liveF] _ (O5.out.rd.below b7) r7 hbt hbt true (by simp)).mono ?_
  rintro e w8 ⟨rfl, b8⟩
  have b58 : Below w5.heap.size w5 w8 := b7.trans (b8.mono b7.size)
  have k8 : Hid (w8.heap[w.heap.size + 1]? = _) := (b58.block _ l5).trans k5.out
  have B8 : Below w.heap.size w w8 := B5.trans (b58.mono z5)
  have d0 := Joins.cell_of_block k8.out 0
  have d1 := Joins.cell_of_block k8.out 1
  have d2 := Joins.cell_of_block k8.out 2
  have d3 := Joins.cell_of_block k8.out 3
  have d4 := Joins.cell_of_block k8.out 4
  have d5 := Joins.cell_of_block k8.out 5
  have d6 := Joins.cell_of_block k8.out 6
  have d7 := Joins.cell_of_block k8.out 7
  have s8 : Hid (RdS w8 (.slice (some ⟨w.heap.size, 0, none⟩) 2 2) [(2, 3), (7, 9)]) := s5.out.below b58
  clear b6 b7 r7 b8 c0 c1 c2 c3 c4 c5 c6 c7 s6
  go_wp2_with fail
  refine (may_any liveF none (some ⟨w.heap.size, 0, none⟩) 0 2 w8 (Rd.nil _ _) s8.out).mono ?_
  rw [live_may]
  rintro e w9 ⟨rfl, b9⟩
  have l8 : w.heap.size + 1 < w8.heap.size := (Array.getElem?_eq_some_iff.1 k8.out).1
  have k9 : Hid (w9.heap[w.heap.size + 1]? = _) := (b9.block _ l8).trans k8.out
  have B9 : Below w.heap.size w w9 := B8.trans (b9.mono B8.size)
  have e0 := Joins.cell_of_block k9.out 0
  have e1 := Joins.cell_of_block k9.out 1
  have e2 := Joins.cell_of_block k9.out 2
  have e3 := Joins.cell_of_block k9.out 3
  have e4 := Joins.cell_of_block k9.out 4
  have e5 := Joins.cell_of_block k9.out 5
  have e6 := Joins.cell_of_block k9.out 6
  have e7 := Joins.cell_of_block k9.out 7
  go_wp2_with fail
  refine (asks_any liveF none (some ⟨w.heap.size, 0, none⟩) 0 2 0 2 w9).mono ?_
  rintro e wa ⟨rfl, ba⟩
  have ha : asksF liveF = false := by decide
  rw [ha]
  go_wp2
  go_ret
  exact ⟨rfl, B9.trans (ba.mono B9.size)⟩
end Go.Proofs.YtfkkimaebhjneaaDoor
