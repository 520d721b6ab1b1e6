/- Walks of layer 1: Ints; the law VintAll. -/
import Derived.Test.YtkalncahelnamaaDoorVintN
namespace Go.Proofs.YtkalncahelnamaaDoor
open Go.RowKit

set_option maxHeartbeats 800000 in
theorem ints_yes (a b : Value) (xs : List Int) (w : World) (ha : Rd .i64 w a xs) (hb : Rd .i64 w b xs) :
    Calls Tryd.prog 22 #[a, b] w (Yes w) := by
  have hl : xs.length ≤ 9223372036854775807 := ha.len
  rcases ha with ⟨h0, a1, c1, rfl, _⟩ | ⟨h0, b1, o1, c1, rfl, g1, g2, g3, g4⟩
  · subst h0
    rcases hb with ⟨_, a2, c2, rfl, _⟩ | ⟨h0, _⟩
    · go_enter Tryd.func22, Tryd.ntmps22
      go_wp2
      go_rounds 1
      go_ret
      exact ⟨rfl, Below.refl _ _⟩
    · exact absurd rfl h0
  · rcases hb with ⟨h, _⟩ | ⟨_, b2, o2, c2, rfl, k1, k2, k3, k4⟩
    · exact absurd h h0
    have G4 := Lib.hid g4
    have K4 := Lib.hid k4
    have G2 := Lib.hid g2
    have K2 := Lib.hid k2
    clear g4 k4 h0 g2 k2
    go_enter Tryd.func22, Tryd.ntmps22
    go_wp2
    go_loopw [5] (fun i wr => ∃ k : Nat, k ≤ xs.length ∧ i = .int .i64 k ∧ Below w.heap.size w wr) (fun i _ => xs.length - (intOf i).toNat)
    case atStart => exact ⟨0, Nat.zero_le _, rfl, Below.refl _ _⟩
    case round =>
      obtain ⟨k, hk, rfl, hbl⟩ := hrel
      by_cases hlt : k < xs.length
      · have e1 : wr.cell? ⟨b1, o1 + k, none⟩ = some (.int .i64 (xs.getD k 0)) := (hbl.cell (p := ⟨b1, o1 + k, none⟩) g3).trans (G4.out k hlt)
        have e2 : wr.cell? ⟨b2, o2 + k, none⟩ = some (.int .i64 (xs.getD k 0)) := (hbl.cell (p := ⟨b2, o2 + k, none⟩) k3).trans (K4.out k hlt)
        obtain ⟨d, hd⟩ : ∃ d, d = xs.getD k 0 := ⟨_, rfl⟩
        rw [← hd] at e1 e2
        clear hd
        go_wp2
        go_quiet (fail)
        go_wp2
        go_roundw
        case rel => exact ⟨k + 1, by omega, by go_num, below_drewN hbl _⟩
        case measure => simp [intOf]; omega
      · go_wp2
        go_ret
        exact ⟨rfl, hbl⟩

theorem AllIs.one {xs ys ys' : List Int} {c d c' d' : Int} (h : (allS xs xs.length 0 [] = some ys ∧ c = 0 ∧ d = 0) ∨ (allS xs xs.length 0 [] = none ∧ ys = [] ∧ c = 3 ∧ d = xs.length))
    (h' : (allS xs xs.length 0 [] = some ys' ∧ c' = 0 ∧ d' = 0) ∨ (allS xs xs.length 0 [] = none ∧ ys' = [] ∧ c' = 3 ∧ d' = xs.length)) : ys' = ys ∧ c' = c ∧ d' = d := by
  rcases h with ⟨h, rfl, rfl⟩ | ⟨h, rfl, rfl, rfl⟩ <;> rcases h' with ⟨h', rfl, rfl⟩ | ⟨h', rfl, rfl, rfl⟩
  · rw [h] at h'; cases h'; exact ⟨rfl, rfl, rfl⟩
  · rw [h] at h'; cases h'
  · rw [h] at h'; cases h'
  · exact ⟨rfl, rfl, rfl⟩

set_option maxHeartbeats 1000000 in
theorem vintAll_walk (v : Value) (xs : List Int) (w : World) (ht : Tab w) (hr : Rd .u8 w v xs) (hx : Bts xs) (hroom : Room xs) :
    Calls Tryd.prog 5 #[v] w (Yes w) := by
  have hp := ht.pos
  have hT := Lib.hid ht
  have hR := Lib.hid hr
  have H1 := Lib.hid (all_any v xs w ht hr hx hroom)
  have H2 : Hid (∀ w1, Below w.heap.size w w1 → Calls Tryd.prog 21 #[v] w1 (AllIs w1 xs)) := fun w1 hb => rall_any v xs w1 (hr.below hb) hx hroom
  clear ht hr hx hroom
  go_enter Tryd.func5, Tryd.ntmps5
  go_wp2_with fail
  refine H1.out.mono ?_
  rintro e w1 ⟨u1, y1, c1, d1, rfl, o1, b1, D1⟩
  have DD1 := Lib.hid D1
  have z1 := b1.size
  clear D1
  go_wp2_with fail
  refine (H2.out _ (b1.alloc (by omega) _)).mono ?_
  rintro e w2 ⟨u2, y2, c2, d2, rfl, o2, b2, D2⟩
  obtain ⟨rfl, rfl, rfl⟩ := AllIs.one DD1.out D2
  have z2 := b2.size
  simp only [World.size_alloc] at z2
  have bb : Below w.heap.size w w2 := (b1.alloc (by omega) _).trans (b2.mono (by simp; omega))
  have bc : w2.cell? ⟨w1.heap.size, 0, none⟩ = some (.int .i64 c2) := (b2.cell (p := ⟨w1.heap.size, 0, none⟩) (by simp)).trans (by rw [World.cell?_alloc_at _ _ _ _ rfl]; rfl)
  have bd : w2.cell? ⟨w1.heap.size, 1, none⟩ = some (.int .i64 d2) := (b2.cell (p := ⟨w1.heap.size, 1, none⟩) (by simp)).trans (by rw [World.cell?_alloc_at _ _ _ _ rfl]; rfl)
  have hT2 : Hid (Tab (w2.alloc (.cells #[.int .i64 c2, .int .i64 d2] 35))) := hT.out.below (bb.alloc (by omega) _) hp
  have R1 : Hid (Rd .i64 (w2.alloc (.cells #[.int .i64 c2, .int .i64 d2] 35)) u1 y2) := (((o1.alloc _).keep b2).alloc _).rd
  have R2 : Hid (Rd .i64 (w2.alloc (.cells #[.int .i64 c2, .int .i64 d2] 35)) u2 y2) := (o2.alloc _).rd
  have z3 : w1.heap.size < w2.heap.size := by omega
  clear b2 D2 DD1 o1 o2
  go_wp2_with fail
  refine (ints_yes u1 u2 y2 _ R1.out R2.out).mono ?_
  rintro e w3 ⟨rfl, b3⟩
  have bc3 : w3.cell? ⟨w1.heap.size, 0, none⟩ = some (.int .i64 c2) := (b3.cell (p := ⟨w1.heap.size, 0, none⟩) (by simp; omega)).trans (by rw [World.cell?_alloc_past _ _ _ z3]; exact bc)
  have bd3 : w3.cell? ⟨w1.heap.size, 1, none⟩ = some (.int .i64 d2) := (b3.cell (p := ⟨w1.heap.size, 1, none⟩) (by simp; omega)).trans (by rw [World.cell?_alloc_past _ _ _ z3]; exact bd)
  have be3 : w3.cell? ⟨w2.heap.size, 0, none⟩ = some (.int .i64 c2) := (b3.cell (p := ⟨w2.heap.size, 0, none⟩) (by simp)).trans (by rw [World.cell?_alloc_at _ _ _ _ rfl]; rfl)
  have bf3 : w3.cell? ⟨w2.heap.size, 1, none⟩ = some (.int .i64 d2) := (b3.cell (p := ⟨w2.heap.size, 1, none⟩) (by simp)).trans (by rw [World.cell?_alloc_at _ _ _ _ rfl]; rfl)
  have z4 := b3.size
  simp only [World.size_alloc] at z4
  have hT3 : Hid (Tab w3) := hT.out.below ((bb.alloc (by omega) _).trans (b3.mono (by simp; omega))) hp
  go_wp2_with fail
  refine (alive_any _ hT3.out).mono ?_
  rintro e w5 ⟨rfl, b5⟩
  go_wp2_with fail
  go_ret
  exact ⟨rfl, ((bb.alloc (by omega) _).trans (b3.mono (by simp; omega))).trans (b5.mono (by omega))⟩
end Go.Proofs.YtkalncahelnamaaDoor
