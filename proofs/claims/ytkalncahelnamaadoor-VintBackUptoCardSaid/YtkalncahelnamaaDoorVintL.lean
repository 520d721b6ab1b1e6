/- Walks of layer 1: the laws VintPuts, VintGets. -/
import Derived.Test.YtkalncahelnamaaDoorVintK
namespace Go.Proofs.YtkalncahelnamaaDoor
open Go.RowKit

theorem PutIs.one {l : Option (List Int)} {ys ys' : List Int} {c c' : Int} (h : (∃ zs, l = some zs ∧ ys = zs ∧ c = 0) ∨ (l = none ∧ ys = [] ∧ c = 1)) (h' : (∃ zs, l = some zs ∧ ys' = zs ∧ c' = 0) ∨ (l = none ∧ ys' = [] ∧ c' = 1)) : ys' = ys ∧ c' = c := by
  rcases h with ⟨zs, rfl, rfl, rfl⟩ | ⟨rfl, rfl, rfl⟩
  · rcases h' with ⟨zs', e, rfl, rfl⟩ | ⟨e, _⟩
    · cases e; exact ⟨rfl, rfl⟩
    · cases e
  · rcases h' with ⟨zs', e, _⟩ | ⟨_, rfl, rfl⟩
    · cases e
    · exact ⟨rfl, rfl⟩
theorem PutIs.bts {l : Option (List Int)} {ys : List Int} {c : Int} (hl : ∀ zs, l = some zs → Bts zs) (h : (∃ zs, l = some zs ∧ ys = zs ∧ c = 0) ∨ (l = none ∧ ys = [] ∧ c = 1)) : Bts ys := by
  rcases h with ⟨zs, h, rfl, _⟩ | ⟨_, rfl, _⟩
  · exact hl _ h
  · intro x hx; simp at hx
theorem putL_bts {xs : List Int} (hx : Bts xs) (n width : Int) : ∀ zs, putL xs n width = some zs → Bts zs := by
  intro zs h
  unfold putL at h
  split at h
  · cases h; exact hx.append (enc_bts _ _)
  · cases h
theorem putS_bts {xs : List Int} (hx : Bts xs) (n : Int) : ∀ zs, putS xs n = some zs → Bts zs := by
  intro zs h
  unfold putS at h
  split at h
  · cases h; exact hx.append (enc_bts _ _)
  · cases h

theorem same_yes (a b : Value) (xs : List Int) (w : World) (ha : Rd .u8 w a xs) (hb : Rd .u8 w b xs) (hx : Bts xs) :
    Calls Tryd.prog 14 #[a, b] w fun e w' => e = .returned (.bool true) ∧ w = w' :=
  (same_any a b xs xs w ha hb hx hx).mono fun e w' h => by simpa using h

set_option maxHeartbeats 1000000 in
theorem vintPuts_walk (v : Value) (xs : List Int) (n width : Int) (w : World) (ht : Tab w) (hr : Rd .u8 w v xs) (hx : Bts xs) (hl : xs.length ≤ 140737488351232) (hn : n ≤ 9223372036854775807) :
    Calls Tryd.prog 3 #[v, .int .i64 n, .int .i64 width] w (Yes w) := by
  have hp := ht.pos
  have hT := Lib.hid ht
  have hR := Lib.hid hr
  have hX := Lib.hid hx
  clear ht hr hx
  go_enter Tryd.func3, Tryd.ntmps3
  go_wp2_with fail
  refine (putWide_any v xs n width _ hT.out hR.out hl).mono ?_
  rintro e w1 ⟨u1, y1, c1, rfl, o1, b1, d1⟩
  have D1 := Lib.hid d1
  clear d1
  go_wp2_with fail
  refine (rputWide_any v xs n width _ (hR.out.below b1) hl hn).mono ?_
  rintro e w2 ⟨u2, y2, c2, rfl, o2, b2, d2⟩
  obtain ⟨rfl, rfl⟩ := PutIs.one D1.out d2
  have BY := Lib.hid (PutIs.bts (putL_bts hX.out n width) d2)
  clear d2 D1
  have b12 : Below w.heap.size w w2 := b1.trans (b2.mono b1.size)
  go_wp2_with fail
  refine (put_any v xs n _ (hT.out.below b12 hp) (hR.out.below b12) hl).mono ?_
  rintro e w3 ⟨u3, y3, c3, rfl, o3, b3, d3⟩
  have D3 := Lib.hid d3
  clear d3
  have b13 : Below w.heap.size w w3 := b12.trans (b3.mono b12.size)
  go_wp2_with fail
  refine (rput_any v xs n _ (hR.out.below b13) hl hn).mono ?_
  rintro e w4 ⟨u4, y4, c4, rfl, o4, b4, d4⟩
  obtain ⟨rfl, rfl⟩ := PutIs.one D3.out d4
  have BZ := Lib.hid (PutIs.bts (putS_bts hX.out n) d4)
  clear d4 D3
  have b14 : Below w.heap.size w w4 := b13.trans (b4.mono b13.size)
  have hT4 : Hid (Tab w4) := hT.out.below b14 hp
  go_wp2_with fail
  refine (same_yes u1 u2 _ _ (((o1.rd.below b2).below b3).below b4) ((o2.rd.below b3).below b4) BY.out).mono ?_
  rintro e w5 ⟨rfl, rfl⟩
  go_wp2_with fail
  refine (same_yes u3 u4 _ _ (o3.rd.below b4) o4.rd BZ.out).mono ?_
  rintro e w5 ⟨rfl, rfl⟩
  go_wp2_with fail
  refine (size_any _ _ hT4.out).mono ?_
  rintro e w5 ⟨rfl, rfl⟩
  go_wp2_with fail
  refine (rsize_any _ _ hn).mono ?_
  rintro e w5 ⟨rfl, rfl⟩
  go_wp2_with fail
  refine (alive_any _ hT4.out).mono ?_
  rintro e w5 ⟨rfl, b5⟩
  go_wp2_with fail
  go_ret
  exact ⟨rfl, b14.trans (b5.mono b14.size)⟩

set_option maxHeartbeats 1000000 in
theorem vintGets_walk (v : Value) (xs : List Int) (a : Int) (w : World) (ht : Tab w) (hr : Rd .u8 w v xs) (hx : Bts xs) :
    Calls Tryd.prog 4 #[v, .int .i64 a] w (Yes w) := by
  have hp := ht.pos
  have hT := Lib.hid ht
  have hR := Lib.hid hr
  obtain ⟨n, m, y, z, h1, h2⟩ := gets_same v xs a hx
  have H1 := Lib.hid h1
  have H2 := Lib.hid h2
  clear ht hr hx h1 h2
  go_enter Tryd.func4, Tryd.ntmps4
  go_wp2_with fail
  refine (H1.out w hT.out hR.out).mono ?_
  rintro e w1 ⟨rfl, b1⟩
  have z1 := b1.size
  go_wp2_with fail
  refine (H2.out _ (hR.out.below (b1.alloc (by omega) _))).mono ?_
  rintro e w2 ⟨rfl, b2⟩
  have z2 := b2.size
  simp only [World.size_alloc] at z2
  have bb : Below w.heap.size w w2 := (b1.alloc (by omega) _).trans (b2.mono (by simp; omega))
  have bc : w2.cell? ⟨w1.heap.size, 0, none⟩ = some (.int .i64 y) := (b2.cell (p := ⟨w1.heap.size, 0, none⟩) (by simp)).trans (by rw [World.cell?_alloc_at _ _ _ _ rfl]; rfl)
  have bd : w2.cell? ⟨w1.heap.size, 1, none⟩ = some (.int .i64 z) := (b2.cell (p := ⟨w1.heap.size, 1, none⟩) (by simp)).trans (by rw [World.cell?_alloc_at _ _ _ _ rfl]; rfl)
  have hT2 : Hid (Tab (w2.alloc (.cells #[.int .i64 y, .int .i64 z] 35))) := hT.out.below (bb.alloc (by omega) _) hp
  have z3 : w1.heap.size < w2.heap.size := by omega
  clear b2
  go_wp2_with fail
  refine (alive_any _ hT2.out).mono ?_
  rintro e w5 ⟨rfl, b5⟩
  go_wp2_with fail
  go_ret
  exact ⟨rfl, (bb.alloc (by omega) _).trans (b5.mono (by simp; omega))⟩
end Go.Proofs.YtkalncahelnamaaDoor
