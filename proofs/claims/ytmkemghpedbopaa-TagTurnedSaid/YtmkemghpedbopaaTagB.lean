/- Walks of layer 2: alive, Seal. -/
import Derived.Test.YtmkemghpedbopaaTagA
import Derived.Lib.SlBytesConst
namespace Go.Proofs.Ytmkemghpedbopaa
open Go.RowKit

theorem be_eight (m : Nat) : be m 8 = [tb m 0, tb m 1, tb m 2, tb m 3, tb m 4, tb m 5, tb m 6, tb m 7] := by
  have h : ∀ i, ((m / 256 ^ (7 - i) % 256 : Nat) : Int) = tb m i := fun i => by
    unfold tb; rw [Int.natCast_emod, Int.natCast_ediv]; rfl
  rw [be_cons, be_cons, be_cons, be_cons, be_cons, be_cons, be_cons, be_cons, ← h 0, ← h 1, ← h 2, ← h 3, ← h 4, ← h 5, ← h 6, ← h 7]
  rfl
theorem be_tag (key : Int) (xs : List Int) : be (tagB key xs).toNat 8 = [tb (tagI key xs) 0, tb (tagI key xs) 1, tb (tagI key xs) 2, tb (tagI key xs) 3, tb (tagI key xs) 4, tb (tagI key xs) 5, tb (tagI key xs) 6, tb (tagI key xs) 7] := be_eight _

theorem Own.of_heap {k : IntKind} {e B : Nat} {w : World} {g n : Nat} (zs : List Int) (hB : B ≤ g) (hg : w.heap[g]? = some (.cells (zs.map (Value.int k)).toArray e (0, 0))) (hn : n = zs.length) (hm : n ≤ maxLen) : Own k e w B (.slice (some ⟨g, 0, none⟩) n n) zs := by
  subst hn
  exact ⟨by simp, .inr ⟨g, zs.length, _, rfl, hB, hg, Nat.le_refl _, hm, by simp, by simp [List.take_of_length_le]⟩⟩
theorem Own.heap {k : IntKind} {e B : Nat} {w : World} {g n : Nat} {zs : List Int} (h : Own k e w B (.slice (some ⟨g, 0, none⟩) n n) zs) : w.heap[g]? = some (.cells (zs.map (Value.int k)).toArray e (0, 0)) := by
  rcases h.2 with ⟨q, _⟩ | ⟨g', cap', cur, q, hb, hg, hn, hmx, hcs, htk⟩
  · cases q
  · simp only [Value.slice.injEq, Option.some.injEq, Addr.mk.injEq, and_true] at q
    obtain ⟨rfl, q1, q2⟩ := q
    subst q1
    rw [hg, ← htk, List.take_of_length_le (by rw [Array.length_toList, hcs]; omega)]

theorem alive_tag : tagI 0 [97] = 12638187200555641996 := by decide +kernel
theorem alive_any (w : World) : Calls Try.prog 12 #[] w fun e w' => e = .returned (.bool true) ∧ Below w.heap.size w w' := by
  have ha := Lib.hid alive_tag
  have kc := Lib.run_convert_bytes_const (P := Try.prog) w 23 5 #[.int .u8 97] 1 1 Try.underlying23 Try.underlying5
  have hr : Hid (Rd .u8 (w.alloc (.cells #[.int .u8 97] 5 (1, 2))) (.slice (some ⟨w.heap.size, 0, none⟩) 1 1) [97]) := by
    refine .inr ⟨by simp, w.heap.size, 0, 1, rfl, by simp, by simp [maxLen], by simp, fun i hi => ?_⟩
    obtain rfl : i = 0 := by simpa using hi
    rw [World.cell?_alloc_mark]; rfl
  go_enter Try.func12, Try.ntmps12
  go_wp2_with fail
  refine (of_any 0 _ [97] _ hr.out (by intro x hx; simp at hx; omega)).mono ?_
  rintro e w1 ⟨rfl, rfl⟩
  rw [ha.out]
  go_wp2
  go_ret
  exact ⟨rfl, (Below.refl _ _).alloc (Nat.le_refl _) _⟩

/-- bytes of the call's own -/
def BytesIs (w : World) (xs : List Int) (e : Ending) (w' : World) : Prop := ∃ u, e = .returned u ∧ Own .u8 5 w' w.heap.size u xs ∧ Below w.heap.size w w'

set_option maxHeartbeats 1600000 in
theorem seal_any (key : Int) (v : Value) (xs : List Int) (w : World) (hr : Rd .u8 w v xs) (hx : Bts xs) (hl : xs.length ≤ 140737488355328) :
    Calls Try.prog 16 #[.int .u64 key, v] w (BytesIs w (sealL key xs)) := by
  have hR := Lib.hid hr
  obtain ⟨va, vc, rfl⟩ := hr.isSlice
  clear hr
  have t0 := tagI_lo key xs
  have t1 := tagI_hi key xs
  go_enter Try.func16, Try.ntmps16
  go_wp2_with fail
  refine (of_any key _ xs _ hR.out hx).mono ?_
  rintro e w1 ⟨rfl, rfl⟩
  go_wp2_with fail
  refine (spread_any (tagI key xs) _ t0 t1).mono ?_
  rintro e w1 ⟨rfl, b1⟩
  have z1 := b1.size
  have b2 := b1.alloc (o := .cells #[.int .u8 (tb (tagI key xs) 0), .int .u8 (tb (tagI key xs) 1), .int .u8 (tb (tagI key xs) 2), .int .u8 (tb (tagI key xs) 3), .int .u8 (tb (tagI key xs) 4), .int .u8 (tb (tagI key xs) 5), .int .u8 (tb (tagI key xs) 6), .int .u8 (tb (tagI key xs) 7)] 38) z1
  have z2 := b2.size
  have rt := Lib.hid (Rd.lit' (w := w1) (k := .u8) (e := 38) (be (tagB key xs).toNat 8) (by rw [be_tag]; simp) 8 w1.heap.size (by rw [be_len]) (by unfold maxLen; omega) #[.int .u8 (tb (tagI key xs) 0), .int .u8 (tb (tagI key xs) 1), .int .u8 (tb (tagI key xs) 2), .int .u8 (tb (tagI key xs) 3), .int .u8 (tb (tagI key xs) 4), .int .u8 (tb (tagI key xs) 5), .int .u8 (tb (tagI key xs) 6), .int .u8 (tb (tagI key xs) 7)] (by rw [be_tag]; simp) rfl)
  go_wp2_with (first
    | (at_make; refine wpList_make_nums _ rfl _ _ _ rfl elemU8 Try.underlying23 .i64 .i64 _ _ (xs.length + 8) rfl rfl (by simp) (by simp) (by omega) (by unfold maxLen; omega) w.heap.size b2.size ?_; intro w3 o3 g3; have b3 : Below w.heap.size w w3 := b2.grown g3 b2.size (by simp); have r3 := hR.out.below b3; have t3 := rt.out.below ((Below.refl _ _).grown g3 (Nat.le_refl _) (by simp)); simp only [World.size_alloc] at o3)
    | ((with_reducible refine wpList_copy_rd _ ?_ (.tmp 15) (.tmp 16) 23 23 ?_ elemU8 Try.underlying23 w.heap.size _ (List.replicate (xs.length + 8) 0) ?_ o3 (.slice va xs.length vc) xs ?_ r3 ?_ ?_); rfl; rfl; rfl; rfl; (simp); intro w4 o4 g4; have b4 : Below w.heap.size w w4 := b3.grown g4 b3.size o3.blk))
  have z3 : w1.heap.size + 1 < w3.heap.size := o3.blt _ rfl
  have b34 : Below (w1.heap.size + 1) w3 w4 := (Below.refl _ _).grown g4 (by omega) (by simp [Value.ownBlock])
  have t4 : Rd .u8 w4 (.slice (some ⟨w1.heap.size, 0, none⟩) 8 8) (be (tagB key xs).toNat 8) := by
    rcases t3 with ⟨h0, _⟩ | ⟨h0, b, o, c, q, h2, h3, h4, h5⟩
    · exact absurd (congrArg List.length h0) (by rw [be_len]; simp)
    · simp only [Value.slice.injEq, Option.some.injEq, Addr.mk.injEq, and_true] at q
      obtain ⟨⟨rfl, rfl⟩, q1, rfl⟩ := q
      exact .inr ⟨h0, w1.heap.size, 0, 8, by rw [be_len], h2, h3, Nat.lt_of_lt_of_le h4 b34.size, fun i hi => (b34.cell (p := ⟨_, 0 + i, none⟩) (Nat.lt_succ_self _)).trans (h5 i hi)⟩
  have o5 : Own .u8 5 w4 w.heap.size (.slice (some ⟨w1.heap.size + 1, 0, none⟩) (xs.length + 8) (xs.length + 8)) (xs ++ List.replicate 8 0) := by simpa using o4
  have hp : Hid (w4.drew.heap[w1.heap.size + 1]? = some (.cells ((xs ++ List.replicate 8 0).map (Value.int .u8)).toArray 5 (0, 0))) := o5.heap
  obtain ⟨cs, hcs⟩ : ∃ cs, cs = (be (tagB key xs).toNat 8).map (Value.int .u8) := ⟨_, rfl⟩
  have cl : cs.length = 8 := by rw [hcs, List.length_map, be_len]
  have csrc : Hid (∀ j v, cs[j]? = some v → w4.drew.cell? ((⟨w1.heap.size, 0, none⟩ : Addr).add j) = some v) := by
    intro j u hu
    rcases t4 with ⟨h0, _⟩ | ⟨h0, b, o, c, q, h2, h3, h4, h5⟩
    · exact absurd (congrArg List.length h0) (by rw [be_len]; simp)
    · simp only [Value.slice.injEq, Option.some.injEq, Addr.mk.injEq, and_true] at q
      obtain ⟨⟨rfl, rfl⟩, q1, rfl⟩ := q
      exact Rd.src h5 j u (by rw [← hcs]; exact hu)
  have c1 : Hid (∀ u ∈ cs, u.oneCell' = true) := by rw [hcs]; exact ints_oneCell _ _
  have CL := Lib.hid cl
  have CS := Lib.hid hcs
  have b5 : Below w.heap.size w w4.drew := below_drewN b4 1
  clear cl hcs o4 o5 t3 t4 o3 g3 g4 b34 rt
  have hle : (xs.length : Int) ≤ (xs.length : Int) + 8 := by omega
  go_region_law (refine step_copy_splice rfl (.tmp 21) (.tmp 22) 23 23 rfl 5 Try.underlying23 (by kernel_rfl) (some ⟨w1.heap.size + 1, xs.length, none⟩) (some ⟨w1.heap.size, 0, none⟩) 8 8 8 8 (by simp [Act.eval, Act.put]) (by simp [Act.eval, Act.put]) (w1.heap.size + 1) xs.length ((xs ++ List.replicate 8 0).map (Value.int .u8)) 5 hp.out cs CL.out (fun _ => ⟨rfl, _, rfl, csrc.out⟩) (by rw [CL.out]; simp) c1.out w.heap.size w b5 (by omega) ?_; intro w5 hg5 hb5)
  go_wp2
  go_ret
  have e : splice ((xs ++ List.replicate 8 0).map (Value.int .u8)) xs.length cs = (sealL key xs).map (Value.int .u8) := by
    rw [CS.out]
    simp [splice, sealL, be_len]
  have hg6 := hg5.out
  rw [e] at hg6
  exact ⟨_, rfl, Own.of_heap (sealL key xs) (by omega) hg6 (by rw [sealL_len]) (by unfold maxLen; omega), hb5⟩
end Go.Proofs.Ytmkemghpedbopaa
