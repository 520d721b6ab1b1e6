/- Walks of layer 2: Open. -/
import Derived.Test.YtmkemghpedbopaaTagC
import Derived.Test.YtmkemghpedbopaaArr
import Derived.Deep.RegionHeld3
import Derived.Lib.SmallJoins
namespace Go.Proofs.Ytmkemghpedbopaa
open Go.RowKit

/-- what Open comes to -/
def OpenIs (w : World) (o : Option (List Int)) (e : Ending) (w' : World) : Prop :=
  ∃ (u : Value) (ys : List Int) (c : Int), e = .returned (.tuple #[u, .int .i64 c]) ∧ Own .u8 5 w' w.heap.size u ys ∧ Below w.heap.size w w' ∧ ((o = some ys ∧ c = 0) ∨ (o = none ∧ ys = [] ∧ c = 4))

theorem open_short (key : Int) (v : Value) (xs : List Int) (w : World) (hr : Rd .u8 w v xs) (h : xs.length < 8) :
    Calls Try.prog 13 #[.int .u64 key, v] w (OpenIs w (openL key xs)) := by
  obtain ⟨va, vc, rfl⟩ := hr.isSlice
  have ho : openL key xs = none := by unfold openL; rw [if_pos h]
  rw [ho]
  clear hr ho
  have h1 : decide ((xs.length : Int) - 8 < 0) = true := by simp; omega
  go_enter Try.func13, Try.ntmps13
  go_wp2
  go_ret2
  exact ⟨_, [], 4, rfl, Own.nil _ _ _ _, Below.refl _ _, .inr ⟨rfl, rfl, rfl⟩⟩

theorem src_of {w w' : World} {b o n c : Nat} {ys : List Int} {ds : List Value} (hds : ds = ys.map (Value.int .u8)) (hb : Below w.heap.size w w') (hlt : b < w.heap.size) (hr : Rd .u8 w (.slice (some ⟨b, o, none⟩) n c) ys) :
    ∀ j v, ds[j]? = some v → w'.cell? ((⟨b, o, none⟩ : Addr).add j) = some v := by
  intro j u hu
  subst hds
  rcases hr with ⟨rfl, _⟩ | ⟨h0, b, o', c, q, h2, h3, h4, h5⟩
  · simp at hu
  · simp only [Value.slice.injEq, Option.some.injEq, Addr.mk.injEq, and_true] at q
    obtain ⟨⟨rfl, rfl⟩, q1, rfl⟩ := q
    exact (hb.cell (by rw [Addr.add_lit]; exact hlt)).trans (Rd.src h5 j u hu)

set_option maxHeartbeats 1600000 in
theorem open_long (key : Int) (b o c n : Nat) (ys ts : List Int) (a0 a1 a2 a3 a4 a5 a6 a7 : Int) (w : World) (hys : ys.length = n) (hte : ts = [a0, a1, a2, a3, a4, a5, a6, a7]) (hx : Bts (ys ++ ts)) (hbig : n ≤ 140737488351232) (hr : Rd .u8 w (.slice (some ⟨b, o, none⟩) (n + 8) c) (ys ++ ts)) :
    Calls Try.prog 13 #[.int .u64 key, .slice (some ⟨b, o, none⟩) (n + 8) c] w (OpenIs w (openL key (ys ++ ts))) := by
  have hts : ts.length = 8 := by rw [hte]; rfl
  have hb : b < w.heap.size := by
    rcases hr with ⟨h0, _⟩ | ⟨h0, b, o, c, q, h2, h3, h4, h5⟩
    · have := congrArg List.length h0; simp [hts] at this
    · simp only [Value.slice.injEq, Option.some.injEq, Addr.mk.injEq, and_true] at q
      obtain ⟨⟨rfl, rfl⟩, q1, rfl⟩ := q
      exact h4
  have rY : Hid (Rd .u8 w (.slice (some ⟨b, o, none⟩) n c) ys) := by
    rcases hr with ⟨h0, _⟩ | ⟨h0, b, o, c, q, h2, h3, h4, h5⟩
    · have := congrArg List.length h0; simp [hts] at this
    · simp only [Value.slice.injEq, Option.some.injEq, Addr.mk.injEq, and_true] at q
      obtain ⟨⟨rfl, rfl⟩, q1, rfl⟩ := q
      by_cases hy0 : ys = []
      · subst hy0; subst hys; exact .inl ⟨rfl, _, _, rfl, h3, fun h => by cases h⟩
      · refine .inr ⟨hy0, b, o, c, by rw [hys], by omega, h3, h4, fun i hi => ?_⟩
        rw [h5 i (by rw [List.length_append]; omega), List.getD, List.getElem?_append_left hi]; rfl
  have hcmp : ∀ W : World, (Op.equalIn 10000 38 (.agg #[.int .u8 a0, .int .u8 a1, .int .u8 a2, .int .u8 a3, .int .u8 a4, .int .u8 a5, .int .u8 a6, .int .u8 a7]) (.agg #[.int .u8 (tb (tagI key ys) 0), .int .u8 (tb (tagI key ys) 1), .int .u8 (tb (tagI key ys) 2), .int .u8 (tb (tagI key ys) 3), .int .u8 (tb (tagI key ys) 4), .int .u8 (tb (tagI key ys) 5), .int .u8 (tb (tagI key ys) 6), .int .u8 (tb (tagI key ys) 7)])).run Try.prog W = .ok (decide (ts = be (tagB key ys).toNat 8)) W := by
    intro W
    obtain ⟨i, hi, _⟩ := elemU8.info
    rw [be_tag, hte]
    exact run_eq_nums (P := Try.prog) W Try.underlying38 Try.underlying5 hi (by kernel_rfl) [a0, a1, a2, a3, a4, a5, a6, a7] [tb (tagI key ys) 0, tb (tagI key ys) 1, tb (tagI key ys) 2, tb (tagI key ys) 3, tb (tagI key ys) 4, tb (tagI key ys) 5, tb (tagI key ys) 6, tb (tagI key ys) 7] rfl rfl
  have rY0 := rY
  have HTE := Lib.hid hte
  have HO := Lib.hid (openL_of key ys ts hts)
  clear hte
  obtain ⟨q, hq⟩ : ∃ q : Bool, decide (ts = be (tagB key ys).toNat 8) = q := ⟨_, rfl⟩
  rw [hq] at hcmp
  have HQ := Lib.hid hq
  clear hq
  have hbY : Bts ys := fun x h => hx x (List.mem_append_left _ h)
  have hR := Lib.hid hr
  have t0 := tagI_lo key ys
  have t1 := tagI_hi key ys
  have hlen : n + 8 ≤ 9223372036854775807 := by have := hr.len; rw [List.length_append, hys, hts] at this; exact this
  have hcap : n + 8 ≤ c := by
    rcases hr with ⟨h0, _⟩ | ⟨h0, b, o, c, q, h2, h3, h4, h5⟩
    · have := congrArg List.length h0; simp [hts] at this
    · simp only [Value.slice.injEq, Option.some.injEq, Addr.mk.injEq, and_true] at q
      obtain ⟨⟨rfl, rfl⟩, q1, rfl⟩ := q
      omega
  obtain ⟨W1, hW1⟩ : ∃ W1 : World, W1 = w.alloc (.cells #[.int .u8 0, .int .u8 0, .int .u8 0, .int .u8 0, .int .u8 0, .int .u8 0, .int .u8 0, .int .u8 0] 38) := ⟨_, rfl⟩
  have bW : Below w.heap.size w W1 := by rw [hW1]; exact (Below.refl _ _).alloc (Nat.le_refl _) _
  have hp : Hid (W1.drew.heap[w.heap.size]? = some (.cells ((List.replicate 8 (0 : Int)).map (Value.int .u8)).toArray 38 (0, 0))) := by
    rw [hW1]
    show (w.heap.push _)[w.heap.size]? = _
    simp
  obtain ⟨cs, hcs⟩ : ∃ cs, cs = ts.map (Value.int .u8) := ⟨_, rfl⟩
  have CL : Hid (cs.length = 8) := by rw [hcs, List.length_map]; exact hts
  have rt : Rd .u8 W1.drew (.slice (some ⟨b, o + n, none⟩) 8 (c - n)) ts := by
    rcases (hr.below bW) with ⟨h0, _⟩ | ⟨h0, b, o, c, q, h2, h3, h4, h5⟩
    · have := congrArg List.length h0; simp [hts] at this
    · simp only [Value.slice.injEq, Option.some.injEq, Addr.mk.injEq, and_true] at q
      obtain ⟨⟨rfl, rfl⟩, q1, rfl⟩ := q
      refine .inr ⟨fun h => by rw [h] at hts; simp at hts, b, o + n, c - n, by rw [hts], by omega, by omega, h4, fun i hi => ?_⟩
      show W1.cell? _ = _
      rw [show o + n + i = o + (n + i) by omega, h5 (n + i) (by rw [List.length_append]; omega)]
      rw [List.getD, List.getElem?_append_right (by omega), show n + i - ys.length = i by omega]; rfl
  have csrc : Hid (∀ j v, cs[j]? = some v → W1.drew.cell? ((⟨b, o + n, none⟩ : Addr).add j) = some v) := by
    intro j u hu
    rcases rt with ⟨h0, _⟩ | ⟨h0, b, o', c, q, h2, h3, h4, h5⟩
    · rw [h0] at hts; simp at hts
    · simp only [Value.slice.injEq, Option.some.injEq, Addr.mk.injEq, and_true] at q
      obtain ⟨⟨rfl, rfl⟩, q1, rfl⟩ := q
      exact Rd.src h5 j u (by rw [← hcs]; exact hu)
  have c1 : Hid (∀ u ∈ cs, u.oneCell' = true) := by rw [hcs]; exact ints_oneCell _ _
  have CS := Lib.hid hcs
  have B5 : Below w.heap.size w W1.drew := below_drewN bW 1
  clear hr hcs rt
  have HW := Lib.hid hW1
  clear hW1
  have HY := Lib.hid hys
  have HTs := Lib.hid hts
  clear hys hts
  have HC := Lib.hid hcmp
  clear hcmp
  go_enter Try.func13, Try.ntmps13
  go_wp2
  rw [← HW.out]
  have hn0 : (0 : Int) ≤ (n : Int) := by omega
  have hn8 : (n : Int) ≤ (n : Int) + 8 := by omega
  have hcn : ¬ c = n := by omega
  go_region_law (refine step_copy_splice rfl (.tmp 14) (.tmp 17) 23 23 rfl 5 Try.underlying23 (by kernel_rfl) (some ⟨w.heap.size, 0, none⟩) (some ⟨b, o + n, none⟩) 8 8 8 (c - n) (by simp [Act.eval, Act.put]) (by simp [Act.eval, Act.put]) w.heap.size 0 ((List.replicate 8 (0 : Int)).map (Value.int .u8)) 38 hp.out cs CL.out (fun _ => ⟨rfl, _, rfl, csrc.out⟩) (by rw [CL.out]; simp) c1.out w.heap.size w B5 (by omega) ?_; intro w5 hg5 hb5)
  have hg6 : w5.heap[w.heap.size]? = some (.cells #[.int .u8 a0, .int .u8 a1, .int .u8 a2, .int .u8 a3, .int .u8 a4, .int .u8 a5, .int .u8 a6, .int .u8 a7] 38 (0, 0)) := by
    rw [hg5.out, CS.out, HTE.out]; rfl
  have s5 : w.heap.size < w5.heap.size := (Array.getElem?_eq_some_iff.1 hg6).1
  have k0 := Joins.cell_of_block hg6 0
  have k1 := Joins.cell_of_block hg6 1
  have k2 := Joins.cell_of_block hg6 2
  have k3 := Joins.cell_of_block hg6 3
  have k4 := Joins.cell_of_block hg6 4
  have k5 := Joins.cell_of_block hg6 5
  have k6 := Joins.cell_of_block hg6 6
  have k7 := Joins.cell_of_block hg6 7
  simp only [List.getElem?_toArray, List.getElem?_cons_zero, List.getElem?_cons_succ] at k0 k1 k2 k3 k4 k5 k6 k7
  have rY5 : Hid (Rd .u8 w5.drew (.slice (some ⟨b, o, none⟩) n c) ys) := rY.out.below (below_drewN hb5 1)
  have z5 := hb5.size
  clear hg5 hg6 csrc c1 hp HW rY
  go_wp2_with fail
  have hcmp := HC.out
  have hnc : n ≤ c := by omega
  have hnc' : (n : Int) ≤ (c : Int) := by omega
  go_region_held3 (fun w' => w'.cell? ⟨w.heap.size, 0, none⟩ = some (.int .u8 a0) ∧ w'.cell? ⟨w.heap.size, 1, none⟩ = some (.int .u8 a1) ∧ w'.cell? ⟨w.heap.size, 2, none⟩ = some (.int .u8 a2) ∧ w'.cell? ⟨w.heap.size, 3, none⟩ = some (.int .u8 a3) ∧ w'.cell? ⟨w.heap.size, 4, none⟩ = some (.int .u8 a4) ∧ w'.cell? ⟨w.heap.size, 5, none⟩ = some (.int .u8 a5) ∧ w'.cell? ⟨w.heap.size, 6, none⟩ = some (.int .u8 a6) ∧ w'.cell? ⟨w.heap.size, 7, none⟩ = some (.int .u8 a7))
    (first
      | go_keep
      | (exact ⟨(hb7.cell (p := ⟨_, 0, none⟩) s5).trans k0, (hb7.cell (p := ⟨_, 1, none⟩) s5).trans k1, (hb7.cell (p := ⟨_, 2, none⟩) s5).trans k2, (hb7.cell (p := ⟨_, 3, none⟩) s5).trans k3, (hb7.cell (p := ⟨_, 4, none⟩) s5).trans k4, (hb7.cell (p := ⟨_, 5, none⟩) s5).trans k5, (hb7.cell (p := ⟨_, 6, none⟩) s5).trans k6, (hb7.cell (p := ⟨_, 7, none⟩) s5).trans k7⟩))
    (first
      | (go_at_call 10; refine (of_any key _ ys _ rY5.out hbY).mono ?_; rintro e w' ⟨rfl, rfl⟩)
      | (go_at_call 18; refine (spread_any (tagI key ys) _ t0 t1).mono ?_; rintro e w7 ⟨rfl, hb7⟩))
  clear hcmp
  have b7 : Below w.heap.size w w7 := (below_drewN hb5 1).trans (hb7.mono z5)
  have z7 := b7.size
  cases q
  · have HE : Hid (openL key (ys ++ ts) = none) := by show _ = _; rw [HO.out, if_neg (of_decide_eq_false HQ.out)]
    clear HC
    go_wp2
    go_ret2
    exact ⟨_, [], 4, rfl, Own.nil _ _ _ _, b7, .inr ⟨HE.out, rfl, rfl⟩⟩
  · have HE : Hid (openL key (ys ++ ts) = some ys) := by show _ = _; rw [HO.out, if_pos (of_decide_eq_true HQ.out)]
    obtain ⟨ds, hds⟩ : ∃ ds, ds = ys.map (Value.int .u8) := ⟨_, rfl⟩
    have DL : Hid (ds.length = n) := by rw [hds, List.length_map]; exact HY.out
    have d1 : Hid (∀ u ∈ ds, u.oneCell' = true) := by rw [hds]; exact ints_oneCell _ _
    have DS := Lib.hid hds
    clear hds HC
    have nb : n ≤ 140737488351232 := hbig
    go_wp2_with (first
      | (at_make; refine wpList_make_nums _ rfl _ _ _ rfl elemU8 Try.underlying23 .i64 .i64 _ _ n rfl rfl (by simp) (by simp) (by omega) (by unfold maxLen; omega) w.heap.size z7 ?_; intro w8 o8 g8; have b8 : Below w.heap.size w w8 := b7.grown g8 z7 (by simp); have hp8 := Lib.hid o8.heap; have src8 : Hid (∀ j v, ds[j]? = some v → w8.cell? ((⟨b, o, none⟩ : Addr).add j) = some v) := src_of DS.out b8 hb rY0.out)
      | (with_reducible refine wpList_copy_splice rfl (.tmp 29) (.tmp 30) 23 23 rfl 5 Try.underlying23 (by kernel_rfl) _ _ _ _ _ _ rfl rfl w7.heap.size 0 ((List.replicate n (0 : Int)).map (Value.int .u8)) 5 hp8.out ds (by rw [DL.out]; simp) (fun _ => ⟨rfl, _, rfl, src8.out⟩) (by rw [DL.out]; simp) d1.out w.heap.size w b8 z7 ?_; intro w9 hg9 hb9))
    have hgx := hg9.out
    have hsp : splice ((List.replicate n (0 : Int)).map (Value.int .u8)) 0 ds = ys.map (Value.int .u8) := by
      rw [DS.out]; simp [splice, HY.out]
    rw [hsp] at hgx
    go_ret2
    exact ⟨_, ys, 0, rfl, Own.of_heap ys z7 hgx HY.out.symm (by unfold maxLen; omega), hb9, .inl ⟨HE.out, rfl⟩⟩

/-- OPEN, WHATEVER THE BYTES -/
theorem open_any (key : Int) (v : Value) (xs : List Int) (w : World) (hr : Rd .u8 w v xs) (hx : Bts xs) (hl : xs.length ≤ 140737488351240) :
    Calls Try.prog 13 #[.int .u64 key, v] w (OpenIs w (openL key xs)) := by
  by_cases h : xs.length < 8
  · exact open_short key v xs w hr h
  · have hr' := hr
    rcases hr with ⟨rfl, _⟩ | ⟨h0, b, o, c, rfl, h2, h3, h4, h5⟩
    · simp at h
    · have e : xs = xs.take (xs.length - 8) ++ xs.drop (xs.length - 8) := (List.take_append_drop _ _).symm
      have el : (xs.take (xs.length - 8)).length = xs.length - 8 := by rw [List.length_take]; omega
      have et : (xs.drop (xs.length - 8)).length = 8 := by rw [List.length_drop]; omega
      generalize hn : xs.length - 8 = n at e el et
      have hn8 : xs.length = n + 8 := by omega
      rw [hn8] at hr' ⊢
      generalize xs.take n = ys at e el
      generalize xs.drop n = ts at e et
      subst e
      match ts, et with
      | [a0, a1, a2, a3, a4, a5, a6, a7], _ => exact open_long key b o c n ys _ a0 a1 a2 a3 a4 a5 a6 a7 w el rfl hx (by omega) hr'
end Go.Proofs.Ytmkemghpedbopaa
