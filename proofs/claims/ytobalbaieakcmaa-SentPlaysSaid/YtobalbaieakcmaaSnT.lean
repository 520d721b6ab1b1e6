/- Walks of layer 8: settling. -/
import Derived.Test.YtobalbaieakcmaaSnS
set_option linter.unusedSimpArgs false
set_option linter.unusedVariables false
namespace Go.Proofs.Ytobalbaieakcmaa
open Go.RowKit Go.Maps

theorem filt_len {l : List Pk} (f : Pk → Bool) {n : Nat} (h : l.length ≤ n) : (l.filter f).length ≤ n := Nat.le_trans (List.length_filter_le _ _) h

/-- the round's datagram is struck -/
theorem part_strike {gs l' l : List Pk} {p : Pk} (h : (gs ++ l').Perm l) (ha : Apart l') (hp : p ∈ l') : ((gs ++ [p]) ++ l'.filter fun q => !decide (q.n = p.n)).Perm l := by
  refine List.Perm.trans ?_ h
  rw [List.append_assoc]
  exact (List.Perm.append_left gs (apart_split ha hp)).symm
theorem Rng.apart {w : World} {mb r : Nat} {l todo : List Pk} (h : Rng w mb r l todo) : Apart l := by
  obtain ⟨n, left, cnt, _, h2, _⟩ := h
  exact h2

/-- a row of datagrams is no iterator's block -/
theorem Rng.row_ne {T : TypeId} {w : World} {mb r B : Nat} {l todo gs : List Pk} {v : Value} (h : Rng w mb r l todo) (hO : OwnP T w B v gs) : ∀ j, v.ownBlock = some j → j ≠ r := by
  obtain ⟨_, _, _, ⟨_, _, _, _, _, _, _, _, _, hit, _⟩, _⟩ := h
  intro j hj e
  rcases hO.2 with ⟨rfl, _⟩ | ⟨g, cap, cur, rfl, _, hb, _⟩
  · cases hj
  · simp only [Value.ownBlock, Option.some.injEq] at hj
    rw [hj, e, hit] at hb; cases hb
set_option maxRecDepth 100000 in
set_option maxHeartbeats 3200000 in
theorem settle_any (g : Nat) (cb : Array Value) (f : Pk → Bool) (b mb : Nat) (x y z : Int) (l : List Pk) (w : World) (eg : ∀ args w, (callFunc g args).run Try.prog w = .ok (.enter g args) w)
    (hL : LedC b mb x y z w) (hM : Mp w mb l) (hu : Up l) (hn : ∀ p ∈ l, 0 ≤ p.n ∧ p.n ≤ 4611686018427387903) (hl : l.length ≤ 512) (hbm : b ≠ mb)
    (hf : ∀ (W : World) (p : Pk), p ∈ l → w.grownBy W (some mb) → Calls Try.prog g (#[.agg #[.int .i64 p.n, .int .i64 p.t, .int .i64 p.s]] ++ cb) W fun e W' => e = .returned (.bool (f p)) ∧ Below W.heap.size W W') :
    Calls Try.prog 32 #[.pointer (some ⟨b, 0, none⟩), .func (.func g) #[] cb] w fun e w' =>
      ∃ v, e = .returned v ∧ OwnP 54 w' w.heap.size v (l.filter f) ∧ Mp w' mb (l.filter fun p => !f p) ∧ w.grownBy w' (some mb) := by
  obtain ⟨c0, _⟩ := hL.facts
  have HL := Lib.hid hL
  have HM := Lib.hid hM
  have HU := Lib.hid hu
  have HN := Lib.hid hn
  have HF := Lib.hid hf
  have kb := hL.lt
  have km := hM.lt
  clear hL hM hu hn hf
  go_enter Try.func32, Try.ntmps32
  go_wp2_with (at_range; refine wpList_range_pk _ rfl _ rfl mb l rfl HM.out HU.out ?_; intro w0 hrg0 hg0 hs0)
  go_frame
  have HR0 := Lib.hid hrg0
  have HG0 := Lib.hid hg0
  clear hrg0 hg0 hs0
  go_loopw [5] (fun gv wr => ∃ (gs l' todo : List Pk), OwnP 54 wr w.heap.size gv gs ∧ Rng wr mb w.heap.size l' todo ∧ (gs ++ l').Perm l ∧ l'.Sublist l ∧ (∀ p ∈ gs, f p = true) ∧ (∀ p ∈ l', p ∈ todo ∨ f p = false) ∧ w.grownBy wr (some mb))
    (fun _ wr => wr.rangeLeft mb w.heap.size)
  case atStart => exact ⟨[], l, l, OwnP.nil _ _ _, HR0.out, List.Perm.refl _, List.Sublist.refl _, fun p hp => (by cases hp), fun p hp => .inl hp, World.grownBy.but HG0.out _⟩
  case round =>
    obtain ⟨gs, l', todo, hO, hrg, hpm, hsub, hgs, hl', hgw⟩ := hrel
    have HO := Lib.hid hO
    have HRG := Lib.hid hrg
    have HP := Lib.hid hpm
    have HSub := Lib.hid hsub
    have HGs := Lib.hid hgs
    have HL' := Lib.hid hl'
    have HGW := Lib.hid hgw
    have hsz := hgw.size
    have hgl : gs.length ≤ 512 := by have := hpm.length_eq; rw [List.length_append] at this; omega
    clear hO hpm hsub hgs hl' hgw
    go_wp2_with (at_next; refine wpList_next_pk _ rfl _ rfl mb w.heap.size _ _ rfl hrg ?_ ?_)
    · intro ht0
      have hd := part_done HP.out HSub.out HGs.out (fun p hp => by
        rcases HL'.out p hp with h | h
        · rw [ht0] at h; cases h
        · exact h)
      have HD := Lib.hid hd
      have HB := Lib.hid (byNumber_any _ gs (l.filter f) w.heap.size wr HO.out (HU.out.filter f) hd.1 (filt_len f (by omega)))
      clear ht0 hd hrg
      go_wp2_with (go_at_call 41; refine HB.out.mono ?_; rintro e w2 ⟨rfl, hO2, hg2⟩)
      go_ret
      refine ⟨_, rfl, hO2, ?_, HGW.out.andThen hg2 (fun j hj => .inl (HO.out.blk j hj))⟩
      rw [← HD.out.2]
      refine HRG.out.owns.kept hg2 fun e => ?_
      have := HO.out.blk mb e.symm
      omega
    · intro p todo' w1 hpt hpl hne hrg1 hlt hg1 hs1 hen
      have hpn := HN.out p (HSub.out.subset hpl)
      have HRL : Hid (wr.rangeLeft mb w.heap.size > w1.rangeLeft mb w.heap.size) := hlt
      have HGW1 := Lib.hid (HGW.out.andThen hg1 (fun j hj => by cases hj; exact .inl (Nat.le_refl _)))
      have hrow := HRG.out.row_ne HO.out
      have HO1 := Lib.hid (HO.out.kept hg1 (fun j hj e => by cases e; exact hrow _ hj rfl))
      have e1 := hg1.size
      have HPT := Lib.hid hpt
      have HNE := Lib.hid hne
      have HPL := Lib.hid hpl
      have HA := Lib.hid HRG.out.apart
      have b2 := below_one w1 (.cells #[.int .i64 p.n, .int .i64 p.t, .int .i64 p.s] 54)
      have HR2 := Lib.hid (hrg1.kept (grownBy_of_below (row := none) b2) (by simp) (by simp))
      have HL2 := Lib.hid (hrg1.left (grownBy_of_below (row := none) b2) (by simp) (by simp))
      have HO2 := Lib.hid (HO1.out.kept (grownBy_of_below (row := none) b2) (by simp))
      have HGW2 := Lib.hid (HGW1.out.andThen (grownBy_of_below (row := none) b2) (by simp))
      have CB : Hid ((w1.alloc (.cells #[.int .i64 p.n, .int .i64 p.t, .int .i64 p.s] 54)).heap[w1.heap.size]? = some (.cells #[.int .i64 p.n, .int .i64 p.t, .int .i64 p.s] 54 (0, 0))) := by
        show (w1.heap.push _)[w1.heap.size]? = _; simp
      have C := Lib.hid (HF.out _ p (HSub.out.subset hpl) HGW2.out)
      have hq : w.heap.size ≤ w1.heap.size := by omega
      clear hs1 hlt hg1 hrg hrg1 hpt hne hpl hrow e1 b2
      cases hfp : f p
      · have HFP := Lib.hid hfp
        rw [hfp] at C
        clear hfp
        go_wp2_with (go_at_fn g; refine C.out.mono ?_; rintro e w3 ⟨rfl, hb3⟩)
        refine ⟨⟨gs, l', todo', HO2.out.kept (grownBy_of_below (row := none) hb3) (by simp), HR2.out.kept (grownBy_of_below (row := none) hb3) (by simp) (by simp), HP.out, HSub.out, HGs.out, fun q hq => ?_, HGW2.out.andThen (grownBy_of_below (row := none) hb3) (by simp)⟩, ?_⟩
        · rcases HL'.out q hq with h | h
          · rcases List.mem_cons.1 (HPT.out.mem_iff.1 h) with rfl | h
            · exact .inr HFP.out
            · exact .inl h
          · exact .inr h
        · rw [HR2.out.left (grownBy_of_below (row := none) hb3) (by simp) (by simp), HL2.out]
          exact HRL.out
      · have HFP := Lib.hid hfp
        rw [hfp] at C
        clear hfp
        have HPN := Lib.hid hpn
        have hrow2 := HR2.out.row_ne HO2.out
        have HROW := Lib.hid hrow2
        clear hpn hrow2
        go_wp2_with (first
          | (go_at_fn g; refine C.out.mono ?_; rintro e w3 ⟨rfl, hb3⟩
             have HG3 := Lib.hid (grownBy_of_below (row := none) hb3)
             have HGW3 := Lib.hid (HGW2.out.andThen HG3.out (by simp))
             have k0 : w3.cell? ⟨b, 0, none⟩ = some (.map (some mb)) := HGW3.out.cell c0 (by simpa using hbm)
             have HR3 := Lib.hid (HR2.out.kept HG3.out (by simp) (by simp))
             have HL3 := Lib.hid (HR2.out.left HG3.out (by simp) (by simp))
             have HO3 := Lib.hid (HO2.out.kept HG3.out (by simp))
             have CB3 := Lib.hid ((hb3.block w1.heap.size (by simp)).trans CB.out)
             clear hb3)
          | (at_delete; refine wpList_delete_pk _ rfl _ _ rfl mb w.heap.size l' todo' p.n rfl HR3.out rfl HPN.out HNE.out ?_; intro w4 hrg4 hle4 ht4
             have HL4 := Lib.hid hle4
             have HR4 := Lib.hid hrg4
             have HT4 := Lib.hid ht4.grown
             have HGW4 := Lib.hid (HGW3.out.andThen HT4.out (fun j hj => .inr hj))
             have HO4 := Lib.hid (HO3.out.kept HT4.out (fun j hj e => by cases e; have := HO3.out.blk _ hj; omega))
             have CB4 := Lib.hid ((HT4.out.block w1.heap.size (Array.getElem?_eq_some_iff.1 CB3.out).1 (by simp; omega)).trans CB3.out)
             have HLT4 := Lib.hid (Array.getElem?_eq_some_iff.1 CB4.out).1
             have x0 : w4.cell? ⟨w1.heap.size, 0, none⟩ = some (.int .i64 p.n) := by simp [World.cell?, CB4.out]
             have x1 : w4.cell? ⟨w1.heap.size, 1, none⟩ = some (.int .i64 p.t) := by simp [World.cell?, CB4.out]
             have x2 : w4.cell? ⟨w1.heap.size, 2, none⟩ = some (.int .i64 p.s) := by simp [World.cell?, CB4.out]
             clear hle4 hrg4 ht4)
          | (at_builtin; refine wpList_append_pkS _ rfl _ _ rfl w.heap.size u5 gs rfl (HO4.out.kept (grownBy_of_below (row := none) (below_one w4 _)) (by simp)) _ [p] rfl (RdP.built w4 p _) (by simp; omega) (by have := HGW4.out.size; simp; omega) ?_; intro v' w6 hO6 hg6))
        have b5 := grownBy_of_below (row := none) (below_one w4 (.cells #[.int .i64 p.n, .int .i64 p.t, .int .i64 p.s] 54))
        have hlow : ∀ j, u5.ownBlock = some j → w.heap.size ≤ j := HO4.out.blk
        have n1 : some mb ≠ u5.ownBlock := fun e => by have := hlow _ e.symm; omega
        have n2 : some w.heap.size ≠ u5.ownBlock := fun e => HROW.out _ e.symm rfl
        have HR5 := HR4.out.kept b5 (by simp) (by simp)
        refine ⟨⟨gs ++ [p], l'.filter (fun q => !decide (q.n = p.n)), todo', hO6, HR5.kept hg6 n1 n2, part_strike HP.out HA.out HPL.out, (List.filter_sublist ..).trans HSub.out, fun q hq => ?_, fun q hq => ?_, (HGW4.out.andThen b5 (by simp)).andThen hg6 (fun j hj => .inl (hlow j hj))⟩, ?_⟩
        · rcases List.mem_append.1 hq with h | h
          · exact HGs.out q h
          · rw [List.mem_singleton.1 h]; exact HFP.out
        · obtain ⟨h1, h2⟩ := List.mem_filter.1 hq
          rcases HL'.out q h1 with h | h
          · rcases List.mem_cons.1 (HPT.out.mem_iff.1 h) with rfl | h
            · simp at h2
            · exact .inl h
          · exact .inr h
        · rw [HR5.left hg6 n1 n2, HR4.out.left b5 (by simp) (by simp)]
          have r1 := HL4.out
          have r2 := HL3.out
          have r3 := HL2.out
          have r4 := HRL.out
          omega
end Go.Proofs.Ytobalbaieakcmaa
