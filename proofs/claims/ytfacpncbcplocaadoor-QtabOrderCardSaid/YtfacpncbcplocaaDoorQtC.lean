/- Walks of layer 13: shrink, SetCap. -/
import Derived.Test.YtfacpncbcplocaaDoorQtB
set_option maxRecDepth 100000
set_option linter.unusedSimpArgs false
set_option linter.unusedVariables false
set_option linter.unnecessarySimpa false
namespace Go.Proofs.YtfacpncbcplocaaDoor
open Go.RowKit

/-- block b holds a table's cells -/
def TbC (b : Nat) (most cap used first : Int) (sl : Value) (w : World) : Prop := Cs w b [.bool true, .int .i64 most, .int .i64 cap, .int .i64 used, .int .i64 first, sl]
theorem TbC.facts {b : Nat} {most cap used first : Int} {sl : Value} {w : World} (h : TbC b most cap used first sl w) :
    w.cell? ⟨b, 0, none⟩ = some (.bool true) ∧ w.cell? ⟨b, 1, none⟩ = some (.int .i64 most) ∧ w.cell? ⟨b, 2, none⟩ = some (.int .i64 cap) ∧ w.cell? ⟨b, 3, none⟩ = some (.int .i64 used) ∧ w.cell? ⟨b, 4, none⟩ = some (.int .i64 first) ∧ w.cell? ⟨b, 5, none⟩ = some sl :=
  ⟨Cs.get h 0 _ rfl, Cs.get h 1 _ rfl, Cs.get h 2 _ rfl, Cs.get h 3 _ rfl, Cs.get h 4 _ rfl, Cs.get h 5 _ rfl⟩
theorem TbC.free {b : Nat} {most cap used first : Int} {sl : Value} {w : World} (h : TbC b most cap used first sl w) (j : Nat) : w.frozen? ⟨b, j, none⟩ = false := Cs.free h j
theorem TbC.below {b : Nat} {most cap used first : Int} {sl : Value} {w w' : World} (h : TbC b most cap used first sl w) (k : Below w.heap.size w w') : TbC b most cap used first sl w' := Cs.below h k
theorem TbC.keep {S : List Nat} {b : Nat} {most cap used first : Int} {sl : Value} {w w' : World} (h : TbC b most cap used first sl w) (k : Keep S w w') (hb : b ∉ S) : TbC b most cap used first sl w' := Cs.keep h k hb
theorem TbC.setUsed {b : Nat} {most cap used first : Int} {sl : Value} {w : World} (h : TbC b most cap used first sl w) (x : Int) : TbC b most cap x first sl (w.setCell ⟨b, 3, none⟩ (.int .i64 x)) := Cs.set h 3 _
theorem TbC.setCap {b : Nat} {most cap used first : Int} {sl : Value} {w : World} (h : TbC b most cap used first sl w) (x : Int) : TbC b most x used first sl (w.setCell ⟨b, 2, none⟩ (.int .i64 x)) := Cs.set h 2 _
theorem TbC.setFirst {b : Nat} {most cap used first : Int} {sl : Value} {w : World} (h : TbC b most cap used first sl w) (x : Int) : TbC b most cap used x sl (w.setCell ⟨b, 4, none⟩ (.int .i64 x)) := Cs.set h 4 _
theorem TbC.setRow {b : Nat} {most cap used first : Int} {sl : Value} {w : World} (h : TbC b most cap used first sl w) (x : Value) : TbC b most cap used first x (w.setCell ⟨b, 5, none⟩ x) := Cs.set h 5 _
theorem own_set {w : World} {v : Value} {l : List Fd} (h : OwnF w v l) (b j : Nat) (x : Value) (hn : ∀ g, v.ownBlock = some g → g ≠ b) : OwnF (w.setCell ⟨b, j, none⟩ x) v l :=
  owns_keep h (keep_set b j w x) (fun g hg => by have := hn g hg; simpa using this)
theorem OwnF.below {w w' : World} {v : Value} {l : List Fd} (h : OwnF w v l) (hb : Below w.heap.size w w') : OwnF w' v l := owns_keep h (Keep.of_below (S := []) hb) (by simp)
/-- a field in a row -/
theorem OwnF.at {w : World} {g n c : Nat} {l : List Fd} (h : OwnF w (.slice (some ⟨g, 0, none⟩) n c) l) (k : Nat) (hk : k < l.length) :
    w.cell? ⟨g, k * 2, none⟩ = some (.string l[k].n) ∧ w.cell? ⟨g, k * 2 + 1, none⟩ = some (.string l[k].v) := by
  have hn : n = l.length := by obtain ⟨_, _, e, _⟩ := h.slice; simp only [Value.slice.injEq] at e; exact e.2.1
  subst hn
  have cell : ∀ j u, j < 2 → (fdCell l[k])[j]? = some u → w.cell? ⟨g, k * 2 + j, none⟩ = some u := fun j u hj hu =>
    RdC.cell (RdC.of_owns h) (k * 2 + j) u ((fdC_get l k j hk hj).trans hu) _ (by omega)
  exact ⟨cell 0 _ (by omega) rfl, cell 1 _ (by omega) rfl⟩
theorem room_le {l : List Fd} {k m : Nat} (hk : k < l.length) (h : rooms l ≤ m) : roomF l[k] ≤ m := by
  have h1 := rooms_drop l k hk
  have h2 := rooms_drop_le l k
  omega
theorem szF_of {f : Fd} (h : roomF f ≤ 4096) : SzF f := by
  unfold roomF at h
  exact ⟨by omega, by omega⟩

set_option maxHeartbeats 3200000 in
theorem shrink_any {b : Nat} {sl : Value} {q : TQ} (w : World) (room : Nat) (h : Tbl b sl q w) (hr : rooms q.l ≤ 4096) (hc : countN q ≤ 4611686018427387904) :
    Calls Tryd.prog 35 #[.pointer (some ⟨b, 0, none⟩), .int .i64 (room : Int)] w fun e w' => e = .returned (.tuple #[]) ∧ ∃ sl', Tbl b sl' (shrinkE room q) w' ∧ sl'.ownBlock = sl.ownBlock ∧ Keep (TS b sl) w w' := by
  obtain ⟨most, cap, first, l⟩ := q
  simp only [countN] at hr hc
  obtain ⟨sa, sc, hsl, _, _⟩ := h.shape
  simp only at hsl
  have HF0 := Lib.hid (show TbC b most cap (rooms (l.drop 0)) first sl w from h.fields)
  have HR0 := Lib.hid (show OwnF w sl l from h.row)
  have HNE := Lib.hid h.ne
  have HRM := Lib.hid hr
  have HC := Lib.hid hc
  have HSL := Lib.hid hsl
  clear h hr hc hsl
  go_enter Tryd.func35, Tryd.ntmps35
  go_wp2_with fail
  go_loopw [4] (fun i wr => ∃ k : Nat, i = .int .i64 k ∧ k ≤ l.length ∧ (∀ j, j < k → room < rooms (l.drop j)) ∧ TbC b most cap (rooms (l.drop k)) first sl wr ∧ OwnF wr sl l ∧ Keep [b] w wr) (fun i _ => l.length - (intOf i).toNat)
  case atStart => exact ⟨0, rfl, Nat.zero_le _, fun j hj => by omega, HF0.out, HR0.out, Keep.refl _ _⟩
  case round =>
    obtain ⟨k, rfl, hk, hwant, hF, hO, hK⟩ := hrel
    have WANT := Lib.hid hwant
    have F := Lib.hid hF
    have O := Lib.hid hO
    have K := Lib.hid hK
    clear hwant hK
    obtain ⟨u, hu⟩ : ∃ u, u = rooms (l.drop k) := ⟨_, rfl⟩
    rw [← hu] at hF F
    have HU := Lib.hid hu
    clear hu
    by_cases hlt : room < u
    · have hkl : k < l.length := by
        rcases Nat.lt_or_ge k l.length with h | h
        · exact h
        · have := HU.out; rw [List.drop_eq_nil_of_le h] at this; simp [rooms] at this; omega
      obtain ⟨g, gc, hsl2, hg, hgc, hgm⟩ := hO.form (fun e => by rw [e] at hkl; simp at hkl)
      subst hsl2
      have HRO := Lib.hid (rooms_drop l k hkl)
      have hsz : roomF l[k] ≤ 4096 := room_le hkl HRM.out
      have HRC := Lib.hid (fun V => room_any l[k] V (szF_of hsz))
      have hb3 : u = roomF l[k] + rooms (l.drop (k + 1)) := HU.out.trans HRO.out
      have hul : u ≤ 4096 := by rw [HU.out]; exact Nat.le_trans (rooms_drop_le l k) HRM.out
      obtain ⟨c0, c1⟩ := hO.at k hkl
      obtain ⟨fd, hfd⟩ : ∃ fd, fd = l[k] := ⟨_, rfl⟩
      rw [← hfd] at HRC hb3 hsz c0 c1
      clear hfd
      obtain ⟨rf, hrf⟩ : ∃ rf, rf = roomF fd := ⟨_, rfl⟩
      obtain ⟨un, hun⟩ : ∃ un, un = rooms (l.drop (k + 1)) := ⟨_, rfl⟩
      rw [← hrf] at HRC hb3
      rw [← hun] at hb3
      have HUN := Lib.hid hun
      clear hrf hun hsz
      have hw2 : IntKind.i64.wrap ((u : Int) - (rf : Int)) = (un : Int) := by rw [wraps_i64' _ (by omega) (by omega)]; omega
      have hw3 : IntKind.i64.wrap ((k : Int) + 1) = ((k + 1 : Nat) : Int) := by rw [wraps_i64' _ (by omega) (by have := HC.out; omega)]; omega
      have hi1 : (room : Int) < (u : Int) := by omega
      have hi2 : (k : Int) < (l.length : Int) := by omega
      have hi3 : (0 : Int) ≤ (k : Int) := by omega
      have hblt : b < wr.heap.size := Cs.lt hF
      obtain ⟨_, _, _, f3, _, f5⟩ := hF.facts
      have x0 : wr.drew.cell? ⟨g, k * 2, none⟩ = some (.string fd.n) := c0
      have x1 : wr.drew.cell? ⟨g, k * 2 + 1, none⟩ = some (.string fd.v) := c1
      have x3 : wr.drew.cell? ⟨b, 3, none⟩ = some (.int .i64 (u : Int)) := f3
      have x5 : wr.drew.cell? ⟨b, 5, none⟩ = some (.slice (some ⟨g, 0, none⟩) l.length gc) := f5
      have HBN := Lib.hid hb3
      have HLT := Lib.hid hlt
      have HKL := Lib.hid hkl
      clear HRO hF hO hb3 hlt hkl hul hgc hgm c0 c1
      go_upto_region 2 with fail
      go_region_law (first
        | (go_simp; go_at_call 13; refine (HRC.out _).mono ?_; rintro x w3 ⟨rfl, b3⟩
           have F3 := Lib.hid ((F.out.below (below_drewN (Below.refl _ wr) 1)).below b3)
           have u3 := F3.out.facts.2.2.2.1
           have v3 := F3.out.free 3))
      all_goals clear x0 x1 x3 x5 u3 v3
      all_goals
        generalize hW5 : w3.setCell ⟨b, 3, none⟩ (.int .i64 (un : Int)) = W5
        have e5 : Hid (W5 = w3.setCell ⟨b, 3, none⟩ (.int .i64 (un : Int))) := hW5.symm
        clear hW5
      all_goals go_wp2_with fail
      all_goals
        have bz := (below_drewN (Below.refl wr.heap.size wr) 1).trans b3
        have hkl := HKL.out
        refine ⟨⟨k + 1, rfl, hkl, ?_, ?_, ?_, ?_⟩, by simp [intOf]; omega⟩
        · intro j hj
          by_cases hjk : j < k
          · exact WANT.out j hjk
          · obtain rfl : j = k := by omega
            rw [← HU.out]; exact HLT.out
        · rw [e5.out, ← HUN.out]; exact F3.out.setUsed _
        · rw [e5.out]; exact own_set (O.out.below bz) b 3 _ HNE.out
        · rw [e5.out]; exact (K.out.then_below bz).trans (keep_set b 3 w3 _) (fun i hi => .inl hi)
    · have hi1 : ¬ (room : Int) < (u : Int) := by omega
      have hk4 : l.length ≤ 4096 := by have := rooms_len l; have := HRM.out; omega
      have hgone : goneN room l = k := goneN_is room l k WANT.out (by rw [← HU.out]; omega)
      have HG := Lib.hid hgone
      have hd := delete_any sl l 0 k wr O.out (Nat.zero_le _) hk hk4
      have hd' : Calls Tryd.prog 38 #[sl, .int .i64 0, .int .i64 (k : Int)] wr fun r w' => ∃ v', r = .returned v' ∧ OwnF w' v' (l.drop k) ∧ v'.ownBlock = sl.ownBlock ∧ wr.grownBy w' sl.ownBlock := by
        simpa using hd
      have HD := Lib.hid hd'
      have hw1 : IntKind.i64.wrap ((first : Int) + (k : Int)) = ((first + k : Nat) : Int) := by rw [wraps_i64' _ (by omega) (by have := HC.out; omega)]; omega
      obtain ⟨_, _, _, f3, _, f5⟩ := hF.facts
      have HKL := Lib.hid hk
      clear hF hO hlt hk4 hgone hd hd' hk
      go_wp2_with (go_at_call 38; refine HD.out.mono ?_; rintro x w3 ⟨v', rfl, hO3, hv3, hg3⟩
                   have F3 : Hid (TbC b most cap u first sl w3) := Cs.grown F.out hg3 (fun e => HNE.out b e.symm rfl)
                   obtain ⟨va, vc, hvs, _, _⟩ := hO3.slice
                   subst hvs
                   have O3 := Lib.hid hO3
                   have V3 := Lib.hid hv3
                   have G3 := Lib.hid hg3
                   have y3 := F3.out.free 5
                   have y4 := F3.out.free 4
                   have y5 := F3.out.facts.2.2.2.2.1
                   have y6 := F3.out.facts.2.2.2.2.2
                   clear hO3 hv3 hg3 f3 f5)
      go_end0
      have hll : (l.drop k).length = l.length - k := List.length_drop
      have hcc : ((first + k : Nat) : Int) = (first : Int) + (k : Int) := by omega
      rw [hll] at O3 V3
      have hne3 : ∀ j, Value.ownBlock (.slice va (l.length - k) vc) = some j → j ≠ b := by rw [V3.out]; exact HNE.out
      have hS : shrinkE room ⟨most, cap, first, l⟩ = ⟨most, cap, first + k, l.drop k⟩ := by simp only [shrinkE, HG.out]
      refine ⟨rfl, .slice va (l.length - k) vc, ?_, V3.out, ?_⟩
      · rw [hS]
        refine ⟨?_, own_set (own_set O3.out b 5 _ hne3) b 4 _ hne3, hne3⟩
        have := (F3.out.setRow (.slice va (l.length - k) vc)).setFirst ((first + k : Nat) : Int)
        rw [HU.out, hcc] at this
        show Cs _ _ [.bool true, .int .i64 (most : Int), .int .i64 (cap : Int), .int .i64 (rooms (l.drop k) : Int), .int .i64 ((first + k : Nat) : Int), _]
        rw [hcc]
        exact this
      · have k0 : Keep (TS b sl) wr w3 := Keep.of_grown G3.out (fun j hj => .inl (mem_TS.2 (.inr hj)))
        have k1 : Keep (TS b sl) w wr := (Keep.refl (TS b sl) w).trans K.out (fun i hi => .inl (by simp at hi; subst hi; exact mem_TS.2 (.inl rfl)))
        have k2 : Keep (TS b sl) w w3 := k1.trans k0 (fun i hi => .inl hi)
        have hb : ∀ i ∈ [b], i ∈ TS b sl ∨ w.heap.size ≤ i := fun i hi => .inl (by simp at hi; subst hi; exact mem_TS.2 (.inl rfl))
        exact (k2.trans (keep_set b 5 w3 _) hb).trans (keep_set b 4 _ _) hb
end Go.Proofs.YtfacpncbcplocaaDoor
