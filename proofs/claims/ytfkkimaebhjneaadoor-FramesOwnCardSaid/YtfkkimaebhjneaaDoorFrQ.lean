/- Walks of layer 4: Decode's rounds. -/
/- Walks of layer 4: Decode, whatever the bytes. -/
import Derived.Test.YtfkkimaebhjneaaDoorFrL
set_option linter.unusedSimpArgs false
set_option linter.unusedVariables false
namespace Go.Proofs.YtfkkimaebhjneaaDoor
open Go.RowKit

/-- WHERE THE ROUNDS OF Decode STAND: the list lies in block L, the fault in L + 1, the reader in L + 2 -/
structure LS (xs : List Int) (w W : World) (v : Value) (tot : Except (Int × Int) (List Fr)) (k i : Nat) (l : List Fr) : Prop where
  is : decGo xs k i l = tot
  len : l.length + k = 64
  pl : i ≤ xs.length
  at_ : At W (w.heap.size + 2) v i
  row : ∃ u, W.heap[w.heap.size]? = some (.cells #[u] 22 (0, 0)) ∧ OwnF W (w.heap.size + 3) u l
  flt : W.heap[w.heap.size + 1]? = some (.cells #[.int .i64 0, .int .i64 0] 37 (0, 0))
  bel : Below w.heap.size w W

theorem LS.start {xs : List Int} {w : World} {v : Value} : LS xs w (((w.alloc (.cells #[.slice none 0 0] 22)).alloc (.cells #[.int .i64 0, .int .i64 0] 37)).alloc (.cells #[v, .int .i64 0] 63)) v (decGo xs 64 0 []) 64 0 [] := by
  refine ⟨rfl, rfl, Nat.zero_le _, ⟨?_⟩, ⟨_, ?_, OwnF.nil _ _⟩, ?_, (((Below.refl _ _).alloc (Nat.le_refl _) _).alloc (by simp) _).alloc (by simp; omega) _⟩
  · have := alloc_at ((w.alloc (.cells #[.slice none 0 0] 22)).alloc (.cells #[.int .i64 0, .int .i64 0] 37)) (.cells #[v, .int .i64 0] 63)
    simp only [World.size_alloc] at this
    exact this
  · exact (Below.heap_alloc _ _ _ (by simp; omega)).trans ((Below.heap_alloc _ _ _ (by simp)).trans (alloc_at _ _))
  · refine (Below.heap_alloc _ _ _ (by simp)).trans ?_
    have := alloc_at (w.alloc (.cells #[.slice none 0 0] 22)) (.cells #[.int .i64 0, .int .i64 0] 37)
    simp only [World.size_alloc] at this
    exact this

/-- two rows whose elements are of unlike types lie in unlike blocks -/
theorem rows_apart {w : World} {B B' e e' m m' n n' : Nat} {v v' : Value} {fl fl' : List Value} (h : w.ownsRow B e m v n fl) (h' : w.ownsRow B' e' m' v' n' fl') (hne : e ≠ e') (j : Nat) (hj : v.ownBlock = some j) : v'.ownBlock ≠ some j := by
  intro hj'
  rcases h.2 with ⟨rfl, _⟩ | ⟨g, cap, cur, rfl, _, hg, _⟩
  · cases hj
  · rcases h'.2 with ⟨rfl, _⟩ | ⟨g', cap', cur', rfl, _, hg', _⟩
    · cases hj'
    · simp only [Value.ownBlock, Option.some.injEq] at hj hj'
      subst hj; subst hj'
      rw [hg] at hg'
      simp only [Option.some.injEq, Obj.cells.injEq] at hg'
      exact hne hg'.2.1
theorem LS.next {xs : List Int} {w wr w5 w7 : World} {v u v7 dv sv old : Value} {o : Obj} {tot : Except (Int × Int) (List Fr)} {k i j : Nat} {l : List Fr} {lv : List FV} {f : Fr}
    (S : LS xs w wr v tot (k + 1) i l) (hlv : lv.map FV.f = l) (hparts : ∀ g ∈ lv, Own .u8 5 wr (w.heap.size + 3) g.dv g.f.data ∧ OwnS wr (w.heap.size + 3) g.sv g.f.spans) (own : wr.drew.ownsRow (w.heap.size + 3) 33 8 u lv.length (frC lv))
    (HE : decGo xs k j (l ++ [f]) = tot) (hj : j ≤ xs.length) (g5 : wr.drew.grownBy w5 (some (w.heap.size + 2))) (OD : Own .u8 5 w5 wr.drew.heap.size dv f.data) (OS : OwnS w5 wr.drew.heap.size sv f.spans) (A5 : At w5 (w.heap.size + 2) v j)
    (o7 : w7.ownsRow (w.heap.size + 3) 33 8 v7 (lv.length + 1) (frC lv ++ frCell ⟨f, dv, sv⟩)) (g7 : (w5.alloc o).grownBy w7 u.ownBlock) (k7 : w7.heap[w.heap.size]? = some (.cells #[old] 22 (0, 0))) :
    LS xs w (w7.setCell ⟨w.heap.size, 0, none⟩ v7) v tot k j (l ++ [f]) := by
  have hB : ∀ jj, u.ownBlock = some jj → w.heap.size + 3 ≤ jj := fun jj h => (World.ownsRow.lt own jj h).1
  have hsz : w.heap.size + 2 < wr.heap.size := S.at_.lt
  have b5 : Below w.heap.size w w5 := (below_drewN S.bel 1).grown g5 S.bel.size (fun kk h => by simp only [Option.some.injEq] at h; omega)
  have b7 : Below w.heap.size w w7 := (b5.alloc b5.size o).grown g7 (Nat.le_trans b5.size (by simp)) (fun kk h => by have := hB kk h; omega)
  have own5 : w5.ownsRow (w.heap.size + 3) 33 8 u lv.length (frC lv) := World.ownsRow.kept own g5 (.inr fun e => by have := hB _ e; omega)
  have gS : w7.grownBy (w7.setCell ⟨w.heap.size, 0, none⟩ v7) (some w.heap.size) := grownBy_set (World.grownBy.refl _ _) _ _ (.inl rfl)
  have lift : ∀ {dv : Value} {ds : List Int}, Own .u8 5 w5 (w.heap.size + 3) dv ds → Own .u8 5 (w7.setCell ⟨w.heap.size, 0, none⟩ v7) (w.heap.size + 3) dv ds := fun {dv ds} h => by
    refine Own.kept (Own.kept (Own.alloc h o) g7 fun jj h1 h2 => ?_) gS fun jj h1 h2 => ?_
    · exact rows_apart own5 h (by decide) jj h2 h1
    · have := h.blk jj h1; simp only [Option.some.injEq] at h2; omega
  have liftS : ∀ {sv : Value} {ss : List (Int × Int)}, OwnS w5 (w.heap.size + 3) sv ss → OwnS (w7.setCell ⟨w.heap.size, 0, none⟩ v7) (w.heap.size + 3) sv ss := fun {sv ss} h => by
    refine OwnS.kept (OwnS.kept (OwnS.kept h (World.grownBy_alloc w5 o none) (by simp)) g7 fun jj h1 h2 => ?_) gS fun jj h1 h2 => ?_
    · exact rows_apart own5 h (by decide) jj h2 h1
    · have := h.blk jj h1; simp only [Option.some.injEq] at h2; omega
  refine ⟨HE, by have := S.len; simp; omega, hj, ?_, ⟨v7, Joins.block_setCell k7 v7, ?_⟩, ?_, b7.setCell (Nat.le_refl _) _⟩
  · have := (A5.alloc o).keptG g7 (fun e => by have := hB _ e; omega)
    exact this.other (q := ⟨w.heap.size, 0, none⟩) (by show w.heap.size + 2 ≠ w.heap.size; omega) _
  · rw [← hlv]
    refine OwnF.snoc (g := ⟨f, dv, sv⟩) (fun g hg => ⟨lift (Own.kept (Own.drew (hparts g hg).1) g5 fun jj h1 h2 => ?_), liftS (OwnS.kept (w := wr.drew) (World.ownsRow.drew (hparts g hg).2) g5 fun jj h1 h2 => ?_)⟩) ⟨lift (OD.mono (by show w.heap.size + 3 ≤ wr.heap.size; omega)), liftS (OS.mono (by show w.heap.size + 3 ≤ wr.heap.size; omega))⟩ (World.ownsRow.kept o7 gS (.inr fun e => by have := (World.ownsRow.lt o7 _ e).1; omega))
    · have := (hparts g hg).1.blk jj h1; simp only [Option.some.injEq] at h2; omega
    · have := (hparts g hg).2.blk jj h1; simp only [Option.some.injEq] at h2; omega
  · have f5 : w5.heap[w.heap.size + 1]? = _ := block_kept (w := wr.drew) S.flt g5 (by simp)
    have f7 := block_kept ((Below.heap_alloc w5 o _ (Array.getElem?_eq_some_iff.1 f5).1).trans f5) g7 (fun e => by have := hB _ e; omega)
    exact (Below.heap_setCell _ _ _ _ (by show w.heap.size + 1 ≠ w.heap.size; omega)).trans f7

set_option maxHeartbeats 3200000 in
theorem decode_go (b o c : Nat) (xs : List Int) (w : World) (ht : Tab w) (hr : Rd .u8 w (.slice (some ⟨b, o, none⟩) xs.length c) xs) (hx : Bts xs) (hl : xs.length ≤ 1200) (h0 : 0 < xs.length) (hb : b < w.heap.size) :
    Calls Tryd.prog 19 #[.slice (some ⟨b, o, none⟩) xs.length c] w (DecIs w (decGo xs 64 0 [])) := by
  have hmf : ∀ (fn : Fn) (first cap : Array Value) (w : World), (Instr.makeFunc fn first cap).run Tryd.prog w = .ok (.func fn first cap) w := fun _ _ _ _ => rfl
  have t1 : decide (1200 < (xs.length : Int)) = false := decide_eq_false (by omega)
  have HT := Lib.hid ht
  have HR := Lib.hid hr
  have HX := Lib.hid hx
  have hp := ht.pos
  have ST := Lib.hid (LS.start (xs := xs) (w := w) (v := .slice (some ⟨b, o, none⟩) xs.length c))
  clear ht hr hx
  go_enter_defers Tryd.func19, Tryd.ntmps19
  go_wp2_with fail
  generalize ((w.alloc (.cells #[.slice none 0 0] 22)).alloc (.cells #[.int .i64 0, .int .i64 0] 37)).alloc (.cells #[.slice (some ⟨b, o, none⟩) xs.length c, .int .i64 0] 63) = w4 at ST ⊢
  generalize htot : decGo xs 64 0 [] = tot at ST ⊢
  have HT0 := Lib.hid htot
  clear htot
  go_loopg [] 64 (fun k wr => ∃ (i : Nat) (l : List Fr), LS xs w wr (.slice (some ⟨b, o, none⟩) xs.length c) tot k i l)
  case atStart => exact ⟨0, [], ST.out⟩
  case round =>
    obtain ⟨i, l, S0⟩ := hrel
    have S := Lib.hid S0
    obtain ⟨u, hu, lv, hlv, hown, hparts⟩ := S0.row
    have hll : l.length = lv.length := by rw [← hlv, List.length_map]
    obtain ⟨ua, uc, rfl, _, _⟩ := (RdC.of_owns hown).isSlice
    have c0 := S0.at_.c0
    have c1 := S0.at_.c1
    have cl := Joins.cell_of_block hu 0
    have HU := Lib.hid hu
    have HO := Lib.hid (World.ownsRow.drew hown)
    have HPs := Lib.hid hparts
    have HLV := Lib.hid hlv
    by_cases hi : i < xs.length
    · have hi1 : (i : Int) < (xs.length : Int) := by omega
      cases gk with
      | zero =>
        have e64 : l.length = 64 := by have := S0.len; omega
        have HE : Hid (tot = .error (6, i)) := by show _ = _; rw [← S0.is]; unfold decGo; exact if_pos hi
        have h64 : ((lv.length : Int) == 64) = true := by simp; omega
        clear S0 hu hown hparts hlv hll
        go_wp2_with (go_at_call 34; refine (breakOff_any _ _ _ _).mono ?_; rintro e w' ⟨rfl, rfl⟩)
        exact door_fault w.heap.size (w.heap.size + 1) w wr 6 i 0 0 _ tot HE.out HU.out S.out.flt (by simp) S.out.bel (Nat.le_refl _) (by omega) _ rfl rfl
      | succ k =>
        have h64 : ((lv.length : Int) == 64) = false := by have := S0.len; simp; omega
        have TW : Hid (∀ V : World, Below w.heap.size w V → Tab V) := fun V hV => HT.out.below hV hp
        have RW : Hid (∀ V : World, Below w.heap.size w V → Rd .u8 V (.slice (some ⟨b, o, none⟩) xs.length c) xs) := fun V hV => HR.out.below hV
        have bD : Below w.heap.size w wr.drew := below_drewN S0.bel 1
        have FR := Lib.hid (rframe_any (w.heap.size + 2) b o c xs i wr.drew (TW.out _ bD) S0.at_.drew (RW.out _ bD) HX.out hi (by omega) (by omega) (by omega) (by have := S0.bel.size; show b < wr.heap.size; omega))
        have cl' : wr.drew.cell? ⟨w.heap.size, 0, none⟩ = some (.slice ua lv.length uc) := cl
        have HUd : Hid (wr.drew.heap[w.heap.size]? = some (.cells #[.slice ua lv.length uc] 22 (0, 0))) := hu
        have FLd : Hid (wr.drew.heap[w.heap.size + 1]? = some (.cells #[.int .i64 0, .int .i64 0] 37 (0, 0))) := S0.flt
        have neU : some (w.heap.size + 2) ≠ some w.heap.size := by simp
        have neF : some (w.heap.size + 2) ≠ some (w.heap.size + 1) := by simp
        have neA : w.heap.size ≠ w.heap.size + 1 := by simp
        have neP : ∀ k, some (w.heap.size + 2) = some k → w.heap.size ≤ k := fun k h => by simp only [Option.some.injEq] at h; omega
        cases hf : frameR xs i with
        | error e =>
          obtain ⟨y, z⟩ := e
          have HF : Hid (frameR xs i = .error (y, z)) := hf
          have HE : Hid (tot = .error (y, z)) := by show _ = _; rw [← S0.is]; unfold decGo; rw [if_pos hi, hf]
          clear S0 hu hown hf hparts hlv hll
          go_wp2_with fail
          refine wp_region_any (by kernel_rfl) ?_
          change wpAny _ _ _ _ _ _ _ (World.drew _)
          refine wpAny_ready (rs := [0, 1]) (by kernel_rfl) (by simp) ?_
          refine AllReady.cons rfl (fun K hK => ?_) ?_
          · go_simp
            refine hK _ _ ?_
            clear hK
            refine wpAny_ready (rs := [1]) (by kernel_rfl) (by simp) ?_
            refine AllReady.cons rfl (fun K hK => ?_) AllReady.nil
            go_simp
            go_at_call 35
            refine FR.out.mono ?_
            rintro e w5 h5
            obtain ⟨g5, rfl⟩ := h5.err HF.out
            exact door_fault w.heap.size (w.heap.size + 1) w w5 y z 0 0 _ tot HE.out (block_kept HUd.out g5 neU) (block_kept FLd.out g5 neF) neA (bD.grown g5 bD.size neP) (Nat.le_refl _) (Nat.le_succ _) _ rfl rfl
          · refine AllReady.cons rfl (fun K hK => ?_) AllReady.nil
            go_simp
            go_at_call 35
            refine FR.out.mono ?_
            rintro e w5 h5
            obtain ⟨g5, rfl⟩ := h5.err HF.out
            exact door_fault w.heap.size (w.heap.size + 1) w w5 y z 0 0 _ tot HE.out (block_kept HUd.out g5 neU) (block_kept FLd.out g5 neF) neA (bD.grown g5 bD.size neP) (Nat.le_refl _) (Nat.le_succ _) _ rfl rfl
        | ok y =>
          obtain ⟨f, j⟩ := y
          have HF : Hid (frameR xs i = .ok (f, j)) := hf
          have HE : Hid (decGo xs k j (l ++ [f]) = tot) := by show _ = _; rw [← S0.is, decGo, if_pos hi, hf]
          have HJ := Lib.hid (frameR_pos HX.out hi hf)
          have neB : (Value.slice ua lv.length uc).ownBlock ≠ some w.heap.size := fun e => by have := (World.ownsRow.lt hown _ e).1; omega
          have neP3 : (Value.slice ua lv.length uc).ownBlock ≠ some (w.heap.size + 2) := fun e => by have := (World.ownsRow.lt hown _ e).1; omega
          have hlen := S0.len
          have hk64 : lv.length + 1 ≤ 64 := by omega
          clear S0 hu hown hf hparts hlv
          go_wp2_with fail
          go_region_law (first
            | (refine step_append_rows rfl (.tmp 23) (.tmp 25) 22 rfl elemFrame Tryd.underlying22 (w.heap.size + 3) (.slice ua lv.length uc) lv.length (frC lv) rfl (World.ownsRow.alloc (World.ownsRow.kept HO.out g5 (.inr neP2)) _) (.slice (some ⟨w5.heap.size, 0, none⟩) 1 1) 1 _ rfl (RdC.built 8 w5 _ _ rfl) ?_ ?_ ?_ ?_ ?_; (exact frC_one (l := [⟨f, .slice da f.data.length dc, .slice sa f.spans.length sc⟩]) (fun g hg => by simp only [List.mem_singleton] at hg; subst hg; exact ⟨rfl, rfl⟩)); (omega); (unfold maxLen; omega); (simp; omega); intro v7 w7 o7 g7; obtain ⟨va7, vc7, rfl, _, _⟩ := (RdC.of_owns o7).isSlice; have k7 := block_kept ((Below.heap_alloc _ _ _ lt5).trans k5) g7 neB; have c7 := Joins.cell_of_block k7 0; have f7 := Joins.unfrozen_of_block k7)
            | (go_simp; go_at_call 35; refine FR.out.mono ?_; rintro e w5 h5; obtain ⟨g5, ⟨u5, rfl, dv, sv, rfl, OD, OS⟩, A5⟩ := h5.ok HF.out; obtain ⟨da, dc, rfl⟩ := Own.len OD; obtain ⟨sa, sc, rfl, _, _⟩ := (OwnS.rd OS).isSlice; have k5 := block_kept HUd.out g5 neU; have c5 := Joins.cell_of_block k5 0; have lt5 := (Array.getElem?_eq_some_iff.1 k5).1; have ltA := A5.lt; have neP2 : (Value.slice ua lv.length uc).ownBlock ≠ some (w.heap.size + 2) := neP3))
          all_goals
            go_wp2
            go_roundg k
            case measure => omega
            case rel => exact ⟨j, l ++ [f], LS.next S.out HLV.out HPs.out HO.out HE.out HJ.out.2 g5 OD OS A5 o7 g7 k7⟩
    · have hi1 : ¬ ((i : Int) < (xs.length : Int)) := by omega
      have hi2 : decide ((i : Int) < (xs.length : Int)) = false := decide_eq_false hi1
      have HE : Hid (tot = .ok l) := by
        show _ = _
        rw [← S0.is]
        cases gk <;> unfold decGo <;> rw [if_neg hi]
      have HFl := Joins.cell_of_block S0.flt
      have fl0 := HFl 0
      have fl1 := HFl 1
      have ffl := Joins.unfrozen_of_block S0.flt
      have fcl := Joins.unfrozen_of_block hu
      clear S0 hu hown hparts hlv hll hi
      go_wp2
      refine leaves_cons (f := 33) (args := #[.pointer (some ⟨w.heap.size, 0, none⟩), .pointer (some ⟨w.heap.size + 1, 0, none⟩)]) (by simp) (by simp [go_sem]) ?_
      refine (catch_idle w.heap.size (w.heap.size + 1) _).mono ?_
      rintro e u' w'' ⟨rfl, rfl, rfl⟩
      have bl : Below w.heap.size w (((wr.setCell ⟨w.heap.size, 0, none⟩ (.slice ua lv.length uc)).setCell ⟨w.heap.size + 1, 0, none⟩ (.int .i64 0)).setCell ⟨w.heap.size + 1, 1, none⟩ (.int .i64 0)) := ((S.out.bel.setCell (Nat.le_refl _) _).setCell (Nat.le_succ _) _).setCell (Nat.le_succ _) _
      have ow : OwnF (((wr.setCell ⟨w.heap.size, 0, none⟩ (.slice ua lv.length uc)).setCell ⟨w.heap.size + 1, 0, none⟩ (.int .i64 0)).setCell ⟨w.heap.size + 1, 1, none⟩ (.int .i64 0)) w.heap.size (.slice ua lv.length uc) l := by
        have o0 : OwnF wr (w.heap.size + 3) (.slice ua lv.length uc) l := ⟨lv, HLV.out, HO.out, HPs.out⟩
        have o1 := o0.kept (grownBy_set (World.grownBy.refl wr _) ⟨w.heap.size, 0, none⟩ (.slice ua lv.length uc) (.inl rfl)) (by show w.heap.size < _; omega)
        have o2 := o1.kept (grownBy_set (World.grownBy.refl _ _) ⟨w.heap.size + 1, 0, none⟩ (.int .i64 0) (.inl rfl)) (by show w.heap.size + 1 < _; omega)
        have o3 := o2.kept (grownBy_set (World.grownBy.refl _ _) ⟨w.heap.size + 1, 1, none⟩ (.int .i64 0) (.inl rfl)) (by show w.heap.size + 1 < _; omega)
        exact o3.mono (by omega)
      rw [HT0.out, HE.out]
      refine ⟨.tuple #[.slice ua lv.length uc, .agg #[.int .i64 0, .int .i64 0]], ?_, bl, _, rfl, ow⟩
      simp [results, Tryd.results19, go_sem, cl, fl0, fl1]
end Go.Proofs.YtfkkimaebhjneaaDoor

namespace Go.Proofs.YtfkkimaebhjneaaDoor
open Go.RowKit

set_option maxHeartbeats 1600000 in
theorem decode_empty (va : Option Addr) (vc : Nat) (w : World) :
    Calls Tryd.prog 19 #[.slice va 0 vc] w (DecIs w (.ok [])) := by
  have hmf : ∀ (fn : Fn) (first cap : Array Value) (w : World), (Instr.makeFunc fn first cap).run Tryd.prog w = .ok (.func fn first cap) w := fun _ _ _ _ => rfl
  go_enter_defers Tryd.func19, Tryd.ntmps19
  go_wp2_with fail
  refine wp_loop_rounds 1 ?_
  rw [rounds_succ]
  go_wp2
  refine leaves_cons (f := 33) (args := #[.pointer (some ⟨w.heap.size, 0, none⟩), .pointer (some ⟨w.heap.size + 1, 0, none⟩)]) (by simp) (by simp [go_sem]) ?_
  refine (catch_idle w.heap.size (w.heap.size + 1) _).mono ?_
  rintro e u' w'' ⟨rfl, rfl, rfl⟩
  refine ⟨.tuple #[.slice none 0 0, .agg #[.int .i64 0, .int .i64 0]], ?_, ?_, _, rfl, OwnF.nil _ _⟩
  · simp [results, Tryd.results19, go_sem]
  · go_grown

/-- DECODE, WHATEVER THE BYTES -/
theorem decode_any (v : Value) (xs : List Int) (w : World) (ht : Tab w) (hr : Rd .u8 w v xs) (hx : Bts xs) :
    Calls Tryd.prog 19 #[v] w (DecIs w (decL xs)) := by
  by_cases hl : 1200 < xs.length
  · have e : decL xs = .error (6, 0) := if_pos hl
    rw [e]
    exact decode_long v xs w hr hl
  · have e : decL xs = decGo xs 64 0 [] := if_neg hl
    have hr' := hr
    rcases hr with ⟨rfl, a, c, rfl, _⟩ | ⟨h0, b, o, c, rfl, h2, h3, h4, h5⟩
    · exact decode_empty a c w
    · rw [e]
      exact decode_go b o c xs w ht hr' hx (by omega) (List.length_pos_iff.2 h0) h4
end Go.Proofs.YtfkkimaebhjneaaDoor
