/- The walks of VintRow and VintFew. -/
import Derived.Test.YtkalncahelnamaaDoorVintQ
namespace Go.Proofs.YtkalncahelnamaaDoor
open Go.RowKit

def fitsF (l : List Int) : List Int := l.filter fun n => fitsB n 8
theorem fitsF_yes {l : List Int} {k : Nat} (hk : k < l.length) (h : fitsB (l.getD k 0) 8 = true) : fitsF (l.take (k + 1)) = fitsF (l.take k) ++ [l.getD k 0] := by
  have e : l.getD k 0 = l[k] := by simp [List.getD, List.getElem?_eq_getElem hk]
  rw [e] at h ⊢
  rw [List.take_succ_eq_append_getElem hk, fitsF, List.filter_append]
  simp [fitsF, h]
theorem fitsF_no {l : List Int} {k : Nat} (hk : k < l.length) (h : fitsB (l.getD k 0) 8 = false) : fitsF (l.take (k + 1)) = fitsF (l.take k) := by
  have e : l.getD k 0 = l[k] := by simp [List.getD, List.getElem?_eq_getElem hk]
  rw [e] at h
  rw [List.take_succ_eq_append_getElem hk, fitsF, List.filter_append]
  simp [fitsF, h]
theorem fitsF_le (l : List Int) (k : Nat) : (fitsF (l.take k)).length ≤ k := Nat.le_trans (List.length_filter_le _ _) (List.length_take_le _ _)
theorem fitsF_all (l : List Int) : ∀ n ∈ fitsF l, fitsB n 8 = true := fun _ hn => (List.mem_filter.1 hn).2
theorem encAll_len (ns : List Int) (h : ∀ n ∈ ns, fitsB n 8 = true) : (encAll ns).length ≤ 8 * ns.length := by
  induction ns with
  | nil => simp [encAll]
  | cons n ns ih =>
    have e : encAll (n :: ns) = enc n (sizeI n) ++ encAll ns := by simp [encAll]
    have hn := sizeI_in (h n (by simp))
    have hl := enc_len n (sizeI n) hn.1
    have := ih (fun m hm => h m (by simp [hm]))
    have h8 : (sizeI n).toNat ≤ 8 := by rcases hn.1 with h | h | h | h <;> rw [h] <;> decide
    rw [e, List.length_append, List.length_cons]
    omega
theorem encAll_bts (ns : List Int) : Bts (encAll ns) := by
  intro x hx
  obtain ⟨n, _, hn⟩ := List.mem_flatMap.1 hx
  exact enc_bts _ _ x hn
theorem fits8 (n : Int) : fitsB n 8 = decide (0 ≤ n ∧ n < 4611686018427387904) := rfl

set_option maxHeartbeats 1000000 in
theorem vintRow_walk (v : Value) (l : List Int) (w : World) (ht : Tab w) (hr : Rd .i64 w v l) (hl : l.length * 8 ≤ 140737488351232) :
    Calls Tryd.prog 7 #[v] w (Yes w) := by
  have hp := ht.pos
  have hT := Lib.hid ht
  have hcase : (l = [] ∧ ∃ a c, v = .slice a 0 c) ∨ (∃ b o c, v = .slice (some ⟨b, o, none⟩) l.length c ∧ b < w.heap.size ∧ ∀ i, i < l.length → w.cell? ⟨b, o + i, none⟩ = some (.int .i64 (l.getD i 0))) := by
    rcases hr with ⟨h, a, c, rfl, _⟩ | ⟨_, b, o, c, rfl, _, _, h4, h5⟩
    · exact .inl ⟨h, a, c, rfl⟩
    · exact .inr ⟨b, o, c, rfl, h4, h5⟩
  have hend : ∀ (vb vw : Value) (wr : World), Own .u8 5 wr w.heap.size vb (encAll (fitsF l)) → Own .i64 3 wr w.heap.size vw (fitsF l) → Below w.heap.size w wr → Tab wr →
      Calls Tryd.prog 20 #[vb] wr fun e w' => ∃ u, e = .returned (.tuple #[u, .agg #[.int .i64 0, .int .i64 0]]) ∧ Own .i64 3 w' wr.heap.size u (fitsF l) ∧ Below wr.heap.size wr w' := by
    intro vb vw wr ob _ _ htr
    have hall : allS (encAll (fitsF l)) (encAll (fitsF l)).length 0 [] = some (fitsF l) := by
      have := allS_enc (fitsF l) [] [] _ (fitsF_all l) (Nat.le_refl _)
      simpa using this
    have hfl : (fitsF l).length ≤ l.length := List.length_filter_le _ _
    refine (all_any vb _ wr htr ob.rd (encAll_bts _) (.inr ⟨_, hall, by omega⟩)).mono ?_
    rintro e w' ⟨u, ys, c, d, rfl, ou, bu, ⟨h1, rfl, rfl⟩ | ⟨h1, _⟩⟩
    · rw [hall] at h1; cases h1; exact ⟨u, rfl, ou, bu⟩
    · rw [hall] at h1; cases h1
  have HE := Lib.hid hend
  clear hend ht hr
  rcases hcase with ⟨rfl, a, c, rfl⟩ | ⟨b, o, c, rfl, hb, hc⟩
  · go_enter Tryd.func7, Tryd.ntmps7
    go_wp2_with fail
    refine wp_loop_rounds 1 ?_
    rw [rounds_succ]
    have OB : Own .u8 5 w w.heap.size (.slice none 0 0) (encAll (fitsF [])) := Own.nil _ _ _ _
    have OW : Own .i64 3 w w.heap.size (.slice none 0 0) (fitsF []) := Own.nil _ _ _ _
    have BB := Below.refl w.heap.size w
    have TT := hT.out
    go_wp2_with fail
    refine (HE.out _ _ _ OB OW BB TT).mono ?_
    rintro e w1 ⟨u, rfl, ou, bu⟩
    have z0 := BB.size
    have z1 := bu.size
    have B1 : Below w.heap.size w w1 := BB.trans (bu.mono z0)
    have hT1 : Hid (Tab (w1.alloc (.cells #[.int .i64 0, .int .i64 0] 35))) := hT.out.below (B1.alloc (by omega) _) hp
    have R1 : Hid (Rd .i64 (w1.alloc (.cells #[.int .i64 0, .int .i64 0] 35)) u (fitsF [])) := (ou.alloc _).rd
    have R2 : Hid (Rd .i64 (w1.alloc (.cells #[.int .i64 0, .int .i64 0] 35)) (.slice none 0 0) (fitsF [])) := ((OW.keep bu).alloc _).rd
    go_wp2_with fail
    refine (ints_yes _ _ _ _ R1.out R2.out).mono ?_
    rintro e w3 ⟨rfl, b3⟩
    have e3 : w3.cell? ⟨w1.heap.size, 0, none⟩ = some (.int .i64 0) := (b3.cell (p := ⟨w1.heap.size, 0, none⟩) (by simp)).trans (by rw [World.cell?_alloc_at _ _ _ _ rfl]; rfl)
    have f3 : w3.cell? ⟨w1.heap.size, 1, none⟩ = some (.int .i64 0) := (b3.cell (p := ⟨w1.heap.size, 1, none⟩) (by simp)).trans (by rw [World.cell?_alloc_at _ _ _ _ rfl]; rfl)
    have B3 : Below w.heap.size w w3 := (B1.alloc (by omega) _).trans (b3.mono (by simp; omega))
    have z3 := B3.size
    have hT3 : Hid (Tab w3) := hT.out.below B3 hp
    go_wp2_with fail
    refine (alive_any _ hT3.out).mono ?_
    rintro e w5 ⟨rfl, b5⟩
    go_wp2_with fail
    go_ret
    exact ⟨rfl, B3.trans (b5.mono z3)⟩
  · have HC := Lib.hid hc
    clear hc
    go_enter Tryd.func7, Tryd.ntmps7
    go_wp2_with fail
    go_loopw [3, 4, 13] (fun vb vw i wr => ∃ k : Nat, k ≤ l.length ∧ i = .int .i64 k ∧ Own .u8 5 wr w.heap.size vb (encAll (fitsF (l.take k))) ∧ Own .i64 3 wr w.heap.size vw (fitsF (l.take k)) ∧ Below w.heap.size w wr) (fun _ _ i _ => l.length - (intOf i).toNat)
    case atStart => exact ⟨0, Nat.zero_le _, rfl, Own.nil _ _ _ _, Own.nil _ _ _ _, Below.refl _ _⟩
    case round =>
      obtain ⟨k, hk, rfl, ob, ow, hbl⟩ := hrel
      have hsz := hbl.size
      by_cases hlt : k < l.length
      · have hcell : wr.cell? ⟨b, o + k, none⟩ = some (.int .i64 (l.getD k 0)) := (hbl.cell (p := ⟨b, o + k, none⟩) hb).trans (HC.out k hlt)
        have hle := encAll_len _ (fitsF_all (l.take k))
        have hfk := fitsF_le l k
        have hP := Lib.hid (put_any u3 _ (l.getD k 0) wr (hT.out.below hbl hp) ob.rd (by omega))
        cases hf : fitsB (l.getD k 0) 8
        · have HFk := Lib.hid (fitsF_no hlt hf)
          have hf' := hf
          rw [fits8, decide_eq_false_iff_not] at hf'
          have hq : putS (encAll (fitsF (l.take k))) (l.getD k 0) = none := by unfold putS; rw [hf]; rfl
          rw [hq] at hP
          obtain ⟨x, hx⟩ : ∃ x, x = l.getD k 0 := ⟨_, rfl⟩
          rw [← hx] at hcell hP hf'
          clear hf hq hx
          go_wp2_with fail
          refine hP.out.mono ?_
          rintro e w1 ⟨u1, y1, c1, rfl, o1, b1, ⟨_, hq, _⟩ | ⟨_, rfl, rfl⟩⟩
          · cases hq
          by_cases hx0 : 0 ≤ x
          · have t1 : decide (0 ≤ x) = true := by simp; omega
            have t2 : decide (x ≤ 4611686018427387903) = false := by simp; omega
            go_wp2
            go_roundw
            case rel => exact ⟨k + 1, by omega, by go_num, by rw [HFk.out]; exact ob.keep b1, by rw [HFk.out]; exact ow.keep b1, hbl.trans (b1.mono hsz)⟩
            case measure => simp [intOf]; omega
          · have t1 : decide (0 ≤ x) = false := by simp; omega
            go_wp2
            go_roundw
            case rel => exact ⟨k + 1, by omega, by go_num, by rw [HFk.out]; exact ob.keep b1, by rw [HFk.out]; exact ow.keep b1, hbl.trans (b1.mono hsz)⟩
            case measure => simp [intOf]; omega
        · have HFk := Lib.hid (fitsF_yes hlt hf)
          have hf' := hf
          rw [fits8, decide_eq_true_iff] at hf'
          have hq : putS (encAll (fitsF (l.take k))) (l.getD k 0) = some (encAll (fitsF (l.take k)) ++ enc (l.getD k 0) (sizeI (l.getD k 0))) := by unfold putS; rw [hf]; rfl
          rw [hq, ← encAll_snoc] at hP
          obtain ⟨x, hx⟩ : ∃ x, x = l.getD k 0 := ⟨_, rfl⟩
          rw [← hx] at hcell hP hf' HFk
          clear hf hq hx
          go_wp2_with fail
          refine hP.out.mono ?_
          rintro e w1 ⟨u1, y1, c1, rfl, o1, b1, ⟨q, hq, rfl, rfl⟩ | ⟨hq, _⟩⟩
          · cases hq
            have t1 : decide (0 ≤ x) = true := by simp; omega
            have t2 : decide (x ≤ 4611686018427387903) = true := by simp; omega
            have ow1 := ow.keep b1
            have hbw := hbl.trans (b1.mono hsz)
            have hsz1 := b1.size
            have o1' := o1.mono hsz
            have hno : ∀ j, u1.ownBlock = some j → u4.ownBlock ≠ some j := fun j h1 h2 => by have := o1.blk j h1; have := ow.blt j h2; omega
            clear ow hbl ob b1 o1
            go_wp2_with (at_builtin; ((with_reducible refine wpList_append_rd _ ?_ (.tmp 35) (.tmp 37) 39 ?_ elemInt Tryd.underlying39 w.heap.size _ _ ?_ (ow1.alloc _) (.slice (some ⟨w1.heap.size, 0, none⟩) 1 1) [x] ?_ (Rd.one' .i64 3 w1 x w1.heap.size rfl) ?_ ?_ ?_ ?_)); rfl; rfl; rfl; rfl; (simp; omega); (simp; unfold maxLen; omega); (simp; omega); intro v2 w2 o2 g2; have b2 : Below w.heap.size w w2 := (hbw.alloc (by omega) _).grown g2 (by simp; omega) ow1.blk; have o1'' := (o1'.alloc _).kept g2 hno)
            go_roundw
            case rel => exact ⟨k + 1, by omega, by go_num, by rw [HFk.out]; exact o1'', by rw [HFk.out]; exact o2, b2⟩
            case measure => simp [intOf]; omega
          · cases hq
      · obtain rfl : k = l.length := by omega
        rw [List.take_length] at ob ow
        have OB := ob
        have OW := ow
        have BB := hbl
        have TT := hT.out.below hbl hp
        clear ob ow hbl
        go_wp2_with fail
        refine (HE.out _ _ _ OB OW BB TT).mono ?_
        rintro e w1 ⟨u, rfl, ou, bu⟩
        have z0 := BB.size
        have z1 := bu.size
        have B1 : Below w.heap.size w w1 := BB.trans (bu.mono z0)
        have hT1 : Hid (Tab (w1.alloc (.cells #[.int .i64 0, .int .i64 0] 35))) := hT.out.below (B1.alloc (by omega) _) hp
        have R1 : Hid (Rd .i64 (w1.alloc (.cells #[.int .i64 0, .int .i64 0] 35)) u (fitsF l)) := (ou.alloc _).rd
        have R2 : Hid (Rd .i64 (w1.alloc (.cells #[.int .i64 0, .int .i64 0] 35)) u4 (fitsF l)) := ((OW.keep bu).alloc _).rd
        go_wp2_with fail
        refine (ints_yes _ _ _ _ R1.out R2.out).mono ?_
        rintro e w3 ⟨rfl, b3⟩
        have e3 : w3.cell? ⟨w1.heap.size, 0, none⟩ = some (.int .i64 0) := (b3.cell (p := ⟨w1.heap.size, 0, none⟩) (by simp)).trans (by rw [World.cell?_alloc_at _ _ _ _ rfl]; rfl)
        have f3 : w3.cell? ⟨w1.heap.size, 1, none⟩ = some (.int .i64 0) := (b3.cell (p := ⟨w1.heap.size, 1, none⟩) (by simp)).trans (by rw [World.cell?_alloc_at _ _ _ _ rfl]; rfl)
        have B3 : Below w.heap.size w w3 := (B1.alloc (by omega) _).trans (b3.mono (by simp; omega))
        have z3 := B3.size
        have hT3 : Hid (Tab w3) := hT.out.below B3 hp
        go_wp2_with fail
        refine (alive_any _ hT3.out).mono ?_
        rintro e w5 ⟨rfl, b5⟩
        go_wp2_with fail
        go_ret
        exact ⟨rfl, B3.trans (b5.mono z3)⟩
end Go.Proofs.YtkalncahelnamaaDoor
