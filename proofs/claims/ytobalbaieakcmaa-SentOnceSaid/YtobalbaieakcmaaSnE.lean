/- Walks of layer 8: Drop, Lose, Out. -/
import Derived.Test.YtobalbaieakcmaaSnD
set_option linter.unusedSimpArgs false
set_option linter.unusedVariables false
namespace Go.Proofs.Ytobalbaieakcmaa
open Go.RowKit Go.Maps

/-- a call that settles: what it hands back, and what it leaves -/
def Gives (b mb : Nat) (q' : Lg) (l : List Pk) (w : World) (e : Ending) (w' : World) : Prop := ∃ v, e = .returned v ∧ OwnP 54 w' w.heap.size v l ∧ Does b mb q' w w'

theorem Ok.nums {q : Lg} (h : Ok q) : ∀ p ∈ q.l, 0 ≤ p.n ∧ p.n ≤ 4611686018427387903 := fun p hp => by
  have := h.each p hp; have := h.last; omega

set_option maxRecDepth 100000 in
set_option maxHeartbeats 1600000 in
theorem drop_any (b mb : Nat) (q : Lg) (w : World) (hq : Ok q) (hL : Led b mb q w) :
    Calls Try.prog 21 #[.pointer (some ⟨b, 0, none⟩)] w (Gives b mb (dropE q).1 (dropE q).2 w) := by
  have hs := settle_any 40 #[] (fun _ => true) b mb q.last q.time q.big q.l w (enters_of Try.func40 (by kernel_rfl) rfl) hL.row hL.map hq.up hq.nums hq.few hL.ne (fun W p _ _ => dropcl_any p W)
  rw [List.filter_eq_self.2 (fun _ _ => rfl), List.filter_eq_nil_iff.2 (fun _ _ => by decide)] at hs
  have HS := Lib.hid hs
  have HRow := Lib.hid hL.row
  have hbm := hL.ne
  clear hs hL hq
  go_enter Try.func21, Try.ntmps21
  go_wp2_with (first
    | (go_at_call 26; refine (made_any _ HRow.out).mono ?_; rintro e w2 ⟨rfl, h⟩; obtain rfl : w = w2 := h.symm)
    | (go_at_call 32; refine HS.out.mono ?_; rintro e w2 ⟨v, rfl, hO, hM, hg⟩))
  go_ret
  exact ⟨v, rfl, hO, ⟨HRow.out.grown hg (by simpa using hbm), hM⟩, Keep.of_grown hg (fun j hj => .inl (by cases hj; simp))⟩

/-- three boxes -/
def box3 (w : World) (b : Nat) (now wait : Int) : World := ((w.alloc (.cells #[.pointer (some ⟨b, 0, none⟩)] 23)).alloc (.cells #[.int .i64 now] 3)).alloc (.cells #[.int .i64 wait] 3)
theorem box3_size (w : World) (b : Nat) (now wait : Int) : (box3 w b now wait).heap.size = w.heap.size + 3 := by simp [box3]
theorem box3_below (w : World) (b : Nat) (now wait : Int) : Below w.heap.size w (box3 w b now wait) := (((Below.refl _ w).alloc (Nat.le_refl _) _).alloc (by simp) _).alloc (by simp; omega) _
theorem box3_cells (w : World) (b : Nat) (now wait : Int) :
    (box3 w b now wait).cell? ⟨w.heap.size, 0, none⟩ = some (.pointer (some ⟨b, 0, none⟩)) ∧ (box3 w b now wait).cell? ⟨w.heap.size + 1, 0, none⟩ = some (.int .i64 now) ∧ (box3 w b now wait).cell? ⟨w.heap.size + 2, 0, none⟩ = some (.int .i64 wait) := by
  have e : (box3 w b now wait).heap = ((w.heap.push (.cells #[.pointer (some ⟨b, 0, none⟩)] 23)).push (.cells #[.int .i64 now] 3)).push (.cells #[.int .i64 wait] 3) := rfl
  have h0 : (box3 w b now wait).heap[w.heap.size]? = some (.cells #[.pointer (some ⟨b, 0, none⟩)] 23 (0, 0)) := by
    rw [e, Array.getElem?_push, if_neg (by simp; omega), Array.getElem?_push, if_neg (by simp), Array.getElem?_push, if_pos rfl]
  have h1 : (box3 w b now wait).heap[w.heap.size + 1]? = some (.cells #[.int .i64 now] 3 (0, 0)) := by
    rw [e, Array.getElem?_push, if_neg (by simp), Array.getElem?_push, if_pos (by simp)]
  have h2 : (box3 w b now wait).heap[w.heap.size + 2]? = some (.cells #[.int .i64 wait] 3 (0, 0)) := by
    rw [e, Array.getElem?_push, if_pos (by simp)]
  exact ⟨by simp [World.cell?, h0], by simp [World.cell?, h1], by simp [World.cell?, h2]⟩
theorem box3_is (w : World) (b : Nat) (now wait : Int) : ((w.alloc (.cells #[.pointer (some ⟨b, 0, none⟩)] 23)).alloc (.cells #[.int .i64 now] 3)).alloc (.cells #[.int .i64 wait] 3) = box3 w b now wait := rfl

set_option maxRecDepth 100000 in
set_option maxHeartbeats 1600000 in
theorem lose_any (b mb : Nat) (q : Lg) (now wait : Int) (w : World) (hq : Ok q) (hL : Led b mb q w) :
    Calls Try.prog 17 #[.pointer (some ⟨b, 0, none⟩), .int .i64 now, .int .i64 wait] w (Gives b mb (loseE q now wait).1 (loseE q now wait).2 w) := by
  have B3 := Lib.hid (box3_below w b now wait)
  have hz := box3_size w b now wait
  have HZ := Lib.hid hz
  have C3 := Lib.hid (box3_cells w b now wait)
  have HL := Lib.hid (hL.below B3.out)
  have hbm := hL.ne
  have kb := hL.row.lt
  have km := hL.map.lt
  unfold loseE waitsB
  cases h1 : nowB now
  · have H1 := Lib.hid h1
    rw [if_pos (by simp)]
    clear h1 hL hz
    go_enter Try.func17, Try.ntmps17
    go_upto_region 1 with fail
    rw [box3_is]
    obtain ⟨x0, x1, x2⟩ := C3.out
    generalize box3 w b now wait = W at *
    go_wp2_with (first
      | (go_at_call 26; refine (made_any _ HL.out.row).mono ?_; rintro e w2 ⟨rfl, rfl⟩)
      | (go_at_call 28; refine (mayNow_b _ _ H1.out _).mono ?_; rintro e w2 ⟨rfl, rfl⟩))
    go_ret
    exact ⟨_, rfl, OwnP.nil _ _ _, HL.out, Keep.of_below B3.out⟩
  have H1 := Lib.hid h1
  cases h2 : waitB wait
  · have H2 := Lib.hid h2
    rw [if_pos (by simp)]
    clear h1 h2 hL hz
    go_enter Try.func17, Try.ntmps17
    go_upto_region 1 with fail
    rw [box3_is]
    obtain ⟨x0, x1, x2⟩ := C3.out
    generalize box3 w b now wait = W at *
    go_wp2_with (first
      | (go_at_call 26; refine (made_any _ HL.out.row).mono ?_; rintro e w2 ⟨rfl, rfl⟩)
      | (go_at_call 28; refine (mayNow_b _ _ H1.out _).mono ?_; rintro e w2 ⟨rfl, rfl⟩)
      | (go_at_call 31; refine (mayWait_b _ _ H2.out _).mono ?_; rintro e w2 ⟨rfl, rfl⟩))
    go_ret
    exact ⟨_, rfl, OwnP.nil _ _ _, HL.out, Keep.of_below B3.out⟩
  have H2 := Lib.hid h2
  rw [if_neg (by simp)]
  have hs := settle_any 38 #[.pointer (some ⟨w.heap.size, 0, none⟩), .pointer (some ⟨w.heap.size + 1, 0, none⟩), .pointer (some ⟨w.heap.size + 2, 0, none⟩)] (lostB q.big now wait) b mb q.last q.time q.big q.l (box3 w b now wait)
    (enters_of Try.func38 (by kernel_rfl) rfl) HL.out.row HL.out.map hq.up hq.nums hq.few hbm (fun W p hp hg => by
      have hp' := hq.each p hp
      have hsz := hg.size
      have hb := hq.big
      have hl := hq.last
      have e0 := HL.out.row.facts.2.2.2
      exact losecl_any p b w.heap.size (w.heap.size + 1) (w.heap.size + 2) q.big now wait W (hq.nums p hp) ⟨hp'.2.2.1, hp'.2.2.2⟩ ⟨hb.1, by omega⟩ (within_iff.1 h1)
        (hg.cell C3.out.1 (by simp; omega)) (hg.cell e0 (by simpa using hbm)) (hg.cell C3.out.2.1 (by simp; omega)) (hg.cell C3.out.2.2 (by simp; omega)) (by omega) (by omega) (by omega) (by omega))
  have HS := Lib.hid hs
  clear hs h1 h2 hL hz
  go_enter Try.func17, Try.ntmps17
  go_upto_region 1 with fail
  rw [box3_is]
  obtain ⟨x0, x1, x2⟩ := C3.out
  generalize box3 w b now wait = W at *
  go_wp2_with (first
    | (go_at_call 26; refine (made_any _ HL.out.row).mono ?_; rintro e w2 ⟨rfl, rfl⟩)
    | (go_at_call 28; refine (mayNow_b _ _ H1.out _).mono ?_; rintro e w2 ⟨rfl, rfl⟩)
    | (go_at_call 31; refine (mayWait_b _ _ H2.out _).mono ?_; rintro e w2 ⟨rfl, rfl⟩)
    | (go_at_call 32; refine HS.out.mono ?_; rintro e w2 ⟨v, rfl, hO, hM, hg⟩))
  go_ret
  refine ⟨v, rfl, hO.mono B3.out.size, ⟨HL.out.row.grown hg (by simpa using hbm), hM⟩, (Keep.of_below B3.out).trans (S' := [mb]) (Keep.of_grown hg (fun j hj => .inl (by cases hj; simp))) (fun i hi => .inl (by simp at hi; simp [hi]))⟩

set_option maxRecDepth 100000 in
set_option maxHeartbeats 3200000 in
theorem out_any (b mb : Nat) (q : Lg) (w : World) (hq : Ok q) (hL : Led b mb q w) :
    Calls Try.prog 24 #[.pointer (some ⟨b, 0, none⟩)] w fun e w' => ∃ v, e = .returned v ∧ OwnP 54 w' w.heap.size v q.l ∧ Below w.heap.size w w' := by
  obtain ⟨l, last, time, big⟩ := q
  obtain ⟨c0, _⟩ := hL.row.facts
  have HL := Lib.hid hL
  have HM : Hid (Mp w mb l) := hL.map
  have HU : Hid (Up l) := hq.up
  have hl : l.length ≤ 512 := hq.few
  have kb := hL.row.lt
  have km := hL.map.lt
  clear hL hq
  go_enter Try.func24, Try.ntmps24
  go_wp2_with (first
    | (go_at_call 26; refine (made_any _ HL.out.row).mono ?_; rintro e w2 ⟨rfl, h⟩; obtain rfl : w = w2 := h.symm)
    | (at_range; refine wpList_range_pk _ rfl _ rfl mb l rfl HM.out HU.out ?_; intro w0 hrg0 hg0 hs0))
  go_frame
  have HR0 := Lib.hid hrg0
  have HG0 := Lib.hid hg0
  clear hrg0 hg0 hs0
  go_loopw [3] (fun gv wr => ∃ (gs todo : List Pk), OwnP 54 wr w.heap.size gv gs ∧ Rng wr mb w.heap.size l todo ∧ (gs ++ todo).Perm l ∧ w.grownBy wr none)
    (fun _ wr => wr.rangeLeft mb w.heap.size)
  case atStart => exact ⟨[], l, OwnP.nil _ _ _, HR0.out, List.Perm.refl _, HG0.out⟩
  case round =>
    obtain ⟨gs, todo, hO, hrg, hpm, hgw⟩ := hrel
    have HO := Lib.hid hO
    have HRG := Lib.hid hrg
    have HP := Lib.hid hpm
    have HGW := Lib.hid hgw
    have hsz := hgw.size
    have hgl : gs.length ≤ 512 := by have := hpm.length_eq; rw [List.length_append] at this; omega
    clear hO hpm hgw
    go_wp2_with (at_next; refine wpList_next_pk _ rfl _ rfl mb w.heap.size _ _ rfl hrg ?_ ?_)
    · intro ht0
      have hd := HP.out
      rw [ht0, List.append_nil] at hd
      have HB := Lib.hid (byNumber_any _ gs l w.heap.size wr HO.out HU.out hd (by omega))
      clear ht0 hd hrg
      go_wp2_with (go_at_call 41; refine HB.out.mono ?_; rintro e w2 ⟨rfl, hO2, hg2⟩)
      go_ret
      have hgg : w.grownBy w2 none := HGW.out.andThen hg2 (fun j hj => .inl (HO.out.blk j hj))
      exact ⟨_, rfl, hO2, hgg.os, hgg.tape, hgg.output, hgg.size, fun i hi => hgg.block i hi (by simp)⟩
    · intro p todo' w1 hpt hpl hne hrg1 hlt hg1 hs1 hen
      have HRL : Hid (wr.rangeLeft mb w.heap.size > w1.rangeLeft mb w.heap.size) := hlt
      have HGW1 := Lib.hid (HGW.out.andThen hg1 (fun j hj => by cases hj; exact .inl (Nat.le_refl _)))
      have hrow := HRG.out.row_ne HO.out
      have HROW := Lib.hid hrow
      have HO1 := Lib.hid (HO.out.kept hg1 (fun j hj e => by cases e; exact hrow _ hj rfl))
      have e1 := hg1.size
      have HPT := Lib.hid hpt
      have b2 := below_one w1 (.cells #[.int .i64 p.n, .int .i64 p.t, .int .i64 p.s] 54)
      have HR2 := Lib.hid (hrg1.kept (grownBy_of_below (row := none) b2) (by simp) (by simp))
      have HL2 := Lib.hid (hrg1.left (grownBy_of_below (row := none) b2) (by simp) (by simp))
      have HO2 := Lib.hid (HO1.out.kept (grownBy_of_below (row := none) b2) (by simp))
      have HGW2 := Lib.hid (HGW1.out.andThen (grownBy_of_below (row := none) b2) (by simp))
      have CB : Hid ((w1.alloc (.cells #[.int .i64 p.n, .int .i64 p.t, .int .i64 p.s] 54)).heap[w1.heap.size]? = some (.cells #[.int .i64 p.n, .int .i64 p.t, .int .i64 p.s] 54 (0, 0))) := by
        show (w1.heap.push _)[w1.heap.size]? = _; simp
      have hq : w.heap.size ≤ w1.heap.size := by omega
      clear hs1 hlt hg1 hrg hrg1 hpt hne hpl hrow e1 b2
      go_upto_region 7 with fail
      generalize w1.alloc (.cells #[.int .i64 p.n, .int .i64 p.t, .int .i64 p.s] 54) = w4 at HR2 HL2 HO2 HGW2 CB ⊢
      have hq4 : Hid (w1.heap.size < w4.heap.size) := (Array.getElem?_eq_some_iff.1 CB.out).1
      have x0 : w4.cell? ⟨w1.heap.size, 0, none⟩ = some (.int .i64 p.n) := by simp [World.cell?, CB.out]
      have x1 : w4.cell? ⟨w1.heap.size, 1, none⟩ = some (.int .i64 p.t) := by simp [World.cell?, CB.out]
      have x2 : w4.cell? ⟨w1.heap.size, 2, none⟩ = some (.int .i64 p.s) := by simp [World.cell?, CB.out]
      go_wp2_with (at_builtin; refine wpList_append_pkS _ rfl _ _ rfl w.heap.size u3 gs rfl (HO2.out.kept (grownBy_of_below (row := none) (below_one w4 _)) (by simp)) _ [p] rfl (RdP.built w4 p _) (by simp; omega) (by have := HGW2.out.size; simp; omega) ?_; intro v' w6 hO6 hg6)
      have b5 := grownBy_of_below (row := none) (below_one w4 (.cells #[.int .i64 p.n, .int .i64 p.t, .int .i64 p.s] 54))
      have hlow : ∀ j, u3.ownBlock = some j → w.heap.size ≤ j := HO2.out.blk
      have n1 : some mb ≠ u3.ownBlock := fun e => by have := hlow _ e.symm; omega
      have n2 : some w.heap.size ≠ u3.ownBlock := fun e => HROW.out _ e.symm rfl
      have HR5 := HR2.out.kept b5 (by simp) (by simp)
      refine ⟨⟨gs ++ [p], todo', hO6, HR5.kept hg6 n1 n2, ?_, (HGW2.out.andThen b5 (by simp)).andThen hg6 (fun j hj => .inl (hlow j hj))⟩, ?_⟩
      · rw [List.append_assoc]
        exact (List.Perm.append_left gs HPT.out.symm).trans HP.out
      · rw [HR5.left hg6 n1 n2, HR2.out.left b5 (by simp) (by simp), HL2.out]
        exact HRL.out
end Go.Proofs.Ytobalbaieakcmaa
