/- Walks of layer 8: Due. -/
import Derived.Test.YtobalbaieakcmaaSnE
set_option linter.unusedSimpArgs false
set_option linter.unusedVariables false
namespace Go.Proofs.Ytobalbaieakcmaa
open Go.RowKit Go.Maps

theorem due_ge {big wait d : Int} {l : List Pk} (h : DueIs big wait l d) : d = -1 ∨ 0 ≤ d := by
  rcases h with ⟨h, _⟩ | ⟨h, _⟩
  · exact .inl h
  · exact .inr h
theorem due_le {big wait d : Int} {l : List Pk} (h : DueIs big wait l d) (hw : wait ≤ 1099511627776) (hl : ∀ p ∈ l, p.t ≤ 1099511627776) : d ≤ 2199023255552 := by
  rcases h with ⟨h, _⟩ | ⟨_, ⟨p, hp, _, rfl⟩, _⟩
  · omega
  · have := hl p hp; omega

set_option maxRecDepth 100000 in
set_option maxHeartbeats 3200000 in
theorem due_any (b mb : Nat) (q : Lg) (wait : Int) (w : World) (hq : Ok q) (hL : Led b mb q w) :
    Calls Try.prog 19 #[.pointer (some ⟨b, 0, none⟩), .int .i64 wait] w fun e w' => e = .returned (.int .i64 (dueE q wait)) ∧ Below w.heap.size w w' := by
  cases hw : waitB wait
  · have HW := Lib.hid hw
    have HL := Lib.hid hL
    have e : dueE q wait = -1 := by unfold dueE; rw [if_pos hw]
    rw [e]
    clear hw hL hq e
    go_enter Try.func19, Try.ntmps19
    go_wp2_with (first
      | (go_at_call 26; refine (made_any _ HL.out.row).mono ?_; rintro e w2 ⟨rfl, h⟩; obtain rfl : w = w2 := h.symm)
      | (go_at_call 31; refine (mayWait_b _ _ HW.out _).mono ?_; rintro e w2 ⟨rfl, h⟩; obtain rfl : w = w2 := h.symm))
    go_ret
    exact ⟨rfl, Below.refl _ _⟩
  have HD := Lib.hid (due_is hq hw)
  have hw2 := within_iff.1 hw
  have hw3 : 1 ≤ wait ∧ wait ≤ 1099511627776 := hw2
  have HW := Lib.hid hw
  generalize dueE q wait = D at HD ⊢
  obtain ⟨l, last, time, big⟩ := q
  obtain ⟨c0, _, _, c3⟩ := hL.row.facts
  have HL := Lib.hid hL
  have HM : Hid (Mp w mb l) := hL.map
  have HU : Hid (Up l) := hq.up
  have HE := Lib.hid (fun p hp => hq.each p hp)
  have hl : l.length ≤ 512 := hq.few
  have kb := hL.row.lt
  have km := hL.map.lt
  simp only at HD c3 HE
  clear hL hq hw hw2
  go_enter Try.func19, Try.ntmps19
  go_wp2_with (first
    | (go_at_call 26; refine (made_any _ HL.out.row).mono ?_; rintro e w2 ⟨rfl, h⟩; obtain rfl : w = w2 := h.symm)
    | (go_at_call 31; refine (mayWait_b _ _ HW.out _).mono ?_; rintro e w2 ⟨rfl, h⟩; obtain rfl : w = w2 := h.symm)
    | (at_range; refine wpList_range_pk _ rfl _ rfl mb l rfl HM.out HU.out ?_; intro w0 hrg0 hg0 hs0))
  go_frame
  have HR0 := Lib.hid hrg0
  have HG0 := Lib.hid hg0
  clear hrg0 hg0 hs0
  go_loopw [5] (fun dv wr => ∃ (gs todo : List Pk) (d : Int), dv = .int .i64 d ∧ DueIs big wait gs d ∧ Rng wr mb w.heap.size l todo ∧ (gs ++ todo).Perm l ∧ w.grownBy wr none)
    (fun _ wr => wr.rangeLeft mb w.heap.size)
  case atStart => exact ⟨[], l, -1, rfl, due_nil _ _, HR0.out, List.Perm.refl _, HG0.out⟩
  case round =>
    obtain ⟨gs, todo, d, rfl, hdu, hrg, hpm, hgw⟩ := hrel
    have HDu := Lib.hid hdu
    have HRG := Lib.hid hrg
    have HP := Lib.hid hpm
    have HGW := Lib.hid hgw
    have hsz := hgw.size
    clear hpm hgw
    go_wp2_with (at_next; refine wpList_next_pk _ rfl _ rfl mb w.heap.size _ _ rfl hrg ?_ ?_)
    · intro ht0
      have hd := HP.out
      rw [ht0, List.append_nil] at hd
      have he : D = d := due_one HD.out (due_perm HDu.out hd)
      have HEq := Lib.hid he
      clear ht0 hd hrg he hdu
      go_wp2
      go_ret
      rw [HEq.out]
      have hgg := HGW.out
      exact ⟨rfl, hgg.os, hgg.tape, hgg.output, hgg.size, fun i hi => hgg.block i hi (by simp)⟩
    · intro p todo' w1 hpt hpl hne hrg1 hlt hg1 hs1 hen
      have HRL : Hid (wr.rangeLeft mb w.heap.size > w1.rangeLeft mb w.heap.size) := hlt
      have HGW1 := Lib.hid (HGW.out.andThen hg1 (fun j hj => by cases hj; exact .inl (Nat.le_refl _)))
      have e1 := hg1.size
      have HPT := Lib.hid hpt
      have HPm : Hid (((gs ++ [p]) ++ todo').Perm l) := by
        show List.Perm _ _
        rw [List.append_assoc]
        exact (List.Perm.append_left gs HPT.out.symm).trans HP.out
      have b2 := below_one w1 (.cells #[.int .i64 p.n, .int .i64 p.t, .int .i64 p.s] 54)
      have HR2 := Lib.hid (hrg1.kept (grownBy_of_below (row := none) b2) (by simp) (by simp))
      have HL2 := Lib.hid (hrg1.left (grownBy_of_below (row := none) b2) (by simp) (by simp))
      have HGW2 := Lib.hid (HGW1.out.andThen (grownBy_of_below (row := none) b2) (by simp))
      have CB : Hid ((w1.alloc (.cells #[.int .i64 p.n, .int .i64 p.t, .int .i64 p.s] 54)).heap[w1.heap.size]? = some (.cells #[.int .i64 p.n, .int .i64 p.t, .int .i64 p.s] 54 (0, 0))) := by
        show (w1.heap.push _)[w1.heap.size]? = _; simp
      have hpe := HE.out p hpl
      have hge := due_ge HDu.out
      have hdle := due_le HDu.out hw3.2 (fun x hx => (HE.out x (HP.out.mem_iff.1 (List.mem_append_left _ hx))).2.2.2)
      have HN := Lib.hid (due_snoc HDu.out (p := p) (wait := wait) (by omega))
      have hwr : IntKind.i64.wrap (p.t + wait) = p.t + wait := by rw [IntKind.wrap_i64]; omega
      clear hs1 hlt hg1 hrg hrg1 hpt hne hpl e1 b2 hdu
      unfold dueF at HN
      go_upto_region 7 with fail
      generalize w1.alloc (.cells #[.int .i64 p.n, .int .i64 p.t, .int .i64 p.s] 54) = w4 at HR2 HL2 HGW2 CB ⊢
      have x0 : w4.cell? ⟨b, 3, none⟩ = some (.int .i64 big) := HGW2.out.cell c3 (by simp)
      have x1 : w4.cell? ⟨w1.heap.size, 1, none⟩ = some (.int .i64 p.t) := by simp [World.cell?, CB.out]
      by_cases t1 : p.n < big
      · have f1 : decide (p.n < big) = true := decide_eq_true t1
        by_cases t2 : d = -1
        · subst t2
          rw [if_pos ⟨t1, .inl (by omega)⟩] at HN
          clear t1 hge hdle hpe
          go_wp2
          exact ⟨⟨gs ++ [p], todo', p.t + wait, rfl, HN.out, HR2.out, HPm.out, HGW2.out⟩, by rw [HL2.out]; exact HRL.out⟩
        · have f2 : (d == -1) = false := by simpa using t2
          have hd0 : 0 ≤ d := by omega
          by_cases t3 : p.t + wait < d
          · have f3 : decide (p.t + wait < d) = true := decide_eq_true t3
            rw [if_pos ⟨t1, .inr t3⟩] at HN
            clear t1 t2 t3 hge hdle hpe hd0
            go_wp2
            exact ⟨⟨gs ++ [p], todo', p.t + wait, rfl, HN.out, HR2.out, HPm.out, HGW2.out⟩, by rw [HL2.out]; exact HRL.out⟩
          · have f3 : decide (p.t + wait < d) = false := decide_eq_false t3
            rw [if_neg (by rintro ⟨_, h | h⟩ <;> omega)] at HN
            clear t1 t2 t3 hge hdle hpe hd0
            go_wp2
            exact ⟨⟨gs ++ [p], todo', d, rfl, HN.out, HR2.out, HPm.out, HGW2.out⟩, by rw [HL2.out]; exact HRL.out⟩
      · have f1 : decide (p.n < big) = false := decide_eq_false t1
        rw [if_neg (fun h => t1 h.1)] at HN
        clear t1 hge hdle hpe
        go_wp2
        exact ⟨⟨gs ++ [p], todo', d, rfl, HN.out, HR2.out, HPm.out, HGW2.out⟩, by rw [HL2.out]; exact HRL.out⟩
end Go.Proofs.Ytobalbaieakcmaa
