/- Walks of layer 8: the document's Due. -/
import Derived.Test.YtobalbaieakcmaaSnV
set_option linter.unusedSimpArgs false
set_option linter.unusedVariables false
namespace Go.Proofs.Ytobalbaieakcmaa
open Go.RowKit Go.Maps

theorem fold_take (big wait : Int) {l : List Pk} {k : Nat} (h : k < l.length) : (l.take (k + 1)).foldl (dueF big wait) (-1) = dueF big wait ((l.take k).foldl (dueF big wait) (-1)) (l.getD k default) := by
  have e : l.getD k default = l[k] := by simp [List.getD, h]
  rw [List.take_succ_eq_append_getElem h, List.foldl_append, e]; rfl
theorem waits0 {wait : Int} : waitsB 0 wait = waitB wait := by
  have : nowB 0 = true := by decide
  rw [waitsB, this, Bool.true_and]

set_option maxRecDepth 100000 in
set_option maxHeartbeats 3200000 in
theorem rdue_any (rb B : Nat) (q : Lg) (wait : Int) (w : World) (hq : Ok q) (hB : rb < B) (hL : RLed rb B q w) :
    Calls Try.prog 20 #[.pointer (some ⟨rb, 0, none⟩), .int .i64 wait] w fun e w' => e = .returned (.int .i64 (dueE q wait)) ∧ Below w.heap.size w w' := by
  obtain ⟨v, hR, hO⟩ := hL
  have HR := Lib.hid hR
  have HO := Lib.hid hO
  obtain ⟨va, vc, rfl, _, _⟩ := hO.slice
  cases hw : waitB wait
  · have e : dueE q wait = -1 := by unfold dueE; rw [if_pos hw]
    rw [e]
    have HW : Hid (waitsB 0 wait = false) := by show _ = _; rw [waits0]; exact hw
    obtain ⟨c0, _⟩ := hR.facts
    clear hw e hR hO hq
    by_cases h0 : 0 < q.l.length
    · have t1 : decide ((0 : Int) < (q.l.length : Int)) = true := decide_eq_true (by omega)
      have t2 : decide (0 < q.l.length) = true := decide_eq_true h0
      go_enter Try.func20, Try.ntmps20
      go_wp2_with fail
      refine wp_loop_rounds 1 ?_
      rw [rounds_succ]
      go_wp2_with (go_at_call 36; refine (waits_b _ _ _ HW.out _).mono ?_; rintro e w2 ⟨rfl, h⟩; obtain rfl : w = w2 := h.symm)
      go_ret
      exact ⟨rfl, Below.refl _ _⟩
    · have t1 : decide ((0 : Int) < (q.l.length : Int)) = false := decide_eq_false (by omega)
      have t2 : decide (0 < q.l.length) = false := decide_eq_false h0
      go_enter Try.func20, Try.ntmps20
      go_wp2_with fail
      refine wp_loop_rounds 1 ?_
      rw [rounds_succ]
      go_wp2
      go_ret
      exact ⟨rfl, Below.refl _ _⟩
  have e : dueE q wait = q.l.foldl (dueF q.big wait) (-1) := by unfold dueE; rw [if_neg (by rw [hw]; decide)]
  rw [e]
  have HW : Hid (waitsB 0 wait = true) := by show _ = _; rw [waits0]; exact hw
  have hw3 : 1 ≤ wait ∧ wait ≤ 1099511627776 := within_iff.1 hw
  have HN := Lib.hid (fun (p : Pk) (hp : p ∈ q.l) => (hq.each p hp).2.2)
  have hl := hq.few
  obtain ⟨l, last, time, big⟩ := q
  simp only at HN hl HR HO ⊢
  have hrb := hR.lt
  clear hw e hR hO hq
  go_enter Try.func20, Try.ntmps20
  go_wp2_with fail
  go_loopw [5, 6] (fun d i wr => ∃ (k : Nat), i = .int .i64 k ∧ d = .int .i64 ((l.take k).foldl (dueF big wait) (-1)) ∧ k ≤ l.length ∧ DueIs big wait (l.take k) ((l.take k).foldl (dueF big wait) (-1)) ∧ Below w.heap.size w wr) (fun _ i _ => l.length - (intOf i).toNat)
  case atStart => exact ⟨0, rfl, by rw [List.take_zero]; rfl, Nat.zero_le _, by rw [List.take_zero]; exact due_nil _ _, Below.refl _ _⟩
  case round =>
    obtain ⟨k, rfl, rfl, hk, hdu, hbel⟩ := hrel
    have BB := Lib.hid hbel
    have HRr := Lib.hid (HR.out.below hbel)
    obtain ⟨c0, c1, _, _⟩ := HRr.out.facts
    by_cases hlt : k < l.length
    · have h0 : l ≠ [] := fun e => by rw [e] at hlt; simp at hlt
      obtain ⟨lb, lo, lc, e, hlb⟩ := HO.out.rd.form h0
      simp only [Value.slice.injEq, true_and] at e
      obtain ⟨rfl, rfl⟩ := e
      obtain ⟨q0, q1, q2⟩ := (HO.out.rd.below hbel).cells k hlt
      have hi1 : (k : Int) < (l.length : Int) := by omega
      have hi1' : decide ((k : Int) < (l.length : Int)) = true := decide_eq_true hi1
      have hi1'' : decide (k < l.length) = true := decide_eq_true hlt
      have hi2 : (0 : Int) ≤ (k : Int) := by omega
      have hw1 : IntKind.i64.wrap ((k : Int) + 1) = (k : Int) + 1 := wraps_i64' _ (by omega) (by omega)
      have hmem : l.getD k default ∈ l := by rw [List.getD_eq_getElem?_getD, List.getElem?_eq_getElem hlt]; exact List.getElem_mem hlt
      have hpe := HN.out _ hmem
      have TF := Lib.hid (fold_take big wait hlt)
      have hge := due_ge hdu
      have hdle := due_le hdu hw3.2 (fun x hx => (HN.out x (List.mem_of_mem_take hx)).2)
      have DS : Hid (DueIs big wait (l.take (k + 1)) ((l.take (k + 1)).foldl (dueF big wait) (-1))) := by
        show DueIs _ _ _ _
        have e : l.take (k + 1) = l.take k ++ [l.getD k default] := by
          rw [List.take_succ_eq_append_getElem hlt]; simp [List.getD, hlt]
        rw [TF.out, e]
        exact due_snoc hdu (by omega)
      generalize (l.take k).foldl (dueF big wait) (-1) = d at TF hge hdle ⊢
      generalize l.getD k default = x at q0 q1 q2 TF hpe
      obtain ⟨x0, x1, x2⟩ := x
      simp only at q0 q1 q2 hpe
      have TF : Hid ((l.take (k + 1)).foldl (dueF big wait) (-1) = if x0 < big ∧ (d < 0 ∨ x1 + wait < d) then x1 + wait else d) := TF
      have hwr : IntKind.i64.wrap (x1 + wait) = x1 + wait := by rw [IntKind.wrap_i64]; omega
      have b1 := below_one wr (.cells #[.int .i64 x0, .int .i64 x1, .int .i64 x2] 67)
      have B1 := Lib.hid (BB.out.trans (b1.mono BB.out.size))
      have HR1 := Lib.hid (HRr.out.below b1)
      have CB : Hid ((wr.alloc (.cells #[.int .i64 x0, .int .i64 x1, .int .i64 x2] 67)).heap[wr.heap.size]? = some (.cells #[.int .i64 x0, .int .i64 x1, .int .i64 x2] 67 (0, 0))) := by
        show (wr.heap.push _)[wr.heap.size]? = _; simp
      clear hbel hdu h0 hmem b1
      go_upto_region 6 with (go_at_call 36; refine (waits_b _ _ _ HW.out _).mono ?_; rintro e w2 ⟨rfl, h⟩; obtain rfl : wr = w2 := h.symm)
      generalize wr.alloc (.cells #[.int .i64 x0, .int .i64 x1, .int .i64 x2] 67) = w4 at B1 HR1 CB ⊢
      have y0 : w4.cell? ⟨wr.heap.size, 0, none⟩ = some (.int .i64 x0) := by simp [World.cell?, CB.out]
      have y1 : w4.cell? ⟨wr.heap.size, 1, none⟩ = some (.int .i64 x1) := by simp [World.cell?, CB.out]
      obtain ⟨_, y3, _, _⟩ := HR1.out.facts
      have d0 : w4.drew.cell? ⟨wr.heap.size, 0, none⟩ = some (.int .i64 x0) := y0
      have d1 : w4.drew.cell? ⟨wr.heap.size, 1, none⟩ = some (.int .i64 x1) := y1
      have d3 : w4.drew.cell? ⟨rb, 1, none⟩ = some (.int .i64 big) := y3
      have dn : ∀ n, (w4.drewN n).cell? ⟨wr.heap.size, 1, none⟩ = some (.int .i64 x1) := fun n => y1
      clear q0 q1 q2 c0 c1
      by_cases t1 : x0 < big
      · have f1 : decide (x0 < big) = true := decide_eq_true t1
        by_cases t2 : d < 0
        · have f2 : decide (d < 0) = true := decide_eq_true t2
          rw [if_pos ⟨t1, .inl t2⟩] at TF
          clear t1 t2 hge hdle hpe
          go_wp2_with fail
          go_quiet (fail)
          go_wp2
          exact ⟨⟨k + 1, by go_num, by rw [TF.out], hlt, DS.out, below_drewN B1.out _⟩, by simp [intOf, hw1]; omega⟩
        · have f2 : decide (d < 0) = false := decide_eq_false t2
          by_cases t3 : x1 + wait < d
          · have f3 : decide (x1 + wait < d) = true := decide_eq_true t3
            rw [if_pos ⟨t1, .inr t3⟩] at TF
            clear t1 t2 t3 hge hdle hpe
            go_wp2_with fail
            go_quiet (fail)
            go_wp2
            exact ⟨⟨k + 1, by go_num, by rw [TF.out], hlt, DS.out, below_drewN B1.out _⟩, by simp [intOf, hw1]; omega⟩
          · have f3 : decide (x1 + wait < d) = false := decide_eq_false t3
            rw [if_neg (by rintro ⟨_, h | h⟩ <;> omega)] at TF
            clear t1 t2 t3 hge hdle hpe
            go_wp2_with fail
            go_quiet (fail)
            go_wp2
            exact ⟨⟨k + 1, by go_num, by rw [TF.out], hlt, DS.out, below_drewN B1.out _⟩, by simp [intOf, hw1]; omega⟩
      · have f1 : decide (x0 < big) = false := decide_eq_false t1
        rw [if_neg (fun h => t1 h.1)] at TF
        clear t1 hge hdle hpe
        go_wp2_with fail
        go_quiet (fail)
        go_wp2
        exact ⟨⟨k + 1, by go_num, by rw [TF.out], hlt, DS.out, below_drewN B1.out _⟩, by simp [intOf, hw1]; omega⟩
    · have hi1 : decide ((k : Int) < (l.length : Int)) = false := decide_eq_false (by omega)
      have hi1'' : decide (k < l.length) = false := decide_eq_false hlt
      have hkl : k = l.length := by omega
      have HT : Hid (l.take k = l) := by show _ = _; rw [hkl, List.take_length]
      clear hkl hdu hbel
      go_wp2
      go_ret
      rw [HT.out]
      exact ⟨rfl, BB.out⟩
end Go.Proofs.Ytobalbaieakcmaa
