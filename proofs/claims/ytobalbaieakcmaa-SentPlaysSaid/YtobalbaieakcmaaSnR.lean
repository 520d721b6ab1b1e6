/- Walks of layer 8: the document's ledger: New, lost, Sent, Drop; datagrams compared, and taken over. -/
import Derived.Test.YtobalbaieakcmaaSnG
import Derived.Maps.AppendAt
set_option linter.unusedSimpArgs false
set_option linter.unusedVariables false
namespace Go.Proofs.Ytobalbaieakcmaa
open Go.RowKit Go.Maps

/-- append of one datagram just built: where the new row lies -/
theorem wpList_append_pkR_at (w : World) {ops : Array Oper} {rest : List Oper} {o : Oper} {a : Act} {Q : Exit → Act → World → Prop} (hgd : o.guard = none) (s x : Operand)
    (ho : o.op = .call { callee := .builtin .append, args := #[s, x], argTypes := #[25, 25] })
    (B : Nat) (v : Value) (xs : List Pk) (hs : a.eval s = v) (hown : OwnP 67 w B v xs) (q : Nat) (p : Pk) (hx : a.eval x = .slice (some ⟨q, 0, none⟩) 1 1) (hr : RdP w (.slice (some ⟨q, 0, none⟩) 1 1) [p])
    (hby : xs.length + 1 ≤ 100000) (hB : B ≤ w.heap.size)
    (h : ∀ v' w', OwnP 67 w' B v' (xs ++ [p]) → w.grownBy w' v.ownBlock → (v'.ownBlock = v.ownBlock ∨ v'.ownBlock = some w.heap.size) → wpList Try.prog ops Q rest (a.put o.dst v') w') : wpList Try.prog ops Q (o :: rest) a w := by
  obtain ⟨i, hi, hz, hsz, hbs⟩ := elemPkR.info
  refine wpList_append_own_at w hgd s x 25 ho B 67 i _ 3 24 Try.underlying25 hi hz hsz hbs elemPkR.size elemPkR.pos v xs.length (pkC xs) hs hown ⟨q, 0, none⟩ 1 1 (pkC [p]) hx rfl (fun j u hu => ?_) (pkC_one [p]) (by unfold maxLen; omega) (by omega) hB fun v' w' h1 h2 _ h4 => h v' w' ?_ h2 h4
  · rw [Addr.add_lit]
    exact RdC.cell hr j u hu _ rfl
  · show w'.ownsRow _ _ _ _ (xs ++ [p]).length _
    rw [List.length_append, pkC_append]; exact h1

/-- block rb holds the document's ledger's fields, v its list -/
def RRow (rb : Nat) (v : Value) (big last time : Int) (w : World) : Prop := ∃ T, w.heap[rb]? = some (.cells #[v, .int .i64 big, .int .i64 last, .int .i64 time] T (0, 0))
theorem RRow.lt {rb : Nat} {v : Value} {x y z : Int} {w : World} (h : RRow rb v x y z w) : rb < w.heap.size := by
  obtain ⟨T, e⟩ := h
  exact (Array.getElem?_eq_some_iff.1 e).1
theorem RRow.block {rb : Nat} {v : Value} {x y z : Int} {w w' : World} (h : RRow rb v x y z w) (e : w'.heap[rb]? = w.heap[rb]?) : RRow rb v x y z w' := by
  obtain ⟨T, h⟩ := h
  exact ⟨T, e.trans h⟩
theorem RRow.grown {rb : Nat} {v : Value} {x y z : Int} {w w' : World} {row : Option Nat} (h : RRow rb v x y z w) (hg : w.grownBy w' row) (hne : some rb ≠ row) : RRow rb v x y z w' := h.block (hg.block rb h.lt hne)
theorem RRow.below {rb : Nat} {v : Value} {x y z : Int} {w w' : World} (h : RRow rb v x y z w) (hb : Below w.heap.size w w') : RRow rb v x y z w' := h.block (hb.block rb h.lt)
theorem RRow.facts {rb : Nat} {v : Value} {x y z : Int} {w : World} (h : RRow rb v x y z w) :
    w.cell? ⟨rb, 0, none⟩ = some v ∧ w.cell? ⟨rb, 1, none⟩ = some (.int .i64 x) ∧ w.cell? ⟨rb, 2, none⟩ = some (.int .i64 y) ∧ w.cell? ⟨rb, 3, none⟩ = some (.int .i64 z) := by
  obtain ⟨T, e⟩ := h
  simp [World.cell?, e]
theorem RRow.free {rb : Nat} {v : Value} {x y z : Int} {w : World} (h : RRow rb v x y z w) :
    w.frozen? ⟨rb, 0, none⟩ = false ∧ w.frozen? ⟨rb, 1, none⟩ = false ∧ w.frozen? ⟨rb, 2, none⟩ = false ∧ w.frozen? ⟨rb, 3, none⟩ = false := by
  obtain ⟨T, e⟩ := h
  simp [World.frozen?, e]
theorem RRow.set0 {rb : Nat} {v : Value} {x y z : Int} {w : World} (h : RRow rb v x y z w) (v' : Value) : RRow rb v' x y z (w.setCell ⟨rb, 0, none⟩ v') := by
  obtain ⟨T, e⟩ := h
  exact ⟨T, by simp [World.setCell, Array.getElem?_modify, e]⟩
theorem RRow.set1 {rb : Nat} {v : Value} {x y z : Int} {w : World} (h : RRow rb v x y z w) (x' : Int) : RRow rb v x' y z (w.setCell ⟨rb, 1, none⟩ (.int .i64 x')) := by
  obtain ⟨T, e⟩ := h
  exact ⟨T, by simp [World.setCell, Array.getElem?_modify, e]⟩
theorem RRow.set23 {rb : Nat} {v : Value} {x y z : Int} {w : World} (h : RRow rb v x y z w) (y' z' : Int) : RRow rb v x y' z' ((w.setCell ⟨rb, 2, none⟩ (.int .i64 y')).setCell ⟨rb, 3, none⟩ (.int .i64 z')) := by
  obtain ⟨T, e⟩ := h
  exact ⟨T, by simp [World.setCell, Array.getElem?_modify, e]⟩
/-- the document's ledger: its list lies from block B on, behind its fields -/
def RLed (rb B : Nat) (q : Lg) (w : World) : Prop := ∃ v, RRow rb v q.big q.last q.time w ∧ OwnP 67 w B v q.l
theorem RLed.keep {S : List Nat} {rb B : Nat} {q : Lg} {w w' : World} (h : RLed rb B q w) (k : Keep S w w') (h1 : rb ∉ S) (h2 : ∀ i ∈ S, i < B) : RLed rb B q w' := by
  obtain ⟨v, a, b⟩ := h
  exact ⟨v, a.block (k.block rb a.lt h1), b.keep k fun j hj hn => by have := b.blk j hj; have := h2 j hn; omega⟩

theorem rnew_any (w : World) : Calls Try.prog 9 #[] w fun e w' => e = .returned (.agg #[.slice none 0 0, .int .i64 (-1), .int .i64 (-1), .int .i64 0]) ∧ Below w.heap.size w w' := by
  go_enter Try.func9, Try.ntmps9
  go_wp2
  exact bodyPost_ret (v := .agg #[.slice none 0 0, .int .i64 (-1), .int .i64 (-1), .int .i64 0]) (by simp [results, Try.results9, go_sem]) rfl ⟨rfl, below_one _ _⟩

set_option maxRecDepth 100000 in
set_option maxHeartbeats 1600000 in
theorem rlost_any (p : Pk) (rb : Nat) (v : Value) (big last time now wait : Int) (w : World) (h0 : 0 ≤ p.n ∧ p.n ≤ 4611686018427387903) (h1 : 0 ≤ p.t ∧ p.t ≤ 1099511627776) (h2 : -1 ≤ big ∧ big ≤ 4611686018427387903) (h3 : 0 ≤ now ∧ now ≤ 1099511627776)
    (hR : RRow rb v big last time w) :
    Calls Try.prog 39 #[.pointer (some ⟨rb, 0, none⟩), .agg #[.int .i64 p.n, .int .i64 p.t, .int .i64 p.s], .int .i64 now, .int .i64 wait] w fun e w' => e = .returned (.bool (lostB big now wait p)) ∧ Below w.heap.size w w' := by
  have B1 := Lib.hid (below_one w (.cells #[.int .i64 p.n, .int .i64 p.t, .int .i64 p.s] 67))
  obtain ⟨n, t, s⟩ := p
  simp only at h0 h1
  have w1 : IntKind.i64.wrap (big - n) = big - n := by rw [IntKind.wrap_i64]; omega
  have w2 : IntKind.i64.wrap (now - t) = now - t := by rw [IntKind.wrap_i64]; omega
  have C : Hid ((w.alloc (.cells #[.int .i64 n, .int .i64 t, .int .i64 s] 67)).cell? ⟨rb, 1, none⟩ = some (.int .i64 big)
      ∧ (w.alloc (.cells #[.int .i64 n, .int .i64 t, .int .i64 s] 67)).cell? ⟨w.heap.size, 0, none⟩ = some (.int .i64 n) ∧ (w.alloc (.cells #[.int .i64 n, .int .i64 t, .int .i64 s] 67)).cell? ⟨w.heap.size, 1, none⟩ = some (.int .i64 t)) :=
    ⟨(hR.below B1.out).facts.2.1, by rw [World.cell?_alloc_at _ _ _ _ rfl]; rfl, by rw [World.cell?_alloc_at _ _ _ _ rfl]; rfl⟩
  have E : lostB big now wait ⟨n, t, s⟩ = (decide (n < big) && (decide (big - n ≥ 3) || decide (now - t ≥ wait))) := rfl
  rw [E]
  clear E hR
  cases e1 : decide (n < big)
  all_goals (try cases e2 : decide (big - n ≥ 3))
  all_goals
    go_enter Try.func39, Try.ntmps39
    go_wp2_with fail
    generalize w.alloc (.cells #[.int .i64 n, .int .i64 t, .int .i64 s] 67) = W at B1 C ⊢
    generalize w.heap.size = q at C ⊢
    obtain ⟨c1, c4, c5⟩ := C.out
    have d1 : W.drew.cell? ⟨rb, 1, none⟩ = some (.int .i64 big) := c1
    have d4 : W.drew.cell? ⟨q, 0, none⟩ = some (.int .i64 n) := c4
    have d5 : W.drew.cell? ⟨q, 1, none⟩ = some (.int .i64 t) := c5
    clear h0 h1 h2 h3
    go_quiet (fail)
    go_wp2
    go_ret
    exact ⟨rfl, below_drewN B1.out _⟩

set_option maxRecDepth 100000 in
set_option maxHeartbeats 1600000 in
/-- the same datagrams are the same -/
theorem rsame_any (a b : Value) (l : List Pk) (w : World) (ha : RdP w a l) (hb : RdP w b l) :
    Calls Try.prog 15 #[a, b] w fun e w' => e = .returned (.bool true) ∧ Below w.heap.size w w' := by
  by_cases h0 : l = []
  · subst h0
    obtain ⟨aa, ac, rfl, _, _⟩ := ha.slice
    obtain ⟨ba, bc, rfl, _, _⟩ := hb.slice
    clear ha hb
    go_enter Try.func15, Try.ntmps15
    go_wp2_with fail
    refine wp_loop_rounds 1 ?_
    rw [rounds_succ]
    go_wp2
    go_ret
    exact ⟨rfl, Below.refl _ _⟩
  have hm : l.length ≤ maxLen := by obtain ⟨_, _, e, h1, h2⟩ := ha.slice; omega
  unfold maxLen at hm
  obtain ⟨p, o, c, rfl, hp⟩ := ha.form h0
  obtain ⟨p', o', c', rfl, hp'⟩ := hb.form h0
  have HA := Lib.hid ha
  have HB := Lib.hid hb
  have hne : ((l.length : Int) != (l.length : Int)) = false := by simp
  clear ha hb h0
  go_enter Try.func15, Try.ntmps15
  go_wp2_with fail
  go_loopw [5] (fun i wr => ∃ (k : Nat), i = .int .i64 k ∧ k ≤ l.length ∧ Below w.heap.size w wr) (fun i _ => l.length - (intOf i).toNat)
  case atStart => exact ⟨0, rfl, Nat.zero_le _, Below.refl _ _⟩
  case round =>
    obtain ⟨k, rfl, hk, hbel⟩ := hrel
    by_cases hlt : k < l.length
    · obtain ⟨q0, q1, q2⟩ := (HA.out.below hbel).cells k hlt
      obtain ⟨r0, r1, r2⟩ := (HB.out.below hbel).cells k hlt
      have hi1 : (k : Int) < (l.length : Int) := by omega
      have hi2 : (0 : Int) ≤ (k : Int) := by omega
      have hw1 : IntKind.i64.wrap ((k : Int) + 1) = (k : Int) + 1 := wraps_i64' _ (by omega) (by omega)
      generalize l.getD k default = x at q0 q1 q2 r0 r1 r2
      obtain ⟨x0, x1, x2⟩ := x
      simp only at q0 q1 q2 r0 r1 r2
      have d0 : wr.drew.cell? ⟨p, o + k * 3, none⟩ = some (.int .i64 x0) := q0
      have d1 : wr.drew.cell? ⟨p, o + k * 3 + 1, none⟩ = some (.int .i64 x1) := q1
      have d2 : wr.drew.cell? ⟨p, o + k * 3 + 2, none⟩ = some (.int .i64 x2) := q2
      have d3 : wr.drew.cell? ⟨p', o' + k * 3, none⟩ = some (.int .i64 x0) := r0
      have d4 : wr.drew.cell? ⟨p', o' + k * 3 + 1, none⟩ = some (.int .i64 x1) := r1
      have d5 : wr.drew.cell? ⟨p', o' + k * 3 + 2, none⟩ = some (.int .i64 x2) := r2
      go_wp2_with fail
      go_quiet (fail)
      go_wp2
      exact ⟨⟨k + 1, by go_num, by omega, below_drewN hbel _⟩, by simp [intOf]; omega⟩
    · have hi1 : ¬ ((k : Int) < (l.length : Int)) := by omega
      go_wp2
      go_ret
      exact ⟨rfl, hbel⟩
end Go.Proofs.Ytobalbaieakcmaa
