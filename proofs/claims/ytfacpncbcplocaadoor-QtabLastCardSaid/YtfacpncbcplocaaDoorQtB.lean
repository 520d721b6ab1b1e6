/- Layer 13: slices.Delete of fields (written by genDel.py out of layer 10's CnG); append of fields. -/
import Derived.Test.YtfacpncbcplocaaDoorQtA
import Derived.Laws.CopyRow
import Derived.Deep.RegionHeld3
import Derived.Deep.RegionLaw
import Derived.StillTailTactics
import Derived.WalkLawsBesides
import Derived.Maps.AppendAt
set_option maxRecDepth 100000
set_option linter.unusedSimpArgs false
set_option linter.unusedVariables false
set_option linter.unnecessarySimpa false
namespace Go.Proofs.YtfacpncbcplocaaDoor
open Go.RowKit

theorem elemFd : ElemC Tryd.prog 23 2 32 (.agg #[.string ⟨#[]⟩, .string ⟨#[]⟩]) := ⟨info_parts (by kernel_rfl), rfl, by decide⟩
/-- v IS A ROW THAT HOLDS THE FIELDS l -/
def OwnF (w : World) (v : Value) (l : List Fd) : Prop := w.ownsRow 0 23 2 v l.length (fdC l)
theorem OwnF.form {w : World} {v : Value} {l : List Fd} (h : OwnF w v l) (h0 : l ≠ []) : ∃ g c, v = .slice (some ⟨g, 0, none⟩) l.length c ∧ g < w.heap.size ∧ l.length ≤ c ∧ c ≤ maxLen := by
  rcases h.2 with ⟨_, q⟩ | ⟨g, cap, cur, rfl, a2, a3, a4, a5, _⟩
  · exact absurd (List.length_eq_zero_iff.1 q) h0
  · exact ⟨g, cap, rfl, (Array.getElem?_eq_some_iff.1 a3).1, a4, a5⟩
theorem OwnF.slice {w : World} {v : Value} {l : List Fd} (h : OwnF w v l) : ∃ a c, v = .slice a l.length c ∧ l.length ≤ c ∧ c ≤ maxLen := RdC.isSlice (RdC.of_owns h)
theorem heap_set {w : World} {g j : Nat} {cs : Array Value} {e : Nat} {u : Value} (h : w.heap[g]? = some (.cells cs e (0, 0))) : (w.setCell ⟨g, j, none⟩ u).heap[g]? = some (.cells (cs.set! j u) e (0, 0)) := by
  simp [World.setCell, Array.getElem?_modify, h]
/-- append of elements onto a row, as one step of a region that draws: the row lies where it lay, or in a new block -/
theorem step_append_at {P : Program} {ops : Array Oper} {w : World} {o : Oper} {a : Act} {K : Act → World → Prop} {Q : Exit → Act → World → Prop} {E : Prop} (hgd : o.guard = none) (s x : Operand) (t : TypeId)
    (ho : o.op = .call { callee := .builtin .append, args := #[s, x], argTypes := #[t, t] }) {e : TypeId} {m bytes : Nat} {z : Value} (hE : ElemC P e m bytes z) (ht : P.underlying t = some (.slice e))
    (B : Nat) (v : Value) (n : Nat) (fl : List Value) (hs : a.eval s = v) (hown : w.ownsRow B e m v n fl) (u : Value) (k : Nat) (gl : List Value) (hx : a.eval x = u) (hr : RdC m w u k gl) (hk : 0 < k) (hone : ∀ u ∈ gl, u.oneCell' = true)
    (hby : (n + k) * bytes ≤ 140737488355328) (h63 : n + k ≤ maxLen) (hB : B ≤ w.heap.size)
    (h : ∀ v' w', w'.ownsRow B e m v' (n + k) (fl ++ gl) → w.grownBy w' v.ownBlock → (v'.ownBlock = v.ownBlock ∨ v'.ownBlock = some w.heap.size) → K (a.put o.dst v') w') : if Region.wanted o (yielded ops a.tmps) = true then Oper.wp P o a w K Q else E := by
  rw [if_pos (by simp [Region.wanted, hgd])]
  obtain ⟨i, hi, hz, hsz, hbs⟩ := hE.info
  obtain ⟨hlen, ⟨rfl, _⟩ | ⟨h0, b, off, c, rfl, h2, h3, h4, h5⟩⟩ := hr
  · omega
  · obtain ⟨v', w', hrun, q2, q3, _, q5⟩ := run_append_own_at (P := P) w B t o.type e i z m bytes ht hi hz hsz hbs hE.size hE.pos v n _ hown ⟨b, off, none⟩ k c gl hlen (fun j u hu => by rw [Addr.add_lit]; exact h5 j u hu) hone h63 hby hB
    unfold Oper.wp execOp
    simp only [ho, resolve, invoke, builtin, Sem.run_bind, Sem.run_pure, Result.andThen_ok, List.map_toArray, List.map_cons, List.map_nil, hs, hx, hrun]
    exact h v' w' q2 q3 q5
theorem splice_one {α : Type} (L : List α) (o : Nat) (x : α) (r : List α) (h : o < L.length) : splice (L.set o x) (o + 1) r = splice L o (x :: r) := by
  unfold splice
  have h1 : (L.set o x).take (o + 1) = L.take o ++ [x] := by
    rw [List.take_succ_eq_append_getElem (by simpa using h), List.take_set_of_le (Nat.le_refl o)]
    simp
  have h2 : (L.set o x).drop (o + 1 + r.length) = L.drop (o + (r.length + 1)) := by
    rw [List.drop_set_of_lt (by omega), show o + 1 + r.length = o + (r.length + 1) by omega]
  rw [h1, h2]
  simp
theorem heap_setCells (g : Nat) (T : TypeId) : ∀ (vs : List Value) (o : Nat) (w : World) (cs : List Value), w.heap[g]? = some (.cells cs.toArray T (0, 0)) → o + vs.length ≤ cs.length → (w.setCells g o vs).heap[g]? = some (.cells (splice cs o vs).toArray T (0, 0))
  | [], o, w, cs, h, _ => by
    simp only [World.setCells]
    rw [h]
    simp [splice]
  | v :: r, o, w, cs, h, hl => by
    simp only [List.length_cons] at hl
    have h1 : (w.setCell ⟨g, o, none⟩ v).heap[g]? = some (.cells (cs.set o v).toArray T (0, 0)) := by
      rw [heap_set h]; simp
    have := heap_setCells g T r (o + 1) (w.setCell ⟨g, o, none⟩ v) (cs.set o v) h1 (by simp; omega)
    rw [splice_one _ _ _ _ (by omega)] at this
    exact this
theorem grown_setCells (g : Nat) : ∀ (vs : List Value) (o : Nat) (w : World), w.grownBy (w.setCells g o vs) (some g)
  | [], _, w => World.grownBy.refl w _
  | v :: r, o, w => grownBy_trans (grown_set g o w v) (grown_setCells g r (o + 1) _)

/-- clear(s), s of elements of m cells, in block g from off on -/
theorem run_clear_rows {P : Program} (w : World) (t e ty : TypeId) (z : Value) (ht : P.underlying t = some (.slice e)) (hv : ∀ w, (zeroValue e).run P w = .ok z w) (h1 : ∀ v ∈ z.cells.toList, v.oneCell' = true) (g o n c m : Nat) (hm : z.cells.size = m) (hn : 0 < n)
    (T : TypeId) (cur : List Value) (hg : w.heap[g]? = some (.cells cur.toArray T (0, 0))) (hfit : o + n * m ≤ cur.length) :
    ∃ vs : List Value, vs.length = n * m ∧ (Builtin.clear_ #[t] ty #[.slice (some ⟨g, o, none⟩) n c]).run P w = .ok (.tuple #[]) (w.setRow g (splice cur o vs).toArray) := by
  refine ⟨(Builtin.zeroCells z.cells n).toList, by simp [Builtin.zeroCells, hm], ?_⟩
  have hz1 : ∀ v ∈ (Builtin.zeroCells z.cells n).toList, v.oneCell' = true := by
    intro v hv'
    simp only [Builtin.zeroCells, Array.toList_map, Array.toList_range, List.mem_map, List.mem_range] at hv'
    obtain ⟨i, hi, rfl⟩ := hv'
    have hpos : 0 < z.cells.size := by
      rcases Nat.eq_zero_or_pos z.cells.size with h0 | h0
      · rw [h0] at hi; simp at hi
      · exact h0
    have hlt : i % z.cells.size < z.cells.size := Nat.mod_lt _ hpos
    rw [getElem!_pos z.cells _ hlt]
    exact h1 _ (by simp)
  have hst := run_storeCells_at P g o T (Builtin.zeroCells z.cells n).toList 0 cur.toArray w hg (by simp [Builtin.zeroCells, hm]; omega) hz1
  have e : (cur.toArray.toList.take (o + 0) ++ (Builtin.zeroCells z.cells n).toList ++ cur.toArray.toList.drop (o + 0 + (Builtin.zeroCells z.cells n).toList.length)).toArray = (splice cur o (Builtin.zeroCells z.cells n).toList).toArray := by simp [splice]
  rw [e] at hst
  obtain ⟨k, rfl⟩ : ∃ k, n = k + 1 := ⟨n - 1, by omega⟩
  simp [Builtin.clear_, run_underlying ht, hv, hst]
theorem wpList_clear_rows {P : Program} (w : World) {ops : Array Oper} {rest : List Oper} {o : Oper} {a : Act} {Q : Exit → Act → World → Prop} (hgd : o.guard = none) (s : Operand) (t : TypeId)
    (ho : o.op = .call { callee := .builtin .clear, args := #[s], argTypes := #[t] }) (e : TypeId) (z : Value) (ht : P.underlying t = some (.slice e)) (hv : ∀ w, (zeroValue e).run P w = .ok z w) (h1 : ∀ v ∈ z.cells.toList, v.oneCell' = true)
    (g off n c m : Nat) (hm : z.cells.size = m) (hs : a.eval s = .slice (some ⟨g, off, none⟩) n c) (hn : 0 < n) (T : TypeId) (cur : List Value) (hg : w.heap[g]? = some (.cells cur.toArray T (0, 0))) (hfit : off + n * m ≤ cur.length)
    (h : ∀ w' vs, Hid (w'.heap[g]? = some (.cells (splice cur off vs).toArray T (0, 0)) ∧ vs.length = n * m) → w.grownBy w' (some g) → wpList P ops Q rest (a.put o.dst (.tuple #[])) w') : wpList P ops Q (o :: rest) a w := by
  refine wpList_plain hgd fun K hK => ?_
  obtain ⟨vs, hvs, hrun⟩ := run_clear_rows w t e o.type z ht hv h1 g off n c m hm hn T cur hg hfit
  unfold Oper.wp
  simp only [execOp, ho, resolve, invoke, builtin, Sem.run_bind, Sem.run_pure, Result.andThen_ok, List.map_toArray, List.map_cons, List.map_nil, hs, hrun]
  exact hK _ _ (h _ vs ⟨setRow_heap w g _ _ T _ hg, hvs⟩ (grown_setRow w g _))

/-- the block of a row, and all of its cells -/
theorem OwnF.open {w : World} {g n c : Nat} {l : List Fd} (h : OwnF w (.slice (some ⟨g, 0, none⟩) n c) l) : ∃ cur : List Value, w.heap[g]? = some (.cells cur.toArray 23 (0, 0)) ∧ cur.length = c * 2 ∧ cur.take (l.length * 2) = fdC l ∧ n = l.length ∧ l.length ≤ c ∧ c ≤ maxLen := by
  obtain ⟨h1, h2⟩ := h
  rcases h2 with ⟨q, _⟩ | ⟨g', cap, cur, q, _, a3, a4, a5, a6, a7⟩
  · cases q
  · simp only [Value.slice.injEq, Option.some.injEq, Addr.mk.injEq, and_true] at q
    obtain ⟨rfl, rfl, rfl⟩ := q
    exact ⟨cur.toList, by simpa using a3, by simpa using a6, a7, rfl, a4, a5⟩
theorem OwnF.shut {w : World} {g c : Nat} {l : List Fd} {cur : List Value} (hg : w.heap[g]? = some (.cells cur.toArray 23 (0, 0))) (hc : cur.length = c * 2) (ht : cur.take (l.length * 2) = fdC l) (hn : l.length ≤ c) (hm : c ≤ maxLen) : OwnF w (.slice (some ⟨g, 0, none⟩) l.length c) l :=
  ⟨fdC_len l, .inr ⟨g, c, cur.toArray, rfl, Nat.zero_le _, hg, hn, hm, by simpa using hc, by simpa using ht⟩⟩
theorem infoFd : Tryd.prog.info? 23 = some ((Tryd.prog.info? 23).getD default) ∧ ((Tryd.prog.info? 23).getD default).size = 2 := by
  obtain ⟨i, hi, _, hs, _⟩ := elemFd.info
  rw [hi]; exact ⟨rfl, hs⟩
theorem splice_eq {α : Type} (L : List α) (o : Nat) (cs : List α) : splice L o cs = L.take o ++ (cs ++ L.drop (o + cs.length)) := by unfold splice; simp
theorem cut_splice (cur N vs : List Value) (a : Nat) (ha : a + N.length ≤ cur.length) : (splice (splice cur a N) (a + N.length) vs).take (a + N.length) = cur.take a ++ N := by
  have hl : (cur.take a ++ N).length = a + N.length := by rw [List.length_append, List.length_take]; omega
  have h1 : (splice cur a N).take (a + N.length) = cur.take a ++ N := by
    rw [splice_eq, ← List.append_assoc, ← hl, List.take_left']
    rfl
  rw [splice_eq (splice cur a N), h1, ← hl, List.take_left']
  rfl
theorem splice_len (cur N : List Value) (a : Nat) (ha : a + N.length ≤ cur.length) : (splice cur a N).length = cur.length := by
  unfold splice
  rw [List.length_append, List.length_append, List.length_take, List.length_drop]; omega
theorem zeroFd : ∀ w : World, (zeroValue 23).run Tryd.prog w = .ok (.agg #[.string ⟨#[]⟩, .string ⟨#[]⟩]) w := Tryd.zeroValue23
set_option maxHeartbeats 6400000 in
theorem delete_any (v : Value) (l : List Fd) (i j : Nat) (w : World) (h : OwnF w v l) (hij : i ≤ j) (hj : j ≤ l.length) (hl : l.length ≤ 4096) :
    Calls Tryd.prog 38 #[v, .int .i64 i, .int .i64 j] w fun r w' => ∃ v', r = .returned v' ∧ OwnF w' v' (l.take i ++ l.drop j) ∧ v'.ownBlock = v.ownBlock ∧ w.grownBy w' v.ownBlock := by
  have i1 : (0 : Int) ≤ (i : Int) := by omega
  have i2 : (i : Int) ≤ (j : Int) := by omega
  have i3 : (j : Int) ≤ (l.length : Int) := by omega
  have i4 : (i : Int) ≤ (l.length : Int) := by omega
  by_cases he : i = j
  · subst he
    rw [List.take_append_drop]
    have HO := Lib.hid h
    obtain ⟨va, vc, rfl, hvc, _⟩ := h.slice
    have i5 : (l.length : Int) ≤ (vc : Int) := by omega
    by_cases hvn : va = none
    · subst hvn
      have hz : l.length = 0 ∧ vc = 0 := by
        rcases h.2 with ⟨q, h0⟩ | ⟨g, cap, cur, q, _⟩
        · simp only [Value.slice.injEq, true_and] at q; exact ⟨h0, q.2⟩
        · simp at q
      obtain ⟨hz1, hz2⟩ := hz
      subst hz2
      rw [hz1] at HO i3 i4 ⊢
      obtain rfl : i = 0 := by omega
      clear h hl
      go_enter Tryd.func38, Tryd.ntmps38
      go_wp2
      go_ret
      exact ⟨_, rfl, HO.out, rfl, World.grownBy.refl _ _⟩
    · obtain ⟨a, rfl⟩ : ∃ a, va = some a := by cases va with | none => exact absurd rfl hvn | some a => exact ⟨a, rfl⟩
      clear h hl
      by_cases hil : i = l.length
      · subst hil
        go_enter Tryd.func38, Tryd.ntmps38
        go_wp2
        go_ret
        exact ⟨_, rfl, HO.out, rfl, World.grownBy.refl _ _⟩
      · have hil' : i < l.length := by omega
        go_enter Tryd.func38, Tryd.ntmps38
        go_wp2
        go_ret
        exact ⟨_, rfl, HO.out, rfl, World.grownBy.refl _ _⟩
  · obtain ⟨g, cc, rfl, hg, hcap, hmx⟩ := h.form (by intro e0; rw [e0] at hj; simp at hj; omega)
    obtain ⟨cur, hcur, hcl, hct, _, _, _⟩ := h.open
    have e1 : ((i : Int) == (j : Int)) = false := by simp; omega
    have i5 : (l.length : Int) ≤ (cc : Int) := by omega
    have i6 : (j : Int) ≤ (cc : Int) := by omega
    have i7 : (i : Int) ≤ (cc : Int) := by omega
    have HC := Lib.hid hcur
    have HL := Lib.hid hcl
    have HT := Lib.hid hct
    have hij' : i < j := by omega
    have hdl : (fdC (l.drop j)).length = (l.length - j) * 2 := by rw [fdC_len, List.length_drop]
    have hsrc : ∀ (p : Nat) (u : Value), (fdC (l.drop j))[p]? = some u → w.cell? ⟨g, j * 2 + p, none⟩ = some u := fun p u hu => by
      have h1 : (fdC l)[j * 2 + p]? = some u := by rw [fdC_drop, List.getElem?_drop] at hu; exact hu
      have h2 : cur[j * 2 + p]? = some u := by
        rw [← hct, List.getElem?_take] at h1
        split at h1
        · exact h1
        · cases h1
      simp only [World.cell?, hcur, Option.bind_some]
      simpa using h2
    have hspare : ∀ p, p < (fdC (l.drop j)).length → (w.cell? ⟨g, 0 + i * 2 + p, none⟩).isSome = true ∧ w.frozen? ⟨g, 0 + i * 2 + p, none⟩ = false := fun p hp => by
      refine ⟨?_, ?_⟩
      · simp only [World.cell?, hcur, Option.bind_some]
        have : 0 + i * 2 + p < cur.length := by rw [hdl] at hp; rw [hcl]; omega
        rw [List.getElem?_toArray, List.getElem?_eq_getElem this]; rfl
      · simp [World.frozen?, hcur]
    have hnew : (w.drew.setCells g (0 + i * 2) (fdC (l.drop j))).heap[g]? = some (.cells (splice cur (0 + i * 2) (fdC (l.drop j))).toArray 23 (0, 0)) :=
      heap_setCells g _ _ _ w.drew cur hcur (by rw [hdl, hcl]; omega)
    have hsl : (splice cur (0 + i * 2) (fdC (l.drop j))).length = cc * 2 := by
      rw [splice_len _ _ _ (by rw [hdl, hcl]; omega), hcl]
    have HN := Lib.hid hnew
    have HSL := Lib.hid hsl
    have HSR := Lib.hid hsrc
    have HSP := Lib.hid hspare
    have HDL := Lib.hid hdl
    have hfin : ∀ vs : List Value, (splice (splice cur (0 + i * 2) (fdC (l.drop j))) ((i + (l.length - j)) * 2) vs).take ((l.take i ++ l.drop j).length * 2) = fdC (l.take i ++ l.drop j) := fun vs => by
      have hll : (l.take i ++ l.drop j).length = i + (l.length - j) := by rw [List.length_append, List.length_take, List.length_drop]; omega
      have hm : (i + (l.length - j)) * 2 = i * 2 + (fdC (l.drop j)).length := by rw [hdl, Nat.add_mul]
      rw [hll, hm, Nat.zero_add, cut_splice cur _ vs (i * 2) (by rw [hdl, hcl]; omega), fdC_append, fdC_take]
      congr 1
      rw [← hct, List.take_take, Nat.min_eq_left (by omega)]
    have HF := Lib.hid hfin
    clear h hcur hcl hct he hsrc hspare hnew hsl hdl hfin
    have infoFd := Lib.hid infoFd
    go_enter Tryd.func38, Tryd.ntmps38
    go_wp2_with fail
    by_cases hjc : j = cc
    · have hj0 : l.length - j = 0 := by omega
      have hnl : fdC (l.drop j) = [] := by rw [List.drop_eq_nil_of_le (by omega)]; rfl
      have HNL := Lib.hid hnl
      have HJ0 := Lib.hid hj0
      have hjl : j = l.length := by omega
      have hcl : cc = l.length := by omega
      subst hjc
      clear hj0 hnl hcl
      subst hjl
      go_region_law (refine step_append_room rfl (.tmp 22) (.tmp 25) 38 rfl 23 _ 2 Tryd.underlying38 infoFd.out.1 infoFd.out.2 g 0 i l.length rfl ⟨g, 0, none⟩ 0 0 (fdC []) rfl rfl (fun p u hu => by cases hu) (fdC_oneCell _) (by omega) (fun p hp => by cases hp) ?_)
      simp only [Nat.zero_add, List.drop_length] at HN HSL HF ⊢
      have HG1 : Hid (w.grownBy (w.drew.setCells g (i * 2) (fdC [])) (some g)) := (grownBy_trans (grownBy_of_below (below_drewN (Below.refl _ w) 1)) (grown_setCells g _ _ w.drew) : w.grownBy (w.drew.setCells g (i * 2) (fdC [])) (some g))
      generalize w.drew.setCells g (i * 2) (fdC []) = w2 at HN HG1 ⊢
      have hm : i + (l.length - l.length) = i := by omega
      have j1 : (i : Int) ≤ (l.length : Int) := by omega
      have j5 : (0 : Int) ≤ (i : Int) := by omega
      have j3 : ¬ l.length = i := by omega
      have hz := zeroFd
      obtain ⟨vs, hvs, hrun⟩ := run_clear_rows w2 38 23 0 (.agg #[.string ⟨#[]⟩, .string ⟨#[]⟩]) Tryd.underlying38 hz (by intro v hv; simp [Value.cells] at hv; rcases hv with rfl | rfl <;> rfl) g (i * 2) (l.length - i) (l.length - i) 2 rfl (by omega) 23 _ HN.out (by rw [HSL.out]; omega)
      have HZ := Lib.hid (setRow_heap w2 g _ (splice (splice cur (i * 2) (fdC [])) (i * 2) vs).toArray _ _ HN.out)
      have HG2 := Lib.hid (grown_setRow w2 g (splice (splice cur (i * 2) (fdC [])) (i * 2) vs).toArray)
      rw [hm] at HF
      have HVS := Lib.hid hvs
      have HM := Lib.hid hm
      clear hvs hm hz
      go_wp2_with fail
      go_ret
      have hll : (l.take i ++ []).length = i := by have := HM.out; rw [List.length_append, List.length_take, List.length_nil]; omega
      refine ⟨.slice (some ⟨g, 0, none⟩) i l.length, rfl, ?_, rfl, grownBy_trans HG1.out HG2.out⟩
      have hmc : i ≤ l.length := by omega
      have := OwnF.shut (w := w2.setRow g (splice (splice cur (i * 2) (fdC [])) (i * 2) vs).toArray) (l := l.take i ++ []) (c := l.length) HZ.out (by rw [splice_len _ _ _ (by rw [HVS.out, HSL.out]; omega), HSL.out]) (HF.out vs) (by rw [hll]; exact hmc) hmx
      rw [hll] at this
      try rw [List.drop_length]
      exact this
    · have hjc' : ¬ cc = j := fun x => hjc x.symm
      go_region_law (refine step_append_room rfl (.tmp 22) (.tmp 25) 38 rfl 23 _ 2 Tryd.underlying38 infoFd.out.1 infoFd.out.2 g 0 i cc rfl ⟨g, j * 2, none⟩ (l.length - j) (cc - j) (fdC (l.drop j)) rfl HDL.out (fun p u hu => by rw [Addr.add_lit]; exact HSR.out p u hu) (fdC_oneCell _) (by omega) HSP.out ?_)
      simp only [Nat.zero_add] at HN HSL HF ⊢
      have HG1 : Hid (w.grownBy (w.drew.setCells g (i * 2) (fdC (l.drop j))) (some g)) := (grownBy_trans (grownBy_of_below (below_drewN (Below.refl _ w) 1)) (grown_setCells g _ _ w.drew) : w.grownBy (w.drew.setCells g (i * 2) (fdC (l.drop j))) (some g))
      generalize w.drew.setCells g (i * 2) (fdC (l.drop j)) = w2 at HN HG1 ⊢
      obtain ⟨m, hm⟩ : ∃ m, i + (l.length - j) = m := ⟨_, rfl⟩
      have j0 : (i : Int) + ((l.length - j : Nat) : Int) = (m : Int) := by omega
      have j1 : (m : Int) ≤ (l.length : Int) := by omega
      have j5 : (0 : Int) ≤ (m : Int) := by omega
      have j3 : ¬ cc = m := by omega
      have hz := zeroFd
      obtain ⟨vs, hvs, hrun⟩ := run_clear_rows w2 38 23 0 (.agg #[.string ⟨#[]⟩, .string ⟨#[]⟩]) Tryd.underlying38 hz (by intro v hv; simp [Value.cells] at hv; rcases hv with rfl | rfl <;> rfl) g (m * 2) (l.length - m) (cc - m) 2 rfl (by omega) 23 _ HN.out (by rw [HSL.out]; omega)
      have HZ := Lib.hid (setRow_heap w2 g _ (splice (splice cur (i * 2) (fdC (l.drop j))) (m * 2) vs).toArray _ _ HN.out)
      have HG2 := Lib.hid (grown_setRow w2 g (splice (splice cur (i * 2) (fdC (l.drop j))) (m * 2) vs).toArray)
      rw [hm] at HF ⊢
      have HVS := Lib.hid hvs
      have HM := Lib.hid hm
      clear hvs hm hz
      go_wp2_with fail
      go_ret
      have hll : (l.take i ++ l.drop j).length = m := by have := HM.out; rw [List.length_append, List.length_take, List.length_drop]; omega
      refine ⟨.slice (some ⟨g, 0, none⟩) m cc, rfl, ?_, rfl, grownBy_trans HG1.out HG2.out⟩
      have hmc : m ≤ cc := by omega
      have := OwnF.shut (w := w2.setRow g (splice (splice cur (i * 2) (fdC (l.drop j))) (m * 2) vs).toArray) (l := l.take i ++ l.drop j) (c := cc) HZ.out (by rw [splice_len _ _ _ (by rw [HVS.out, HSL.out]; omega), HSL.out]) (HF.out vs) (by rw [hll]; exact hmc) hmx
      rw [hll] at this
      exact this
end Go.Proofs.YtfacpncbcplocaaDoor
