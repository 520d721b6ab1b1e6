/- Rows of spans: reading, appending, cutting. -/
import Derived.Test.YtobalbaieakcmaaSpan
import Derived.Test.YtobalbaieakcmaaRowW
import Derived.BigQuiet
namespace Go.Proofs.Ytobalbaieakcmaa
open Go.RowKit

theorem wraps_i64' (n : Int) (h₀ : 0 ≤ n) (h₁ : n < 2 ^ 63) : IntKind.i64.wrap n = n := by rw [IntKind.wrap_i64]; omega
theorem RdS.cells {w : World} {b o n c : Nat} {ss : List (Int × Int)} (h : RdS w (.slice (some ⟨b, o, none⟩) n c) ss) (hn : n = ss.length) (k : Nat) (hk : k < ss.length) :
    w.cell? ⟨b, o + k * 2, none⟩ = some (.int .i64 (ss.getD k (0, 0)).1) ∧ w.cell? ⟨b, o + k * 2 + 1, none⟩ = some (.int .i64 (ss.getD k (0, 0)).2) := by
  subst hn
  exact ⟨RdC.cell h _ _ (spC_get0 ss k hk) _ rfl, RdC.cell h _ _ (spC_get1 ss k hk) _ (by omega)⟩
theorem RdS.form {w : World} {v : Value} {ss : List (Int × Int)} (h : RdS w v ss) (hs : ss ≠ []) : ∃ b o c, v = .slice (some ⟨b, o, none⟩) ss.length c ∧ b < w.heap.size := by
  obtain ⟨_, ⟨h0, _⟩ | ⟨_, b, o, c, rfl, _, _, h4, _⟩⟩ := h
  · exact absurd (List.length_eq_zero_iff.1 h0) hs
  · exact ⟨b, o, c, rfl, h4⟩
theorem RdS.below {w w' : World} {v : Value} {ss : List (Int × Int)} (h : RdS w v ss) (hb : Below w.heap.size w w') : RdS w' v ss := RdC.below h hb
theorem RdS.isSlice {w : World} {v : Value} {ss : List (Int × Int)} (h : RdS w v ss) : ∃ a c, v = .slice a ss.length c ∧ ss.length ≤ c ∧ c ≤ maxLen := RdC.isSlice h
theorem RdS.kept {w w' : World} {v : Value} {ss : List (Int × Int)} {row : Option Nat} (h : RdS w v ss) (hg : w.grownBy w' row) (hne : ∀ j, v.ownBlock = some j → row ≠ some j) : RdS w' v ss := RdC.kept h hg hne
theorem OwnS.below {w w' : World} {B : Nat} {v : Value} {l : List (Int × Int)} (h : OwnS w B v l) (hb : Below w.heap.size w w') : OwnS w' B v l := by
  obtain ⟨h1, h2⟩ := h
  refine ⟨h1, ?_⟩
  rcases h2 with h2 | ⟨g, cap, cur, a1, a2, a3, a4⟩
  · exact .inl h2
  · exact .inr ⟨g, cap, cur, a1, a2, by rw [hb.block g (Array.getElem?_eq_some_iff.1 a3).1]; exact a3, a4⟩
theorem OwnS.slice {w : World} {B : Nat} {v : Value} {l : List (Int × Int)} (h : OwnS w B v l) : ∃ a c, v = .slice a l.length c ∧ l.length ≤ c ∧ c ≤ maxLen := h.rd.isSlice
theorem elemSpanC : ElemC Try.prog 63 2 16 (.agg #[.int .i64 0, .int .i64 0]) := ⟨info_parts (by kernel_rfl), rfl, by decide⟩
theorem alloc_at (w : World) (o : Obj) : (w.alloc o).heap[w.heap.size]? = some o := by show (w.heap.push o)[w.heap.size]? = _; simp
theorem owns_built (w : World) (B : Nat) (a b : Int) (hB : B ≤ w.heap.size) : OwnS (w.alloc (.cells #[.int .i64 a, .int .i64 b] 63)) B (.slice (some ⟨w.heap.size, 0, none⟩) 1 1) [(a, b)] :=
  ⟨rfl, .inr ⟨w.heap.size, 1, _, rfl, hB, alloc_at _ _, Nat.le_refl _, by decide, rfl, rfl⟩⟩
theorem reads_built (w : World) (a b : Int) : RdS (w.alloc (.cells #[.int .i64 a, .int .i64 b] 63)) (.slice (some ⟨w.heap.size, 0, none⟩) 1 1) [(a, b)] := (owns_built w 0 a b (Nat.zero_le _)).rd
theorem reads_built' (w : World) (a b : Int) (p : Nat) (hp : p = w.heap.size) : RdS (w.alloc (.cells #[.int .i64 a, .int .i64 b] 63)) (.slice (some ⟨p, 0, none⟩) 1 1) [(a, b)] := by subst hp; exact reads_built w a b

/-- append OF SPANS ONTO A ROW OF THE CALL's OWN -/
theorem wpList_append_spans (w : World) {ops : Array Oper} {rest : List Oper} {o : Oper} {a : Act} {Q : Exit → Act → World → Prop} (hgd : o.guard = none) (s x : Operand)
    (ho : o.op = .call { callee := .builtin .append, args := #[s, x], argTypes := #[30, 30] })
    (B : Nat) (v : Value) (xs : List (Int × Int)) (hs : a.eval s = v) (hown : OwnS w B v xs) (u : Value) (ys : List (Int × Int)) (hx : a.eval x = u) (hr : RdS w u ys)
    (hby : xs.length + ys.length ≤ 8796093022208) (hB : B ≤ w.heap.size)
    (h : ∀ v' w', OwnS w' B v' (xs ++ ys) → w.grownBy w' v.ownBlock → wpList Try.prog ops Q rest (a.put o.dst v') w') : wpList Try.prog ops Q (o :: rest) a w :=
  wpList_append_rows w hgd s x 30 ho elemSpanC Try.underlying30 B v xs.length (spC xs) hs hown u ys.length (spC ys) hx hr (spC_one ys) (by omega) (by unfold maxLen; omega) hB
    fun v' w' h1 h2 => h v' w' (show w'.ownsRow _ _ _ _ (xs ++ ys).length _ by rw [List.length_append, spC_append]; exact h1) h2
theorem wp_append_spans (w : World) {o : Oper} {a : Act} {K : Act → World → Prop} {Q : Exit → Act → World → Prop} (s x : Operand)
    (ho : o.op = .call { callee := .builtin .append, args := #[s, x], argTypes := #[30, 30] })
    (B : Nat) (v : Value) (xs : List (Int × Int)) (hs : a.eval s = v) (hown : OwnS w B v xs) (u : Value) (ys : List (Int × Int)) (hx : a.eval x = u) (hr : RdS w u ys)
    (hby : xs.length + ys.length ≤ 8796093022208) (hB : B ≤ w.heap.size)
    (h : ∀ v' w', OwnS w' B v' (xs ++ ys) → w.grownBy w' v.ownBlock → K (a.put o.dst v') w') : o.wp Try.prog a w K Q :=
  wp_append_rows w s x 30 ho elemSpanC Try.underlying30 B v xs.length (spC xs) hs hown u ys.length (spC ys) hx hr (spC_one ys) (by omega) (by unfold maxLen; omega) hB
    fun v' w' h1 h2 => h v' w' (show w'.ownsRow _ _ _ _ (xs ++ ys).length _ by rw [List.length_append, spC_append]; exact h1) h2

/-- a part of a slice of spans -/
theorem spC_part (ss : List (Int × Int)) (i m : Nat) : spC ((ss.drop i).take m) = ((spC ss).drop (i * 2)).take (m * 2) := by
  have hd : ∀ (ss : List (Int × Int)) (i : Nat), spC (ss.drop i) = (spC ss).drop (i * 2) := by
    intro ss
    induction ss with
    | nil => intro i; simp [spC]
    | cons s r ih =>
      intro i
      cases i with
      | zero => simp
      | succ i =>
        have := ih i
        rw [List.drop_succ_cons, this, Nat.succ_mul]
        show _ = List.drop (i * 2 + 2) (spCell s ++ spC r)
        rw [show i * 2 + 2 = 2 + i * 2 by omega, ← List.drop_drop]; rfl
  have ht : ∀ (ss : List (Int × Int)) (i : Nat), spC (ss.take i) = (spC ss).take (i * 2) := by
    intro ss
    induction ss with
    | nil => intro i; simp [spC]
    | cons s r ih =>
      intro i
      cases i with
      | zero => simp [spC]
      | succ i =>
        have := ih i
        rw [List.take_succ_cons, Nat.succ_mul]
        show spCell s ++ spC (r.take i) = List.take (i * 2 + 2) (spCell s ++ spC r)
        rw [this]
        show _ :: _ :: _ = _
        rfl
  rw [ht, hd]
theorem RdS.cut {w : World} {b o n c : Nat} {ss : List (Int × Int)} (h : RdS w (.slice (some ⟨b, o, none⟩) n c) ss) (i m : Nat) (him : i + m ≤ n) (ao : Option Addr) (hao : ¬ c = i → ao = some ⟨b, o + i * 2, none⟩) (hn : ao ≠ none) : RdS w (.slice ao m (c - i)) ((ss.drop i).take m) := by
  have h0 := h
  obtain ⟨hl, hh⟩ := h
  have hc : n = ss.length ∧ n ≤ c ∧ c ≤ maxLen := by
    obtain ⟨a', c', e, h1, h2⟩ := h0.isSlice
    simp only [Value.slice.injEq] at e
    obtain ⟨_, rfl, rfl⟩ := e
    exact ⟨rfl, h1, h2⟩
  obtain ⟨rfl, hc, hm⟩ := hc
  have hlen : ((ss.drop i).take m).length = m := by rw [List.length_take, List.length_drop]; omega
  refine ⟨by rw [hlen, spC_len, hlen], ?_⟩
  rw [hlen]
  by_cases hm0 : m = 0
  · subst hm0
    exact .inl ⟨rfl, ao, c - i, rfl, by omega, fun h => absurd h hn⟩
  · rw [hao (by omega)]
    rcases hh with ⟨hz, _⟩ | ⟨_, b', o', c', q, h2, h3, h4, h5⟩
    · omega
    · simp only [Value.slice.injEq, Option.some.injEq, Addr.mk.injEq, and_true, true_and] at q
      obtain ⟨⟨rfl, rfl⟩, rfl⟩ := q
      refine .inr ⟨by omega, b, o + i * 2, c - i, rfl, by omega, by omega, h4, fun j u hu => ?_⟩
      rw [spC_part] at hu
      have hj : j < m * 2 := by
        have := (List.getElem?_eq_some_iff.1 hu).1
        rw [List.length_take] at this; omega
      rw [show o + i * 2 + j = o + (i * 2 + j) by omega]
      refine h5 _ _ ?_
      rw [List.getElem?_take_of_lt hj, List.getElem?_drop] at hu
      exact hu
theorem RdS.cutAny {w : World} {a : Addr} {n c : Nat} {ss : List (Int × Int)} (h : RdS w (.slice (some a) n c) ss) (i m : Nat) (him : i + m ≤ n) (ao : Option Addr) (hao : ¬ c = i → ao = some (a.add (i * 2))) (hn : ao ≠ none) : RdS w (.slice ao m (c - i)) ((ss.drop i).take m) := by
  by_cases h0 : ss = []
  · subst h0
    obtain ⟨a', c', e, h1, h2⟩ := h.isSlice
    simp only [Value.slice.injEq] at e
    obtain ⟨rfl, rfl, rfl⟩ := e
    obtain rfl : i = 0 := by simp at him; omega
    obtain rfl : m = 0 := by simp at him; omega
    exact ⟨rfl, .inl ⟨rfl, ao, _, rfl, by simpa using h2, fun h => absurd h hn⟩⟩
  · obtain ⟨b', o', c', e, _⟩ := h.form h0
    simp only [Value.slice.injEq, Option.some.injEq] at e
    obtain ⟨rfl, rfl, rfl⟩ := e
    exact h.cut i m him ao (fun h => by rw [hao h, Addr.add_lit]) hn
theorem RdS.nilCut {w : World} {n c : Nat} {ss : List (Int × Int)} (h : RdS w (.slice none n c) ss) : ss = [] ∧ c = 0 := by
  obtain ⟨hl, ⟨h1, a, c', e, _, hn⟩ | ⟨h1, b, o, c', e, _⟩⟩ := h
  · simp only [Value.slice.injEq] at e
    obtain ⟨rfl, _, rfl⟩ := e
    exact ⟨List.length_eq_zero_iff.1 h1, hn rfl⟩
  · simp at e
/-- the own row cut to nothing -/
theorem OwnS.cut0 {w : World} {B g n c : Nat} {l : List (Int × Int)} (h : OwnS w B (.slice (some ⟨g, 0, none⟩) n c) l) : OwnS w B (.slice (some ⟨g, 0, none⟩) 0 c) [] := by
  obtain ⟨_, hc⟩ := h
  rcases hc with ⟨q, _⟩ | ⟨g', cap, cur, q, hb, hg, hn, hm, hs, ht⟩
  · cases q
  · simp only [Value.slice.injEq, Option.some.injEq, Addr.mk.injEq, and_true] at q
    obtain ⟨rfl, rfl, rfl⟩ := q
    exact ⟨by simp [spC], .inr ⟨g, c, cur, rfl, hb, hg, Nat.zero_le _, hm, hs, by simp [spC]⟩⟩
end Go.Proofs.Ytobalbaieakcmaa
