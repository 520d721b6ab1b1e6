/- Maps of datagrams by their numbers: put, struck, counted, gone over in whatever order. -/
import Derived.Test.YtobalbaieakcmaaSnM
import Derived.Maps.RangeWalk
import Derived.WalkArith
set_option linter.unusedSimpArgs false
set_option linter.unusedVariables false
namespace Go.Proofs.Ytobalbaieakcmaa
open Go.RowKit Go.Maps

def pkV (p : Pk) : Value := .agg #[.int .i64 p.n, .int .i64 p.t, .int .i64 p.s]
def pkD (p : Pk) : DataW Unit := .agg [.lit (.int .i64 p.n), .lit (.int .i64 p.t), .lit (.int .i64 p.s)]
def pkR (v : Value) : Option (DataW Unit × List MemPlace) :=
  match v with
  | .agg cs => match cs.toList with
    | [.int .i64 n, .int .i64 t, .int .i64 s] => some (pkD ⟨n, t, s⟩, [])
    | _ => none
  | _ => none
theorem pkR_mk (p : Pk) : pkR (pkV p) = some (pkD p, []) := rfl
theorem pkR_inv {v : Value} {y : DataW Unit × List MemPlace} (h : pkR v = some y) : ∃ p, v = pkV p ∧ y = (pkD p, []) := by
  unfold pkR at h
  split at h
  · rename_i cs
    split at h
    · rename_i n t s e
      cases h
      refine ⟨⟨n, t, s⟩, ?_, rfl⟩
      have : cs = #[.int .i64 n, .int .i64 t, .int .i64 s] := by rw [← Array.toArray_toList (xs := cs), e]
      rw [this]; rfl
    · cases h
  · cases h
theorem pkD_inj {p q : Pk} (h : pkD p = pkD q) : p = q := by
  unfold pkD at h
  simp only [DataW.agg.injEq, List.cons.injEq, DataW.lit.injEq, Lit.int.injEq, true_and, and_true] at h
  obtain ⟨h1, h2, h3⟩ := h
  cases p; cases q; simp only at h1 h2 h3; rw [h1, h2, h3]

/-! ### the datum of a map that has the datagrams l -/
def keyL (p : Pk) : Lit := .int .i64 p.n
def dm (d : Pk → DataW Unit) (l : List Pk) : DataW Unit := .map (l.map fun p => (keyL p, d p))
theorem key_same (p : Pk) (x : Int) : (keyL p).sameKey (.int .i64 x) = decide (p.n = x) := by simp [keyL, Lit.sameKey]
theorem insert_last (x : Lit × DataW Unit) : ∀ l : List (Lit × DataW Unit), (∀ y ∈ l, x.1.before y.1 = false) → DataW.insert x l = l ++ [x]
  | [], _ => rfl
  | y :: r, h => by
    unfold DataW.insert
    rw [if_neg (by rw [h y (by simp)]; decide), insert_last x r (fun z hz => h z (by simp [hz]))]
    rfl
theorem dm_put (d : Pk → DataW Unit) (l : List Pk) (p : Pk) (h : ∀ q ∈ l, q.n < p.n) : (dm d l).put (keyL p) (d p) = dm d (l ++ [p]) := by
  unfold dm DataW.put
  simp only
  rw [List.filter_eq_self.2, insert_last]
  · simp
  · intro y hy
    obtain ⟨q, hq, rfl⟩ := List.mem_map.1 hy
    have := h q hq
    simp only [keyL, Lit.before, decide_eq_false_iff_not]; omega
  · intro y hy
    obtain ⟨q, hq, rfl⟩ := List.mem_map.1 hy
    have := h q hq
    simp only [keyL, Lit.sameKey, true_and, Bool.not_eq_true', decide_eq_false_iff_not]; omega
theorem dm_del (d : Pk → DataW Unit) (l : List Pk) (x : Int) : (dm d l).del (.int .i64 x) = dm d (l.filter fun q => !decide (q.n = x)) := by
  unfold dm DataW.del
  simp only [List.filter_map]
  congr 2
  exact List.filter_congr fun q _ => by simp [key_same]
theorem dm_size (d : Pk → DataW Unit) (l : List Pk) : Maps.size (dm d l) = l.length := by simp [dm, Maps.size]
theorem dm_has (d : Pk → DataW Unit) (l : List Pk) (x : Int) : Maps.has (dm d l) (.int .i64 x) = l.any (fun q => decide (q.n = x)) := by
  simp only [dm, Maps.has, List.any_map]
  congr 1
  funext q
  simp [key_same]
theorem dm_at {d : Pk → DataW Unit} {l : List Pk} {x : Int} {y : DataW Unit} (h : ∀ z, (dm d l).atKey (.int .i64 x) z = y) : ∃ p ∈ l, p.n = x ∧ y = d p := by
  have hh := has_true_of_atKey h
  rw [dm_has] at hh
  obtain ⟨q, hq, hqx⟩ := List.any_eq_true.1 hh
  have h0 := h .nil
  unfold dm DataW.atKey at h0
  simp only at h0
  cases hf : (l.map fun p => (keyL p, d p)).find? (fun p => p.1.sameKey (.int .i64 x)) with
  | none =>
    have := List.find?_eq_none.1 hf (keyL q, d q) (List.mem_map.2 ⟨q, hq, rfl⟩)
    rw [key_same] at this
    exact absurd hqx this
  | some z =>
    rw [hf] at h0
    obtain ⟨p, hp, rfl⟩ := List.mem_map.1 (List.mem_of_find?_eq_some hf)
    have hk := List.find?_some hf
    rw [key_same] at hk
    exact ⟨p, hp, by simpa using hk, h0.symm⟩

def Apart (l : List Pk) : Prop := l.Pairwise fun p q => p.n ≠ q.n
theorem Up.apart {l : List Pk} (h : Up l) : Apart l := h.imp fun h => by omega
theorem apart_split {l : List Pk} (h : Apart l) {p : Pk} (hp : p ∈ l) : l.Perm (p :: l.filter fun q => !decide (q.n = p.n)) := by
  induction l with
  | nil => cases hp
  | cons x r ih =>
    obtain ⟨h1, h2⟩ := List.pairwise_cons.1 h
    rcases List.mem_cons.1 hp with rfl | hp'
    · rw [List.filter_cons_of_neg (by simp), List.filter_eq_self.2 fun q hq => by simpa using Ne.symm (h1 q hq)]
    · rw [List.filter_cons_of_pos (by simpa using h1 p hp')]
      exact ((ih h2 hp').cons x).trans (List.Perm.swap _ _ _)
theorem Apart.filter {l : List Pk} (h : Apart l) (f : Pk → Bool) : Apart (l.filter f) := List.Pairwise.filter f h

/-! ### the maps in the world -/
theorem lawI : Keyed Try.prog 3 := int_keyed Try.underlying3
theorem wfI {x : Int} (h : 0 ≤ x) (h' : x ≤ 4611686018427387903) : (Lit.int .i64 x).wf = true := WalkArith.wf_i64 (by omega)

/-- block mb IS THE MAP OF THE DATAGRAMS l, by their numbers -/
def Mp (w : World) (mb : Nat) (l : List Pk) : Prop := w.ownsMap Try.prog 3 pkR mb l.length (dm pkD l)
theorem tight {P : Program} {k : TypeId} {R : Value → Option (DataW Unit × List MemPlace)} {w : World} {b n : Nat} {D : DataW Unit} (h : w.ownsMap P k R b n D) : w.ownsMap P k R b (Maps.size D) D := by
  obtain ⟨es, clock, hb, F, hs, rfl⟩ := h
  exact ⟨es, clock, hb, F, by simp [Maps.size, length_sorted], rfl⟩
theorem Mp.of {w : World} {mb n : Nat} {l : List Pk} (h : w.ownsMap Try.prog 3 pkR mb n (dm pkD l)) : Mp w mb l := by
  have := tight h
  rwa [dm_size] at this
theorem Mp.lt {w : World} {mb : Nat} {l : List Pk} (h : Mp w mb l) : mb < w.heap.size := World.ownsMap.lt h
theorem Mp.kept {w w' : World} {mb : Nat} {l : List Pk} {row : Option Nat} (h : Mp w mb l) (hg : w.grownBy w' row) (hne : some mb ≠ row) : Mp w' mb l := World.ownsMap.kept h hg hne
theorem Mp.made (w : World) : Mp (w.alloc (.map #[] 0)) w.heap.size [] := World.ownsMap_made w _ _ _
theorem Mp.block {w w' : World} {mb : Nat} {l : List Pk} (h : Mp w mb l) (hb : w'.heap[mb]? = w.heap[mb]?) : Mp w' mb l := by
  obtain ⟨es, clock, h1, h2⟩ := h
  exact ⟨es, clock, hb.trans h1, h2⟩

/-- 'for n, p := range m' UNDER WAY: the map has l; todo are still to come -/
def Rng (w : World) (mb r : Nat) (l todo : List Pk) : Prop :=
  ∃ n left cnt, w.ranges Try.prog 3 pkR mb r n (dm pkD l) left cnt ∧ Apart l ∧ Apart todo ∧ ∀ p, p ∈ todo ↔ p ∈ l ∧ left (keyL p) = true
theorem Rng.owns {w : World} {mb r : Nat} {l todo : List Pk} (h : Rng w mb r l todo) : Mp w mb l := by
  obtain ⟨n, left, cnt, h1, _⟩ := h
  exact Mp.of h1.owns
theorem Rng.lt {w : World} {mb r : Nat} {l todo : List Pk} (h : Rng w mb r l todo) : r < w.heap.size := by
  obtain ⟨n, left, cnt, h1, _⟩ := h
  exact h1.lt
theorem Rng.ne {w : World} {mb r : Nat} {l todo : List Pk} (h : Rng w mb r l todo) : r ≠ mb := by
  obtain ⟨n, left, cnt, h1, _⟩ := h
  exact h1.ne
theorem Rng.kept {w w' : World} {mb r : Nat} {l todo : List Pk} {row : Option Nat} (h : Rng w mb r l todo) (hg : w.grownBy w' row) (hb : some mb ≠ row) (hr : some r ≠ row) : Rng w' mb r l todo := by
  obtain ⟨n, left, cnt, h1, h2⟩ := h
  exact ⟨n, left, cnt, h1.kept hg hb hr, h2⟩
theorem Rng.left {w w' : World} {mb r : Nat} {l todo : List Pk} {row : Option Nat} (h : Rng w mb r l todo) (hg : w.grownBy w' row) (hb : some mb ≠ row) (hr : some r ≠ row) : w'.rangeLeft mb r = w.rangeLeft mb r := by
  obtain ⟨n, left, cnt, h1, h2⟩ := h
  rw [(h1.kept hg hb hr).left_eq, h1.left_eq]
theorem Rng.all {w : World} {mb r : Nat} {l todo : List Pk} (h : Rng w mb r l todo) {p : Pk} (hp : p ∈ todo) : p ∈ l := by
  obtain ⟨n, left, cnt, h1, _, _, h4⟩ := h
  exact ((h4 p).1 hp).1

section
variable (w : World) {ops : Array Oper} {rest : List Oper} {o : Oper} {a : Act} {Q : Exit → Act → World → Prop}

/-- 'range m' -/
theorem wpList_range_pk (hg : o.guard = none) (m : Operand) (hop : o.op = Op.range 56 m) (mb : Nat) (l : List Pk) (hm : a.eval m = .map (some mb)) (hM : Mp w mb l) (hu : Up l)
    (hK : ∀ w', Rng w' mb w.heap.size l l → w.grownBy w' none → w'.heap.size = w.heap.size + 1 → wpList Try.prog ops Q rest (a.put o.dst (.pointer (some ⟨w.heap.size, 0, none⟩))) w') :
    wpList Try.prog ops Q (o :: rest) a w :=
  wpList_range_own w hg m 56 hop 3 54 lawI Try.underlying56 pkR mb l.length (dm pkD l) hm hM fun w' h1 h2 h3 =>
    hK w' ⟨_, _, _, h1, hu.apart, hu.apart, fun p => ⟨fun hp => ⟨hp, by unfold keyL; rw [dm_has]; exact List.any_eq_true.2 ⟨p, hp, by simp⟩⟩, fun h => h.1⟩⟩ h2 h3

/-- the step -/
theorem wpList_next_pk (hg : o.guard = none) (it : Operand) (hop : o.op = Op.next it false) (mb r : Nat) (l todo : List Pk) (hit : a.eval it = .pointer (some ⟨r, 0, none⟩)) (h : Rng w mb r l todo)
    (hDone : todo = [] → wpList Try.prog ops Q rest (a.put o.dst (.tuple #[.bool false])) w)
    (hMore : ∀ (p : Pk) (todo' : List Pk) (w' : World), todo.Perm (p :: todo') → p ∈ l → (∀ q ∈ todo', q.n ≠ p.n) → Rng w' mb r l todo' → w'.rangeLeft mb r < w.rangeLeft mb r → w.grownBy w' (some r) → w'.heap.size = w.heap.size →
      (Instr.entry (.pointer (some ⟨r, 0, none⟩))).run Try.prog w' = .ok (.tuple #[.int .i64 p.n, .agg #[.int .i64 p.n, .int .i64 p.t, .int .i64 p.s]]) w' → wpList Try.prog ops Q rest (a.put o.dst (.tuple #[.bool true, .int .i64 p.n, .agg #[.int .i64 p.n, .int .i64 p.t, .int .i64 p.s]])) w') :
    wpList Try.prog ops Q (o :: rest) a w := by
  obtain ⟨n, left, cnt, h1, h2, h3, h4⟩ := h
  refine wpList_next_ranges w hg it hop 3 lawI pkR (Value.int .i64) pkV (fun key kl hk => by obtain ⟨x, rfl, _⟩ := Maps.keyOf_int_inv Try.underlying3 hk; exact ⟨x, rfl⟩) (fun v y hv => by obtain ⟨p, rfl, _⟩ := pkR_inv hv; exact ⟨p, rfl⟩)
    mb r n (dm pkD l) left cnt hit h1 (fun _ hl => hDone ?_) fun x c kl y w' cnt' hkey hlk hv hat hrg hlt hgr hsz hen => ?_
  · refine List.eq_nil_iff_forall_not_mem.2 fun p hp => ?_
    have := ((h4 p).1 hp).2
    rw [hl] at this; cases this
  · obtain ⟨x', ex, rfl, _⟩ := Maps.keyOf_int_inv Try.underlying3 hkey
    cases ex
    obtain ⟨c', ec, rfl⟩ := pkR_inv hv
    obtain ⟨p, hp, rfl, hpd⟩ := dm_at hat
    obtain rfl : c' = p := pkD_inj hpd
    have hcc : pkV c = .agg #[.int .i64 c'.n, .int .i64 c'.t, .int .i64 c'.s] := ec
    rw [hcc] at hen ⊢
    have hpt : c' ∈ todo := (h4 c').2 ⟨hp, hlk⟩
    have hk : ∀ q : Pk, (keyL q).sameKey (.int .i64 c'.n) = decide (q.n = c'.n) := fun q => key_same q _
    refine hMore c' (todo.filter fun q => !decide (q.n = c'.n)) w' (apart_split h3 hpt) hp (fun q hq => by simpa using (List.mem_filter.1 hq).2) ⟨n, _, cnt', hrg, h2, h3.filter _, fun q => ?_⟩ (by rw [hrg.left_eq, h1.left_eq]; exact hlt) hgr hsz hen
    rw [List.mem_filter, h4 q, hk q, Bool.and_eq_true, and_assoc]

/-- 'delete(m, n)' in the round -/
theorem wpList_delete_pk (hg : o.guard = none) (m x : Operand) (hop : o.op = Op.call { callee := Callee.builtin Builtin.delete, args := #[m, x], argTypes := #[56, 3] })
    (mb r : Nat) (l todo : List Pk) (n : Int) (hm : a.eval m = .map (some mb)) (h : Rng w mb r l todo) (hx : a.eval x = .int .i64 n) (h0 : 0 ≤ n ∧ n ≤ 4611686018427387903) (hne : ∀ q ∈ todo, q.n ≠ n)
    (hK : ∀ w', Rng w' mb r (l.filter fun q => !decide (q.n = n)) todo → w'.rangeLeft mb r ≤ w.rangeLeft mb r → w.mapTurned w' mb → wpList Try.prog ops Q rest (a.put o.dst (.tuple #[])) w') :
    wpList Try.prog ops Q (o :: rest) a w := by
  obtain ⟨k, left, cnt, h1, h2, h3, h4⟩ := h
  refine wpList_delete_ranges w hg m x 56 3 hop 54 lawI Try.underlying56 pkR mb r k (dm pkD l) left cnt hm h1 (.int .i64 n) (.int .i64 n) hx (keyOf_int_mk Try.underlying3 (wfI h0.1 h0.2)) fun w' cnt' hrg hle hturn => ?_
  rw [dm_del] at hrg
  refine hK w' ⟨k, _, cnt', hrg, h2.filter _, h3, fun q => ?_⟩ (by rw [hrg.left_eq, h1.left_eq]; exact hle) hturn
  rw [h4 q, List.mem_filter, key_same]
  constructor
  · rintro ⟨hq, hl⟩
    have := hne q ((h4 q).2 ⟨hq, hl⟩)
    exact ⟨⟨hq, by simpa using this⟩, by rw [hl]; simpa using this⟩
  · rintro ⟨⟨hq, _⟩, hl⟩
    rw [Bool.and_eq_true] at hl
    exact ⟨hq, hl.1⟩

/-- 'len(m)' -/
theorem wpList_len_pk (hg : o.guard = none) (m : Operand) (hop : o.op = Op.call { callee := Callee.builtin Builtin.len, args := #[m], argTypes := #[56] }) (mb : Nat) (l : List Pk) (hm : a.eval m = .map (some mb)) (hM : Mp w mb l)
    (hK : wpList Try.prog ops Q rest (a.put o.dst (.int .i64 l.length)) w) : wpList Try.prog ops Q (o :: rest) a w :=
  wpList_len_own w hg m 56 hop 3 54 Try.underlying56 pkR mb l.length (dm pkD l) hm hM (by rw [dm_size]; exact hK)

/-- 'm[n] = p', of a number above all that are there -/
theorem wpList_put_pk (hg : o.guard = none) (m x v : Operand) (hop : o.op = Op.mapUpdate 56 m x v) (mb : Nat) (l : List Pk) (p : Pk) (hm : a.eval m = .map (some mb)) (hM : Mp w mb l) (hl : l.length ≤ 512)
    (hx : a.eval x = .int .i64 p.n) (hv : a.eval v = .agg #[.int .i64 p.n, .int .i64 p.t, .int .i64 p.s]) (h0 : 0 ≤ p.n ∧ p.n ≤ 4611686018427387903) (hup : ∀ q ∈ l, q.n < p.n)
    (hK : ∀ w', Mp w' mb (l ++ [p]) → w.mapTurned w' mb → wpList Try.prog ops Q rest (a.put o.dst undef) w') : wpList Try.prog ops Q (o :: rest) a w :=
  wpList_mapUpdate_in w hg m x v 56 hop 3 54 lawI Try.underlying56 pkR mb l.length (dm pkD l) hm hM (by unfold maxLen; omega) _ _ (keyL p) hx hv (keyOf_int_mk Try.underlying3 (wfI h0.1 h0.2)) (pkD p) [] (pkR_mk p)
    fun w' h1 h2 => hK w' (Mp.of (by rw [dm_put pkD l p hup] at h1; exact h1)) h2
end
end Go.Proofs.Ytobalbaieakcmaa
