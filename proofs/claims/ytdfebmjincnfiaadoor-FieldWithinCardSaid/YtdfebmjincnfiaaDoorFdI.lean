/- Layer 17: strings.SplitSeq at a comma: the iterator's contract. -/
import Derived.Test.YtdfebmjincnfiaaDoorFdH
import Derived.Shelf.Abstract
import Derived.OwnWalkIn
import Derived.TacticsInMore
import Derived.LoopNIn
import Derived.LoopIn
set_option maxRecDepth 100000
set_option linter.unusedSimpArgs false
set_option linter.unusedVariables false
namespace Go.Proofs.YtdfebmjincnfiaaDoor
open Go.RowKit
attribute [local go_sem] Oper.semAt_some

def consH (b : UInt8) : List (List UInt8) → List (List UInt8)
  | [] => [[b]]
  | x :: xs => (b :: x) :: xs
/-- what stands between commas -/
def splitC : List UInt8 → List (List UInt8)
  | [] => [[]]
  | b :: l => if b = 44 then [] :: splitC l else consH b (splitC l)
theorem split_ix (l : List UInt8) : (Lib.indexByte l 44 = -1 ∧ splitC l = [l]) ∨ ∃ i : Nat, Lib.indexByte l 44 = i ∧ i < l.length ∧ splitC l = l.take i :: splitC (l.drop (i + 1)) := by
  induction l with
  | nil => exact .inl ⟨rfl, rfl⟩
  | cons b l ih =>
    rw [Lib.indexByte, splitC]
    by_cases hb : b = 44
    · right
      subst hb
      exact ⟨0, by simp, by simp, by simp⟩
    · rw [if_neg (by simpa using hb), if_neg hb]
      rcases ih with ⟨h1, h2⟩ | ⟨i, h1, h2, h3⟩
      · left
        rw [h1, h2]
        exact ⟨rfl, rfl⟩
      · right
        refine ⟨i + 1, ?_, by simp only [List.length_cons]; omega, ?_⟩
        · rw [h1, if_neg (by simp)]
          simp
        · rw [h3]; simp [consH]

/-- where the iterator keeps its place: the text, the comma, a number 0 -/
structure Sq (bs : Nat) (r : List UInt8) (W : World) : Prop where
  s : W.cell? ⟨bs, 0, none⟩ = some (.string (txt r))
  z : W.frozen? ⟨bs, 0, none⟩ = false
  sep : W.cell? ⟨bs + 1, 0, none⟩ = some (.string (txt [44]))
  save : W.cell? ⟨bs + 2, 0, none⟩ = some (.int .i64 0)
theorem Sq.same {bs : Nat} {r : List UInt8} {W W' : World} (h : Sq bs r W) (h0 : W'.heap[bs]? = W.heap[bs]?) (h1 : W'.heap[bs + 1]? = W.heap[bs + 1]?) (h2 : W'.heap[bs + 2]? = W.heap[bs + 2]?) : Sq bs r W' :=
  ⟨(World.cell?_of_block (w := W) h0).trans h.s, by have := h.z; unfold World.frozen? at this ⊢; rw [h0]; exact this, (World.cell?_of_block (w := W) h1).trans h.sep, (World.cell?_of_block (w := W) h2).trans h.save⟩
theorem Sq.below {bs B : Nat} {r : List UInt8} {W W' : World} (h : Sq bs r W) (hb : Below B W W') (hB : bs + 2 < B) : Sq bs r W' := h.same (hb.block _ (by omega)) (hb.block _ (by omega)) (hb.block _ hB)
theorem Sq.set {bs : Nat} {r : List UInt8} {W : World} (h : Sq bs r W) (q : List UInt8) : Sq bs q (W.setCell ⟨bs, 0, none⟩ (.string (txt q))) :=
  ⟨set_at h.s, by rw [World.frozen?_setCell]; exact h.z, (World.cell?_of_block (w := W) (Below.heap_setCell _ _ _ _ (by simp))).trans h.sep, (World.cell?_of_block (w := W) (Below.heap_setCell _ _ _ _ (by simp))).trans h.save⟩
def lb54 (bs : Nat) : Array Value := #[.pointer (some ⟨bs + 1, 0, none⟩), .pointer (some ⟨bs, 0, none⟩), .pointer (some ⟨bs + 2, 0, none⟩)]

set_option maxHeartbeats 1600000 in
theorem splitSeq_any (r : List UInt8) (w : World) :
    Calls Tryd.prog 28 #[.string (txt r), .string (txt [44])] w fun e w' => e = .returned (.func (.func 54) #[] (lb54 w.heap.size)) ∧ Sq w.heap.size r w' ∧ Below w.heap.size w w' ∧ w'.heap.size = w.heap.size + 3 := by
  obtain ⟨W3, hW3⟩ : ∃ W3, W3 = ((w.alloc (.cells #[.string (txt r)] 9)).alloc (.cells #[.string (txt [44])] 9)).alloc (.cells #[.int .i64 0] 3) := ⟨_, rfl⟩
  have BB : Hid (Below w.heap.size w W3) := by
    rw [hW3]
    exact (((Below.refl w.heap.size w).alloc (Nat.le_refl _) _).alloc (by simp) _).alloc (by simp; omega) _
  have hsz3 : Hid (W3.heap.size = w.heap.size + 3) := by show _ = _; rw [hW3]; simp
  have SQ : Hid (Sq w.heap.size r W3) := by
    have k1 : W3.heap[w.heap.size]? = (w.alloc (.cells #[.string (txt r)] 9)).heap[w.heap.size]? := by
      rw [hW3]
      exact ((((Below.refl _ (w.alloc (.cells #[.string (txt r)] 9))).alloc (Nat.le_refl _) (.cells #[.string (txt [44])] 9)).alloc (by simp) (.cells #[.int .i64 0] 3)).block _ (by simp))
    refine ⟨?_, ?_, ?_, ?_⟩
    · refine (World.cell?_of_block (w := w.alloc (.cells #[.string (txt r)] 9)) k1).trans ?_
      rw [World.cell?_alloc_at _ _ _ _ rfl]; rfl
    · have : (w.alloc (.cells #[.string (txt r)] 9)).frozen? ⟨w.heap.size, 0, none⟩ = false := World.frozen?_alloc_at _ _ _ _ rfl
      unfold World.frozen? at this ⊢
      rw [k1]; exact this
    · rw [hW3]
      exact ((((Below.refl _ ((w.alloc (.cells #[.string (txt r)] 9)).alloc (.cells #[.string (txt [44])] 9))).alloc (Nat.le_refl _) (.cells #[.int .i64 0] 3))).cell (p := ⟨w.heap.size + 1, 0, none⟩) (by simp)).trans (by rw [World.cell?_alloc_at _ _ _ _ (by simp)]; rfl)
    · rw [hW3, World.cell?_alloc_at _ _ _ _ (by simp)]; rfl
  have C : Hid (Calls Tryd.prog 44 #[.string (txt r), .string (txt [44]), .int .i64 0] w fun e w' => e = .returned (.func (.func 54) #[] (lb54 w.heap.size)) ∧ w' = W3) := by
    show Calls _ _ _ _ _
    go_enter Tryd.func44, Tryd.ntmps44
    go_wp2_with fail
    go_ret
    exact ⟨by simp [lb54], hW3.symm⟩
  clear hW3
  go_enter Tryd.func28, Tryd.ntmps28
  go_wp2_with (go_at_call 44; refine C.out.mono ?_; rintro e w2 ⟨rfl, rfl⟩)
  go_ret
  exact ⟨rfl, SQ.out, BB.out, hsz3.out⟩

def encT (x : List UInt8) : Array Value := #[.string (txt x)]
/-- what a round leaves alone -/
def KpS (bs : Nat) (W W' : World) : Prop := W'.heap[bs]? = W.heap[bs]? ∧ W'.heap[bs + 1]? = W.heap[bs + 1]? ∧ W'.heap[bs + 2]? = W.heap[bs + 2]?
def leftS (bs : Nat) (W : World) : Nat := match W.cell? ⟨bs, 0, none⟩ with
  | some v => strLen v
  | none => 0
theorem leftS_eq {bs : Nat} {r : List UInt8} {W : World} (h : Sq bs r W) : leftS bs W = r.length := by
  unfold leftS
  rw [h.s]
  exact txt_size r
set_option maxHeartbeats 3200000 in
theorem iter_split (bs : Nat) (r : List UInt8) (hr : r.length ≤ 4611686018427387904) (w : World) (hbs : bs + 2 < w.heap.size) (hs : Sq bs r w) (n : Nat) (hn : 1 ≤ n) (I : List (List UInt8) → World → Prop) (hIs : ∀ pre W v, I pre W → I pre (W.setCell ⟨bs, 0, none⟩ v)) :
    Iterates Fence.wide n Tryd.prog 54 (lb54 bs) encT (KpS bs) (splitC r) w I := by
  intro l W J Jx hW hJI hJs hY h0
  have S0 := Lib.hid (hs.below hW hbs)
  have IX : Hid (∀ (q : List UInt8) (A : World), CallsIn Fence.wide (n - 1) Tryd.prog 55 #[.string (txt q), .string (txt [44])] A fun e A' => e = .returned (.int .i64 (Lib.indexByte q 44)) ∧ A' = A) := fun q A => callsIn_wide.2 (strings_Index_one (txt q) 44 A)
  clear hs hbs
  refine callsIn_of_wp Tryd.func54 rfl trivial ?_ rfl
  unfold lb54
  simp only [Tryd.ntmps54, List.size_toArray, List.length_cons, List.length_nil, Nat.reduceAdd, Nat.reduceSub, Array.replicate_succ, Array.replicate_zero, List.push_toArray, List.append_toArray, List.nil_append, List.cons_append]
  obtain ⟨q1, q2, q3, q4⟩ := S0.out
  have sz1 : (txt [44]).size = 1 := rfl
  gi_wp2
  clear q1 q2 q3 q4
  gi_loopw [] (fun wr => ∃ (q : List UInt8) (pre : List (List UInt8)), J pre wr ∧ Sq bs q wr ∧ q.length ≤ 4611686018427387904 ∧ splitC r = pre ++ splitC q)
    (fun wr => leftS bs wr)
  case atStart => exact ⟨r, [], h0, S0.out, hr, rfl⟩
  case round =>
    obtain ⟨q, pre, hj, hsq, hq, he⟩ := hrel
    obtain ⟨q1, q2, q3, q4⟩ := hsq
    have HS : Hid (Sq bs q wr) := ⟨q1, q2, q3, q4⟩
    have HJ := Lib.hid hj
    have HE := Lib.hid he
    clear hj he
    have sz := txt_size q
    rcases split_ix q with ⟨h1, h2⟩ | ⟨i, h1, h2, h3⟩
    · have IQ : Hid (CallsIn Fence.wide (n - 1) Tryd.prog 55 #[.string (txt q), .string (txt [44])] wr fun e A' => e = .returned (.int .i64 (-1)) ∧ A' = wr) := (IX.out q wr).mono fun e A h => ⟨by rw [h.1, h1], h.2⟩
      have HE2 : Hid (splitC r = pre ++ [q]) := by show _ = _; rw [HE.out, h2]
      obtain ⟨fn, tmps, assign, body, hy, hR⟩ := hY pre q wr (by rw [HE2.out]; exact List.prefix_refl _) HJ.out
      dsimp only [encT] at hy
      clear h1 h2
      gi_wp2_with (refine ⟨trivial, ?_⟩; gi_at_call 55; refine IQ.out.mono ?_; rintro e A ⟨rfl, rfl⟩)
      refine hR.mono ?_
      rintro e A (⟨rfl, hj, _⟩ | ⟨rfl, hj⟩)
      · gi_wp2
        go_end0
        exact ⟨⟨_, rfl⟩, .inl (by rw [HE2.out]; exact hj)⟩
      · gi_wp2
        go_end0
        exact ⟨⟨_, rfl⟩, .inr ⟨_, hj⟩⟩
    · have IQ : Hid (CallsIn Fence.wide (n - 1) Tryd.prog 55 #[.string (txt q), .string (txt [44])] wr fun e A' => e = .returned (.int .i64 (i : Int)) ∧ A' = wr) := (IX.out q wr).mono fun e A h => ⟨by rw [h.1, h1], h.2⟩
      have HE2 : Hid (splitC r = (pre ++ [q.take i]) ++ splitC (q.drop (i + 1))) := by
        show _ = _
        rw [HE.out, h3, List.append_assoc]
        rfl
      obtain ⟨fn, tmps, assign, body, hy, hR⟩ := hY pre (q.take i) wr ⟨_, HE2.out.symm⟩ HJ.out
      dsimp only [encT] at hy
      have hi2 : i < q.length := h2
      have x1 := txt_extract q 0 i
      rw [List.drop_zero, Nat.sub_zero] at x1
      have x2 := txt_extract q (i + 1) q.length
      rw [List.take_of_length_le (by rw [List.length_drop]; omega)] at x2
      have w0 := wr64 (i : Int) (by omega) (by omega)
      have w1 := wr64 ((i : Int) + 1) (by omega) (by omega)
      have c1 : (0 : Int) ≤ (i : Int) := by omega
      have c2 : (i : Int) ≤ (q.length : Int) := by omega
      have c3 : (0 : Int) ≤ (i : Int) + 1 := by omega
      have c4 : (i : Int) + 1 ≤ (q.length : Int) := by omega
      have c5 : ((i : Int) + 1).toNat = i + 1 := by omega
      have c6 : ¬ (i : Int) < 0 := by omega
      clear h1 h2 h3
      gi_wp2_with (refine ⟨trivial, ?_⟩; gi_at_call 55; refine IQ.out.mono ?_; rintro e A ⟨rfl, rfl⟩)
      refine hR.mono ?_
      rintro e A (⟨rfl, hj, hk1, hk2, hk3⟩ | ⟨rfl, hj⟩)
      · have SA := Lib.hid (HS.out.same hk1 hk2 hk3)
        obtain ⟨p1, p2, p3, p4⟩ := SA.out
        have JA := Lib.hid hj
        clear q1 q2 q3 q4 hk1 hk2 hk3 hj
        gi_wp2
        have hnew := SA.out.set (q.drop (i + 1))
        refine ⟨⟨q.drop (i + 1), pre ++ [q.take i], hJs _ _ _ JA.out (hIs _ _ _ (hJI _ _ JA.out)) ((KeepsOthers.setCell _ _ _).from _), hnew, by rw [List.length_drop]; omega, HE2.out⟩, ?_⟩
        rw [leftS_eq hnew, leftS_eq HS.out, List.length_drop]
        omega
      · gi_wp2
        refine bodyPost_ret (results_none rfl _ _ _) rfl ?_
        exact ⟨⟨_, rfl⟩, .inr ⟨_, hj⟩⟩
end Go.Proofs.YtdfebmjincnfiaaDoor
