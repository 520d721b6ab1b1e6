/- Layer 17: the parts of a range. -/
import Derived.Test.YtdfebmjincnfiaaDoorFdK
import Derived.Test.YtdfebmjincnfiaaDoorFdI
set_option maxRecDepth 100000
set_option linter.unusedSimpArgs false
set_option linter.unusedVariables false
namespace Go.Proofs.YtdfebmjincnfiaaDoor
open Go.RowKit
attribute [local go_sem] Oper.semAt_some

def partsE : List (List UInt8) → Option (List RP)
  | [] => some []
  | x :: xs => if (partE (trim x)).2 = true then (partsE xs).map (List.cons (partE (trim x)).1) else none
theorem parts_app {a : List (List UInt8)} {ps : List RP} (h : partsE a = some ps) (b : List (List UInt8)) : partsE (a ++ b) = (partsE b).map (ps ++ ·) := by
  induction a generalizing ps with
  | nil =>
    obtain rfl : ps = [] := by simpa [partsE] using h.symm
    cases hb : partsE b <;> simp [hb]
  | cons x a ih =>
    rw [partsE] at h
    split at h
    · rename_i hx
      cases ha : partsE a with
      | none => rw [ha] at h; cases h
      | some qs =>
        rw [ha] at h
        simp only [Option.map_some, Option.some.injEq] at h
        rw [List.cons_append, partsE, if_pos hx, ih ha]
        cases partsE b <;> simp [← h]
    · cases h
theorem parts_snoc {a : List (List UInt8)} {ps : List RP} {x : List UInt8} (h : partsE a = some ps) (hx : (partE (trim x)).2 = true) : partsE (a ++ [x]) = some (ps ++ [(partE (trim x)).1]) := by
  rw [parts_app h, partsE, if_pos hx]
  rfl
theorem parts_bad {a b : List (List UInt8)} {ps : List RP} {x : List UInt8} (h : partsE a = some ps) (hx : (partE (trim x)).2 = false) (hp : (a ++ [x]) <+: b) : partsE b = none := by
  obtain ⟨t, rfl⟩ := hp
  rw [List.append_assoc, parts_app h]
  rw [show partsE ([x] ++ t) = none by rw [List.cons_append, partsE, if_neg (by rw [hx]; decide)]]
  rfl
theorem parts_len {a : List (List UInt8)} {ps : List RP} (h : partsE a = some ps) : ps.length = a.length := by
  induction a generalizing ps with
  | nil => obtain rfl : ps = [] := by simpa [partsE] using h.symm
           rfl
  | cons x a ih =>
    rw [partsE] at h
    split at h
    · cases ha : partsE a with
      | none => rw [ha] at h; cases h
      | some qs =>
        rw [ha] at h
        simp only [Option.map_some, Option.some.injEq] at h
        rw [← h, List.length_cons, List.length_cons, ih ha]
    · cases h
theorem split_len : ∀ (l : List UInt8), (splitC l).length ≤ l.length + 1 := by
  intro l
  induction l with
  | nil => simp [splitC]
  | cons b l ih =>
    rw [splitC]
    split
    · simp only [List.length_cons]; omega
    · cases h : splitC l with
      | nil => simp [consH]
      | cons x xs => rw [h] at ih; simp only [consH, List.length_cons] at ih ⊢; omega
theorem split_short : ∀ (l x : List UInt8), x ∈ splitC l → x.length ≤ l.length := by
  intro l
  induction l with
  | nil => intro x hx; simp [splitC] at hx; subst hx; simp
  | cons b l ih =>
    intro x hx
    rw [splitC] at hx
    split at hx
    · rcases List.mem_cons.1 hx with rfl | hx
      · simp
      · have := ih x hx; simp only [List.length_cons]; omega
    · cases h : splitC l with
      | nil => rw [h] at hx; simp [consH] at hx; subst hx; simp
      | cons y ys =>
        rw [h] at hx ih
        simp only [consH] at hx
        rcases List.mem_cons.1 hx with rfl | hx
        · have := ih y (by simp); simp only [List.length_cons]; omega
        · have := ih x (by simp [hx]); simp only [List.length_cons]; omega
def bytesU : List UInt8 := [98, 121, 116, 101, 115, 61]
/-- the parts of a range, if it is one -/
def rangeE (l : List UInt8) : Option (List RP) := if l.length < 6 then none else if lowE (l.take 6) = bytesU then partsE (splitC (l.drop 6)) else none

theorem elemRP : ElemC Tryd.prog 51 4 24 (.agg #[.int .i64 0, .int .i64 0, .bool false, .bool false]) := ⟨info_parts (by kernel_rfl), rfl, by decide⟩
def rpsC (ps : List RP) : List Value := ps.flatMap rpC
theorem rps_one {ps : List RP} : ∀ u ∈ rpsC ps, u.oneCell' = true := by
  intro u hu
  obtain ⟨p, _, hu⟩ := List.mem_flatMap.1 hu
  unfold rpC at hu
  simp only [List.mem_cons, List.not_mem_nil, or_false] at hu
  rcases hu with rfl | rfl | rfl | rfl <;> rfl
def OwnP (w : World) (B : Nat) (v : Value) (ps : List RP) : Prop := w.ownsRow B 51 4 v ps.length (rpsC ps)
/-- what rangeParts answers -/
def RangeOut (w : World) (l : List UInt8) (e : Ending) (w' : World) : Prop := Below w.heap.size w w' ∧
  ((rangeE l = none ∧ e = .returned (.tuple #[.slice none 0 0, .bool false])) ∨ ∃ ps v, rangeE l = some ps ∧ e = .returned (.tuple #[v, .bool true]) ∧ OwnP w' w.heap.size v ps)
theorem txt_eqc (l : List UInt8) (c : List UInt8) : ((txt l).toList == c) = decide (l = c) := by
  rw [txt_list]
  by_cases h : l = c <;> simp [h]
theorem load_one47 {U : World} {g : Nat} {v : Value} (h : U.cell? ⟨g, 0, none⟩ = some v) : (loadVar 47 ⟨g, 0, none⟩).run Tryd.prog U = .ok v U := by
  simp [loadVar, go_sem, h]
theorem load_one4 {U : World} {g : Nat} {v : Value} (h : U.cell? ⟨g, 0, none⟩ = some v) : (loadVar 4 ⟨g, 0, none⟩).run Tryd.prog U = .ok v U := by
  simp [loadVar, go_sem, h]
theorem res_parts {U : World} {g2 g3 : Nat} {v : Value} {ok : Bool} {A : Act} (h2 : A.tmps.getD 2 undef = .pointer (some ⟨g2, 0, none⟩)) (h3 : A.tmps.getD 3 undef = .pointer (some ⟨g3, 0, none⟩)) (c2 : U.cell? ⟨g2, 0, none⟩ = some v) (c3 : U.cell? ⟨g3, 0, none⟩ = some (.bool ok)) :
    (results Tryd.f16 A.tmps).run Tryd.prog U = .ok (.tuple #[v, .bool ok]) U := by
  have l2 := load_one47 c2
  have l3 := load_one4 c3
  rw [Array.getD_eq_getD_getElem?] at h2 h3
  simp [results, Tryd.results16, asAddr, h2, h3, l2, l3]
theorem out_bad {w U : World} {l : List UInt8} (hE : rangeE l = none) (hZ : Below w.heap.size w U) : RangeOut w l (.returned (.tuple #[.slice none 0 0, .bool false])) U := ⟨hZ, .inl ⟨hE, rfl⟩⟩

/-- between two rounds -/
structure PI (w w4 : World) (bp : Nat) (pre : List (List UInt8)) (W : World) : Prop where
  ps : ∃ ps v, partsE pre = some ps ∧ Cs W bp [v] ∧ OwnP W w4.heap.size v ps
  r2 : Cs W w.heap.size [.slice none 0 0]
  r3 : Cs W (w.heap.size + 1) [.bool false]
  bel : Below w.heap.size w W
  big : w4.heap.size ≤ W.heap.size
structure PX (w : World) (l : List UInt8) (pre : List (List UInt8)) (W : World) : Prop where
  bad : rangeE l = none
  r2 : Cs W w.heap.size [.slice none 0 0]
  r3 : Cs W (w.heap.size + 1) [.bool false]
  bel : Below w.heap.size w W
theorem Cs.not_row {W W' : World} {g : Nat} {cs : List Value} {row : Option Nat} {B : Nat} (h : Cs W g cs) (hg : W.grownBy W' row) (hr : ∀ r, row = some r → B ≤ r ∧ ∃ o : Obj, W.heap[r]? = some o ∧ o.isCells = false) : Cs W' g cs := by
  refine h.grown hg fun e => ?_
  obtain ⟨_, o, ho, hc⟩ := hr g e.symm
  obtain ⟨T, hT⟩ := h
  rw [hT] at ho
  cases ho
  cases hc
theorem OwnP.not_row {W W' : World} {v : Value} {ps : List RP} {row : Option Nat} {B D : Nat} (h : OwnP W D v ps) (hg : W.grownBy W' row) (hr : ∀ r, row = some r → B ≤ r ∧ ∃ o : Obj, W.heap[r]? = some o ∧ o.isCells = false) : OwnP W' D v ps := by
  refine World.ownsRow.kept h hg ?_
  rcases h.2 with ⟨rfl, _⟩ | ⟨g, cap, cur, rfl, hb, hg2, _⟩
  · exact .inl rfl
  · refine .inr fun e => ?_
    obtain ⟨_, o, ho, hc⟩ := hr g (by rw [← e]; rfl)
    rw [hg2] at ho
    cases ho
    cases hc
theorem below_row {w W W' : World} {row : Option Nat} {B : Nat} (h : Below w.heap.size w W) (hB : w.heap.size ≤ B) (hg : W.grownBy W' row) (hr : ∀ r, row = some r → B ≤ r ∧ ∃ o : Obj, W.heap[r]? = some o ∧ o.isCells = false) : Below w.heap.size w W' :=
  h.grown hg h.size (fun j e => by have := (hr j e).1; omega)
theorem PI.own (w w4 : World) (bp : Nat) (hB : w.heap.size ≤ w4.heap.size) : OwnFrom w4.heap.size (PI w w4 bp) := by
  intro s W W' row h hg hr
  obtain ⟨⟨ps, v, h1, h2, h3⟩, h4, h5, h6, h7⟩ := h
  exact ⟨⟨ps, v, h1, h2.not_row hg hr, h3.not_row hg hr⟩, h4.not_row hg hr, h5.not_row hg hr, below_row h6 hB hg hr, Nat.le_trans h7 hg.size⟩
theorem PX.own (w w4 : World) (l : List UInt8) (hB : w.heap.size ≤ w4.heap.size) : OwnFrom w4.heap.size (PX w l) := by
  intro s W W' row h hg hr
  exact ⟨h.bad, h.r2.not_row hg hr, h.r3.not_row hg hr, below_row h.bel hB hg hr⟩
theorem PI.stay {w w4 : World} {bp bs : Nat} {pre : List (List UInt8)} {W : World} (h : PI w w4 bp pre W) (v : Value) (h1 : w.heap.size + 1 < bs) (h2 : bs ≠ bp) (h3 : bs < w4.heap.size) : PI w w4 bp pre (W.setCell ⟨bs, 0, none⟩ v) := by
  obtain ⟨⟨ps, u, p1, p2, p3⟩, q2, q3, q4, q5⟩ := h
  have hg := grown_set bs 0 W v
  refine ⟨⟨ps, u, p1, p2.grown hg (by simp only [ne_eq, Option.some.injEq]; exact h2.symm), ?_⟩, q2.grown hg (by simp only [ne_eq, Option.some.injEq]; omega), q3.grown hg (by simp only [ne_eq, Option.some.injEq]; omega), q4.setCell (p := ⟨bs, 0, none⟩) (by simp only; omega) _, Nat.le_trans q5 hg.size⟩
  refine World.ownsRow.kept p3 hg ?_
  cases hv : u.ownBlock with
  | none => exact .inl rfl
  | some j =>
    refine .inr fun e => ?_
    have := (World.ownsRow.lt p3 j hv).1
    simp only [Option.some.injEq] at e
    omega

theorem OwnP.low {W : World} {v : Value} {ps : List RP} {D g : Nat} (h : OwnP W D v ps) (hg : g < D) (o : Nat) (u : Value) : OwnP (W.setCell ⟨g, o, none⟩ u) D v ps := by
  refine World.ownsRow.kept h (grown_set g o W u) ?_
  cases hv : v.ownBlock with
  | none => exact .inl rfl
  | some j =>
    refine .inr fun e => ?_
    have := (World.ownsRow.lt h j hv).1
    simp only [Option.some.injEq] at e
    omega
theorem OwnP.mono {W : World} {v : Value} {ps : List RP} {D D' : Nat} (h : OwnP W D v ps) (hd : D' ≤ D) : OwnP W D' v ps := by
  obtain ⟨h1, h2⟩ := h
  refine ⟨h1, ?_⟩
  rcases h2 with h2 | ⟨g, cap, cur, a1, a2, a3⟩
  · exact .inl h2
  · exact .inr ⟨g, cap, cur, a1, Nat.le_trans hd a2, a3⟩
theorem OwnP.below {W W' : World} {v : Value} {ps : List RP} {D : Nat} (h : OwnP W D v ps) (hb : Below W.heap.size W W') : OwnP W' D v ps := by
  refine World.ownsRow.kept (row := none) h (grownBy_of_below hb) ?_
  cases hv : v.ownBlock with
  | none => exact .inl rfl
  | some j => exact .inr fun e => by cases e
theorem KeepsFrom.of_below {B : Nat} {W W' : World} (h : Below W.heap.size W W') : KeepsFrom B W W' :=
  ⟨h.size, fun k o _ hk _ => (h.block k (Array.getElem?_eq_some_iff.1 hk).1).trans hk⟩
theorem below_put {w U : World} {D B : Nat} {o : Obj} (h : Below w.heap.size w U) (hB : w.heap.size ≤ B) (hD : B ≤ D) (hk : U.heap[D]? = some (.deferred (some []))) : Below w.heap.size w (U.putObj D o) :=
  below_row h hB (grownBy_putObj' _ D o) (fun r e => by cases e; exact ⟨hD, _, hk, rfl⟩)

set_option maxHeartbeats 6400000 in
theorem parts_any (l : List UInt8) (hl : l.length ≤ 1048576) (w : World) :
    Calls Tryd.prog 16 #[.string (txt l)] w (RangeOut w l) := by
  have sz := txt_size l
  have Z1 : Hid (Below w.heap.size w ((w.alloc (.cells #[.slice none 0 0] 47)).alloc (.cells #[.bool false] 4))) := ((Below.refl _ _).alloc (Nat.le_refl _) _).alloc (by simp) _
  have R1 : Hid (Cs ((w.alloc (.cells #[.slice none 0 0] 47)).alloc (.cells #[.bool false] 4)) w.heap.size [.slice none 0 0]) := (Cs.made w _ _).below ((Below.refl _ _).alloc (Nat.le_refl _) _)
  have S1 : Hid (Cs ((w.alloc (.cells #[.slice none 0 0] 47)).alloc (.cells #[.bool false] 4)) (w.heap.size + 1) [.bool false]) := by
    have := Cs.made (w.alloc (.cells #[.slice none 0 0] 47)) #[.bool false] 4
    rwa [World.size_alloc] at this
  by_cases h6 : l.length < 6
  · have hE : Hid (rangeE l = none) := if_pos h6
    have i1 : (l.length : Int) < 6 := by omega
    go_enter Tryd.func16, Tryd.ntmps16
    go_upto_region 1 with fail
    generalize (w.alloc (.cells #[.slice none 0 0] 47)).alloc (.cells #[.bool false] 4) = W at Z1 R1 S1 ⊢
    have r0 := R1.out.get 0 _ rfl
    have s0 := S1.out.get 0 _ rfl
    have y0 := R1.out.free 0
    have z0 := S1.out.free 0
    go_wp2
    have R2 := (R1.out.set 0 (.slice none 0 0)).grown (grown_set (w.heap.size + 1) 0 _ (.bool false)) (by simp)
    have S2 := (S1.out.grown (grown_set w.heap.size 0 W (.slice none 0 0)) (by simp)).set 0 (.bool false)
    refine bodyPost_ret (res_parts rfl rfl (R2.get 0 _ rfl) (S2.get 0 _ rfl)) rfl (out_bad hE.out ((Z1.out.setCell (p := ⟨w.heap.size, 0, none⟩) (Nat.le_refl _) _).setCell (p := ⟨w.heap.size + 1, 0, none⟩) (by simp) _))
  · have x0 := txt_extract l 0 6
    rw [List.drop_zero, Nat.sub_zero] at x0
    have x1 := txt_extract l 6 l.length
    rw [List.take_of_length_le (by rw [List.length_drop]; omega)] at x1
    have i1 : ¬ (l.length : Int) < 6 := by omega
    have hl6 : (l.take 6).length = 6 := by rw [List.length_take]; omega
    have SM := Lib.hid (small_any (l.take 6) (by intro e; rw [e] at hl6; cases hl6) (by omega))
    have ht := txt_eqc (lowE (l.take 6)) [98, 121, 116, 101, 115, 61]
    by_cases hb : lowE (l.take 6) = bytesU
    · have hE : Hid (rangeE l = partsE (splitC (l.drop 6))) := by unfold rangeE; show _ = _; rw [if_neg h6, if_pos hb]
      rw [show decide (lowE (l.take 6) = [98, 121, 116, 101, 115, 61]) = true from decide_eq_true hb] at ht
      clear hb
      generalize lowE (l.take 6) = u at ht SM
      have ht2 : (!((txt u).toList == [98, 121, 116, 101, 115, 61])) = false := by rw [ht]; rfl
      have hrl : Hid ((l.drop 6).length ≤ l.length) := by show _ ≤ _; rw [List.length_drop]; omega
      generalize l.drop 6 = r at hE x1 hrl
      refine (callsIn_wide (n := 8)).1 ?_
      refine callsIn_of_wp_marks Tryd.func16 rfl trivial ?_ rfl
      simp only [Tryd.ntmps16, List.size_toArray, List.length_cons, List.length_nil, Nat.reduceAdd, Nat.reduceSub, Array.replicate_succ, Array.replicate_zero, List.push_toArray, List.append_toArray, List.nil_append, List.cons_append]
      gi_wp2_with (first
        | (refine ⟨trivial, ?_⟩; gi_at_call 27; refine (callsIn_wide.2 (SM.out _)).mono ?_; rintro e w2 ⟨rfl, hb2⟩; have R2 := Lib.hid (R1.out.below hb2); have S2 := Lib.hid (S1.out.below hb2); have Z2 := Lib.hid (Z1.out.trans (hb2.mono Z1.out.size)); clear hb2)
        | (refine ⟨trivial, ?_⟩; gi_at_call 28; refine (callsIn_wide.2 (splitSeq_any r _)).mono ?_; rintro e w4 ⟨rfl, hsq, hb4, hs4⟩; have P4 := Lib.hid ((Cs.made w2 #[.slice none 0 0] 47).below hb4); have HB4 := Lib.hid (((Below.refl _ w2).alloc (Nat.le_refl _) (.cells #[.slice none 0 0] 47)).trans (hb4.mono (by simp))); have SQ4 := Lib.hid hsq; have HS4 := Lib.hid hs4; clear hb4 hsq hs4))
      rw [World.size_alloc] at SQ4 HS4
      have hw2 : Hid (w.heap.size + 1 < w2.heap.size) := S2.out.lt
      have S4 := Lib.hid (S2.out.below HB4.out)
      have R4 := Lib.hid (R2.out.below HB4.out)
      have Z4 := Lib.hid (Z2.out.trans (HB4.out.mono Z2.out.size))
      obtain ⟨bp, hbp⟩ : ∃ bp, bp = w2.heap.size := ⟨_, rfl⟩
      rw [← hbp] at P4 SQ4 HS4 hw2 ⊢
      clear R2 S2 Z2 HB4 R1 S1 Z1 hbp
      have PI0 : Hid (PI w w4 bp [] w4) := ⟨⟨[], .slice none 0 0, rfl, P4.out, World.ownsRow_nil _ _ _ 4⟩, R4.out, S4.out, Z4.out, Nat.le_refl _⟩
      clear P4 R4 S4
      refine range_kept rfl (by omega) (gf := 54) (lb := lb54 (bp + 1)) rfl trivial (enters_of Tryd.func54 (by kernel_rfl) rfl) encT (fun _ => rfl) (KpS (bp + 1)) (fun h k => ⟨k.1.trans h.1, k.2.1.trans h.2.1, k.2.2.trans h.2.2⟩)
        (fun W l o hlo => ⟨World.putObj_heap_other (by have := HS4.out; omega), World.putObj_heap_other (by have := HS4.out; omega), World.putObj_heap_other (by have := HS4.out; omega)⟩)
        (splitC r) (PI w w4 bp) (PX w l) (PI.own w w4 bp Z4.out.size) (PX.own w w4 l Z4.out.size) PI0.out
        (iter_split (bp + 1) r (by have := hrl.out; omega) w4 (by have := HS4.out; omega) SQ4.out (8 - 1) (by omega) (PI w w4 bp) (fun pre W v h => h.stay v (by have := hw2.out; omega) (by omega) (by have := HS4.out; omega)))
        (fun x => { tmps := #[.string (txt l), undef, .pointer (some ⟨w.heap.size, 0, none⟩), .pointer (some ⟨w.heap.size + 1, 0, none⟩), .pointer (some ⟨bp, 0, none⟩), .string (txt x), undef, undef, .string (txt l), .int .i64 (l.length : Int), .bool false, .bool false, .string (txt l), .string (txt (l.take 6)), .string (txt u), .bool false, .bool false, .string (txt l), .string (txt r), .func (.func 54) #[] (lb54 (bp + 1)), .string (txt x), undef, undef, undef, undef, undef, undef, undef, undef, undef, undef, undef, undef, undef], defers := [] }) ?assign ?body ?done ?stop
      case assign =>
        intro k x W K hK
        unfold encT
        gi_wp2
        exact hK
      case body =>
        intro k pre x W hpx hpi
        obtain ⟨⟨ps, v, p1, p2, p3⟩, q2, q3, q4, q5⟩ := hpi
        have hxl : x.length ≤ r.length := split_short r x (hpx.subset (by simp))
        have TR := Lib.hid (trim_any x (by have := hrl.out; omega))
        have PT := Lib.hid (part_any (trim x) (by have := hrl.out; have := trim_len x; omega))
        have hbad : Hid ((partE (trim x)).2 = false → rangeE l = none) := fun h => by rw [hE.out]; exact parts_bad p1 h hpx
        have hgood : Hid ((partE (trim x)).2 = true → partsE (pre ++ [x]) = some (ps ++ [(partE (trim x)).1])) := fun h => parts_snoc p1 h
        have hpl : Hid (ps.length ≤ 1048577) := by
          show _ ≤ _
          have h1 := parts_len p1
          have h2 := split_len r
          have h3 := hpx.length_le
          have := hrl.out
          rw [List.length_append] at h3
          omega
        obtain ⟨va, vc, rfl, _, _⟩ := (RdC.of_owns p3).isSlice
        have P2 := Lib.hid p2
        have P3 := Lib.hid p3
        have Q2 := Lib.hid q2
        have Q3 := Lib.hid q3
        have Q4 := Lib.hid q4
        have Q5 := Lib.hid q5
        clear p1 p2 p3 q2 q3 q4 q5 hpx hxl
        generalize (partE (trim x)).1 = q at PT hgood
        generalize (partE (trim x)).2 = ok at PT hgood hbad
        obtain ⟨qf, qt, qhf, qht⟩ := q
        unfold rpV at PT
        simp only at PT
        have hn7 : 1 ≤ 8 - 1 - 1 := by omega
        cases ok with
        | false =>
          have HX := Lib.hid (hbad.out rfl)
          clear hbad hgood
          gi_wp2_with (first
            | (refine ⟨trivial, ?_⟩; gi_at_call 22; refine (CallsIn.inRound k (callsIn_wide.2 (TR.out _))).mono ?_; rintro e w5 ⟨rfl, hb5⟩)
            | (refine ⟨trivial, ?_⟩; gi_at_call 29; refine (CallsIn.inRound k (callsIn_wide.2 (PT.out _))).mono ?_; rintro e w6 ⟨rfl, hb6⟩; have BB := Lib.hid ((hb5.trans (hb6.mono hb5.size)).trans (((Below.refl _ w6).alloc (Nat.le_refl _) (.cells #[.int .i64 qf, .int .i64 qt, .bool qhf, .bool qht] 51)).mono (Nat.le_trans hb5.size hb6.size))); clear hb5 hb6; have RR := Lib.hid (Q2.out.below BB.out); have SS := Lib.hid (Q3.out.below BB.out); have S2 := Lib.hid (SS.out.grown (grown_set w.heap.size 0 _ (.slice none 0 0)) (by simp)); have r0 := RR.out.get 0 _ rfl; have s0 := SS.out.get 0 _ rfl; have y0 := RR.out.free 0; have z0 := SS.out.free 0; have s2 := S2.out.get 0 _ rfl; have z2 := S2.out.free 0))
          have R3 := (RR.out.set 0 (.slice none 0 0)).grown (grown_set (w.heap.size + 1) 0 _ (.bool false)) (by simp)
          have S3 := S2.out.set 0 (.bool false)
          exact ⟨(KeepsFrom.of_below BB.out).trans (((KeepsOthers.setCell _ _ _).from _).trans ((KeepsOthers.setCell _ _ _).from _)), ⟨HX.out, R3, S3, ((Q4.out.trans (BB.out.mono Q4.out.size)).setCell (p := ⟨w.heap.size, 0, none⟩) (Nat.le_refl _) _).setCell (p := ⟨w.heap.size + 1, 0, none⟩) (by simp) _⟩⟩
        | true =>
          have HG := Lib.hid (hgood.out rfl)
          clear hbad hgood
          obtain ⟨i0, hi, hz, hsz, hbs⟩ := elemRP.info
          gi_wp2_with (first
            | (refine ⟨trivial, ?_⟩; gi_at_call 22; refine (CallsIn.inRound k (callsIn_wide.2 (TR.out _))).mono ?_; rintro e w5 ⟨rfl, hb5⟩)
            | (refine ⟨trivial, ?_⟩; gi_at_call 29; refine (CallsIn.inRound k (callsIn_wide.2 (PT.out _))).mono ?_; rintro e w6 ⟨rfl, hb6⟩; have BB := Lib.hid ((hb5.trans (hb6.mono hb5.size)).trans (((Below.refl _ w6).alloc (Nat.le_refl _) (.cells #[.int .i64 qf, .int .i64 qt, .bool qhf, .bool qht] 51)).mono (Nat.le_trans hb5.size hb6.size))); clear hb5 hb6; have P7 := Lib.hid (P2.out.below BB.out); have c4 := P7.out.get 0 _ rfl; have X7 := Lib.hid (Cs.made w6 #[.int .i64 qf, .int .i64 qt, .bool qhf, .bool qht] 51); have n0 := X7.out.get 0 _ rfl; have n1 := X7.out.get 1 _ rfl; have n2 := X7.out.get 2 _ rfl; have n3 := X7.out.get 3 _ rfl; have O8 := Lib.hid (World.ownsRow.alloc (P3.out.below BB.out) (.cells #[.int .i64 qf, .int .i64 qt, .bool qhf, .bool qht] 51)); have T8 := Lib.hid (RdC.built 4 (w6.alloc (.cells #[.int .i64 qf, .int .i64 qt, .bool qhf, .bool qht] 51)) #[.int .i64 qf, .int .i64 qt, .bool qhf, .bool qht] 51 rfl); have B8 := Lib.hid (BB.out.trans (((Below.refl _ (w6.alloc (.cells #[.int .i64 qf, .int .i64 qt, .bool qhf, .bool qht] 51))).alloc (Nat.le_refl _) (.cells #[.int .i64 qf, .int .i64 qt, .bool qhf, .bool qht] 51)).mono BB.out.size)); have P8 := Lib.hid (P2.out.below B8.out))
            | (gi_at_builtin; refine wpListIn_append_own _ rfl (.tmp 29) (.tmp 31) 47 rfl w4.heap.size 51 i0 (.agg #[.int .i64 0, .int .i64 0, .bool false, .bool false]) 4 24 Tryd.underlying47 hi hz hsz hbs rfl (by decide) (.slice va ps.length vc) ps.length (rpsC ps) rfl O8.out ⟨w6.heap.size + 1, 0, none⟩ 1 1 [.int .i64 qf, .int .i64 qt, .bool qhf, .bool qht] rfl rfl ?_ ?_ ?_ ?_ ?_ ?_; (intro j u hu; have h8 := T8.out; rw [World.size_alloc] at h8; rw [Addr.add_lit]; exact RdC.cell h8 j u hu _ rfl); (intro u hu; simp only [List.mem_cons, List.not_mem_nil, or_false] at hu; rcases hu with rfl | rfl | rfl | rfl <;> rfl); (have := hpl.out; unfold maxLen; omega); (have := hpl.out; omega); (have := Q5.out; have := B8.out.size; omega); intro v9 w9 o9 g9 _; obtain ⟨va9, vc9, rfl, hx9, hy9⟩ := (RdC.of_owns o9).isSlice; have NE := (Value.slice va ps.length vc).ownBlock; have P9 := Lib.hid (P8.out.grown g9 (fun e => by have := (World.ownsRow.lt O8.out bp e.symm).1; have := HS4.out; omega)); have O9 := Lib.hid o9; have G9 := Lib.hid g9; clear o9 g9; have c9 := P9.out.get 0 _ rfl; have f9 := P9.out.free 0))
          have hpw := HS4.out
          have hbig := Q5.out
          have hw := hw2.out
          have hrow : ∀ j, (Value.slice va ps.length vc).ownBlock = some j → w4.heap.size ≤ j := fun j e => (World.ownsRow.lt O8.out j e).1
          have hne : ∀ j, j < w4.heap.size → (some j : Option Nat) ≠ (Value.slice va ps.length vc).ownBlock := fun j hj e => by have := hrow j e.symm; omega
          have hcells : KeepsFrom w4.heap.size _ w9 := ⟨G9.out.size, fun m o _ hm ho => by
            refine (G9.out.block m (Array.getElem?_eq_some_iff.1 hm).1 fun e => ?_).trans hm
            rcases O8.out.2 with ⟨hv, _⟩ | ⟨g, cap, cur, hv, _, hg, _⟩
            · rw [hv] at e; cases e
            · rw [hv] at e
              simp only [Value.ownBlock, Option.some.injEq] at e
              subst e
              rw [hg] at hm
              cases hm
              cases ho⟩
          have hsm : ∀ j, j < w4.heap.size → j ≠ bp → (w9.setCell ⟨bp, 0, none⟩ (.slice va9 (ps.length + 1) vc9)).heap[j]? = W.heap[j]? := fun j hj hjb =>
            (Below.heap_setCell _ _ _ _ hjb).trans ((G9.out.block j (by have := B8.out.size; omega) (hne j hj)).trans (B8.out.block j (by omega)))
          refine ⟨⟨((KeepsFrom.of_below B8.out).trans hcells).trans ((KeepsOthers.setCell _ _ _).from _), hsm _ (by omega) (by omega), hsm _ (by omega) (by omega), hsm _ (by omega) (by omega)⟩, ⟨ps ++ [⟨qf, qt, qhf, qht⟩], .slice va9 (ps.length + 1) vc9, HG.out, P9.out.set 0 (.slice va9 (ps.length + 1) vc9), ?_⟩, ?_, ?_, ?_, ?_⟩
          · have h9 : OwnP w9 w4.heap.size (.slice va9 (ps.length + 1) vc9) (ps ++ [⟨qf, qt, qhf, qht⟩]) := by
              show World.ownsRow _ _ _ _ _ (ps ++ [_]).length _
              rw [List.length_append, show rpsC (ps ++ [(⟨qf, qt, qhf, qht⟩ : RP)]) = rpsC ps ++ [.int .i64 qf, .int .i64 qt, .bool qhf, .bool qht] by simp [rpsC, rpC]]
              exact O9.out
            exact h9.low (by omega) 0 _
          · exact Cs.block Q2.out (hsm _ (by omega) (by omega))
          · exact Cs.block Q3.out (hsm _ (by omega) (by omega))
          · exact (((Q4.out.trans (B8.out.mono Q4.out.size)).grown G9.out (Nat.le_trans Q4.out.size B8.out.size) (fun j e => by have := hrow j e; have := Z4.out.size; omega))).setCell (p := ⟨bp, 0, none⟩) (by simp only; omega) _
          · have h1 := B8.out.size
            have h2 := G9.out.size
            have h3 : (w9.setCell ⟨bp, 0, none⟩ (.slice va9 (ps.length + 1) vc9)).heap.size = w9.heap.size := by simp
            omega
      case done =>
        intro D W hD hi hK
        obtain ⟨⟨ps, v, p1, p2, p3⟩, q2, q3, q4, q5⟩ := hi
        obtain ⟨va, vc, rfl, _, _⟩ := (RdC.of_owns p3).isSlice
        have c4 := p2.get 0 _ rfl
        have r0 := q2.get 0 _ rfl
        have s0 := q3.get 0 _ rfl
        have y0 := q2.free 0
        have z0 := q3.free 0
        have HK := Lib.hid hK
        clear hK
        gi_wp2
        have hK2 := (KeepsOthers.setCell (W.setCell ⟨w.heap.size, 0, none⟩ (.slice va ps.length vc)) ⟨w.heap.size + 1, 0, none⟩ (.bool true)).same D _ ((KeepsOthers.setCell W ⟨w.heap.size, 0, none⟩ (.slice va ps.length vc)).same D _ HK.out rfl) rfl
        have hr : ∀ r, some D = some r → w4.heap.size ≤ r ∧ ∃ o : Obj, ((W.setCell ⟨w.heap.size, 0, none⟩ (.slice va ps.length vc)).setCell ⟨w.heap.size + 1, 0, none⟩ (.bool true)).heap[r]? = some o ∧ o.isCells = false := fun r e => by cases e; exact ⟨hD, _, hK2, rfl⟩
        have R2 := (((q2.set 0 (.slice va ps.length vc)).grown (grown_set (w.heap.size + 1) 0 _ (.bool true)) (by simp)).not_row (grownBy_putObj' _ D (.deferred none)) hr)
        have S2 := ((q3.grown (grown_set w.heap.size 0 W (.slice va ps.length vc)) (by simp)).set 0 (.bool true)).not_row (grownBy_putObj' _ D (.deferred none)) hr
        have hlt4 : w.heap.size + 1 < w4.heap.size := by have := hw2.out; have := HS4.out; omega
        have O2 := ((p3.low (g := w.heap.size) (by omega) 0 (.slice va ps.length vc)).low (g := w.heap.size + 1) hlt4 0 (.bool true)).not_row (grownBy_putObj' _ D (.deferred none)) hr
        have Z2 := below_put (o := .deferred none) ((q4.setCell (p := ⟨w.heap.size, 0, none⟩) (Nat.le_refl _) (.slice va ps.length vc)).setCell (p := ⟨w.heap.size + 1, 0, none⟩) (by simp) (.bool true)) Z4.out.size hD hK2
        refine ⟨by simp, .inl ⟨_, _, rfl, run_takeDeferred hK2, ?_⟩⟩
        exact ⟨_, res_parts (by rfl) (by rfl) (R2.get 0 _ rfl) (S2.get 0 _ rfl), Z2, .inr ⟨ps, _, by rw [hE.out]; exact p1, rfl, O2.mono Z4.out.size⟩⟩
      case stop =>
        intro D pre W hD hx hK
        obtain ⟨hbad, q2, q3, q4⟩ := hx
        gi_wp2
        have hr : ∀ r, some D = some r → w4.heap.size ≤ r ∧ ∃ o : Obj, W.heap[r]? = some o ∧ o.isCells = false := fun r e => by cases e; exact ⟨hD, _, hK, rfl⟩
        refine ⟨by simp, .inl ⟨_, _, rfl, run_takeDeferred hK, ?_⟩⟩
        exact ⟨_, res_parts (by rfl) (by rfl) ((q2.not_row (grownBy_putObj' _ D (.deferred none)) hr).get 0 _ rfl) ((q3.not_row (grownBy_putObj' _ D (.deferred none)) hr).get 0 _ rfl), out_bad hbad (below_put q4 Z4.out.size hD hK)⟩
    · have hE : Hid (rangeE l = none) := by unfold rangeE; show _ = _; rw [if_neg h6, if_neg hb]
      rw [show decide (lowE (l.take 6) = [98, 121, 116, 101, 115, 61]) = false from decide_eq_false hb] at ht
      clear hb
      generalize lowE (l.take 6) = u at ht SM
      have ht2 : (!((txt u).toList == [98, 121, 116, 101, 115, 61])) = true := by rw [ht]; rfl
      go_enter Tryd.func16, Tryd.ntmps16
      go_upto_region 1 with fail
      generalize (w.alloc (.cells #[.slice none 0 0] 47)).alloc (.cells #[.bool false] 4) = W at Z1 R1 S1 ⊢
      go_wp2_with (go_at_call 27; refine (SM.out _).mono ?_; rintro e w2 ⟨rfl, hb2⟩; have R2 := Lib.hid (R1.out.below hb2); have S2 := Lib.hid (S1.out.below hb2); have Z2 := Lib.hid (Z1.out.trans (hb2.mono Z1.out.size)); clear hb2; have r0 := R2.out.get 0 _ rfl; have s0 := S2.out.get 0 _ rfl; have y0 := R2.out.free 0; have z0 := S2.out.free 0)
      have R3 := (R2.out.set 0 (.slice none 0 0)).grown (grown_set (w.heap.size + 1) 0 _ (.bool false)) (by simp)
      have S3 := (S2.out.grown (grown_set w.heap.size 0 w2 (.slice none 0 0)) (by simp)).set 0 (.bool false)
      refine bodyPost_ret (res_parts rfl rfl (R3.get 0 _ rfl) (S3.get 0 _ rfl)) rfl (out_bad hE.out ((Z2.out.setCell (p := ⟨w.heap.size, 0, none⟩) (Nat.le_refl _) _).setCell (p := ⟨w.heap.size + 1, 0, none⟩) (by simp) _))
end Go.Proofs.YtdfebmjincnfiaaDoor
