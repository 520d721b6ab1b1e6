/- Walks of layer 1: All, of both texts; Ints. -/
import Derived.Test.YtkalncahelnamaaDoorVintL
namespace Go.Proofs.YtkalncahelnamaaDoor
open Go.RowKit

/-- the number at place i, and its bytes; none where a byte is missing -/
def getS (xs : List Int) (i : Nat) : Option (Int × Nat) := if i < xs.length ∧ i + widN (xs.getD i 0) ≤ xs.length then some (acc xs i (widN (xs.getD i 0) - 1), widN (xs.getD i 0)) else none
def GetAt (w : World) (xs : List Int) (i : Nat) (e : Ending) (w' : World) : Prop :=
  (∃ n W, getS xs i = some (n, W) ∧ 1 ≤ W ∧ i + W ≤ xs.length ∧ GetIs w n (i + W : Nat) 0 0 e w') ∨ (getS xs i = none ∧ GetIs w 0 0 3 xs.length e w')
theorem wid_pos (c : Int) : 1 ≤ widN c := by unfold widN; split <;> (try split) <;> (try split) <;> omega

theorem get_at (v : Value) (xs : List Int) (i : Nat) (w : World) (ht : Tab w) (hr : Rd .u8 w v xs) (hx : Bts xs) (hi : i < xs.length) : Calls Tryd.prog 18 #[v, .int .i64 i] w (GetAt w xs i) := by
  by_cases h3 : xs.length < i + widN (xs.getD i 0)
  · exact (get_short v xs i w ht hr hx hi h3).mono fun e w' h => .inr ⟨if_neg (by omega), h⟩
  have hs : getS xs i = some (acc xs i (widN (xs.getD i 0) - 1), widN (xs.getD i 0)) := if_pos ⟨hi, by omega⟩
  have hc := getD_bts hx i
  have hq : xs.getD i 0 / 64 = 0 ∨ xs.getD i 0 / 64 = 1 ∨ xs.getD i 0 / 64 = 2 ∨ xs.getD i 0 / 64 = 3 := by omega
  rcases hq with hq | hq | hq | hq
  · have e : widN (xs.getD i 0) = 1 := by unfold widN; rw [if_pos hq]
    rw [e] at hs h3
    exact (get_ok1 v xs i w ht hr hx (by omega) hq).mono fun e w' h => .inl ⟨_, 1, hs, by omega, by omega, h⟩
  · have e : widN (xs.getD i 0) = 2 := by unfold widN; rw [if_neg (by omega), if_pos hq]
    rw [e] at hs h3
    exact (get_ok2 v xs i w ht hr hx (by omega) hq).mono fun e w' h => .inl ⟨_, 2, hs, by omega, by omega, h⟩
  · have e : widN (xs.getD i 0) = 4 := by unfold widN; rw [if_neg (by omega), if_neg (by omega), if_pos hq]
    rw [e] at hs h3
    exact (get_ok4 v xs i w ht hr hx (by omega) hq).mono fun e w' h => .inl ⟨_, 4, hs, by omega, by omega, h⟩
  · have e : widN (xs.getD i 0) = 8 := by unfold widN; rw [if_neg (by omega), if_neg (by omega), if_neg (by omega)]
    rw [e] at hs h3
    exact (get_ok8 v xs i w ht hr hx (by omega) hq).mono fun e w' h => .inl ⟨_, 8, hs, by omega, by omega, h⟩

theorem rget_at (v : Value) (xs : List Int) (i : Nat) (w : World) (hr : Rd .u8 w v xs) (hx : Bts xs) (hi : i < xs.length) : Calls Tryd.prog 19 #[v, .int .i64 i] w (GetAt w xs i) := by
  by_cases h3 : xs.length < i + widN (xs.getD i 0)
  · exact (rget_short v xs i w hr hx hi h3).mono fun e w' h => .inr ⟨if_neg (by omega), h⟩
  have hs : getS xs i = some (acc xs i (widN (xs.getD i 0) - 1), widN (xs.getD i 0)) := if_pos ⟨hi, by omega⟩
  have hc := getD_bts hx i
  have hq : xs.getD i 0 / 64 = 0 ∨ xs.getD i 0 / 64 = 1 ∨ xs.getD i 0 / 64 = 2 ∨ xs.getD i 0 / 64 = 3 := by omega
  rcases hq with hq | hq | hq | hq
  · have e : widN (xs.getD i 0) = 1 := by unfold widN; rw [if_pos hq]
    rw [e] at hs h3
    exact (rget_ok1 v xs i w hr hx (by omega) hq).mono fun e w' h => .inl ⟨_, 1, hs, by omega, by omega, h⟩
  · have e : widN (xs.getD i 0) = 2 := by unfold widN; rw [if_neg (by omega), if_pos hq]
    rw [e] at hs h3
    exact (rget_ok2 v xs i w hr hx (by omega) hq).mono fun e w' h => .inl ⟨_, 2, hs, by omega, by omega, h⟩
  · have e : widN (xs.getD i 0) = 4 := by unfold widN; rw [if_neg (by omega), if_neg (by omega), if_pos hq]
    rw [e] at hs h3
    exact (rget_ok4 v xs i w hr hx (by omega) hq).mono fun e w' h => .inl ⟨_, 4, hs, by omega, by omega, h⟩
  · have e : widN (xs.getD i 0) = 8 := by unfold widN; rw [if_neg (by omega), if_neg (by omega), if_neg (by omega)]
    rw [e] at hs h3
    exact (rget_ok8 v xs i w hr hx (by omega) hq).mono fun e w' h => .inl ⟨_, 8, hs, by omega, by omega, h⟩

/-- all numbers from place i on, behind ys -/
def allS (xs : List Int) : Nat → Nat → List Int → Option (List Int)
  | 0, _, ys => some ys
  | f + 1, i, ys => if i < xs.length then (match getS xs i with | none => none | some (n, W) => allS xs f (i + W) (ys ++ [n])) else some ys
theorem allS_end {xs : List Int} {f i : Nat} {ys : List Int} (h : ¬ i < xs.length) : allS xs f i ys = some ys := by
  cases f with
  | zero => rfl
  | succ f => exact if_neg h
theorem allS_some {xs : List Int} {f i : Nat} {ys : List Int} {n : Int} {W : Nat} (h : i < xs.length) (hg : getS xs i = some (n, W)) : allS xs (f + 1) i ys = allS xs f (i + W) (ys ++ [n]) := by
  rw [allS, if_pos h, hg]
theorem allS_none {xs : List Int} {f i : Nat} {ys : List Int} (h : i < xs.length) (hg : getS xs i = none) : allS xs (f + 1) i ys = none := by
  rw [allS, if_pos h, hg]
theorem allS_grows {xs : List Int} : ∀ {f i : Nat} {ys zs : List Int}, allS xs f i ys = some zs → ys.length ≤ zs.length
  | 0, i, ys, zs, h => by cases h; exact Nat.le_refl _
  | f + 1, i, ys, zs, h => by
    rw [allS] at h
    split at h
    · split at h
      · cases h
      · have := allS_grows h
        rw [List.length_append] at this
        omega
    · cases h; exact Nat.le_refl _

def Room (xs : List Int) : Prop := xs.length * 8 ≤ 140737488355328 ∨ ∃ zs, allS xs xs.length 0 [] = some zs ∧ zs.length * 8 ≤ 140737488355328
/-- where the walk through All stands -/
structure AtAll (xs : List Int) (i f : Nat) (ys : List Int) : Prop where
  is : allS xs xs.length 0 [] = allS xs f i ys
  fuel : xs.length ≤ i + f
  few : ys.length ≤ i
  le : i ≤ xs.length
theorem AtAll.start (xs : List Int) : AtAll xs 0 xs.length [] := ⟨rfl, by omega, by simp, by omega⟩
theorem AtAll.more {xs : List Int} {i f : Nat} {ys : List Int} {n : Int} {W : Nat} (h : AtAll xs i f ys) (hi : i < xs.length) (hg : getS xs i = some (n, W)) (h1 : 1 ≤ W) (h2 : i + W ≤ xs.length) : ∃ f', AtAll xs (i + W) f' (ys ++ [n]) := by
  obtain ⟨f', rfl⟩ : ∃ f', f = f' + 1 := ⟨f - 1, by have := h.fuel; omega⟩
  exact ⟨f', by rw [h.is, allS_some hi hg], by have := h.fuel; omega, by rw [List.length_append]; have := h.few; simp; omega, h2⟩
theorem AtAll.wrong {xs : List Int} {i f : Nat} {ys : List Int} (h : AtAll xs i f ys) (hi : i < xs.length) (hg : getS xs i = none) : allS xs xs.length 0 [] = none := by
  obtain ⟨f', rfl⟩ : ∃ f', f = f' + 1 := ⟨f - 1, by have := h.fuel; omega⟩
  rw [h.is, allS_none hi hg]
theorem AtAll.done {xs : List Int} {i f : Nat} {ys : List Int} (h : AtAll xs i f ys) (hi : ¬ i < xs.length) : allS xs xs.length 0 [] = some ys := by rw [h.is, allS_end hi]
theorem AtAll.room {xs : List Int} {i f : Nat} {ys : List Int} {n : Int} {W : Nat} (h : AtAll xs i f ys) (hr : Room xs) (hi : i < xs.length) (hg : getS xs i = some (n, W)) (h1 : 1 ≤ W) (h2 : i + W ≤ xs.length) : (ys.length + 1) * 8 ≤ 140737488355328 := by
  have hf := h.few
  rcases hr with hr | ⟨zs, hz, hr⟩
  · omega
  · obtain ⟨f', h'⟩ := h.more hi hg h1 h2
    have := allS_grows (h'.is.symm.trans hz)
    rw [List.length_append] at this
    simp at this
    omega

/-- WHAT All ANSWERS -/
def AllIs (w : World) (xs : List Int) (e : Ending) (w' : World) : Prop :=
  ∃ u ys c d, e = .returned (.tuple #[u, .agg #[.int .i64 c, .int .i64 d]]) ∧ Own .i64 3 w' w.heap.size u ys ∧ Below w.heap.size w w' ∧
    ((allS xs xs.length 0 [] = some ys ∧ c = 0 ∧ d = 0) ∨ (allS xs xs.length 0 [] = none ∧ ys = [] ∧ c = 3 ∧ d = xs.length))

set_option maxHeartbeats 1000000 in
theorem all_any (v : Value) (xs : List Int) (w : World) (ht : Tab w) (hr : Rd .u8 w v xs) (hx : Bts xs) (hroom : Room xs) :
    Calls Tryd.prog 20 #[v] w (AllIs w xs) := by
  have hl : xs.length ≤ 9223372036854775807 := hr.len
  have hp := ht.pos
  have hT := Lib.hid ht
  have hR := Lib.hid hr
  have hX := Lib.hid hx
  have hM := Lib.hid hroom
  obtain ⟨va, vc, rfl⟩ := hr.isSlice
  clear ht hr hx hroom
  go_enter Tryd.func20, Tryd.ntmps20
  go_wp2_with fail
  have hbl0 : Below w.heap.size w (w.alloc (.cells #[.int .i64 0, .int .i64 0] 35)) := (Below.refl _ _).alloc (Nat.le_refl _) _
  have hc0 : (w.alloc (.cells #[.int .i64 0, .int .i64 0] 35)).cell? ⟨w.heap.size, 0, none⟩ = some (.int .i64 0) := by rw [World.cell?_alloc_at _ _ _ _ rfl]; rfl
  have hc1 : (w.alloc (.cells #[.int .i64 0, .int .i64 0] 35)).cell? ⟨w.heap.size, 1, none⟩ = some (.int .i64 0) := by rw [World.cell?_alloc_at _ _ _ _ rfl]; rfl
  have hc2 : (w.alloc (.cells #[.int .i64 0, .int .i64 0] 35)).frozen? ⟨w.heap.size, 0, none⟩ = false := World.frozen?_alloc_at _ _ _ _ rfl
  have hc3 : (w.alloc (.cells #[.int .i64 0, .int .i64 0] 35)).frozen? ⟨w.heap.size, 1, none⟩ = false := World.frozen?_alloc_at _ _ _ _ rfl
  have hs0 : (w.alloc (.cells #[.int .i64 0, .int .i64 0] 35)).heap.size = w.heap.size + 1 := by simp
  obtain ⟨w0, hw0⟩ : ∃ w0, w0 = w.alloc (.cells #[.int .i64 0, .int .i64 0] 35) := ⟨_, rfl⟩
  rw [← hw0] at hbl0 hc0 hc1 hc2 hc3 hs0
  rw [← hw0]
  clear hw0
  have HC0 := Lib.hid hc0
  have HC1 := Lib.hid hc1
  have HC2 := Lib.hid hc2
  have HC3 := Lib.hid hc3
  have HS0 := Lib.hid hs0
  clear hc0 hc1 hc2 hc3 hs0
  go_loopw [4, 5] (fun o i wr => ∃ (k f : Nat) (ys : List Int), i = .int .i64 k ∧ AtAll xs k f ys ∧ Own .i64 3 wr (w.heap.size + 1) o ys ∧ Below (w.heap.size + 1) w0 wr) (fun _ i _ => xs.length - (intOf i).toNat)
  case atStart => exact ⟨0, xs.length, [], rfl, AtAll.start xs, Own.nil _ _ _ _, Below.refl _ _⟩
  case round =>
    obtain ⟨k, f, ys, rfl, hat, hown, hb⟩ := hrel
    have hsz := hb.size
    rw [HS0.out] at hsz
    have hbw : Below w.heap.size w wr := hbl0.trans (hb.mono (by omega))
    by_cases hk : k < xs.length
    · go_wp2_with fail
      refine (get_at _ xs k wr (hT.out.below hbw hp) (hR.out.below hbw) hX.out hk).mono ?_
      rintro e w1 hget
      rcases hget with ⟨n, W, hg, h1, h2, he⟩ | ⟨hg, he⟩
      · obtain ⟨rfl, hb1⟩ := he
        have HG := Lib.hid hg
        have HA := Lib.hid hat
        have hb01 : Below (w.heap.size + 1) w0 w1 := hb.trans (hb1.mono hsz)
        have hown1 := hown.keep hb1
        have hsz1 := hb1.size
        clear hg hat hown hb1
        go_wp2_with (at_builtin; go_loud ((with_reducible refine wpList_append_rd _ ?_ (.tmp 24) (.tmp 26) 39 ?_ elemInt Tryd.underlying39 (w.heap.size + 1) _ _ ?_ ((hown1.alloc _).alloc _) (.slice (some ⟨w1.heap.size + 1, 0, none⟩) 1 1) [n] ?_ (Rd.one' .i64 3 (w1.alloc (.cells #[.int .i64 0, .int .i64 0] 35)) n (w1.heap.size + 1) (by simp)) ?_ ?_ ?_ ?_)); rfl; rfl; go_loud (rfl); go_loud (rfl); go_loud (have := HA.out.room hM.out hk HG.out h1 h2; simp; omega); go_loud (have := HA.out.room hM.out hk HG.out h1 h2; simp; unfold maxLen; omega); go_loud (simp; omega); intro v2 w2 hown2 hgr2)
        have hb2 : Below (w.heap.size + 1) w0 w2 := ((hb01.alloc (by omega) _).alloc (by simp; omega) _).grown hgr2 (by simp; omega) hown1.blk
        obtain ⟨f', hat'⟩ := HA.out.more hk HG.out h1 h2
        clear hgr2 hown1 hb01
        go_wp2
        go_roundw
        case rel => exact ⟨k + W, f', _, rfl, hat', hown2, hb2⟩
        case measure => simp [intOf]; omega
      · obtain ⟨rfl, hb1⟩ := he
        have hw := hat.wrong hk hg
        have hb01 : Below (w.heap.size + 1) w0 w1 := hb.trans (hb1.mono hsz)
        have hsz1 := hb1.size
        have e0 : w1.cell? ⟨w.heap.size, 0, none⟩ = some (.int .i64 0) := (hb01.cell (p := ⟨w.heap.size, 0, none⟩) (by simp)).trans HC0.out
        have e1 : w1.cell? ⟨w.heap.size, 1, none⟩ = some (.int .i64 0) := (hb01.cell (p := ⟨w.heap.size, 1, none⟩) (by simp)).trans HC1.out
        have e2 : w1.frozen? ⟨w.heap.size, 0, none⟩ = false := (hb01.frozen (p := ⟨w.heap.size, 0, none⟩) (by simp)).trans HC2.out
        have e3 : w1.frozen? ⟨w.heap.size, 1, none⟩ = false := (hb01.frozen (p := ⟨w.heap.size, 1, none⟩) (by simp)).trans HC3.out
        have hlt : w.heap.size < w1.heap.size := by omega
        have hW := Lib.hid hw
        clear hg hat hown hb1 hw
        go_wp2_with fail
        go_region
        all_goals
          go_wp2
          refine bodyPost_ret (v := .tuple #[.slice none 0 0, .agg #[.int .i64 3, .int .i64 xs.length]]) (by simp [results, Tryd.results20, go_sem, hlt, e0, e1]) rfl ⟨_, [], 3, xs.length, rfl, Own.nil _ _ _ _, ?_, .inr ⟨hW.out, rfl, rfl, rfl⟩⟩
          exact (hbl0.trans (hb01.mono (by omega))).setCell (Nat.le_refl _) _ |>.setCell (Nat.le_refl _) _ |>.alloc (by simp; omega) _ |>.drew
    · have e0 : wr.cell? ⟨w.heap.size, 0, none⟩ = some (.int .i64 0) := (hb.cell (p := ⟨w.heap.size, 0, none⟩) (by simp)).trans HC0.out
      have e1 : wr.cell? ⟨w.heap.size, 1, none⟩ = some (.int .i64 0) := (hb.cell (p := ⟨w.heap.size, 1, none⟩) (by simp)).trans HC1.out
      have e2 : wr.frozen? ⟨w.heap.size, 0, none⟩ = false := (hb.frozen (p := ⟨w.heap.size, 0, none⟩) (by simp)).trans HC2.out
      have e3 : wr.frozen? ⟨w.heap.size, 1, none⟩ = false := (hb.frozen (p := ⟨w.heap.size, 1, none⟩) (by simp)).trans HC3.out
      have hD := Lib.hid (hat.done hk)
      clear hat
      go_wp2_with fail
      refine bodyPost_ret (v := .tuple #[u4, .agg #[.int .i64 0, .int .i64 0]]) (by simp [results, Tryd.results20, go_sem, e0, e1]) rfl ⟨_, ys, 0, 0, rfl, ?_, ?_, .inl ⟨hD.out, rfl, rfl⟩⟩
      · exact (show Own .i64 3 _ (w.heap.size + 1) u4 ys from ownsRow_setCell_below (ownsRow_setCell_below hown (Nat.lt_succ_self _) _) (Nat.lt_succ_self _) _).mono (by omega)
      · exact hbw.setCell (Nat.le_refl _) _ |>.setCell (Nat.le_refl _) _

set_option maxHeartbeats 1000000 in
theorem rall_any (v : Value) (xs : List Int) (w : World) (hr : Rd .u8 w v xs) (hx : Bts xs) (hroom : Room xs) :
    Calls Tryd.prog 21 #[v] w (AllIs w xs) := by
  have hl : xs.length ≤ 9223372036854775807 := hr.len


  have hR := Lib.hid hr
  have hX := Lib.hid hx
  have hM := Lib.hid hroom
  obtain ⟨va, vc, rfl⟩ := hr.isSlice
  clear hr hx hroom
  go_enter Tryd.func21, Tryd.ntmps21
  go_wp2_with fail
  have hbl0 : Below w.heap.size w (w.alloc (.cells #[.int .i64 0, .int .i64 0] 35)) := (Below.refl _ _).alloc (Nat.le_refl _) _
  have hc0 : (w.alloc (.cells #[.int .i64 0, .int .i64 0] 35)).cell? ⟨w.heap.size, 0, none⟩ = some (.int .i64 0) := by rw [World.cell?_alloc_at _ _ _ _ rfl]; rfl
  have hc1 : (w.alloc (.cells #[.int .i64 0, .int .i64 0] 35)).cell? ⟨w.heap.size, 1, none⟩ = some (.int .i64 0) := by rw [World.cell?_alloc_at _ _ _ _ rfl]; rfl
  have hc2 : (w.alloc (.cells #[.int .i64 0, .int .i64 0] 35)).frozen? ⟨w.heap.size, 0, none⟩ = false := World.frozen?_alloc_at _ _ _ _ rfl
  have hc3 : (w.alloc (.cells #[.int .i64 0, .int .i64 0] 35)).frozen? ⟨w.heap.size, 1, none⟩ = false := World.frozen?_alloc_at _ _ _ _ rfl
  have hs0 : (w.alloc (.cells #[.int .i64 0, .int .i64 0] 35)).heap.size = w.heap.size + 1 := by simp
  obtain ⟨w0, hw0⟩ : ∃ w0, w0 = w.alloc (.cells #[.int .i64 0, .int .i64 0] 35) := ⟨_, rfl⟩
  rw [← hw0] at hbl0 hc0 hc1 hc2 hc3 hs0
  rw [← hw0]
  clear hw0
  have HC0 := Lib.hid hc0
  have HC1 := Lib.hid hc1
  have HC2 := Lib.hid hc2
  have HC3 := Lib.hid hc3
  have HS0 := Lib.hid hs0
  clear hc0 hc1 hc2 hc3 hs0
  go_loopw [4, 5] (fun o i wr => ∃ (k f : Nat) (ys : List Int), i = .int .i64 k ∧ AtAll xs k f ys ∧ Own .i64 3 wr (w.heap.size + 1) o ys ∧ Below (w.heap.size + 1) w0 wr) (fun _ i _ => xs.length - (intOf i).toNat)
  case atStart => exact ⟨0, xs.length, [], rfl, AtAll.start xs, Own.nil _ _ _ _, Below.refl _ _⟩
  case round =>
    obtain ⟨k, f, ys, rfl, hat, hown, hb⟩ := hrel
    have hsz := hb.size
    rw [HS0.out] at hsz
    have hbw : Below w.heap.size w wr := hbl0.trans (hb.mono (by omega))
    by_cases hk : k < xs.length
    · go_wp2_with fail
      refine (rget_at _ xs k wr (hR.out.below hbw) hX.out hk).mono ?_
      rintro e w1 hget
      rcases hget with ⟨n, W, hg, h1, h2, he⟩ | ⟨hg, he⟩
      · obtain ⟨rfl, hb1⟩ := he
        have HG := Lib.hid hg
        have HA := Lib.hid hat
        have hb01 : Below (w.heap.size + 1) w0 w1 := hb.trans (hb1.mono hsz)
        have hown1 := hown.keep hb1
        have hsz1 := hb1.size
        clear hg hat hown hb1
        go_wp2_with (at_builtin; go_loud ((with_reducible refine wpList_append_rd _ ?_ (.tmp 24) (.tmp 26) 39 ?_ elemInt Tryd.underlying39 (w.heap.size + 1) _ _ ?_ ((hown1.alloc _).alloc _) (.slice (some ⟨w1.heap.size + 1, 0, none⟩) 1 1) [n] ?_ (Rd.one' .i64 3 (w1.alloc (.cells #[.int .i64 0, .int .i64 0] 35)) n (w1.heap.size + 1) (by simp)) ?_ ?_ ?_ ?_)); rfl; rfl; go_loud (rfl); go_loud (rfl); go_loud (have := HA.out.room hM.out hk HG.out h1 h2; simp; omega); go_loud (have := HA.out.room hM.out hk HG.out h1 h2; simp; unfold maxLen; omega); go_loud (simp; omega); intro v2 w2 hown2 hgr2)
        have hb2 : Below (w.heap.size + 1) w0 w2 := ((hb01.alloc (by omega) _).alloc (by simp; omega) _).grown hgr2 (by simp; omega) hown1.blk
        obtain ⟨f', hat'⟩ := HA.out.more hk HG.out h1 h2
        clear hgr2 hown1 hb01
        go_wp2
        go_roundw
        case rel => exact ⟨k + W, f', _, rfl, hat', hown2, hb2⟩
        case measure => simp [intOf]; omega
      · obtain ⟨rfl, hb1⟩ := he
        have hw := hat.wrong hk hg
        have hb01 : Below (w.heap.size + 1) w0 w1 := hb.trans (hb1.mono hsz)
        have hsz1 := hb1.size
        have e0 : w1.cell? ⟨w.heap.size, 0, none⟩ = some (.int .i64 0) := (hb01.cell (p := ⟨w.heap.size, 0, none⟩) (by simp)).trans HC0.out
        have e1 : w1.cell? ⟨w.heap.size, 1, none⟩ = some (.int .i64 0) := (hb01.cell (p := ⟨w.heap.size, 1, none⟩) (by simp)).trans HC1.out
        have e2 : w1.frozen? ⟨w.heap.size, 0, none⟩ = false := (hb01.frozen (p := ⟨w.heap.size, 0, none⟩) (by simp)).trans HC2.out
        have e3 : w1.frozen? ⟨w.heap.size, 1, none⟩ = false := (hb01.frozen (p := ⟨w.heap.size, 1, none⟩) (by simp)).trans HC3.out
        have hlt : w.heap.size < w1.heap.size := by omega
        have hW := Lib.hid hw
        clear hg hat hown hb1 hw
        go_wp2_with fail
        go_region
        all_goals
          go_wp2
          refine bodyPost_ret (v := .tuple #[.slice none 0 0, .agg #[.int .i64 3, .int .i64 xs.length]]) (by simp [results, Tryd.results21, go_sem, hlt, e0, e1]) rfl ⟨_, [], 3, xs.length, rfl, Own.nil _ _ _ _, ?_, .inr ⟨hW.out, rfl, rfl, rfl⟩⟩
          exact (hbl0.trans (hb01.mono (by omega))).setCell (Nat.le_refl _) _ |>.setCell (Nat.le_refl _) _ |>.alloc (by simp; omega) _ |>.drew
    · have e0 : wr.cell? ⟨w.heap.size, 0, none⟩ = some (.int .i64 0) := (hb.cell (p := ⟨w.heap.size, 0, none⟩) (by simp)).trans HC0.out
      have e1 : wr.cell? ⟨w.heap.size, 1, none⟩ = some (.int .i64 0) := (hb.cell (p := ⟨w.heap.size, 1, none⟩) (by simp)).trans HC1.out
      have e2 : wr.frozen? ⟨w.heap.size, 0, none⟩ = false := (hb.frozen (p := ⟨w.heap.size, 0, none⟩) (by simp)).trans HC2.out
      have e3 : wr.frozen? ⟨w.heap.size, 1, none⟩ = false := (hb.frozen (p := ⟨w.heap.size, 1, none⟩) (by simp)).trans HC3.out
      have hD := Lib.hid (hat.done hk)
      clear hat
      go_wp2_with fail
      refine bodyPost_ret (v := .tuple #[u4, .agg #[.int .i64 0, .int .i64 0]]) (by simp [results, Tryd.results21, go_sem, e0, e1]) rfl ⟨_, ys, 0, 0, rfl, ?_, ?_, .inl ⟨hD.out, rfl, rfl⟩⟩
      · exact (show Own .i64 3 _ (w.heap.size + 1) u4 ys from ownsRow_setCell_below (ownsRow_setCell_below hown (Nat.lt_succ_self _) _) (Nat.lt_succ_self _) _).mono (by omega)
      · exact hbw.setCell (Nat.le_refl _) _ |>.setCell (Nat.le_refl _) _
end Go.Proofs.YtkalncahelnamaaDoor
