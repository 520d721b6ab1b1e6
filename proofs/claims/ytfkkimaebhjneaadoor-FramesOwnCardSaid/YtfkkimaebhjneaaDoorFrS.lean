/- Walks of layer 4: what may be told. -/
/- Walks of layer 4: May, Asks. -/
import Derived.Test.YtfkkimaebhjneaaDoorFrL
import Derived.Test.YtfkkimaebhjneaaDoorFrD
set_option linter.unusedSimpArgs false
set_option linter.unusedVariables false
namespace Go.Proofs.YtfkkimaebhjneaaDoor
open Go.RowKit

theorem len0 (n : Nat) : ((n : Int) == 0) = decide (n = 0) := by rw [Bool.eq_iff_iff]; simp
def numB (n : Int) (has : Bool) : Bool := if has then decide (0 ≤ n ∧ n ≤ 4611686018427387903) else decide (n = 0)
theorem mayNumber_any (n : Int) (has : Bool) (w : World) :
    Calls Tryd.prog 27 #[.int .i64 n, .bool has] w fun e w' => e = .returned (.bool (numB n has)) ∧ w = w' := by
  cases has
  · go_enter Tryd.func27, Tryd.ntmps27
    go_wp2
    go_ret
    exact ⟨ret_bool (by simp [numB]; rfl), rfl⟩
  · by_cases h : 0 ≤ n
    · have h1 : decide (0 ≤ n) = true := decide_eq_true h
      go_enter Tryd.func27, Tryd.ntmps27
      go_wp2
      go_ret
      exact ⟨ret_bool (by simp [numB, h]), rfl⟩
    · have h1 : decide (0 ≤ n) = false := decide_eq_false h
      have e : numB n true = false := by simp [numB]; intro; omega
      rw [e]
      clear h e
      go_enter Tryd.func27, Tryd.ntmps27
      go_wp2
      go_ret
      exact ⟨rfl, rfl⟩

def dataB (len : Nat) (off : Int) (has : Bool) : Bool := if has then decide (len ≤ 1200 ∧ (len : Int) ≤ 4611686018427387903 - off) else decide (len = 0)
theorem mayData_any (v : Value) (ys : List Int) (off : Int) (has : Bool) (w : World) (hr : Rd .u8 w v ys) (ho : has = true → 0 ≤ off ∧ off ≤ 4611686018427387903) :
    Calls Tryd.prog 29 #[v, .int .i64 off, .bool has] w fun e w' => e = .returned (.bool (dataB ys.length off has)) ∧ w = w' := by
  obtain ⟨va, vc, rfl⟩ := hr.isSlice
  clear hr
  cases has
  · go_enter Tryd.func29, Tryd.ntmps29
    go_wp2
    go_ret
    exact ⟨ret_bool (len0 _), rfl⟩
  · obtain ⟨o0, o1⟩ := ho rfl
    have hw : IntKind.i64.wrap (4611686018427387903 - off) = 4611686018427387903 - off := by rw [IntKind.wrap_i64]; omega
    by_cases h : ys.length ≤ 1200
    · have h1 : decide ((ys.length : Int) ≤ 1200) = true := decide_eq_true (by omega)
      clear ho
      go_enter Tryd.func29, Tryd.ntmps29
      go_wp2
      go_ret
      exact ⟨ret_bool (by simp [dataB, h]), rfl⟩
    · have h1 : decide ((ys.length : Int) ≤ 1200) = false := decide_eq_false (by omega)
      have e : dataB ys.length off true = false := by simp [dataB]; intro; omega
      rw [e]
      clear h e ho
      go_enter Tryd.func29, Tryd.ntmps29
      go_wp2
      go_ret
      exact ⟨rfl, rfl⟩

/-- spans that rise, from least on -/
def risesB (least : Int) : List (Int × Int) → Bool
  | [] => true
  | s :: r => if s.1 < least ∨ s.2 < s.1 ∨ 4611686018427387903 < s.2 then false else risesB (s.2 + 2) r
def spansB (ss : List (Int × Int)) (has : Bool) : Bool := if has then (decide (1 ≤ ss.length ∧ ss.length ≤ 32) && risesB 0 ss) else decide (ss.length = 0)

theorem RdS.cells {w : World} {b o n c : Nat} {ss : List (Int × Int)} (h : RdS w (.slice (some ⟨b, o, none⟩) n c) ss) (hn : n = ss.length) (k : Nat) (hk : k < ss.length) :
    w.cell? ⟨b, o + k * 2, none⟩ = some (.int .i64 (ss.getD k (0, 0)).1) ∧ w.cell? ⟨b, o + k * 2 + 1, none⟩ = some (.int .i64 (ss.getD k (0, 0)).2) := by
  subst hn
  exact ⟨RdC.cell h _ _ (spC_get0 ss k hk) _ rfl, RdC.cell h _ _ (spC_get1 ss k hk) _ (by omega)⟩
theorem RdS.form {w : World} {v : Value} {ss : List (Int × Int)} (h : RdS w v ss) (hs : ss ≠ []) : ∃ b o c, v = .slice (some ⟨b, o, none⟩) ss.length c ∧ b < w.heap.size := by
  obtain ⟨_, ⟨h0, _⟩ | ⟨_, b, o, c, rfl, _, _, h4, _⟩⟩ := h
  · exact absurd (List.length_eq_zero_iff.1 h0) hs
  · exact ⟨b, o, c, rfl, h4⟩
theorem RdS.below {w w' : World} {v : Value} {ss : List (Int × Int)} (h : RdS w v ss) (hb : Below w.heap.size w w') : RdS w' v ss := RdC.below h hb

set_option maxHeartbeats 3200000 in
theorem maySpans_any (v : Value) (ss : List (Int × Int)) (has : Bool) (w : World) (hr : RdS w v ss) :
    Calls Tryd.prog 28 #[v, .bool has] w fun e w' => e = .returned (.bool (spansB ss has)) ∧ Below w.heap.size w w' := by
  cases has
  · obtain ⟨va, vc, rfl, _, _⟩ := hr.isSlice
    clear hr
    go_enter Tryd.func28, Tryd.ntmps28
    go_wp2
    go_ret
    exact ⟨ret_bool (len0 _), Below.refl _ _⟩
  by_cases h1 : ss.length < 1
  · obtain ⟨va, vc, rfl, _, _⟩ := hr.isSlice
    have e : spansB ss true = false := by simp [spansB]; omega
    have t1 : decide ((ss.length : Int) < 1) = true := decide_eq_true (by omega)
    rw [e]
    clear hr h1 e
    go_enter Tryd.func28, Tryd.ntmps28
    go_wp2
    go_ret
    exact ⟨rfl, Below.refl _ _⟩
  by_cases h2 : 32 < ss.length
  · obtain ⟨va, vc, rfl, _, _⟩ := hr.isSlice
    have e : spansB ss true = false := by simp [spansB]; omega
    have t1 : decide ((ss.length : Int) < 1) = false := decide_eq_false (by omega)
    have t2 : decide (32 < (ss.length : Int)) = true := decide_eq_true (by omega)
    rw [e]
    clear hr h1 h2 e
    go_enter Tryd.func28, Tryd.ntmps28
    go_wp2
    go_ret
    exact ⟨rfl, Below.refl _ _⟩
  have e : spansB ss true = risesB 0 ss := by simp [spansB, show 1 ≤ ss.length ∧ ss.length ≤ 32 by omega]
  rw [e]
  obtain ⟨b, o, c, rfl, hb⟩ := hr.form (by intro h; rw [h] at h1; simp at h1)
  have HR := Lib.hid hr
  have t1 : decide ((ss.length : Int) < 1) = false := decide_eq_false (by omega)
  have t2 : decide (32 < (ss.length : Int)) = false := decide_eq_false (by omega)
  have hl32 : ss.length ≤ 32 := by omega
  clear hr h1 h2 e
  go_enter Tryd.func28, Tryd.ntmps28
  go_wp2_with fail
  go_loopw [5, 23] (fun l i wr => ∃ (k : Nat) (least : Int), l = .int .i64 least ∧ i = .int .i64 k ∧ 0 ≤ least ∧ k ≤ ss.length ∧ risesB least (ss.drop k) = risesB 0 ss ∧ Below w.heap.size w wr) (fun _ i _ => ss.length - (intOf i).toNat)
  case atStart => exact ⟨0, 0, rfl, rfl, by omega, Nat.zero_le _, rfl, Below.refl _ _⟩
  case round =>
    obtain ⟨k, least, rfl, rfl, hl0, hk, hris, hbel⟩ := hrel
    have HRis := Lib.hid hris
    have hz := hbel.size
    by_cases hlt : k < ss.length
    · obtain ⟨q0, q1⟩ := (HR.out.below hbel).cells rfl k hlt
      have hd : ss.drop k = ss.getD k (0, 0) :: ss.drop (k + 1) := by rw [List.drop_eq_getElem_cons hlt]; simp [List.getD, hlt]
      obtain ⟨⟨x, y⟩, hs⟩ : ∃ s, s = ss.getD k (0, 0) := ⟨_, rfl⟩
      rw [← hs] at q0 q1 hd
      simp only at q0 q1
      have HD := Lib.hid hd
      have hi1 : (k : Int) < (ss.length : Int) := by omega
      have hw1 : IntKind.i64.wrap ((k : Int) + 1) = (k : Int) + 1 := wraps_i64' _ (by omega) (by omega)
      clear hd hs hris
      by_cases hbad : x < least ∨ y < x ∨ 4611686018427387903 < y
      · have HE : Hid (risesB 0 ss = false) := by show _ = _; rw [← HRis.out, HD.out, risesB]; exact if_pos hbad
        by_cases b1 : x < least
        · have d1 : decide (x < least) = true := decide_eq_true b1
          clear hbad
          go_wp2
          go_ret
          rw [HE.out]
          exact ⟨rfl, hbel.alloc hz _⟩
        · have d1 : decide (x < least) = false := decide_eq_false b1
          by_cases b2 : y < x
          · have d2 : decide (y < x) = true := decide_eq_true b2
            clear hbad b1
            go_wp2
            go_ret
            rw [HE.out]
            exact ⟨rfl, hbel.alloc hz _⟩
          · have d2 : decide (y < x) = false := decide_eq_false b2
            have d3 : decide (4611686018427387903 < y) = true := decide_eq_true (by omega)
            clear hbad b1 b2
            go_wp2
            go_ret
            rw [HE.out]
            exact ⟨rfl, hbel.alloc hz _⟩
      · have HE : Hid (risesB (y + 2) (ss.drop (k + 1)) = risesB 0 ss) := by show _ = _; rw [← HRis.out, HD.out, risesB]; exact (if_neg hbad).symm
        have d1 : decide (x < least) = false := decide_eq_false (by omega)
        have d2 : decide (y < x) = false := decide_eq_false (by omega)
        have d3 : decide (4611686018427387903 < y) = false := decide_eq_false (by omega)
        have hy0 : 0 ≤ y := by omega
        have hw2 : IntKind.i64.wrap (y + 2) = y + 2 := by rw [IntKind.wrap_i64]; omega
        clear hbad
        go_wp2
        refine ⟨⟨k + 1, y + 2, rfl, by go_num, by omega, by omega, HE.out, hbel.alloc hz _⟩, by simp [intOf]; omega⟩
    · have hk2 : k = ss.length := by omega
      have hlt2 : decide ((k : Int) < (ss.length : Int)) = false := decide_eq_false (by omega)
      have HE : Hid (risesB 0 ss = true) := by show _ = _; rw [← HRis.out, hk2, List.drop_length]; rfl
      clear hk2 hris
      go_wp2
      go_ret
      rw [HE.out]
      exact ⟨rfl, hbel⟩
end Go.Proofs.YtfkkimaebhjneaaDoor

namespace Go.Proofs.YtfkkimaebhjneaaDoor
open Go.RowKit

/-- MAY A FRAME BE TOLD? -/
def mayF (f : Fr) : Bool := decide (knownK f.kind) && numB f.stream (hStream f.kind) && numB f.code (hCode f.kind) && numB f.offset (hOffset f.kind) && numB f.n (hN f.kind) && spansB f.spans (hSpans f.kind) && dataB f.data.length f.offset (hData f.kind) && (hFin f.kind || !f.fin)

set_option maxHeartbeats 3200000 in
theorem may_any (f : Fr) (da sa : Option Addr) (dc sc : Nat) (w : World) (hd : Rd .u8 w (.slice da f.data.length dc) f.data) (hs : RdS w (.slice sa f.spans.length sc) f.spans) :
    Calls Tryd.prog 14 #[.agg #[.int .i64 f.kind, .int .i64 f.stream, .int .i64 f.offset, .int .i64 f.n, .int .i64 f.code, .bool f.fin, .slice da f.data.length dc, .slice sa f.spans.length sc]] w fun e w' => e = .returned (.bool (mayF f)) ∧ Below w.heap.size w w' := by
  have HD := Lib.hid hd
  have HS := Lib.hid hs
  have hM : Hid (mayF f = (decide (knownK f.kind) && numB f.stream (hStream f.kind) && numB f.code (hCode f.kind) && numB f.offset (hOffset f.kind) && numB f.n (hN f.kind) && spansB f.spans (hSpans f.kind) && dataB f.data.length f.offset (hData f.kind) && (hFin f.kind || !f.fin))) := rfl
  clear hd hs
  go_enter Tryd.func14, Tryd.ntmps14
  go_wp2_with fail
  refine (partsOf_any f.kind _).mono ?_
  unfold partsV
  rintro e w1 ⟨rfl, b1⟩
  have bA : Below w.heap.size w (w.alloc (.cells #[.int .i64 f.kind, .int .i64 f.stream, .int .i64 f.offset, .int .i64 f.n, .int .i64 f.code, .bool f.fin, .slice da f.data.length dc, .slice sa f.spans.length sc] 33)) := (Below.refl _ _).alloc (Nat.le_refl _) _
  have B1 : Below w.heap.size w w1 := bA.trans (b1.mono (by simp))
  have kx := (b1.block w.heap.size (by simp)).trans (alloc_at w (.cells #[.int .i64 f.kind, .int .i64 f.stream, .int .i64 f.offset, .int .i64 f.n, .int .i64 f.code, .bool f.fin, .slice da f.data.length dc, .slice sa f.spans.length sc] 33))
  have kc := fun i => Joins.cell_of_block kx i
  have kc0 := kc 0
  have kc1 := kc 1
  have kc2 := kc 2
  have kc3 := kc 3
  have kc4 := kc 4
  have kc5 := kc 5
  have kc6 := kc 6
  have kc7 := kc 7
  have z1 := b1.size
  have zx : w.heap.size < w1.heap.size := (Array.getElem?_eq_some_iff.1 kx).1
  have HKX := Lib.hid kx
  clear bA kc kx b1
  obtain ⟨q, hq⟩ : ∃ q, q = decide (knownK f.kind) := ⟨_, rfl⟩
  rw [← hq] at hM ⊢
  have HQ := Lib.hid hq
  clear hq
  cases q
  · go_wp2_with fail
    go_ret
    exact ⟨ret_bool (by rw [hM.out]; rfl), B1.alloc B1.size _⟩
  go_wp2_with fail
  refine (mayNumber_any _ _ _).mono ?_
  rintro e w' ⟨rfl, rfl⟩
  cases h1 : numB f.stream (hStream f.kind)
  · go_wp2_with fail
    go_ret
    exact ⟨ret_bool (by rw [hM.out, h1]; rfl), B1.alloc B1.size _⟩
  go_wp2_with fail
  refine (mayNumber_any _ _ _).mono ?_
  rintro e w' ⟨rfl, rfl⟩
  cases h2 : numB f.code (hCode f.kind)
  · go_wp2_with fail
    go_ret
    exact ⟨ret_bool (by rw [hM.out, h1, h2]; rfl), B1.alloc B1.size _⟩
  go_wp2_with fail
  refine (mayNumber_any _ _ _).mono ?_
  rintro e w' ⟨rfl, rfl⟩
  cases h3 : numB f.offset (hOffset f.kind)
  · go_wp2_with fail
    go_ret
    exact ⟨ret_bool (by rw [hM.out, h1, h2, h3]; rfl), B1.alloc B1.size _⟩
  go_wp2_with fail
  refine (mayNumber_any _ _ _).mono ?_
  rintro e w' ⟨rfl, rfl⟩
  cases h4 : numB f.n (hN f.kind)
  · go_wp2_with fail
    go_ret
    exact ⟨ret_bool (by rw [hM.out, h1, h2, h3, h4]; rfl), B1.alloc B1.size _⟩
  go_wp2_with fail
  refine (maySpans_any _ f.spans _ _ (HS.out.below (B1.alloc B1.size _))).mono ?_
  rintro e w2 ⟨rfl, b2⟩
  have B2 : Below w.heap.size w w2 := (B1.alloc B1.size _).trans (b2.mono (by simp; omega))
  have z2 := b2.size
  have k2 := (b2.block w.heap.size (by simp; omega)).trans ((Below.heap_alloc w1 _ _ zx).trans HKX.out)
  have k3 := (b2.block w1.heap.size (by simp)).trans (alloc_at w1 (.cells #[.bool (hStream f.kind), .bool (hCode f.kind), .bool (hOffset f.kind), .bool (hN f.kind), .bool (hSpans f.kind), .bool (hData f.kind), .bool (hFin f.kind)] 52))
  have kd0 := Joins.cell_of_block k2 0
  have kd1 := Joins.cell_of_block k2 1
  have kd2 := Joins.cell_of_block k2 2
  have kd3 := Joins.cell_of_block k2 3
  have kd4 := Joins.cell_of_block k2 4
  have kd5 := Joins.cell_of_block k2 5
  have kd6 := Joins.cell_of_block k2 6
  have kd7 := Joins.cell_of_block k2 7
  have ke0 := Joins.cell_of_block k3 0
  have ke1 := Joins.cell_of_block k3 1
  have ke2 := Joins.cell_of_block k3 2
  have ke3 := Joins.cell_of_block k3 3
  have ke4 := Joins.cell_of_block k3 4
  have ke5 := Joins.cell_of_block k3 5
  have ke6 := Joins.cell_of_block k3 6
  clear k2 k3 b2
  cases h5 : spansB f.spans (hSpans f.kind)
  · go_wp2_with fail
    go_ret
    exact ⟨ret_bool (by rw [hM.out, h1, h2, h3, h4, h5]; rfl), B2⟩
  go_wp2_with fail
  refine (mayData_any _ f.data _ _ _ (HD.out.below B2) ?_).mono ?_
  · intro hdk
    have hk : f.kind = 8 ∨ f.kind = 28 := by simpa [hData] using hdk
    have h3' := h3
    rcases hk with hk | hk
    · rw [hk] at h3'
      simpa [numB, hOffset] using h3'
    · rw [hk] at h3'
      have : f.offset = 0 := by simpa [numB, hOffset] using h3'
      omega
  rintro e w' ⟨rfl, rfl⟩
  cases h6 : dataB f.data.length f.offset (hData f.kind)
  · go_wp2_with fail
    go_ret
    exact ⟨ret_bool (by rw [hM.out, h1, h2, h3, h4, h5, h6]; rfl), B2⟩
  cases h7 : hFin f.kind
  · rw [h7] at ke6
    go_wp2_with fail
    go_ret
    exact ⟨ret_bool (by rw [hM.out, h1, h2, h3, h4, h5, h6, h7]; simp), B2⟩
  · rw [h7] at ke6
    go_wp2_with fail
    go_ret
    exact ⟨ret_bool (by rw [hM.out, h1, h2, h3, h4, h5, h6, h7]; simp), B2⟩

def asksF (f : Fr) : Bool := f.kind != 0 && f.kind != 2 && f.kind != 28
theorem asks_any (f : Fr) (da sa : Option Addr) (dl sl dc sc : Nat) (w : World) :
    Calls Tryd.prog 16 #[.agg #[.int .i64 f.kind, .int .i64 f.stream, .int .i64 f.offset, .int .i64 f.n, .int .i64 f.code, .bool f.fin, .slice da dl dc, .slice sa sl sc]] w fun e w' => e = .returned (.bool (asksF f)) ∧ Below w.heap.size w w' := by
  have hM : Hid (asksF f = (f.kind != 0 && f.kind != 2 && f.kind != 28)) := rfl
  cases h0 : (f.kind != 0)
  · rw [h0] at hM
    go_enter Tryd.func16, Tryd.ntmps16
    go_wp2
    go_ret
    exact ⟨ret_bool (by rw [hM.out]; rfl), (Below.refl _ _).alloc (Nat.le_refl _) _⟩
  · cases h2 : (f.kind != 2)
    · rw [h0, h2] at hM
      go_enter Tryd.func16, Tryd.ntmps16
      go_wp2
      go_ret
      exact ⟨ret_bool (by rw [hM.out]; rfl), (Below.refl _ _).alloc (Nat.le_refl _) _⟩
    · rw [h0, h2] at hM
      go_enter Tryd.func16, Tryd.ntmps16
      go_wp2
      go_ret
      exact ⟨ret_bool (by rw [hM.out]; rfl), (Below.refl _ _).alloc (Nat.le_refl _) _⟩
end Go.Proofs.YtfkkimaebhjneaaDoor
