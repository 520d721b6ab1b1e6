/- Walks of layer 8: does. -/
import Derived.Test.YtobalbaieakcmaaSnO
import Derived.Test.YtobalbaieakcmaaSnX
set_option linter.unusedSimpArgs false
set_option linter.unusedVariables false
namespace Go.Proofs.Ytobalbaieakcmaa
open Go.RowKit Go.Maps

/-- what a call of a script does: the ledger behind it, what it settles, whether one was sent -/
def doesE (q : Lg) (k n now size wait : Int) (ss : List (Int × Int)) : Lg × List Pk × Bool :=
  if k % 5 = 0 then ((sentE q n now size).1, [], (sentE q n now size).2 == 0)
  else if k % 5 = 1 then ((ackE q ss now wait).1, (ackE q ss now wait).2.1 ++ (ackE q ss now wait).2.2.1, false)
  else if k % 5 = 2 then ((loseE q now wait).1, (loseE q now wait).2, false)
  else if k % 5 = 3 then (q, [], false)
  else ((dropE q).1, (dropE q).2, false)
theorem lose_len {q : Lg} (h : Ok q) (now wait : Int) : (loseE q now wait).2.length ≤ 512 := by
  unfold loseE
  split
  · exact Nat.zero_le _
  · exact Nat.le_trans (List.length_filter_le _ _) h.few
theorem ack_lens {q : Lg} (h : Ok q) (ss : List (Int × Int)) (now wait : Int) : (ackE q ss now wait).2.1.length ≤ 512 ∧ (ackE q ss now wait).2.2.1.length ≤ 512 := by
  unfold ackE
  by_cases h1 : ackB ss now wait = false
  · rw [if_pos h1]; exact ⟨Nat.zero_le _, Nat.zero_le _⟩
  rw [if_neg h1]
  by_cases h2 : q.last < topI ss
  · rw [if_pos h2]; exact ⟨Nat.zero_le _, Nat.zero_le _⟩
  rw [if_neg h2]
  refine ⟨Nat.le_trans (List.length_filter_le _ _) h.few, ?_⟩
  unfold loseE
  split
  · exact Nat.zero_le _
  · exact Nat.le_trans (List.length_filter_le _ _) (Nat.le_trans (List.length_filter_le _ _) h.few)
theorem does_ok {q : Lg} (h : Ok q) (k n now size wait : Int) (ss : List (Int × Int)) : Ok (doesE q k n now size wait ss).1 := by
  unfold doesE
  split
  · exact sent_ok h _ _ _
  split
  · exact ack_ok h _ _ _
  split
  · exact lose_ok h _ _
  split
  · exact h
  · exact drop_ok h

/-- what does hands back, and what it leaves -/
def DoesIs (b mb : Nat) (r : Lg × List Pk × Bool) (w : World) (e : Ending) (w' : World) : Prop :=
  ∃ v, e = .returned (.tuple #[v, .bool r.2.2]) ∧ OwnP 54 w' w.heap.size v r.2.1 ∧ Does b mb r.1 w w'

theorem does_start {b mb : Nat} {w W W' : World} {S : Lg} (h : Below w.heap.size w W) (k : Does b mb S W W') : Does b mb S w W' := ⟨k.1, (Keep.of_below (S := [b, mb]) h).trans k.2 (fun i hi => .inl hi)⟩
theorem mod_ways {k : Int} (h : 0 ≤ k) : (k % 5 = 0 ∨ k % 5 = 1 ∨ k % 5 = 2 ∨ k % 5 = 3 ∨ k % 5 = 4) := by omega

set_option maxRecDepth 100000 in
set_option maxHeartbeats 3200000 in
theorem does_any (b mb : Nat) (q : Lg) (k n now size wait : Int) (sp : Value) (ss : List (Int × Int)) (w : World) (hq : Ok q) (hL : Led b mb q w) (hk : 0 ≤ k ∧ k < 256) (hr : RdS w sp ss) :
    Calls Try.prog 25 #[.pointer (some ⟨b, 0, none⟩), .agg #[.int .u8 k, .int .i64 n, .int .i64 now, .int .i64 size, .int .i64 wait, sp]] w (DoesIs b mb (doesE q k n now size wait ss) w) := by
  obtain ⟨sa, sc, rfl, _, _⟩ := hr.isSlice
  have BB := Lib.hid (below_one w (.cells #[.int .u8 k, .int .i64 n, .int .i64 now, .int .i64 size, .int .i64 wait, .slice sa ss.length sc] 32))
  have CB : Hid ((w.alloc (.cells #[.int .u8 k, .int .i64 n, .int .i64 now, .int .i64 size, .int .i64 wait, .slice sa ss.length sc] 32)).heap[w.heap.size]? = some (.cells #[.int .u8 k, .int .i64 n, .int .i64 now, .int .i64 size, .int .i64 wait, .slice sa ss.length sc] 32 (0, 0))) := by
    show (w.heap.push _)[w.heap.size]? = _; simp
  have HL := Lib.hid (hL.below BB.out)
  have HS := Lib.hid (hr.below BB.out)
  have km := hL.map.lt
  have kb := hL.row.lt
  have HQ := Lib.hid hq
  have hmod : k.tmod 5 = k % 5 := Int.tmod_eq_emod_of_nonneg hk.1
  have hways := mod_ways hk.1
  unfold doesE
  clear hL hr hq hk
  rcases hways with h | h | h | h | h
  · rw [if_pos h]
    have m0 : (k.tmod 5 == 0) = true := by rw [hmod, h]; rfl
    clear hmod h
    go_enter Try.func25, Try.ntmps25
    go_upto_region 1 with fail
    generalize w.alloc (.cells #[.int .u8 k, .int .i64 n, .int .i64 now, .int .i64 size, .int .i64 wait, .slice sa ss.length sc] 32) = W at *
    have c0 : W.cell? ⟨w.heap.size, 0, none⟩ = some (.int .u8 k) := by simp [World.cell?, CB.out]
    have c1 : W.cell? ⟨w.heap.size, 1, none⟩ = some (.int .i64 n) := by simp [World.cell?, CB.out]
    have c2 : W.cell? ⟨w.heap.size, 2, none⟩ = some (.int .i64 now) := by simp [World.cell?, CB.out]
    have c3 : W.cell? ⟨w.heap.size, 3, none⟩ = some (.int .i64 size) := by simp [World.cell?, CB.out]
    go_wp2_with (go_at_call 11; refine (sent_any b mb q n now size W HQ.out HL.out).mono ?_; rintro e w2 ⟨rfl, hD⟩)
    go_ret2
    exact ⟨_, rfl, OwnP.nil _ _ _, does_start BB.out hD⟩
  · rw [if_neg (by omega), if_pos h]
    have m0 : (k.tmod 5 == 0) = false := by rw [hmod, h]; rfl
    have m1 : (k.tmod 5 == 1) = true := by rw [hmod, h]; rfl
    have hlen := ack_lens HQ.out ss now wait
    have HA := Lib.hid (fun W hL hS => ack_any b mb q (.slice sa ss.length sc) ss now wait W HQ.out hL hS)
    generalize ackE q ss now wait = R at HA hlen ⊢
    obtain ⟨q', X, Y, e0⟩ := R
    simp only at hlen HA ⊢
    have tok : True := trivial
    clear hmod h
    go_enter Try.func25, Try.ntmps25
    go_upto_region 1 with fail
    generalize w.alloc (.cells #[.int .u8 k, .int .i64 n, .int .i64 now, .int .i64 size, .int .i64 wait, .slice sa ss.length sc] 32) = W at *
    have c0 : W.cell? ⟨w.heap.size, 0, none⟩ = some (.int .u8 k) := by simp [World.cell?, CB.out]
    have c2 : W.cell? ⟨w.heap.size, 2, none⟩ = some (.int .i64 now) := by simp [World.cell?, CB.out]
    have c4 : W.cell? ⟨w.heap.size, 4, none⟩ = some (.int .i64 wait) := by simp [World.cell?, CB.out]
    have c5 : W.cell? ⟨w.heap.size, 5, none⟩ = some (.slice sa ss.length sc) := by simp [World.cell?, CB.out]
    go_wp2_with (first
      | (go_at_call 13; refine (HA.out W HL.out HS.out).mono ?_; rintro e w3 ⟨v, u, rfl, hv, hu, hD⟩
         have HV := Lib.hid hv
         have HU := Lib.hid hu
         have HD := Lib.hid hD
         clear hv hu hD)
      | (at_builtin; have _t := tok; refine wpList_append_pkS _ rfl _ _ rfl w3.heap.size (.slice none 0 0) [] rfl (OwnP.nil _ _ _) _ X rfl HV.out.rd (by simp; omega) (Nat.le_refl _) ?_; intro v1 w4 hO4 hg4
         have HO4 := Lib.hid hO4
         have HG4 : Hid (w3.grownBy w4 none) := hg4
         clear tok hO4 hg4)
      | (at_builtin; refine wpList_append_pkS _ rfl _ _ rfl w3.heap.size v1 ([] ++ X) rfl HO4.out _ Y rfl (HU.out.rd.kept HG4.out (by simp)) (by simp; omega) HG4.out.size ?_; intro v2 w5 hO5 hg5))
    go_ret2
    have hg : w3.grownBy w5 none := HG4.out.andThen hg5 (fun j hj => .inl (HO4.out.blk j hj))
    have kk : Keep [b, mb] w3 w5 := Keep.of_grown hg (fun j hj => by cases hj)
    have hs := does_start BB.out HD.out
    have s1 := BB.out.size
    have s3 := HD.out.2.size
    refine ⟨v2, rfl, ?_, hs.1.keep (Keep.of_grown (S := []) hg (fun j hj => by cases hj)) (by simp) (by simp), hs.2.trans kk (fun i hi => .inl hi)⟩
    have := hO5.mono (B' := w.heap.size) (by omega)
    simpa using this
  · rw [if_neg (by omega), if_neg (by omega), if_pos h]
    have m0 : (k.tmod 5 == 0) = false := by rw [hmod, h]; rfl
    have m1 : (k.tmod 5 == 1) = false := by rw [hmod, h]; rfl
    have m2 : (k.tmod 5 == 2) = true := by rw [hmod, h]; rfl
    clear hmod h
    go_enter Try.func25, Try.ntmps25
    go_upto_region 1 with fail
    generalize w.alloc (.cells #[.int .u8 k, .int .i64 n, .int .i64 now, .int .i64 size, .int .i64 wait, .slice sa ss.length sc] 32) = W at *
    have c0 : W.cell? ⟨w.heap.size, 0, none⟩ = some (.int .u8 k) := by simp [World.cell?, CB.out]
    have c2 : W.cell? ⟨w.heap.size, 2, none⟩ = some (.int .i64 now) := by simp [World.cell?, CB.out]
    have c4 : W.cell? ⟨w.heap.size, 4, none⟩ = some (.int .i64 wait) := by simp [World.cell?, CB.out]
    go_wp2_with (go_at_call 17; refine (lose_any b mb q now wait W HQ.out HL.out).mono ?_; rintro e w2 ⟨v, rfl, hv, hD⟩)
    go_ret2
    exact ⟨_, rfl, hv.mono BB.out.size, does_start BB.out hD⟩
  · rw [if_neg (by omega), if_neg (by omega), if_neg (by omega), if_pos h]
    have m0 : (k.tmod 5 == 0) = false := by rw [hmod, h]; rfl
    have m1 : (k.tmod 5 == 1) = false := by rw [hmod, h]; rfl
    have m2 : (k.tmod 5 == 2) = false := by rw [hmod, h]; rfl
    have m3 : (k.tmod 5 == 3) = true := by rw [hmod, h]; rfl
    clear hmod h
    go_enter Try.func25, Try.ntmps25
    go_upto_region 1 with fail
    generalize w.alloc (.cells #[.int .u8 k, .int .i64 n, .int .i64 now, .int .i64 size, .int .i64 wait, .slice sa ss.length sc] 32) = W at *
    have c0 : W.cell? ⟨w.heap.size, 0, none⟩ = some (.int .u8 k) := by simp [World.cell?, CB.out]
    have c4 : W.cell? ⟨w.heap.size, 4, none⟩ = some (.int .i64 wait) := by simp [World.cell?, CB.out]
    go_wp2_with (go_at_call 19; refine (due_any b mb q wait W HQ.out HL.out).mono ?_; rintro e w2 ⟨rfl, hb2⟩)
    go_ret2
    exact ⟨_, rfl, OwnP.nil _ _ _, does_start BB.out ⟨HL.out.below hb2, Keep.of_below hb2⟩⟩
  · rw [if_neg (by omega), if_neg (by omega), if_neg (by omega), if_neg (by omega)]
    have m0 : (k.tmod 5 == 0) = false := by rw [hmod, h]; rfl
    have m1 : (k.tmod 5 == 1) = false := by rw [hmod, h]; rfl
    have m2 : (k.tmod 5 == 2) = false := by rw [hmod, h]; rfl
    have m3 : (k.tmod 5 == 3) = false := by rw [hmod, h]; rfl
    clear hmod h
    go_enter Try.func25, Try.ntmps25
    go_upto_region 1 with fail
    generalize w.alloc (.cells #[.int .u8 k, .int .i64 n, .int .i64 now, .int .i64 size, .int .i64 wait, .slice sa ss.length sc] 32) = W at *
    have c0 : W.cell? ⟨w.heap.size, 0, none⟩ = some (.int .u8 k) := by simp [World.cell?, CB.out]
    go_wp2_with (go_at_call 21; refine (drop_any b mb q W HQ.out HL.out).mono ?_; rintro e w2 ⟨v, rfl, hv, hD⟩)
    go_ret2
    exact ⟨_, rfl, hv.mono BB.out.size, does_start BB.out hD⟩
end Go.Proofs.Ytobalbaieakcmaa
