/- Walks of layer 12: beginnings. -/
import Derived.Test.YtjaeccealfeakaaHfA
import Derived.StillTailTactics
import Derived.Deep.DeepCutAuto
import Derived.Laws.Rows
import Derived.Laws.CopyOwn
set_option maxRecDepth 100000
set_option linter.unusedSimpArgs false
set_option linter.unusedVariables false
namespace Go.Proofs.Ytjaeccealfeakaa
open Go.RowKit

def evL (ns : List Nat) (k : Nat) : List Nat := (List.range 25).map fun n => evenN (ns.take k) n
def shL (ns : List Nat) (m : Nat) : List Nat := (List.range 25).map fun n => if n < m then shortN ns n else 0
/-- where the words of each length begin -/
def beL (ns : List Nat) : List Nat := (List.range 25).map (shortN ns)
theorem tab_get (f : Nat → Nat) (n : Nat) (hn : n < 25) : ((List.range 25).map f).getD n 0 = f n := by simp [List.getD, hn]
theorem tab_set (f g : Nat → Nat) (n : Nat) (h : ∀ j, j < 25 → j ≠ n → g j = f j) : ((List.range 25).map f).set n (g n) = (List.range 25).map g := by
  apply List.ext_getElem
  · simp
  · intro j h1 h2
    simp only [List.length_set, List.length_map, List.length_range] at h1
    rw [List.getElem_set]
    by_cases e : n = j
    · subst e; simp
    · rw [if_neg e]; simp [h j h1 (fun x => e x.symm)]
theorem ev_zero (ns : List Nat) : evL ns 0 = List.replicate 25 0 := by unfold evL; simp [evenN]; rfl
theorem ev_step (ns : List Nat) (k : Nat) (hk : k < ns.length) (n : Nat) (hn : ns.getD k 0 = n) : (evL ns k).set n (evenN (ns.take k) n + roomN n) = evL ns (k + 1) := by
  have e : ns[k] = n := by rw [← hn, getD_of hk]
  have := tab_set (fun n => evenN (ns.take k) n) (fun n => evenN (ns.take (k + 1)) n) n (fun j hj hne => by
    simp only [even_take ns k j hk]
    rw [if_neg (by rw [e]; exact fun x => hne x.symm)]; rfl)
  rw [even_take ns k n hk, if_pos e] at this
  exact this
theorem sh_one (ns : List Nat) : shL ns 1 = List.replicate 25 0 := by
  apply List.ext_getElem
  · simp [shL]
  · intro j h1 h2
    simp only [shL, List.getElem_map, List.getElem_range, List.getElem_replicate]
    by_cases h : j < 1
    · rw [if_pos h, show j = 0 by omega, short_zero]
    · rw [if_neg h]
theorem sh_step (ns : List Nat) (m : Nat) (hm : m < 24) : (shL ns (m + 1)).set (m + 1) (shortN ns m + evenN ns m) = shL ns (m + 2) := by
  have := tab_set (fun n => if n < m + 1 then shortN ns n else 0) (fun n => if n < m + 2 then shortN ns n else 0) (m + 1) (fun j hj hne => by
    by_cases h : j < m + 1
    · simp only [if_pos h, if_pos (show j < m + 2 by omega)]
    · simp only [if_neg h, if_neg (show ¬ j < m + 2 by omega)])
  rw [if_pos (by omega), short_succ] at this
  exact this
theorem sh_end (ns : List Nat) : shL ns 25 = beL ns := by
  apply List.ext_getElem
  · simp [shL, beL]
  · intro j h1 h2
    have : j < 25 := by simpa [shL] using h1
    simp [shL, beL, this]
theorem nC_len (l : List Nat) : (nC l).length = l.length := by simp [nC]
theorem nC_one (l : List Nat) : (nC l).toArray.all (·.oneCell') = true := by
  rw [Array.all_eq_true_iff_forall_mem]
  intro x hx
  simp only [nC, List.mem_toArray, List.mem_map] at hx
  obtain ⟨n, _, rfl⟩ := hx
  rfl
theorem arr_info (l : List Nat) (h : l.length = 25) : (Try.prog.info? 46).map (·.size) = some (nC l).toArray.size := by
  rw [show (nC l).toArray.size = 25 by rw [List.size_toArray, nC_len, h]]; kernel_rfl
theorem alloc2 (w : World) (a b : Obj) : ((w.alloc a).alloc b).heap[w.heap.size]? = some a ∧ ((w.alloc a).alloc b).heap[w.heap.size + 1]? = some b := by
  constructor
  · show ((w.heap.push a).push b)[w.heap.size]? = _
    rw [Array.getElem?_push, if_neg (by simp)]; simp
  · show ((w.heap.push a).push b)[w.heap.size + 1]? = _
    rw [Array.getElem?_push, if_pos (by simp)]
theorem Nb.of {w : World} {g : Nat} {l : List Nat} {cs : Array Value} {T : TypeId} (h : w.heap[g]? = some (.cells cs T)) (hc : cs = (nC l).toArray) : Nb w g l := ⟨T, by rw [h, hc]⟩
theorem zero25 : (#[Value.int .i64 0, .int .i64 0, .int .i64 0, .int .i64 0, .int .i64 0, .int .i64 0, .int .i64 0, .int .i64 0, .int .i64 0, .int .i64 0, .int .i64 0, .int .i64 0, .int .i64 0, .int .i64 0, .int .i64 0, .int .i64 0, .int .i64 0, .int .i64 0, .int .i64 0, .int .i64 0, .int .i64 0, .int .i64 0, .int .i64 0, .int .i64 0, .int .i64 0] : Array Value) = (nC (List.replicate 25 0)).toArray := rfl
theorem Nb.drew {w : World} {g : Nat} {l : List Nat} (h : Nb w g l) : Nb w.drew g l := h
theorem Nb.lt {w : World} {g : Nat} {l : List Nat} (h : Nb w g l) : g < w.heap.size := Cs.lt h
theorem Nb.free {w : World} {g : Nat} {l : List Nat} (h : Nb w g l) (j : Nat) : w.frozen? ⟨g, j, none⟩ = false := Cs.free h j
theorem Nb.other {w : World} {g : Nat} {l : List Nat} (h : Nb w g l) (b o : Nat) (x : Value) (hne : g ≠ b) : Nb (w.setCell ⟨b, o, none⟩ x) g l := Cs.grown h (grown_set b o w x) (fun e => hne (by simpa using e))
theorem Nb.alloc {w : World} {g : Nat} {l : List Nat} (h : Nb w g l) (o : Obj) : Nb (w.alloc o) g l := Cs.grown h (World.grownBy_alloc w o none) (by simp)
theorem Nb.below {w w' : World} {g : Nat} {l : List Nat} (h : Nb w g l) (hb : Below w.heap.size w w') : Nb w' g l := Cs.below h hb

set_option maxHeartbeats 3000000 in
theorem begin_any (v : Value) (ls : List Int) (w : World) (hr : Rd .i64 w v ls) (hc : RightL ls) : Calls Try.prog 25 #[v] w fun e w' => e = .returned (.agg (nC (beL (ls.map Int.toNat))).toArray) ∧ Below w.heap.size w w' := by
  have hrl := hc.1
  have hR := Lib.hid hr
  have hC := Lib.hid hc
  obtain ⟨va, vc, rfl⟩ := hr.isSlice
  obtain ⟨ns, hns⟩ : ∃ ns, ns = ls.map Int.toNat := ⟨_, rfl⟩
  rw [← hns]
  have HN := Lib.hid hns
  have HNL : Hid (ns.length = ls.length) := by show _ = _; rw [hns, List.length_map]
  have HM := Lib.hid hc.code.sum
  clear hr hc hns
  go_enter Try.func25, Try.ntmps25
  go_wp2_with fail
  obtain ⟨x0, x1⟩ := alloc2 w (.cells #[Value.int .i64 0, .int .i64 0, .int .i64 0, .int .i64 0, .int .i64 0, .int .i64 0, .int .i64 0, .int .i64 0, .int .i64 0, .int .i64 0, .int .i64 0, .int .i64 0, .int .i64 0, .int .i64 0, .int .i64 0, .int .i64 0, .int .i64 0, .int .i64 0, .int .i64 0, .int .i64 0, .int .i64 0, .int .i64 0, .int .i64 0, .int .i64 0, .int .i64 0] 46) (.cells #[Value.int .i64 0, .int .i64 0, .int .i64 0, .int .i64 0, .int .i64 0, .int .i64 0, .int .i64 0, .int .i64 0, .int .i64 0, .int .i64 0, .int .i64 0, .int .i64 0, .int .i64 0, .int .i64 0, .int .i64 0, .int .i64 0, .int .i64 0, .int .i64 0, .int .i64 0, .int .i64 0, .int .i64 0, .int .i64 0, .int .i64 0, .int .i64 0, .int .i64 0] 46)
  have N0 := Lib.hid (Nb.of x0 zero25)
  have N1 := Lib.hid (Nb.of x1 zero25)
  have B0 := Lib.hid (((Below.refl w.heap.size w).alloc (Nat.le_refl _) (.cells #[Value.int .i64 0, .int .i64 0, .int .i64 0, .int .i64 0, .int .i64 0, .int .i64 0, .int .i64 0, .int .i64 0, .int .i64 0, .int .i64 0, .int .i64 0, .int .i64 0, .int .i64 0, .int .i64 0, .int .i64 0, .int .i64 0, .int .i64 0, .int .i64 0, .int .i64 0, .int .i64 0, .int .i64 0, .int .i64 0, .int .i64 0, .int .i64 0, .int .i64 0] 46)).alloc (by simp) (.cells #[Value.int .i64 0, .int .i64 0, .int .i64 0, .int .i64 0, .int .i64 0, .int .i64 0, .int .i64 0, .int .i64 0, .int .i64 0, .int .i64 0, .int .i64 0, .int .i64 0, .int .i64 0, .int .i64 0, .int .i64 0, .int .i64 0, .int .i64 0, .int .i64 0, .int .i64 0, .int .i64 0, .int .i64 0, .int .i64 0, .int .i64 0, .int .i64 0, .int .i64 0] 46))
  clear x0 x1
  generalize (w.alloc _).alloc _ = w0 at N0 N1 B0 ⊢
  rw [← ev_zero ns] at N1
  go_loopw [10] (fun i wr => ∃ k : Nat, k ≤ ls.length ∧ i = .int .i64 k ∧ Nb wr (w.heap.size + 1) (evL ns k) ∧ Nb wr w.heap.size (List.replicate 25 0) ∧ Below w.heap.size w wr) (fun i _ => ls.length - (intOf i).toNat)
  case atStart => exact ⟨0, Nat.zero_le _, rfl, N1.out, N0.out, B0.out⟩
  case round =>
    obtain ⟨k, hk, rfl, n1, n0, hb⟩ := hrel
    clear N0 N1 B0
    by_cases hlt : k < ls.length
    · obtain ⟨n, hn⟩ : ∃ n, n = ns.getD k 0 := ⟨_, rfl⟩
      have hx : ls.getD k 0 = (n : Int) := by rw [hC.out.at k hlt, hn, HN.out]
      have hn24 : n ≤ 24 := by rw [hn, HN.out]; exact hC.out.code.at k
      have hcell : ∃ b o, va = some ⟨b, o, none⟩ ∧ wr.cell? ⟨b, o + k, none⟩ = some (.int .i64 (n : Int)) := by
        rcases hR.out.below hb with ⟨rfl, _⟩ | ⟨_, b, o, cp, he, h2, h3, h4, h5⟩
        · simp at hlt
        · simp only [Value.slice.injEq] at he
          exact ⟨b, o, he.1, by rw [← hx]; exact h5 _ hlt⟩
      obtain ⟨b, o, rfl, hcell⟩ := hcell
      have hE := n1.get n (by simp [evL]; omega)
      rw [evL, tab_get _ n (by omega)] at hE
      have hS := Lib.hid (ev_step ns k (by rw [HNL.out]; exact hlt) n hn.symm)
      have hle : evenN (ns.take k) n + roomN n ≤ 16777216 := by
        have e1 := even_take ns k n (by rw [HNL.out]; exact hlt)
        rw [if_pos (by rw [hn, getD_of]), ] at e1
        have e2 := even_take_all ns (k + 1) n
        have e3 := short_succ ns n
        have e4 := (show CodeOk ns by rw [HN.out]; exact hC.out.code).short_le (n + 1) (by omega)
        omega
      generalize evenN (ns.take k) n = E at hE hS hle
      have NN1 := Lib.hid n1
      have NN0 := Lib.hid n0
      have fz := n1.free n
      have hEd : wr.drew.cell? ⟨w.heap.size + 1, n, none⟩ = some (.int .i64 (E : Int)) := hE
      have fzd : wr.drew.frozen? ⟨w.heap.size + 1, n, none⟩ = false := fz
      have hadd : IntKind.i64.wrap ((E : Int) + ((roomN n : Nat) : Int)) = (E : Int) + ((roomN n : Nat) : Int) := by rw [IntKind.wrap_i64]; omega
      have hi1 : (0 : Int) ≤ (n : Int) := by omega
      have hi2 : (n : Int) < 25 := by omega
      have HB := Lib.hid hb
      clear hn hx n1 n0 hb
      go_wp2_with fail
      go_still_tail 7, (by kernel_rfl)
      still_call ((room_any n hn24 wr.drew).mono fun e w' h => ⟨h.1, h.2.symm⟩)
      repeat still_step
      change wpList _ _ _ _ _ wr.drew
      have D1 := Lib.hid NN1.out.drew
      have D0 := Lib.hid NN0.out.drew
      have DB := Lib.hid HB.out.drew
      clear NN1 NN0 HB hE fz
      generalize wr.drew = wd at *
      go_wp2_with fail
      go_roundw
      case rel =>
        have := D1.out.set n (E + roomN n)
        rw [hS.out, Int.natCast_add] at this
        exact ⟨k + 1, by omega, by go_num, this, D0.out.other (w.heap.size + 1) _ _ (by omega), DB.out.setCell (by simp) _⟩
      case measure => simp [intOf]; omega
    · have hend : k = ls.length := by omega
      have hall : Hid (∀ n, n < 25 → (evL ns k).getD n 0 = evenN ns n) := fun n hn => by
        rw [evL, tab_get _ n hn, hend, ← HNL.out, List.take_length]
      have dl : decide ((k : Int) < (ls.length : Int)) = false := decide_eq_false (by omega)
      have dl' : decide (k < ls.length) = false := decide_eq_false (by omega)
      have HB := Lib.hid hb
      have NN1 := Lib.hid n1
      have NN0 := Lib.hid n0
      have HEL : Hid ((evL ns k).length = 25) := by show _ = _; simp [evL]
      generalize evL ns k = EL at NN1 hall HEL
      clear hend n1 n0 hb
      go_wp2_with fail
      have M0 := Lib.hid (Nb.of (heap_alloc_new wr (.cells #[Value.int .i64 0, .int .i64 0, .int .i64 0, .int .i64 0, .int .i64 0, .int .i64 0, .int .i64 0, .int .i64 0, .int .i64 0, .int .i64 0, .int .i64 0, .int .i64 0, .int .i64 0, .int .i64 0, .int .i64 0, .int .i64 0, .int .i64 0, .int .i64 0, .int .i64 0, .int .i64 0, .int .i64 0, .int .i64 0, .int .i64 0, .int .i64 0, .int .i64 0] 46)) zero25)
      have M1 := Lib.hid (NN1.out.alloc (.cells #[Value.int .i64 0, .int .i64 0, .int .i64 0, .int .i64 0, .int .i64 0, .int .i64 0, .int .i64 0, .int .i64 0, .int .i64 0, .int .i64 0, .int .i64 0, .int .i64 0, .int .i64 0, .int .i64 0, .int .i64 0, .int .i64 0, .int .i64 0, .int .i64 0, .int .i64 0, .int .i64 0, .int .i64 0, .int .i64 0, .int .i64 0, .int .i64 0, .int .i64 0] 46))
      have M2 := Lib.hid (NN0.out.alloc (.cells #[Value.int .i64 0, .int .i64 0, .int .i64 0, .int .i64 0, .int .i64 0, .int .i64 0, .int .i64 0, .int .i64 0, .int .i64 0, .int .i64 0, .int .i64 0, .int .i64 0, .int .i64 0, .int .i64 0, .int .i64 0, .int .i64 0, .int .i64 0, .int .i64 0, .int .i64 0, .int .i64 0, .int .i64 0, .int .i64 0, .int .i64 0, .int .i64 0, .int .i64 0] 46))
      have MB := Lib.hid (HB.out.alloc HB.out.size (.cells #[Value.int .i64 0, .int .i64 0, .int .i64 0, .int .i64 0, .int .i64 0, .int .i64 0, .int .i64 0, .int .i64 0, .int .i64 0, .int .i64 0, .int .i64 0, .int .i64 0, .int .i64 0, .int .i64 0, .int .i64 0, .int .i64 0, .int .i64 0, .int .i64 0, .int .i64 0, .int .i64 0, .int .i64 0, .int .i64 0, .int .i64 0, .int .i64 0, .int .i64 0] 46))
      have hG1 : w.heap.size + 1 < wr.heap.size := NN1.out.lt
      generalize wr.alloc _ = w1 at M0 M1 M2 MB ⊢
      generalize wr.heap.size = G at M0 hG1 ⊢
      rw [← sh_one ns] at M0
      go_loopw [7] (fun i wq => ∃ m : Nat, m ≤ 24 ∧ i = .int .i64 ((m : Int) + 1) ∧ Nb wq G (shL ns (m + 1)) ∧ Nb wq (w.heap.size + 1) EL ∧ Nb wq w.heap.size (List.replicate 25 0) ∧ Below w.heap.size w wq) (fun i _ => 25 - (intOf i).toNat)
      case atStart => exact ⟨0, by omega, rfl, M0.out, M1.out, M2.out, MB.out⟩
      case round =>
        obtain ⟨m, hm, rfl, m0, m1, m2, hb⟩ := hrel
        clear M0 M1 M2 MB HB NN1 NN0
        have K0 := Lib.hid m0
        have K1 := Lib.hid m1
        have K2 := Lib.hid m2
        have KB := Lib.hid hb
        clear m0 m1 m2 hb
        by_cases hlt : m < 24
        · have dm : decide ((m : Int) + 1 ≤ 24) = true := decide_eq_true (by omega)
          have c0 := K0.out.get m (by simp [shL]; omega)
          rw [shL, tab_get _ m (by omega), if_pos (by omega)] at c0
          have c2d : wr.drew.cell? ⟨G, m + 1, none⟩ = some (.int .i64 (((shL ns (m + 1)).getD (m + 1) 0 : Nat) : Int)) := K0.out.get (m + 1) (by simp [shL]; omega)
          generalize (shL ns (m + 1)).getD (m + 1) 0 = Z at c2d
          have c1 := K1.out.get m (by rw [HEL.out]; omega)
          rw [hall.out m (by omega)] at c1
          have hS := Lib.hid (sh_step ns m hlt)
          have hle : shortN ns m + evenN ns m ≤ 16777216 := by
            have e3 := short_succ ns m
            have e4 := (show CodeOk ns by rw [HN.out]; exact hC.out.code).short_le (m + 1) (by omega)
            omega
          have fz := K0.out.free (m + 1)
          generalize shortN ns m = S at c0 hS hle
          generalize evenN ns m = E at c1 hS hle
          have c0d : wr.drew.cell? ⟨G, m, none⟩ = some (.int .i64 (S : Int)) := c0
          have c1d : wr.drew.cell? ⟨w.heap.size + 1, m, none⟩ = some (.int .i64 (E : Int)) := c1
          have fzd : wr.drew.frozen? ⟨G, m + 1, none⟩ = false := fz
          have hw0 : IntKind.i64.wrap ((m : Int) + 1 - 1) = (m : Int) := by rw [IntKind.wrap_i64]; omega
          have hw1 : IntKind.i64.wrap (m : Int) = (m : Int) := by rw [IntKind.wrap_i64]; omega
          have hi1 : (0 : Int) ≤ (m : Int) := by omega
          have hi2 : (m : Int) < 25 := by omega
          have hi3 : (0 : Int) ≤ (m : Int) + 1 := by omega
          have hi4 : (m : Int) + 1 < 25 := by omega
          have hi5 : ((m : Int) + 1).toNat = m + 1 := by omega
          have hadd : IntKind.i64.wrap ((S : Int) + (E : Int)) = (S : Int) + (E : Int) := by rw [IntKind.wrap_i64]; omega
          go_wp2_with fail
          go_still_tail 11, (by kernel_rfl)
          repeat still_step
          change wpList _ _ _ _ _ wr.drew
          have D0 := Lib.hid K0.out.drew
          have D1 := Lib.hid K1.out.drew
          have D2 := Lib.hid K2.out.drew
          have DB := Lib.hid KB.out.drew
          clear K0 K1 K2 KB c0 c1 fz
          generalize wr.drew = wd at *
          go_wp2_with fail
          go_roundw
          case rel =>
            have := D0.out.set (m + 1) (S + E)
            rw [hS.out, Int.natCast_add] at this
            exact ⟨m + 1, by omega, by go_num, this, D1.out.other G _ _ (by omega), D2.out.other G _ _ (by omega), DB.out.setCell (by simp; omega) _⟩
          case measure => simp [intOf]; omega
        · have hm24 : m = 24 := by omega
          have dm : decide ((m : Int) + 1 ≤ 24) = false := decide_eq_false (by omega)
          have K3 : Hid (Nb wr G (beL ns)) := by
            have := K0.out
            rw [hm24, sh_end] at this
            exact this
          clear hm24 K0 hlt
          obtain ⟨T0, f0⟩ := K3.out
          obtain ⟨T2, f2⟩ := K2.out
          have F0 := Lib.hid f0
          have F2 := Lib.hid f2
          clear f0 f2
          go_wp2_with (first
            | ((with_reducible refine wpList_load_row ?_ 46 (.tmp 6) ?_ G ?_ T0 (nC (beL ns)).toArray (0, 0) _ F0.out Try.underlying46 ?_ (arr_info _ (by simp [beL])) ?_); rfl; rfl; rfl; rfl)
            | ((with_reducible refine wpList_store_row ?_ 46 (.tmp 2) (.tmp 37) ?_ w.heap.size (nC (beL ns)).toArray ?_ ?_ T2 _ F2.out (arr_info _ (by simp [beL])) ?_ (nC_one _) ?_); rfl; rfl; rfl; rfl; (simp [nC, beL])))
          exact bodyPost_ret (v := .agg (nC (beL ns)).toArray) (results_cell_row (h := Try.results25) _ _ w.heap.size T2 _ (0, 0) _ rfl (setRow_heap _ _ _ _ _ _ F2.out) Try.underlying46 rfl (arr_info _ (by simp [beL]))) rfl ⟨rfl, below_setRow KB.out (Nat.le_refl _) _⟩
end Go.Proofs.Ytjaeccealfeakaa
