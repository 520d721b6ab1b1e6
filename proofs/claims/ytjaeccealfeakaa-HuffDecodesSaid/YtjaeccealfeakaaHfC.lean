/- Walks of layer 12: Words. -/
import Derived.Test.YtjaeccealfeakaaHfB
set_option maxRecDepth 100000
set_option linter.unusedSimpArgs false
set_option linter.unusedVariables false
namespace Go.Proofs.Ytjaeccealfeakaa
open Go.RowKit

def posL (ns : List Nat) (k : Nat) : List Nat := (List.range 25).map fun n => posN ns n k
theorem posL_zero (ns : List Nat) : posL ns 0 = beL ns := by unfold posL beL; simp [pos_zero]
theorem posL_step (ns : List Nat) (k : Nat) (hk : k < ns.length) (n : Nat) (hn : ns.getD k 0 = n) : (posL ns k).set n (posN ns n k + roomN n) = posL ns (k + 1) := by
  have e : ns[k] = n := by rw [← hn, getD_of hk]
  have := tab_set (fun n => posN ns n k) (fun n => posN ns n (k + 1)) n (fun j hj hne => by
    simp only [pos_step ns j k hk]
    rw [if_neg (by rw [e]; exact fun x => hne x.symm)]; rfl)
  rw [pos_step ns n k hk, if_pos e] at this
  exact this
theorem posL_skip (ns : List Nat) (k : Nat) (hk : k < ns.length) (hn : ns.getD k 0 = 0) : posL ns (k + 1) = posL ns k := by
  have e : ns[k] = 0 := by rw [← hn, getD_of hk]
  unfold posL
  refine List.map_congr_left fun n hn => ?_
  rw [pos_step ns n k hk]
  by_cases h : ns[k] = n
  · rw [if_pos h, ← h, e]; rfl
  · rw [if_neg h]; rfl
/-- the words of the first k symbols -/
def wdL (ns : List Nat) (k : Nat) : List (Nat × Nat) := (wordsN ns).take k ++ List.replicate (ns.length - k) (0, 0)
theorem wdL_len (ns : List Nat) (k : Nat) (hk : k ≤ ns.length) : (wdL ns k).length = ns.length := by simp [wdL, words_len]; omega
theorem wdL_zero (ns : List Nat) : wdL ns 0 = List.replicate ns.length (0, 0) := by simp [wdL]
theorem wdL_end (ns : List Nat) : wdL ns ns.length = wordsN ns := by
  rw [wdL, Nat.sub_self, List.replicate_zero, List.append_nil, List.take_of_length_le (by rw [words_len]; omega)]
theorem wdL_set (ns : List Nat) (k : Nat) (hk : k < ns.length) : (wdL ns k).set k (wordN ns k) = wdL ns (k + 1) := by
  have l1 : ((wordsN ns).take k).length = k := by rw [List.length_take, words_len]; omega
  unfold wdL
  rw [List.set_append_right _ _ (by omega), l1, Nat.sub_self, show ns.length - k = (ns.length - (k + 1)) + 1 by omega, List.replicate_succ, List.set_cons_zero,
    List.take_succ_eq_append_getElem (by rw [words_len]; exact hk)]
  have : (wordsN ns)[k]'(by rw [words_len]; exact hk) = wordN ns k := by simp [wordsN]
  rw [this, List.append_assoc]; rfl
theorem wdL_skip (ns : List Nat) (k : Nat) (hk : k < ns.length) (hn : ns.getD k 0 = 0) : wdL ns (k + 1) = wdL ns k := by
  rw [← wdL_set ns k hk, word_zero hn]
  refine List.ext_getElem (by simp) fun j h1 h2 => ?_
  rw [List.getElem_set]
  by_cases e : k = j
  · subst e
    rw [if_pos rfl]
    have l1 : ((wordsN ns).take k).length = k := by rw [List.length_take, words_len]; omega
    simp only [wdL]
    rw [List.getElem_append_right (by omega)]
    simp
  · rw [if_neg e]

theorem words_no (v : Value) (ls : List Int) (w : World) (hr : Rd .i64 w v ls) (hc : ¬ RightL ls) : Calls Try.prog 10 #[v] w fun e w' => e = .returned (.tuple #[.slice none 0 0, .int .i64 1]) ∧ w = w' := by
  have H := Lib.hid (right_any v ls w hr)
  rw [decide_eq_false hc] at H
  clear hr hc
  go_enter Try.func10, Try.ntmps10
  go_wp2_with (go_at_call 14; refine H.out.mono ?_; rintro e w' ⟨rfl, rfl⟩)
  go_ret2
  exact ⟨rfl, rfl⟩

/-- WHAT IS ANSWERED OF A CODE THAT MAY BE: words of the call's own -/
def WdIs (T : TypeId) (w : World) (ns : List Nat) (e : Ending) (w' : World) : Prop := ∃ u, e = .returned (.tuple #[u, .int .i64 0]) ∧ OwnW T w' w.heap.size u (wordsN ns) ∧ Below w.heap.size w w'

set_option maxHeartbeats 4000000 in
theorem words_yes (v : Value) (ls : List Int) (w : World) (hr : Rd .i64 w v ls) (hc : RightL ls) : Calls Try.prog 10 #[v] w (WdIs 44 w (ls.map Int.toNat)) := by
  have H := Lib.hid (right_any v ls w hr)
  rw [decide_eq_true hc] at H
  have HG := Lib.hid (begin_any v ls w hr hc)
  have hrl := hc.1
  have hR := Lib.hid hr
  have hC := Lib.hid hc
  obtain ⟨va, vc, rfl⟩ := hr.isSlice
  obtain ⟨ns, hns⟩ : ∃ ns, ns = ls.map Int.toNat := ⟨_, rfl⟩
  rw [← hns] at HG ⊢
  have HN := Lib.hid hns
  have HNL : Hid (ns.length = ls.length) := by show _ = _; rw [hns, List.length_map]
  have HK : Hid (CodeOk ns) := by show CodeOk ns; rw [hns]; exact hc.code
  clear hr hc hns
  go_enter Try.func10, Try.ntmps10
  go_wp2_with (first
    | (go_at_call 14; refine H.out.mono ?_; rintro e w' ⟨rfl, rfl⟩)
    | (go_at_call 25; refine HG.out.mono ?_; rintro e w1 ⟨rfl, hb1⟩; have B1 := Lib.hid hb1; clear hb1)
    | ((with_reducible refine wpList_store_row ?_ 46 (.tmp 4) (.tmp 12) ?_ w1.heap.size (nC (beL ns)).toArray ?_ ?_ 46 _ (heap_alloc_new _ _) (arr_info _ (by simp [beL])) ?_ (nC_one _) ?_); rfl; rfl; rfl; rfl; (simp [nC, beL]))
    | ((with_reducible refine wpList_make_words _ ?_ (.tmp 14) (.tmp 14) 23 44 ?_ elemW Try.underlying23 ls.length ?_ ?_ hrl (w1.heap.size + 1) ?_ ?_); rfl; rfl; rfl; rfl; (simp); intro g w2 hg o2 g2; have O2 := Lib.hid o2; have G2 := Lib.hid g2; clear o2 g2))
  have hz1 : w.heap.size ≤ w1.heap.size := B1.out.size
  have hgl : g < w2.heap.size := by
    obtain ⟨T, h⟩ : ∃ T, w2.heap[g]? = some T := by
      rcases O2.out.2 with ⟨q, _⟩ | ⟨g', cap', cur, q, _, hq, _⟩
      · cases q
      · simp only [Value.slice.injEq, Option.some.injEq, Addr.mk.injEq, and_true] at q
        rw [q.1]; exact ⟨_, hq⟩
    exact (Array.getElem?_eq_some_iff.1 h).1
  have OO : Hid (OwnW 44 w2 w.heap.size (.slice (some ⟨g, 0, none⟩) ls.length ls.length) (wdL ns 0)) := by
    rw [wdL_zero, HNL.out]; exact O2.out.mono (by omega)
  have NB : Hid (Nb w2 w1.heap.size (posL ns 0)) := by
    rw [posL_zero]
    exact Cs.grown (⟨46, setRow_heap _ _ _ _ _ _ (heap_alloc_new _ _)⟩ : Cs _ w1.heap.size (nC (beL ns))) G2.out (by simp)
  have BB : Hid (Below w.heap.size w w2) := (below_setRow (B1.out.alloc hz1 _) hz1 _).grown G2.out (by simp; omega) (by simp)
  have hne : g ≠ w1.heap.size := by omega
  have hne2 : w1.heap.size ≠ g := by omega
  have hgg : w.heap.size ≤ g := by omega
  clear O2 G2 B1 HG H hgl
  generalize w1.heap.size = g1 at hne hne2 NB hz1 ⊢
  clear hg
  go_loopw [18] (fun i wr => ∃ k : Nat, k ≤ ls.length ∧ i = .int .i64 k ∧ Nb wr g1 (posL ns k) ∧ OwnW 44 wr w.heap.size (.slice (some ⟨g, 0, none⟩) ls.length ls.length) (wdL ns k) ∧ Below w.heap.size w wr) (fun i _ => ls.length - (intOf i).toNat)
  case atStart => exact ⟨0, Nat.zero_le _, rfl, NB.out, OO.out, BB.out⟩
  case round =>
    obtain ⟨k, hk, rfl, nb, oo, hb⟩ := hrel
    clear NB OO BB
    have NB := Lib.hid nb
    have OO := Lib.hid oo
    have BB := Lib.hid hb
    clear nb oo hb
    by_cases hlt : k < ls.length
    · obtain ⟨n, hn⟩ : ∃ n, n = ns.getD k 0 := ⟨_, rfl⟩
      have hx : ls.getD k 0 = (n : Int) := by rw [hC.out.at k hlt, hn, HN.out]
      have hn24 : n ≤ 24 := by rw [hn]; exact HK.out.at k
      have hkn : k < ns.length := by rw [HNL.out]; exact hlt
      have hcell : ∃ b o, va = some ⟨b, o, none⟩ ∧ wr.cell? ⟨b, o + k, none⟩ = some (.int .i64 (n : Int)) := by
        rcases hR.out.below BB.out with ⟨rfl, _⟩ | ⟨_, b, o, cp, he, h2, h3, h4, h5⟩
        · simp at hlt
        · simp only [Value.slice.injEq] at he
          exact ⟨b, o, he.1, by rw [← hx]; exact h5 _ hlt⟩
      obtain ⟨b, o, rfl, hcell⟩ := hcell
      by_cases h0 : n = 0
      · have h1 : Hid (posL ns (k + 1) = posL ns k ∧ wdL ns (k + 1) = wdL ns k) := ⟨posL_skip ns k hkn (by rw [← hn, h0]), wdL_skip ns k hkn (by rw [← hn, h0])⟩
        subst h0
        clear hn hx hkn
        go_wp2_with fail
        go_roundw
        case rel => exact ⟨k + 1, by omega, by go_num, by rw [h1.out.1]; exact NB.out, by rw [h1.out.2]; exact OO.out, BB.out⟩
        case measure => simp [intOf]; omega
      · have dn : decide ((n : Int) > 0) = true := decide_eq_true (by omega)
        have dn' : decide (n > 0) = true := decide_eq_true (by omega)
        have dn'' : decide (0 < n) = true := decide_eq_true (by omega)
        have h1 : Hid ((posL ns k).set n (posN ns n k + roomN n) = posL ns (k + 1)) := posL_step ns k hkn n hn.symm
        have h2 : Hid ((wdL ns k).set k (posN ns n k / 2 ^ (24 - n), n) = wdL ns (k + 1)) := by
          have := wdL_set ns k hkn
          rw [wordN, ← hn] at this; exact this
        have hwl := wdL_len ns k (by omega)
        have c0 := OO.out.at0 k (by omega)
        have c1 := OO.out.at1 k (by omega)
        have z0 := OO.out.fz (k * 2)
        have z1 := OO.out.fz (k * 2 + 1)
        have e0 := NB.out.get n (by simp [posL]; omega)
        rw [posL, tab_get _ n (by omega)] at e0
        have zf := NB.out.free n
        have hP : posN ns n k + roomN n ≤ 16777216 := by
          have e1 := pos_step ns n k hkn
          rw [if_pos (by rw [hn, getD_of])] at e1
          have e2 := pos_le ns n (k + 1)
          have e4 := HK.out.short_le (n + 1) (by omega)
          omega
        generalize posN ns n k = P at e0 hP h1 h2
        have hw : IntKind.i64.wrap (24 - (n : Int)) = ((24 - n : Nat) : Int) := by rw [IntKind.wrap_i64]; omega
        obtain ⟨X, hX⟩ : ∃ X, X = P / 2 ^ (24 - n) := ⟨_, rfl⟩
        rw [← hX] at h2
        have hdiv : (P : Int) / 2 ^ (24 - n) = (X : Int) := by rw [hX, Int.natCast_ediv]; simp
        have hadd : IntKind.i64.wrap ((P : Int) + ((roomN n : Nat) : Int)) = (P : Int) + ((roomN n : Nat) : Int) := by rw [IntKind.wrap_i64]; omega
        have hi1 : (0 : Int) ≤ (n : Int) := by omega
        have hi2 : (n : Int) < 25 := by omega
        have hgs : g < wr.heap.size := by have := OO.out.blt g rfl; omega
        have hgs1 : g1 < wr.heap.size := NB.out.lt
        have HL := Lib.hid hwl
        clear hn hx hkn hwl hX h0
        go_upto_region 10 with fail
        have A1 := Lib.hid (OO.out.set k X n)
        rw [h2.out] at A1
        have A2 := Lib.hid ((NB.out.other g (k * 2) (.int .i64 (X : Int)) hne2).other g (k * 2 + 1) (.int .i64 (n : Int)) hne2)
        have A3 := Lib.hid ((BB.out.setCell (p := ⟨g, k * 2, none⟩) hgg (.int .i64 (X : Int))).setCell (p := ⟨g, k * 2 + 1, none⟩) hgg (.int .i64 (n : Int)))
        have e0' := A2.out.get n (by simp [posL]; omega)
        have hq : (posL ns k).getD n 0 = P := by
          have a := NB.out.get n (by simp [posL]; omega)
          rw [e0] at a
          have e := (Value.int.inj (Option.some.inj a)).2
          omega
        rw [hq] at e0'
        clear hq c0 c1 z0 z1 e0 zf
        generalize (wr.setCell ⟨g, k * 2, none⟩ _).setCell ⟨g, k * 2 + 1, none⟩ _ = w3 at A1 A2 A3 e0' ⊢
        have zf := A2.out.free n
        have e0d : w3.drew.cell? ⟨g1, n, none⟩ = some (.int .i64 (P : Int)) := e0'
        have zfd : w3.drew.frozen? ⟨g1, n, none⟩ = false := zf
        go_still_tail 7, (by kernel_rfl)
        still_call ((room_any n hn24 w3.drew).mono fun e w' h => ⟨h.1, h.2.symm⟩)
        repeat still_step
        change wpList _ _ _ _ _ w3.drew
        have D1 : Hid (OwnW 44 w3.drew w.heap.size (.slice (some ⟨g, 0, none⟩) ls.length ls.length) (wdL ns (k + 1))) := A1.out
        have D2 := Lib.hid A2.out.drew
        have DB := Lib.hid A3.out.drew
        clear A1 A2 A3 e0' zf
        generalize w3.drew = wd at *
        go_wp2_with fail
        go_roundw
        case rel =>
          have := D2.out.set n (P + roomN n)
          rw [h1.out, Int.natCast_add] at this
          exact ⟨k + 1, by omega, by go_num, this, D1.out.kept (grown_set g1 n wd _) (by intro j hj; cases hj; simpa using hne2), DB.out.setCell (by simp; omega) _⟩
        case measure => simp [intOf]; omega
    · have hend : k = ls.length := by omega
      have dl : decide ((k : Int) < (ls.length : Int)) = false := decide_eq_false (by omega)
      have dl' : decide (k < ls.length) = false := decide_eq_false (by omega)
      have O3 : Hid (OwnW 44 wr w.heap.size (.slice (some ⟨g, 0, none⟩) ls.length ls.length) (wordsN ns)) := by
        have := OO.out
        rw [hend, ← HNL.out, wdL_end, HNL.out] at this
        exact this
      clear hend OO
      go_wp2_with fail
      go_ret2
      exact ⟨_, rfl, O3.out, BB.out⟩
end Go.Proofs.Ytjaeccealfeakaa
