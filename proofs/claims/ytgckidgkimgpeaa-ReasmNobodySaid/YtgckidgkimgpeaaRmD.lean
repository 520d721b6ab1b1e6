/- Walks of layer 9: forget. -/
import Derived.Test.YtgckidgkimgpeaaRmC
import Derived.StillTailTactics
set_option linter.unusedSimpArgs false
set_option linter.unusedVariables false
namespace Go.Proofs.Ytgckidgkimgpeaa
open Go.RowKit

theorem src_cs {w : World} {g : Nat} {cur : List Value} (h : Cs w g cur) (n : Nat) : ∀ j v, (cur.drop n)[j]? = some v → w.cell? ((⟨g, n, none⟩ : Addr).add j) = some v := by
  intro j v hv
  rw [List.getElem?_drop] at hv
  rw [Addr.add_lit]
  exact h.get _ _ hv
theorem u8_size : (Try.prog.info? 5).map (·.size) = some 1 := by kernel_rfl
theorem bool_size : (Try.prog.info? 4).map (·.size) = some 1 := by kernel_rfl
theorem drop_shift (came : List Bool) (n : Nat) (h : n ≤ came.length) : splice (splice came 0 (came.drop n)) (came.length - n) (List.replicate n false) = came.drop n ++ List.replicate n false := by
  have e : splice came 0 (came.drop n) = came.drop n ++ came.drop (came.length - n) := by simp [splice, List.length_drop]
  rw [e]
  unfold splice
  have l1 : (came.drop n).length = came.length - n := List.length_drop
  rw [← l1, List.take_left, List.length_replicate, List.drop_append, l1]
  have e2 : (came.drop (came.length - n)).drop (came.length - n + n - (came.length - n)) = [] := List.drop_eq_nil_of_le (by rw [List.length_drop]; omega)
  have e3 : (came.drop n).drop (came.length - n + n) = [] := List.drop_eq_nil_of_le (by rw [l1]; omega)
  rw [e2, e3]; simp
set_option maxRecDepth 100000 in
set_option maxHeartbeats 3200000 in
theorem forget_any (b r m : Nat) (q : St) (n : Nat) (w : World) (hq : Ok q) (h : Str b r m q w) (hn : 1 ≤ n) (hl : n ≤ q.row.length) (hb : q.p + n ≤ 4611686018427387903) :
    Calls Try.prog 26 #[.pointer (some ⟨b, 0, none⟩), .int .i64 n] w fun e w' => e = .returned (.tuple #[]) ∧ Str b r m (dropE q n) w' ∧ Keep [b, r, m] w w' := by
  obtain ⟨c0, c1, c2, -⟩ := h.fields.facts
  have hc := hq.len
  have hf := hq.few
  have HF := Lib.hid h.fields
  have HR := Lib.hid h.row
  have HC := Lib.hid h.came
  obtain ⟨n1, n2, n3⟩ := h.ne
  have HNE := Lib.hid h.ne
  obtain ⟨row, came, p, top, e, br⟩ := q
  simp only at c0 c1 c2 hc hf hl HF HR HC hb
  rw [← hc] at c0 c1 hl hf HF
  have hi1 : (n : Int) ≤ (came.length : Int) := by omega
  have hi2 : (0 : Int) ≤ (n : Int) := by omega
  have HL := Lib.hid hc
  have hwp : IntKind.i64.wrap ((p : Int) + (n : Int)) = (p : Int) + (n : Int) := wraps_i64' _ (by omega) (by omega)
  have hwl : IntKind.i64.wrap ((came.length : Int) - (n : Int)) = (came.length : Int) - (n : Int) := wraps_i64' _ (by omega) (by omega)
  have hz := bools_oneCell
  have HLR : Hid ((row.map (Value.int .u8)).length = came.length) := by rw [List.length_map]; exact hc.symm
  have HLC : Hid ((came.map Value.bool).length = came.length) := List.length_map _
  clear h hq hc
  by_cases hlt : n < came.length
  · have hne : ¬ came.length = n := by omega
    go_enter Try.func26, Try.ntmps26
    go_wp2_with fail
    go_still_tail 10, (by kernel_rfl)
    change wpList _ _ _ _ _ w.drew
    refine wpList_copy_cs _ rfl (.tmp 7) (.tmp 13) 22 22 rfl 5 Try.underlying22 u8_size r 0 came.length came.length (came.length - n) (came.length - n) ⟨r, n, none⟩ (by simp [Act.eval, Act.put]) (by simp [Act.eval, Act.put, *]) (row.map (Value.int .u8)) HR.out ((row.map (Value.int .u8)).drop n) (by rw [List.length_drop, HLR.out]; simp) (fun _ => src_cs HR.out n) (by rw [List.length_drop]; omega) (fun v hv => ints_oneCell .u8 row v (List.mem_of_mem_drop hv)) ?_
    intro w1 hr1 hg1
    have HR1 := Lib.hid hr1.out
    have HG1 : Hid (w.grownBy w1 (some r)) := ⟨hg1.os, hg1.tape, hg1.output, hg1.size, hg1.block⟩
    have HF1 := Lib.hid (Cs.grown HF.out HG1.out (by simpa using n1))
    have HC1 := Lib.hid (HC.out.grown HG1.out (by simpa using Ne.symm n3))
    obtain ⟨d0, d1, d2, -⟩ := StrC.facts HF1.out
    clear hr1 hg1 c0 c1 c2
    go_wp2_with fail
    go_still_tail 10, (by kernel_rfl)
    change wpList _ _ _ _ _ w1.drew
    refine wpList_copy_cs _ rfl (.tmp 18) (.tmp 24) 43 43 rfl 4 Try.underlying43 bool_size m 0 came.length came.length (came.length - n) (came.length - n) ⟨m, n, none⟩ (by simp [Act.eval, Act.put]) (by simp [Act.eval, Act.put, *]) (came.map Value.bool) HC1.out ((came.map Value.bool).drop n) (by rw [List.length_drop, HLC.out]; simp) (fun _ => src_cs HC1.out n) (by rw [List.length_drop]; omega) (fun v hv => bools_oneCell came v (List.mem_of_mem_drop hv)) ?_
    intro w2 hr2 hg2
    have HC2 : Hid (Cs w2 m ((splice came 0 (came.drop n)).map Value.bool)) := by
      show _; rw [map_splice, List.map_drop]; exact hr2.out
    have HG2 : Hid (w1.grownBy w2 (some m)) := ⟨hg2.os, hg2.tape, hg2.output, hg2.size, hg2.block⟩
    have HF2 := Lib.hid (Cs.grown HF1.out HG2.out (by simpa using n2))
    have HR2 := Lib.hid (HR1.out.grown HG2.out (by simpa using n3))
    obtain ⟨e0, e1, e2, -⟩ := StrC.facts HF2.out
    clear hr2 hg2 d0 d1 d2
    have hs1 : (0 : Int) ≤ (came.length : Int) - (n : Int) := by omega
    have hs2 : (came.length : Int) - (n : Int) ≤ (came.length : Int) := by omega
    have hs3 : ((came.length : Int) - (n : Int)).toNat = came.length - n := by omega
    have hs4 : ¬ came.length = came.length - n := by omega
    have hs5 : came.length - (came.length - n) = n := by omega
    go_wp2_with fail
    go_still_tail 12, (by kernel_rfl)
    change wpList _ _ _ _ _ w2.drew
    refine wpList_clear_cs _ rfl (.tmp 37) 43 rfl 4 (.bool false) Try.underlying43 Try.zeroValue4 rfl rfl m (came.length - n) n n (by simp [Act.eval, Act.put, *]) hn ((splice came 0 (came.drop n)).map Value.bool) HC2.out (by simp [splice]; omega) ?_
    intro w3 hr3 hg3
    have HC3 : Hid (Cs w3 m ((came.drop n ++ List.replicate n false).map Value.bool)) := by
      show _; rw [← drop_shift came n hl, map_splice, rep_map]; exact hr3.out
    have HG3 : Hid (w2.grownBy w3 (some m)) := ⟨hg3.os, hg3.tape, hg3.output, hg3.size, hg3.block⟩
    have HF3 := Lib.hid (Cs.grown HF2.out HG3.out (by simpa using n2))
    have HR3 := Lib.hid (HR2.out.grown HG3.out (by simpa using n3))
    obtain ⟨x0, x1, x2, -⟩ := StrC.facts HF3.out
    obtain ⟨z2, -⟩ := StrC.free HF3.out
    clear hr3 hg3 e0 e1 e2
    go_wp2_with fail
    go_end0
    refine ⟨rfl, ⟨?_, ?_, ?_, HNE.out⟩, ?_⟩
    · have := HF3.out.set 2 (.int .i64 ((p : Int) + (n : Int)))
      have el : (splice row 0 (row.drop n)).length = came.length := by rw [length_splice _ _ _ (by rw [List.length_drop]; have := HL.out; omega)]; exact HL.out.symm
      unfold StrC dropE
      rw [el]
      exact this
    · show Cs _ r ((splice row 0 (row.drop n)).map _)
      rw [map_splice, List.map_drop]
      exact HR3.out.keep (keep_set b 2 w3 _) (by simp; exact Ne.symm n1)
    · exact HC3.out.keep (keep_set b 2 w3 _) (by simp; exact Ne.symm n2)
    · have k1 : Keep [b, r, m] w w1 := Keep.of_grown HG1.out (fun j hj => .inl (by cases hj; simp))
      have k2 : Keep [b, r, m] w1 w2 := Keep.of_grown HG2.out (fun j hj => .inl (by cases hj; simp))
      have k3 : Keep [b, r, m] w2 w3 := Keep.of_grown HG3.out (fun j hj => .inl (by cases hj; simp))
      exact ((k1.trans k2 (fun i hi => .inl hi)).trans k3 (fun i hi => .inl hi)).trans (keep_set b 2 w3 _) (fun i hi => .inl (by simp at hi; simp [hi]))
  · obtain rfl : n = came.length := by omega
    clear hi1 hlt hwl
    have hwl1 : IntKind.i64.wrap 0 = 0 := by decide
    have hwl0 : (came.length : Int) - (came.length : Int) = 0 := by omega
    go_enter Try.func26, Try.ntmps26
    go_wp2_with fail
    go_still_tail 10, (by kernel_rfl)
    change wpList _ _ _ _ _ w.drew
    refine wpList_copy_cs _ rfl (.tmp 7) (.tmp 13) 22 22 rfl 5 Try.underlying22 u8_size r 0 came.length came.length 0 0 ⟨r, 0, none⟩ (by simp [Act.eval, Act.put]) (by simp [Act.eval, Act.put, *]) (row.map (Value.int .u8)) HR.out ((row.map (Value.int .u8)).drop came.length) (by rw [List.length_drop, HLR.out]; simp) (fun h => by rw [List.length_drop, HLR.out] at h; omega) (by rw [List.length_drop]; omega) (fun v hv => ints_oneCell .u8 row v (List.mem_of_mem_drop hv)) ?_
    intro w1 hr1 hg1
    have HR1 := Lib.hid hr1.out
    have HG1 : Hid (w.grownBy w1 (some r)) := ⟨hg1.os, hg1.tape, hg1.output, hg1.size, hg1.block⟩
    have HF1 := Lib.hid (Cs.grown HF.out HG1.out (by simpa using n1))
    have HC1 := Lib.hid (HC.out.grown HG1.out (by simpa using Ne.symm n3))
    obtain ⟨d0, d1, d2, -⟩ := StrC.facts HF1.out
    clear hr1 hg1 c0 c1 c2
    go_wp2_with fail
    go_still_tail 10, (by kernel_rfl)
    change wpList _ _ _ _ _ w1.drew
    refine wpList_copy_cs _ rfl (.tmp 18) (.tmp 24) 43 43 rfl 4 Try.underlying43 bool_size m 0 came.length came.length 0 0 ⟨m, 0, none⟩ (by simp [Act.eval, Act.put]) (by simp [Act.eval, Act.put, *]) (came.map Value.bool) HC1.out ((came.map Value.bool).drop came.length) (by rw [List.length_drop, HLC.out]; simp) (fun h => by rw [List.length_drop, HLC.out] at h; omega) (by rw [List.length_drop]; omega) (fun v hv => bools_oneCell came v (List.mem_of_mem_drop hv)) ?_
    intro w2 hr2 hg2
    have HC2 : Hid (Cs w2 m ((splice came 0 (came.drop came.length)).map Value.bool)) := by
      show _; rw [map_splice, List.map_drop]; exact hr2.out
    have HG2 : Hid (w1.grownBy w2 (some m)) := ⟨hg2.os, hg2.tape, hg2.output, hg2.size, hg2.block⟩
    have HF2 := Lib.hid (Cs.grown HF1.out HG2.out (by simpa using n2))
    have HR2 := Lib.hid (HR1.out.grown HG2.out (by simpa using n3))
    obtain ⟨e0, e1, e2, -⟩ := StrC.facts HF2.out
    clear hr2 hg2 d0 d1 d2
    have hs4 : ¬ came.length = 0 := by omega
    go_wp2_with fail
    go_still_tail 12, (by kernel_rfl)
    change wpList _ _ _ _ _ w2.drew
    refine wpList_clear_cs _ rfl (.tmp 37) 43 rfl 4 (.bool false) Try.underlying43 Try.zeroValue4 rfl rfl m 0 came.length came.length (by simp [Act.eval, Act.put, *]) hn ((splice came 0 (came.drop came.length)).map Value.bool) HC2.out (by simp [splice]) ?_
    intro w3 hr3 hg3
    have HC3 : Hid (Cs w3 m ((came.drop came.length ++ List.replicate came.length false).map Value.bool)) := by
      show _; rw [← drop_shift came came.length hl, map_splice, rep_map, Nat.sub_self]; exact hr3.out
    have HG3 : Hid (w2.grownBy w3 (some m)) := ⟨hg3.os, hg3.tape, hg3.output, hg3.size, hg3.block⟩
    have HF3 := Lib.hid (Cs.grown HF2.out HG3.out (by simpa using n2))
    have HR3 := Lib.hid (HR2.out.grown HG3.out (by simpa using n3))
    obtain ⟨x0, x1, x2, -⟩ := StrC.facts HF3.out
    obtain ⟨z2, -⟩ := StrC.free HF3.out
    clear hr3 hg3 e0 e1 e2
    go_wp2_with fail
    go_end0
    refine ⟨rfl, ⟨?_, ?_, ?_, HNE.out⟩, ?_⟩
    · have := HF3.out.set 2 (.int .i64 ((p : Int) + (came.length : Int)))
      have el : (splice row 0 (row.drop came.length)).length = came.length := by rw [length_splice _ _ _ (by rw [List.length_drop]; have := HL.out; omega)]; exact HL.out.symm
      unfold StrC dropE
      rw [el]
      exact this
    · show Cs _ r ((splice row 0 (row.drop came.length)).map _)
      rw [map_splice, List.map_drop]
      exact HR3.out.keep (keep_set b 2 w3 _) (by simp; exact Ne.symm n1)
    · exact HC3.out.keep (keep_set b 2 w3 _) (by simp; exact Ne.symm n2)
    · have k1 : Keep [b, r, m] w w1 := Keep.of_grown HG1.out (fun j hj => .inl (by cases hj; simp))
      have k2 : Keep [b, r, m] w1 w2 := Keep.of_grown HG2.out (fun j hj => .inl (by cases hj; simp))
      have k3 : Keep [b, r, m] w2 w3 := Keep.of_grown HG3.out (fun j hj => .inl (by cases hj; simp))
      exact ((k1.trans k2 (fun i hi => .inl hi)).trans k3 (fun i hi => .inl hi)).trans (keep_set b 2 w3 _) (fun i hi => .inl (by simp at hi; simp [hi]))
end Go.Proofs.Ytgckidgkimgpeaa
