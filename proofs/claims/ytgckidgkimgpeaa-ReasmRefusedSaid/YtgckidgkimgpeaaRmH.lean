/- Walks of layer 9: Read. -/
import Derived.Test.YtgckidgkimgpeaaRmG
set_option linter.unusedSimpArgs false
set_option linter.unusedVariables false
namespace Go.Proofs.Ytgckidgkimgpeaa
open Go.RowKit

/-- v IS A ROW OF THE CALL's OWN (from block B on) THAT HOLDS ys, or nil -/
def Given (w : World) (B : Nat) (v : Value) (ys : List Int) : Prop :=
  ys.length ≤ 4096 ∧ ((ys = [] ∧ v = .slice none 0 0) ∨ (ys ≠ [] ∧ ∃ g, v = .slice (some ⟨g, 0, none⟩) ys.length ys.length ∧ B ≤ g ∧ Cs w g (ys.map (Value.int .u8))))
theorem Given.shape {w : World} {B : Nat} {v : Value} {ys : List Int} (h : Given w B v ys) : ∃ a c, v = .slice a ys.length c := by
  obtain ⟨_, ⟨rfl, rfl⟩ | ⟨_, g, rfl, _⟩⟩ := h
  · exact ⟨_, _, rfl⟩
  · exact ⟨_, _, rfl⟩
theorem Given.rd {w : World} {B : Nat} {v : Value} {ys : List Int} (h : Given w B v ys) : Rd .u8 w v ys := by
  obtain ⟨hl, ⟨rfl, rfl⟩ | ⟨h0, g, rfl, _, hc⟩⟩ := h
  · exact Rd.nil _ _
  · refine .inr ⟨h0, g, 0, ys.length, rfl, Nat.le_refl _, by unfold maxLen; omega, hc.lt, fun i hi => ?_⟩
    rw [Nat.zero_add]
    refine hc.get i _ ?_
    rw [getD_lt hi]; simp [hi]
theorem Given.blk {w : World} {B : Nat} {v : Value} {ys : List Int} (h : Given w B v ys) : ∀ j, v.ownBlock = some j → B ≤ j ∧ j < w.heap.size := by
  obtain ⟨_, ⟨rfl, rfl⟩ | ⟨_, g, rfl, hb, hc⟩⟩ := h
  · intro j hj; cases hj
  · intro j hj
    simp only [Value.ownBlock, Option.some.injEq] at hj; subst hj
    exact ⟨hb, hc.lt⟩
theorem Given.keep {S : List Nat} {w w' : World} {B : Nat} {v : Value} {ys : List Int} (h : Given w B v ys) (k : Keep S w w') (hn : ∀ j, v.ownBlock = some j → j ∉ S) : Given w' B v ys := by
  obtain ⟨hl, h | ⟨h0, g, rfl, hb, hc⟩⟩ := h
  · exact ⟨hl, .inl h⟩
  · exact ⟨hl, .inr ⟨h0, g, rfl, hb, hc.keep k (hn g rfl)⟩⟩
theorem Given.below {w w' : World} {B : Nat} {v : Value} {ys : List Int} (h : Given w B v ys) (k : Below w.heap.size w w') : Given w' B v ys := h.keep (Keep.of_below (S := []) k) (by simp)

theorem src_take {w : World} {g : Nat} {cur : List Value} (h : Cs w g cur) (n : Nat) : ∀ j v, (cur.take n)[j]? = some v → w.cell? ((⟨g, 0, none⟩ : Addr).add j) = some v := by
  intro j v hv
  rw [Addr.add_lit, Nat.zero_add]
  refine h.get _ _ ?_
  rw [List.getElem?_take] at hv
  split at hv
  · exact hv
  · cases hv
set_option maxRecDepth 100000 in
set_option maxHeartbeats 6400000 in
theorem read_any (b r m : Nat) (q : St) (n : Int) (w : World) (hq : Ok q) (h : Str b r m q w) :
    Calls Try.prog 11 #[.pointer (some ⟨b, 0, none⟩), .int .i64 n] w fun e w' => ∃ v, e = .returned v ∧ Given w' w.heap.size v (readE q n).2 ∧ Does b r m (readE q n).1 w w' := by
  have HR := Lib.hid (ready_any w hq h)
  have HH := Lib.hid h
  have hrl := hq.ready_le
  have hfew := hq.few
  obtain ⟨M, hM⟩ : ∃ M : Int, M = min n (readyN q : Int) := ⟨_, rfl⟩
  have HMin := Lib.hid hM
  have HE1 : Hid (M < 1 → readE q n = (q, [])) := fun h1 => by unfold readE; rw [← hM]; exact if_pos h1
  have HE2 : Hid (∀ k : Nat, M = (k : Int) → 1 ≤ k → readE q n = (dropE q k, q.row.take k)) := fun k h1 h2 => by
    unfold readE; rw [← hM, if_neg (by omega), h1, Int.toNat_natCast]
  have hM1 : M ≤ (q.row.length : Int) := by omega
  have HMr : Hid (M ≤ (readyN q : Int)) := by show M ≤ _; omega
  obtain ⟨rn, hrn⟩ : ∃ rn, rn = readyN q := ⟨_, rfl⟩
  rw [← hrn] at HR HMin
  clear hM hrl
  go_enter Try.func11, Try.ntmps11
  go_upto_region 1 with fail
  go_cut [1] (fun v wc => v = .int .i64 M ∧ wc = w)
  case first =>
    clear h hq
    go_wp2_with (go_at_call 17; refine HR.out.mono ?_; rintro e w2 ⟨rfl, h⟩; obtain rfl : w = w2 := h.symm)
    all_goals
      go_meet
      refine ⟨?_, rfl⟩
      have hh := HMin.out
      congr 1
      omega
  case rest =>
    obtain ⟨rfl, hcw⟩ := hcut
    obtain rfl := hcw.symm
    by_cases h1 : M < 1
    · have HE := Lib.hid (HE1.out h1)
      have e1 : decide (M < 1) = true := decide_eq_true h1
      clear h hq h1 hrn
      go_wp2_with fail
      go_ret
      rw [HE.out]
      exact ⟨_, rfl, ⟨by simp, .inl ⟨rfl, rfl⟩⟩, Does.same HH.out⟩
    · have e1 : decide (M < 1) = false := decide_eq_false h1
      obtain ⟨k, hk⟩ : ∃ k : Nat, M = (k : Int) := ⟨M.toNat, by omega⟩
      have hk1 : 1 ≤ k := by omega
      have HE := Lib.hid (HE2.out k hk hk1)
      clear HE1 HE2
      subst hk
      have hkl : k ≤ q.row.length := by omega
      have hk2 : k ≤ 4096 := by omega
      have hmk := makeU8 k hk2 w
      have a1 := Cs.made' w (.int .u8 0) k 5
      have HA1 := Lib.hid a1
      have HS1 := Lib.hid (h.below (below1 w (.cells (madeCells #[.int .u8 0] k) 5)))
      have HB1 := Lib.hid (below1 w (.cells (madeCells #[.int .u8 0] k) 5))
      obtain ⟨d0, _, _, _, _, _⟩ := HS1.out.fields.facts
      have hlb := h.lt
      have HF := Lib.hid (fun W (hW : Str b r m q W) => forget_any b r m q k W hq hW hk1 hkl (by
        have h2 := hq.big
        have h3 := hq.cm (k - 1) (lead_lt true false q.came (k - 1) (by have := HMr.out; unfold readyN at this; omega))
        omega))
      have HLr : Hid ((q.row.map (Value.int .u8)).length = q.row.length) := List.length_map _
      have HMn : Hid (((q.row.map (Value.int .u8)).take k).length = Nat.min q.row.length k) := by
        show _ = _
        rw [List.length_take, HLr.out]; exact (Nat.min_eq_left hkl).trans (Nat.min_eq_right hkl).symm
      have HSr : Hid (0 < ((q.row.map (Value.int .u8)).take k).length → ∀ j v, ((q.row.map (Value.int .u8)).take k)[j]? = some v → (w.alloc (.cells (madeCells #[.int .u8 0] k) 5)).cell? ((⟨r, 0, none⟩ : Addr).add j) = some v) := fun _ => src_take HS1.out.row k
      have HSp : Hid (splice (List.replicate k (Value.int .u8 0)) 0 ((q.row.map (Value.int .u8)).take k) = (q.row.take k).map (Value.int .u8)) := by
        show _ = _
        have l1 : ((q.row.map (Value.int .u8)).take k).length = k := by rw [List.length_take, HLr.out]; omega
        unfold splice
        rw [l1, List.drop_eq_nil_of_le (by simp), List.append_nil, List.take_zero, List.nil_append, List.map_take]
      have HFi : Hid (0 + ((q.row.map (Value.int .u8)).take k).length ≤ (List.replicate k (Value.int .u8 0)).length) := by
        show _ ≤ _
        rw [List.length_take, HLr.out, List.length_replicate]; omega
      clear h hq h1 hrn e1 a1
      have e1 : decide ((k : Int) < 1) = false := decide_eq_false (by omega)
      have hnb : w.heap.size ≠ b ∧ w.heap.size ≠ r ∧ w.heap.size ≠ m := ⟨by omega, by omega, by omega⟩
      have HNB := Lib.hid hnb
      have i1 : (0 : Int) ≤ (k : Int) := by omega
      clear hlb hnb
      go_wp2_with (first
        | (with_reducible refine wpList_copy_cs _ rfl (.tmp 14) (.tmp 18) 22 22 rfl 5 Try.underlying22 u8_size w.heap.size 0 k k q.row.length q.row.length ⟨r, 0, none⟩ (by simp [Act.eval, Act.put]) (by simp [Act.eval, Act.put]) (List.replicate k (.int .u8 0)) HA1.out ((q.row.map (Value.int .u8)).take k) HMn.out HSr.out HFi.out (fun v hv => ints_oneCell .u8 q.row v (List.mem_of_mem_take hv)) ?_
           intro w2 hr2 hg2
           have HG2 : Hid (Cs w2 w.heap.size ((q.row.take k).map (Value.int .u8))) := by
             have := hr2.out
             rw [HSp.out] at this
             exact this
           have HS2 := Lib.hid (HS1.out.keep (S := [w.heap.size]) (Keep.of_grown hg2 (fun j hj => .inl (by cases hj; simp))) (by simp; exact Ne.symm HNB.out.1) (by simp; exact Ne.symm HNB.out.2.1) (by simp; exact Ne.symm HNB.out.2.2))
           have HK2 : Hid (Keep [b, r, m] w w2) := (Keep.of_below HB1.out).trans (S' := [w.heap.size]) (Keep.of_grown hg2 (fun j hj => .inl (by cases hj; simp))) (fun i hi => .inr (by simp at hi; omega))
           clear hr2 hg2)
        | (go_at_call 26; refine (HF.out _ HS2.out).mono ?_; rintro e w3 ⟨rfl, hS3, hK3⟩))
      go_ret
      rw [HE.out]
      have hl : (q.row.take k).length = k := by rw [List.length_take]; omega
      have hG : Given w3 w.heap.size (.slice (some ⟨w.heap.size, 0, none⟩) k k) (q.row.take k) := by
        refine ⟨by rw [hl]; omega, .inr ⟨fun e => ?_, w.heap.size, by rw [hl], Nat.le_refl _, HG2.out.keep hK3 (by simp; exact HNB.out)⟩⟩
        rw [e] at hl; simp at hl; omega
      exact ⟨_, rfl, hG, hS3, HK2.out.trans hK3 (fun i hi => .inl hi)⟩
end Go.Proofs.Ytgckidgkimgpeaa
