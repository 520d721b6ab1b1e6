/- Layer 9: what is read are the bytes of a text: the mathematics. -/
import Derived.Test.YtgckidgkimgpeaaRmM
set_option linter.unusedSimpArgs false
set_option linter.unusedVariables false
namespace Go.Proofs.Ytgckidgkimgpeaa
open Go.RowKit

/-- all that came of this stream are bytes of xs, where they stand -/
structure Bk (xs : List Int) (q : St) : Prop where
  row : q.row.length = 4096
  nb : q.br = false
  e : q.e = -1 ∨ q.e = (xs.length : Int)
  top : q.top ≤ xs.length
  at_ : ∀ i, q.came.getD i false = true → q.row.getD i 0 = xs.getD (q.p + i) 0
theorem bk_fresh (xs : List Int) : Bk xs (fresh 4096) :=
  ⟨List.length_replicate, rfl, .inl rfl, Nat.zero_le _, fun i hi => by simp only [fresh] at hi; rw [getD_rep'] at hi; cases hi⟩
theorem Bk.left {xs : List Int} {q : St} (h : Bk xs q) (hq : Ok q) : q.p ≤ xs.length := Nat.le_trans hq.pt h.top
theorem bk_data {xs : List Int} {q : St} (h : Bk xs q) (hq : Ok q) (hx : xs.length ≤ 4096) (f m : Nat) (hf : f + m ≤ xs.length) (fin : Bool) (hfin : fin = true → f + m = xs.length) :
    (dataE q f ((xs.drop f).take m) fin).2 = 0 ∧ Bk xs (dataE q f ((xs.drop f).take m) fin).1 ∧ (dataE q f ((xs.drop f).take m) fin).1.p = q.p ∧ (fin = true → (dataE q f ((xs.drop f).take m) fin).1.e = (xs.length : Int)) ∧
      ∀ i, (f ≤ q.p + i ∧ q.p + i < f + m) ∨ q.came.getD i false = true → i < 4096 → (dataE q f ((xs.drop f).take m) fin).1.came.getD i false = true := by
  have hlen : ((xs.drop f).take m).length = m := by rw [List.length_take, List.length_drop]; omega
  have hE : dataE q f ((xs.drop f).take m) fin = ({ takeE q f ((xs.drop f).take m) with e := if fin = true then (f : Int) + m else q.e }, 0) := by
    unfold dataE
    rw [hlen, if_neg (by rw [within_iff.2 ⟨by omega, by omega⟩]; decide), if_neg (by rw [h.nb]; decide), if_neg (by rw [h.row]; omega), if_neg, Int.toNat_natCast]
    rintro (⟨h1, h2⟩ | ⟨h1, h2⟩)
    · rcases h.e with h3 | h3 <;> omega
    · have := hfin h1
      have ht := h.top
      have : mayEndB q ((f : Int) + (m : Int)) = true := by
        unfold mayEndB
        rw [decide_eq_true (by omega : (q.top : Int) ≤ (f : Int) + m), Bool.true_and]
        rcases h.e with h3 | h3
        · rw [decide_eq_true h3, Bool.or_true]
        · rw [decide_eq_true (by omega : (f : Int) + (m : Int) = q.e), Bool.true_or]
      rw [this] at h2; cases h2
  rw [hE]
  have hcl := hq.len
  have hrow := h.row
  refine ⟨rfl, ⟨?_, ?_, ?_, ?_, ?_⟩, take_p _ _, ?_, ?_⟩
  · show (takeE q f _).row.length = 4096
    rw [take_row]; exact h.row
  · show (takeE q f _).br = false
    rw [take_br]; exact h.nb
  · show (if fin = true then (f : Int) + m else q.e) = -1 ∨ (if fin = true then (f : Int) + m else q.e) = (xs.length : Int)
    split
    · rename_i hf1; have := hfin hf1; exact .inr (by omega)
    · exact h.e
  · show (takeE q f _).top ≤ xs.length
    have := (take_top (q := q) f ((xs.drop f).take m)).2
    rw [hlen] at this
    have := h.top; omega
  · intro i hi
    show (takeE q f ((xs.drop f).take m)).row.getD i 0 = xs.getD ((takeE q f ((xs.drop f).take m)).p + i) 0
    rw [take_p]
    have hi' : (takeE q f ((xs.drop f).take m)).came.getD i false = true := hi
    unfold takeE at hi' ⊢
    split at hi'
    · rename_i hb; rw [if_pos hb]; exact h.at_ i hi'
    · rename_i hb
      rw [if_neg hb]
      simp only at hi' ⊢
      have hil : i < q.came.length := by
        rcases Nat.lt_or_ge i q.came.length with h1 | h1
        · exact h1
        · rw [getD_ge (by rw [mixC_len]; exact h1)] at hi'; cases hi'
      rw [mixC_get hil, hlen] at hi'
      rw [mixR_get (by omega), hlen]
      by_cases hc : q.came.getD i false = true
      · rw [if_pos hc]; exact h.at_ i hc
      · rw [if_neg hc]
        have hr : f ≤ q.p + i ∧ q.p + i < f + m := by
          rw [ff_of hc, Bool.false_or] at hi'
          exact of_decide_eq_true hi'
        rw [if_pos hr, getD_take _ _ _ _ (by omega), getD_drop, show f + (q.p + i - f) = q.p + i by omega]
  · intro hf1
    show (if fin = true then (f : Int) + m else q.e) = _
    rw [if_pos hf1]
    have := hfin hf1; omega
  · intro i hi h4
    show (takeE q f ((xs.drop f).take m)).came.getD i false = true
    unfold takeE
    split
    · rename_i hb
      rcases hi with hi | hi
      · rw [hb] at hlen; simp at hlen; omega
      · exact hi
    · simp only
      rw [mixC_get (by omega), hlen]
      rcases hi with hi | hi
      · rw [decide_eq_true hi, Bool.or_true]
      · rw [hi, Bool.true_or]
theorem bk_read {xs : List Int} {q : St} (h : Bk xs q) (hq : Ok q) (n : Int) :
    Bk xs (readE q n).1 ∧ (readE q n).1.p = q.p + (readE q n).2.length ∧ xs.take q.p ++ (readE q n).2 = xs.take (q.p + (readE q n).2.length) ∧ (readE q n).1.e = q.e ∧
      ((readE q n).2.length : Int) = max 0 (min n (readyN q : Int)) ∧ ∀ i, i + (readE q n).2.length < 4096 → (readE q n).1.came.getD i false = q.came.getD (i + (readE q n).2.length) false := by
  rcases read_ways q n with ⟨e, hm⟩ | ⟨m, h1, h2, h3, h4, e⟩
  · rw [e]
    exact ⟨h, rfl, by simp, rfl, by simp; omega, fun i _ => rfl⟩
  · rw [e]
    have hrl := hq.ready_le
    have hrow := h.row
    have hcl := hq.len
    have hl : (q.row.take m).length = m := by rw [List.length_take]; omega
    have hdl : (q.row.drop m).length = q.row.length - m := List.length_drop
    have hlast := hq.cm (m - 1) (lead_lt true false q.came (m - 1) (by unfold readyN at h2; omega))
    have htop := h.top
    have hget : ∀ i, i < m → q.row.getD i 0 = xs.getD (q.p + i) 0 := fun i hi => h.at_ i (lead_lt true false q.came i (by unfold readyN at h2; omega))
    refine ⟨⟨?_, h.nb, h.e, h.top, ?_⟩, ?_, ?_, rfl, ?_, ?_⟩
    · show (splice q.row 0 (q.row.drop m)).length = 4096
      rw [length_splice _ _ _ (by omega)]; exact h.row
    · intro i hi
      show (splice q.row 0 (q.row.drop m)).getD i 0 = xs.getD (q.p + m + i) 0
      have hi' : (q.came.drop m ++ List.replicate m false).getD i false = true := hi
      rw [getD_app] at hi'
      split at hi'
      · rename_i hlt
        rw [List.length_drop] at hlt
        rw [getD_drop] at hi'
        rw [getD_splice _ _ _ _ _ (by omega), if_pos ⟨by omega, by omega⟩, Nat.sub_zero, getD_drop, h.at_ _ hi', show q.p + m + i = q.p + (m + i) by omega]
      · rw [getD_rep'] at hi'; cases hi'
    · show q.p + m = q.p + (q.row.take m).length
      rw [hl]
    · show xs.take q.p ++ q.row.take m = xs.take (q.p + (q.row.take m).length)
      rw [hl]
      refine ext_getD 0 (by simp; omega) fun i hi => ?_
      rw [List.length_append, hl, List.length_take] at hi
      have hpl : min q.p xs.length = q.p := by omega
      rw [hpl] at hi
      rw [getD_app, List.length_take, hpl]
      rw [getD_take xs _ _ _ (by omega : i < q.p + m)]
      split
      · rw [getD_take _ _ _ _ (by omega)]
      · rw [getD_take _ _ _ _ (by omega), hget _ (by omega)]
        congr 1; omega
    · show ((q.row.take m).length : Int) = _
      rw [hl]; omega
    · intro i hi
      show (q.came.drop m ++ List.replicate m false).getD i false = _
      have hi2 : i + m < 4096 := by rw [← hl]; exact hi
      rw [getD_app, List.length_drop, if_pos (by omega), getD_drop]
      show _ = q.came.getD (i + (q.row.take m).length) false
      rw [hl, Nat.add_comm]
/-- all of it came -/
theorem bk_all {xs : List Int} {q : St} (h : Bk xs q) (hq : Ok q) (hx : xs.length ≤ 4096) (hall : ∀ i, q.p + i < xs.length → q.came.getD i false = true) : readyN q = xs.length - q.p := by
  have hl := h.left hq
  have hc := hq.len
  have hr := h.row
  refine lead_is true q.came _ (by omega) (fun i hi => hall i (by omega)) (fun _ hc2 => ?_)
  have := hq.cm _ hc2
  have := h.top
  omega
theorem bk_over {xs : List Int} {q : St} (h : Bk xs q) (he : q.e = (xs.length : Int)) (hp : q.p = xs.length) : overB q = true := by
  unfold overB
  rw [h.nb, Bool.false_or, decide_eq_true_eq]; omega
end Go.Proofs.Ytgckidgkimgpeaa
