/- Layer 4, plain: a fault that is not a missing byte hangs on the bytes up to it alone. -/
import Derived.Test.YtfkkimaebhjneaaDoorFrL
set_option linter.unusedSimpArgs false
set_option linter.unusedVariables false
namespace Go.Proofs.YtfkkimaebhjneaaDoor
open Go.RowKit

/-- e PLACES ALIKE -/
structure Alike (e : Nat) (xs ys : List Int) : Prop where
  lx : e ≤ xs.length
  ly : e ≤ ys.length
  at_ : ∀ i, i < e → ys.getD i 0 = xs.getD i 0
/-- what is read from place i on: alike where it ends ahead of e, and where it fails at a -/
structure Loc {α : Type} (e a i : Nat) (r s : Except (Int × Int) (α × Nat)) : Prop where
  ok : ∀ x j, r = .ok (x, j) → i ≤ j ∧ (j < e → s = .ok (x, j))
  err : r = .error (5, (a : Int)) → i ≤ a ∧ s = .error (5, (a : Int))

theorem thn_loc {α β : Type} {e a i : Nat} (hae : a < e) {r s : Except (Int × Int) (α × Nat)} {k k' : α → Nat → Except (Int × Int) (β × Nat)} (h : Loc e a i r s) (hk : ∀ x j, Loc e a j (k x j) (k' x j)) : Loc e a i (thn r k) (thn s k') := by
  constructor
  · intro y j' hy
    obtain ⟨x, j, h1, h2⟩ := thn_inv hy
    obtain ⟨h3, h4⟩ := h.ok x j h1
    obtain ⟨h5, h6⟩ := (hk x j).ok y j' h2
    exact ⟨by omega, fun hl => by rw [thn_ok (h4 (by omega))]; exact h6 hl⟩
  · intro hy
    rcases thn_inv_err hy with h1 | ⟨x, j, h1, h2⟩
    · obtain ⟨h3, h4⟩ := h.err h1
      exact ⟨h3, thn_err h4⟩
    · obtain ⟨h3, h4⟩ := h.ok x j h1
      obtain ⟨h5, h6⟩ := (hk x j).err h2
      exact ⟨by omega, by rw [thn_ok (h4 (by omega))]; exact h6⟩
theorem ok_loc {α : Type} {e a j : Nat} (x : α) : Loc e a j (.ok (x, j) : Except (Int × Int) (α × Nat)) (.ok (x, j)) :=
  ⟨fun y j' h => by cases h; exact ⟨Nat.le_refl _, fun _ => rfl⟩, fun h => by cases h⟩

theorem acc_alike {e : Nat} {xs ys : List Int} (h : Alike e xs ys) (i : Nat) : ∀ k, i + k < e → acc ys i k = acc xs i k
  | 0, hk => by unfold acc; rw [h.at_ i (by omega)]
  | k + 1, hk => by unfold acc; rw [acc_alike h i k (by omega), h.at_ _ (by omega)]
theorem num_alike {e : Nat} {xs ys : List Int} (h : Alike e xs ys) {i j : Nat} {n : Int} (hn : num xs i = .ok (n, j)) : i + widN (xs.getD i 0) = j ∧ (j ≤ e → num ys i = .ok (n, j)) := by
  unfold num getS at hn
  have h2 := wid_pos (xs.getD i 0)
  split at hn
  · rename_i n' W hg
    split at hg
    · simp only [Option.some.injEq, Prod.mk.injEq] at hg
      obtain ⟨rfl, rfl⟩ := hg
      simp only [Except.ok.injEq, Prod.mk.injEq] at hn
      obtain ⟨rfl, rfl⟩ := hn
      refine ⟨rfl, fun hj => ?_⟩
      have ei := h.at_ i (by omega)
      have := h.ly
      unfold num getS
      rw [ei, if_pos ⟨by omega, by omega⟩, acc_alike h i _ (by omega)]
    · cases hg
  · cases hn
theorem num_loc {e a : Nat} {xs ys : List Int} (h : Alike e xs ys) (i : Nat) : Loc e a i (num xs i) (num ys i) := by
  constructor
  · intro n j hn
    obtain ⟨h1, h2⟩ := num_alike h hn
    exact ⟨by omega, fun hj => h2 (by omega)⟩
  · intro hn
    have := (num_err hn).1
    omega
theorem atMost_loc {e a : Nat} {xs ys : List Int} (h : Alike e xs ys) (he : e = a + widN (xs.getD a 0)) (i : Nat) (most why : Int) : Loc e a i (atMostR xs i most why) (atMostR ys i most why) := by
  constructor
  · intro n j hn
    unfold atMostR at hn
    split at hn
    · rename_i n' j' hn'
      split at hn
      · cases hn
      · rename_i hm
        cases hn
        obtain ⟨h1, h2⟩ := num_alike h hn'
        refine ⟨by omega, fun hj => ?_⟩
        unfold atMostR
        rw [h2 (by omega)]
        exact if_neg hm
    · cases hn
  · intro hn
    unfold atMostR at hn
    split at hn
    · rename_i n' j' hn'
      split at hn
      · rename_i hm
        simp only [Except.error.injEq, Prod.mk.injEq] at hn
        obtain ⟨rfl, hia⟩ := hn
        obtain rfl : i = a := by omega
        obtain ⟨h1, h2⟩ := num_alike h hn'
        refine ⟨Nat.le_refl _, ?_⟩
        unfold atMostR
        rw [h2 (by omega)]
        exact if_pos hm
      · cases hn
    · rename_i e' he'
      obtain rfl : e' = (5, (a : Int)) := by simpa using hn
      have := (num_err he').1
      omega
theorem span_loc {e a : Nat} {xs ys : List Int} (h : Alike e xs ys) (he : e = a + widN (xs.getD a 0)) (i : Nat) (tp : Int) : Loc e a i (spanR xs i tp) (spanR ys i tp) := by
  have hl := atMost_loc h he i tp 5
  constructor
  · intro s j hs
    unfold spanR at hs
    split at hs
    · rename_i n j' hn
      cases hs
      obtain ⟨h1, h2⟩ := hl.ok _ _ hn
      exact ⟨h1, fun hj => by unfold spanR; rw [h2 hj]⟩
    · cases hs
  · intro hs
    unfold spanR at hs
    split at hs
    · cases hs
    · rename_i e' hn
      obtain rfl : e' = (5, (a : Int)) := by simpa using hs
      obtain ⟨h1, h2⟩ := hl.err hn
      exact ⟨h1, by unfold spanR; rw [h2]⟩
theorem moreR_thn (xs : List Int) (k : Nat) (low : Int) (i : Nat) (l : List (Int × Int)) : moreR xs (k + 1) low i l = thn (atMostR xs i (low - 2) 5) fun g j => thn (spanR xs j (low - 2 - g)) fun s j' => moreR xs k s.1 j' (s :: l) := by
  rw [moreR]
  cases atMostR xs i (low - 2) 5 with
  | error e => rfl
  | ok p =>
    obtain ⟨g, j⟩ := p
    simp only [thn]
    cases spanR xs j (low - 2 - g) with
    | error e => rfl
    | ok p => rfl
theorem spansR_thn (xs : List Int) (i : Nat) (greatest : Int) : spansR xs i greatest = thn (atMostR xs i 31 6) fun last j => thn (spanR xs j greatest) fun s j' => moreR xs last.toNat s.1 j' [s] := by
  unfold spansR
  cases atMostR xs i 31 6 with
  | error e => rfl
  | ok p =>
    obtain ⟨g, j⟩ := p
    simp only [thn]
    cases spanR xs j greatest with
    | error e => rfl
    | ok p => rfl
theorem more_loc {e a : Nat} {xs ys : List Int} (h : Alike e xs ys) (hae : a < e) (he : e = a + widN (xs.getD a 0)) : ∀ (k : Nat) (low : Int) (i : Nat) (l : List (Int × Int)), Loc e a i (moreR xs k low i l) (moreR ys k low i l)
  | 0, low, i, l => ok_loc l
  | k + 1, low, i, l => by
    rw [moreR_thn, moreR_thn]
    exact thn_loc hae (atMost_loc h he _ _ _) fun g j => thn_loc hae (span_loc h he _ _) fun s j' => more_loc h hae he k _ _ _
theorem spans_loc {e a : Nat} {xs ys : List Int} (h : Alike e xs ys) (hae : a < e) (he : e = a + widN (xs.getD a 0)) (i : Nat) (tp : Int) : Loc e a i (spansR xs i tp) (spansR ys i tp) := by
  rw [spansR_thn, spansR_thn]
  exact thn_loc hae (atMost_loc h he _ _ _) fun g j => thn_loc hae (span_loc h he _ _) fun s j' => more_loc h hae he _ _ _ _
theorem take_alike {e : Nat} {xs ys : List Int} (h : Alike e xs ys) {i m : Nat} (hm : i + m ≤ e) : (ys.drop i).take m = (xs.drop i).take m := by
  have := h.lx; have := h.ly
  apply List.ext_getElem
  · simp; omega
  · intro k h1 h2
    simp only [List.length_take, List.length_drop] at h1
    have := h.at_ (i + k) (by omega)
    simp only [List.getElem_take, List.getElem_drop]
    simpa [List.getD, show i + k < ys.length by omega, show i + k < xs.length by omega] using this
theorem data_loc {e a : Nat} {xs ys : List Int} (h : Alike e xs ys) (i : Nat) (c : Int) : Loc e a i (dataR xs i c) (dataR ys i c) := by
  have := h.lx; have := h.ly
  constructor
  · intro d j hd
    unfold dataR at hd
    split at hd
    · cases hd
    · rename_i hc
      simp only [Except.ok.injEq, Prod.mk.injEq] at hd
      obtain ⟨rfl, rfl⟩ := hd
      refine ⟨by omega, fun hj => ?_⟩
      unfold dataR
      rw [if_neg (by omega), take_alike h (by omega)]
  · intro hd
    unfold dataR at hd
    split at hd
    · simp at hd
    · cases hd
theorem tail_loc {e a : Nat} {xs ys : List Int} (h : Alike e xs ys) (i j : Nat) (off c : Int) : Loc e a j (tailR xs i off c j) (tailR ys i off c j) := by
  unfold tailR
  split
  · exact ⟨fun _ _ h => (by cases h), fun h => (by simp at h)⟩
  · exact data_loc h j c
/-- a Stream without its length ends where the bytes end -/
theorem left_loc {e a : Nat} {xs ys : List Int} (h : Alike e xs ys) (i j : Nat) (off bt : Int) (f : List Int → Nat → Fr × Nat) (hf : ∀ d j, (f d j).2 = j) : Loc e a j (thn (countR xs bt j) fun c j => thn (tailR xs i off c j) fun d j => .ok (f d j)) (thn (countR ys bt j) fun c j => thn (tailR ys i off c j) fun d j => .ok (f d j)) := by
  by_cases hb : bt / 2 % 2 = 0
  · have := h.lx
    constructor
    · intro x j' hx
      obtain ⟨c, j1, h1, hx⟩ := thn_inv hx
      obtain ⟨d, j2, h2, hx⟩ := thn_inv hx
      unfold countR at h1
      rw [if_pos hb] at h1
      simp only [Except.ok.injEq, Prod.mk.injEq] at h1
      obtain ⟨rfl, rfl⟩ := h1
      unfold tailR at h2
      split at h2
      · cases h2
      · unfold dataR at h2
        split at h2
        · cases h2
        · simp only [Except.ok.injEq, Prod.mk.injEq] at h2
          obtain ⟨_, rfl⟩ := h2
          have e2 : (f d (j + ((xs.length : Int) - j).toNat)).2 = j' := by
            have := congrArg Prod.snd (Except.ok.inj hx)
            exact this
          rw [hf] at e2
          exact ⟨by omega, fun hj => by omega⟩
    · intro hx
      rcases thn_inv_err hx with h1 | ⟨c, j1, h1, hx⟩
      · unfold countR at h1
        rw [if_pos hb] at h1
        cases h1
      · rcases thn_inv_err hx with h2 | ⟨d, j2, h2, hx⟩
        · unfold tailR at h2
          split at h2
          · simp at h2
          · unfold dataR at h2
            split at h2
            · simp at h2
            · cases h2
        · cases hx
  · have e1 : ∀ zs : List Int, countR zs bt j = num zs j := fun zs => if_neg hb
    rw [e1, e1]
    constructor
    · intro x j' hx
      obtain ⟨c, j1, h1, hx⟩ := thn_inv hx
      obtain ⟨d, j2, h2, hx⟩ := thn_inv hx
      have e2 : (f d j2).2 = j' := congrArg Prod.snd (Except.ok.inj hx)
      rw [hf] at e2
      subst e2
      obtain ⟨a1, a2⟩ := (num_loc (a := a) h j).ok _ _ h1
      obtain ⟨b1, b2⟩ := (tail_loc (a := a) h i j1 off c).ok _ _ h2
      exact ⟨by omega, fun hj => by rw [thn_ok (a2 (by omega)), thn_ok (b2 hj)]; exact hx⟩
    · intro hx
      rcases thn_inv_err hx with h1 | ⟨c, j1, h1, hx⟩
      · have := (num_err h1).1; omega
      · rcases thn_inv_err hx with h2 | ⟨d, j2, h2, hx⟩
        · unfold tailR at h2
          split at h2
          · simp at h2
          · unfold dataR at h2
            split at h2
            · simp at h2
            · cases h2
        · cases hx
theorem off_loc {e a : Nat} {xs ys : List Int} (h : Alike e xs ys) (j : Nat) (bt : Int) : Loc e a j (offR xs bt j) (offR ys bt j) := by
  unfold offR
  split
  · exact ok_loc _
  · exact num_loc h j
theorem rest_loc {e a : Nat} {xs ys : List Int} (h : Alike e xs ys) (hae : a < e) (he : e = a + widN (xs.getD a 0)) (i : Nat) (k bt : Int) (j : Nat) : Loc e a j (restR xs i k bt j) (restR ys i k bt j) := by
  unfold restR
  split
  · exact thn_loc hae (num_loc h _) fun _ _ => thn_loc hae (num_loc h _) fun _ _ => thn_loc hae (spans_loc h hae he _ _) fun _ _ => ok_loc _
  split
  · exact thn_loc hae (num_loc h _) fun _ _ => thn_loc hae (num_loc h _) fun _ _ => thn_loc hae (num_loc h _) fun _ _ => ok_loc _
  split
  · exact thn_loc hae (num_loc h _) fun _ _ => thn_loc hae (num_loc h _) fun _ _ => ok_loc _
  split
  · exact thn_loc hae (num_loc h _) fun _ _ => thn_loc hae (off_loc h _ _) fun o j => left_loc h i j o bt (fun d j => (⟨8, _, o, 0, 0, _, d, []⟩, j)) (fun _ _ => rfl)
  split
  · exact thn_loc hae (num_loc h _) fun _ _ => ok_loc _
  split
  · exact thn_loc hae (num_loc h _) fun _ _ => thn_loc hae (num_loc h _) fun _ _ => ok_loc _
  split
  · exact thn_loc hae (num_loc h _) fun _ _ => thn_loc hae (num_loc h _) fun _ _ => thn_loc hae (data_loc h _ _) fun _ _ => ok_loc _
  · exact ok_loc _
theorem frame_loc {e a : Nat} {xs ys : List Int} (h : Alike e xs ys) (hae : a < e) (he : e = a + widN (xs.getD a 0)) (i : Nat) : Loc e a i (frameR xs i) (frameR ys i) := by
  constructor
  · intro f j hf
    unfold frameR at hf
    split at hf
    · rename_i k bt j0 hk
      obtain rfl := kindR_ok hk
      obtain ⟨h1, h2⟩ := (rest_loc h hae he i k bt (i + 1)).ok _ _ hf
      refine ⟨by omega, fun hj => ?_⟩
      have e1 : kindR ys i = .ok ((k, bt), i + 1) := by
        rw [← hk]; unfold kindR; rw [h.at_ i (by omega)]
      unfold frameR
      rw [e1]
      exact h2 hj
    · cases hf
  · intro hf
    unfold frameR at hf
    split at hf
    · rename_i k bt j0 hk
      obtain rfl := kindR_ok hk
      obtain ⟨h1, h2⟩ := (rest_loc h hae he i k bt (i + 1)).err hf
      have e1 : kindR ys i = .ok ((k, bt), i + 1) := by
        rw [← hk]; unfold kindR; rw [h.at_ i (by omega)]
      refine ⟨by omega, ?_⟩
      unfold frameR
      rw [e1]
      exact h2
    · rename_i e' hk
      obtain rfl : e' = (5, (a : Int)) := by simpa using hf
      have hia : i = a := by
        unfold kindR at hk
        split at hk
        · cases hk
        · split at hk
          · cases hk
          · simp at hk; omega
      subst hia
      have e1 : kindR ys i = .error (5, (i : Int)) := by
        rw [← hk]; unfold kindR; rw [h.at_ i (by omega)]
      refine ⟨Nat.le_refl _, ?_⟩
      unfold frameR
      rw [e1]
theorem decGo_loc {e a : Nat} {xs ys : List Int} (h : Alike e xs ys) (hae : a < e) (he : e = a + widN (xs.getD a 0)) : ∀ (k i : Nat) (l : List Fr), decGo xs k i l = .error (5, (a : Int)) → i ≤ a ∧ decGo ys k i l = .error (5, (a : Int))
  | 0, i, l, hd => by
    unfold decGo at hd
    split at hd
    · simp at hd
    · cases hd
  | k + 1, i, l, hd => by
    have := h.ly
    have hf := frame_loc h hae he i
    unfold decGo at hd
    split at hd
    · split at hd
      · rename_i e' he'
        obtain rfl : e' = (5, (a : Int)) := by simpa using hd
        obtain ⟨h1, h2⟩ := hf.err he'
        refine ⟨h1, ?_⟩
        unfold decGo
        rw [if_pos (by omega), h2]
      · rename_i f j hj
        obtain ⟨h1, h2⟩ := hf.ok _ _ hj
        obtain ⟨h3, h4⟩ := decGo_loc h hae he k j _ hd
        refine ⟨by omega, ?_⟩
        unfold decGo
        rw [if_pos (by omega), h2 (by omega)]
        exact h4
    · cases hd
/-- A FAULT THAT IS NOT A MISSING BYTE HANGS ON THE BYTES UP TO IT ALONE -/
theorem decL_loc {a : Nat} {xs zs : List Int} (hd : decL xs = .error (5, (a : Int))) (he : a + widN (xs.getD a 0) ≤ xs.length) (hl : a + widN (xs.getD a 0) + zs.length ≤ 1200) : decL (xs.take (a + widN (xs.getD a 0)) ++ zs) = .error (5, (a : Int)) := by
  have hw := wid_pos (xs.getD a 0)
  generalize hE : a + widN (xs.getD a 0) = e at he hl ⊢
  have hA : Alike e xs (xs.take e ++ zs) := by
    refine ⟨he, by simp; omega, fun i hi => ?_⟩
    simp only [List.getD]
    rw [List.getElem?_append_left (by simp; omega)]
    simp [hi]
  unfold decL at hd ⊢
  split at hd
  · simp at hd
  · rw [if_neg (by simp; omega)]
    exact (decGo_loc hA (by omega) hE.symm _ _ _ hd).2
end Go.Proofs.YtfkkimaebhjneaaDoor
