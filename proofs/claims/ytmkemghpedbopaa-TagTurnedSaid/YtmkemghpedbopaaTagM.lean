/- The tag of bytes as a number: each step is one to one, since its factor is odd. -/
import Derived.Test.YtmkemghpedbopaaBe
namespace Go.Proofs.Ytmkemghpedbopaa
open Go.RowKit

theorem bits_xor_bv (a b : Int) : bits .xor .u64 a b = (((BitVec.ofInt 64 a) ^^^ (BitVec.ofInt 64 b)).toNat : Int) := by
  show IntKind.u64.wrap (((BitVec.ofInt 64 a) ^^^ (BitVec.ofInt 64 b)).toNat : Int) = _
  rw [IntKind.wrap_u64]
  have := ((BitVec.ofInt 64 a) ^^^ (BitVec.ofInt 64 b)).isLt
  omega

def mixB (t : BitVec 64) (x : Int) : BitVec 64 := (t ^^^ BitVec.ofInt 64 x) * 1099511628211#64
def tagB (key : Int) (xs : List Int) : BitVec 64 := xs.foldl mixB (14695981039346656037#64 ^^^ BitVec.ofInt 64 key)
/-- THE TAG -/
def tagI (key : Int) (xs : List Int) : Int := ((tagB key xs).toNat : Int)
theorem tagI_lo (key : Int) (xs : List Int) : 0 ≤ tagI key xs := by unfold tagI; omega
theorem tagI_hi (key : Int) (xs : List Int) : tagI key xs ≤ 18446744073709551615 := by unfold tagI; have := (tagB key xs).isLt; omega

theorem tag_first (key : Int) : bits .xor .u64 14695981039346656037 key = tagI key [] := by
  rw [bits_xor_bv]; rfl
theorem tag_first' (key : Int) : bits .xor .u64 key 14695981039346656037 = tagI key [] := by
  rw [bits_xor_bv, BitVec.xor_comm]; rfl
theorem ofInt_tagI (key : Int) (xs : List Int) : BitVec.ofInt 64 (tagI key xs) = tagB key xs := by
  unfold tagI
  apply BitVec.eq_of_toNat_eq
  rw [BitVec.toNat_ofInt]
  have := (tagB key xs).isLt
  omega
theorem tag_step (key : Int) (xs : List Int) (x : Int) : IntKind.u64.wrap (bits .xor .u64 (tagI key xs) x * 1099511628211) = tagI key (xs ++ [x]) := by
  rw [bits_xor_bv, ofInt_tagI, IntKind.wrap_u64]
  show _ = ((List.foldl mixB _ (xs ++ [x])).toNat : Int)
  rw [List.foldl_append]
  show _ = ((((tagB key xs) ^^^ BitVec.ofInt 64 x) * 1099511628211#64).toNat : Int)
  rw [BitVec.toNat_mul]
  simp
theorem tag_take (key : Int) (xs : List Int) (k : Nat) (h : k < xs.length) : IntKind.u64.wrap (bits .xor .u64 (tagI key (xs.take k)) (xs.getD k 0) * 1099511628211) = tagI key (xs.take (k + 1)) := by
  rw [tag_step]
  congr 1
  rw [List.take_succ_eq_append_getElem h]
  simp [List.getD, List.getElem?_eq_getElem h]

theorem mul_inj {a b : BitVec 64} (h : a * 1099511628211#64 = b * 1099511628211#64) : a = b := by
  have h2 := congrArg (· * 14886173955864302971#64) h
  simp only [BitVec.mul_assoc] at h2
  have e : (1099511628211#64 * 14886173955864302971#64 : BitVec 64) = 1#64 := by decide
  rw [e] at h2
  simpa using h2
theorem xor_inj_l {a b c : BitVec 64} (h : a ^^^ c = b ^^^ c) : a = b := by
  have h2 := congrArg (· ^^^ c) h
  simpa [BitVec.xor_assoc] using h2
theorem xor_inj_r {a b c : BitVec 64} (h : c ^^^ a = c ^^^ b) : a = b := by
  rw [BitVec.xor_comm c a, BitVec.xor_comm c b] at h
  exact xor_inj_l h
theorem fold_inj {xs : List Int} {a b : BitVec 64} (h : xs.foldl mixB a = xs.foldl mixB b) : a = b := by
  induction xs generalizing a b with
  | nil => exact h
  | cons x xs ih => exact xor_inj_l (mul_inj (ih h))
theorem ofInt_inj {a b : Int} (ha : 0 ≤ a ∧ a ≤ 18446744073709551615) (hb : 0 ≤ b ∧ b ≤ 18446744073709551615) (h : BitVec.ofInt 64 a = BitVec.ofInt 64 b) : a = b := by
  have h2 := congrArg BitVec.toNat h
  rw [BitVec.toNat_ofInt, BitVec.toNat_ofInt] at h2
  omega
theorem tagB_key {k k' : Int} {xs : List Int} (hk : 0 ≤ k ∧ k ≤ 18446744073709551615) (hk' : 0 ≤ k' ∧ k' ≤ 18446744073709551615) (h : tagB k xs = tagB k' xs) : k = k' :=
  ofInt_inj hk hk' (xor_inj_r (fold_inj h))
theorem tagB_set {key : Int} {xs : List Int} {i : Nat} {y : Int} (hx : Bts xs) (hy : 0 ≤ y ∧ y < 256) (hi : i < xs.length) (h : tagB key (xs.set i y) = tagB key xs) : xs.getD i 0 = y := by
  have hxi : 0 ≤ xs.getD i 0 ∧ xs.getD i 0 < 256 := getD_bts hx i
  have e1 : xs.getD i 0 = xs[i] := by simp [List.getD, List.getElem?_eq_getElem hi]
  rw [e1] at hxi ⊢
  have e2 : xs = xs.take i ++ xs[i] :: xs.drop (i + 1) := by
    rw [List.getElem_cons_drop, List.take_append_drop]
  rw [List.set_eq_take_append_cons_drop, if_pos hi] at h
  unfold tagB at h
  conv at h => rhs; rw [e2]
  rw [List.foldl_append, List.foldl_append] at h
  exact (ofInt_inj (by omega) (by omega) (xor_inj_r (mul_inj (fold_inj h)))).symm

/-- what is sealed, and what is opened -/
def sealL (key : Int) (xs : List Int) : List Int := xs ++ be (tagB key xs).toNat 8
def openL (key : Int) (cs : List Int) : Option (List Int) :=
  if cs.length < 8 then none else if cs.drop (cs.length - 8) = be (tagB key (cs.take (cs.length - 8))).toNat 8 then some (cs.take (cs.length - 8)) else none
theorem sealL_len (key : Int) (xs : List Int) : (sealL key xs).length = xs.length + 8 := by simp [sealL, be_len]
theorem sealL_bts (key : Int) {xs : List Int} (hx : Bts xs) : Bts (sealL key xs) := hx.append (be_bts _ _)
theorem openL_bts {key : Int} {cs ys : List Int} (hc : Bts cs) (h : openL key cs = some ys) : Bts ys := by
  unfold openL at h
  split at h
  · cases h
  · split at h
    · cases h; exact fun x hx => hc x (List.mem_of_mem_take hx)
    · cases h
theorem be_tag_inj {a b : BitVec 64} (h : be a.toNat 8 = be b.toNat 8) : a = b :=
  BitVec.eq_of_toNat_eq (be_inj (k := 8) (by have := a.isLt; omega) (by have := b.isLt; omega) h)
theorem openL_of (key : Int) (ys ts : List Int) (ht : ts.length = 8) : openL key (ys ++ ts) = if ts = be (tagB key ys).toNat 8 then some ys else none := by
  unfold openL
  rw [if_neg (by simp; omega), List.length_append, ht, Nat.add_sub_cancel, List.drop_left, List.take_left]
theorem open_seal (key : Int) (xs : List Int) : openL key (sealL key xs) = some xs := by
  rw [sealL, openL_of _ _ _ (be_len _ _), if_pos rfl]
theorem open_other {key other : Int} (xs : List Int) (hk : 0 ≤ key ∧ key ≤ 18446744073709551615) (hk' : 0 ≤ other ∧ other ≤ 18446744073709551615) (h : key ≠ other) : openL other (sealL key xs) = none := by
  rw [sealL, openL_of _ _ _ (be_len _ _), if_neg]
  exact fun he => h (tagB_key hk hk' (be_tag_inj he))
theorem open_turned {key : Int} {xs : List Int} (hx : Bts xs) {i : Nat} {y : Int} (hi : i < (sealL key xs).length) (hy : 0 ≤ y ∧ y < 256) (hne : (sealL key xs).getD i 0 ≠ y) : openL key ((sealL key xs).set i y) = none := by
  unfold sealL at hi hne ⊢
  by_cases hlt : i < xs.length
  · rw [List.set_append_left _ _ hlt, openL_of _ _ _ (be_len _ _), if_neg]
    intro he
    have h1 := tagB_set hx hy hlt (be_tag_inj he).symm
    apply hne
    rw [← h1, List.getD, List.getD, List.getElem?_append_left hlt]
  · rw [List.set_append_right _ _ (by omega), openL_of _ _ _ (by rw [List.length_set, be_len]), if_neg]
    intro he
    apply hne
    rw [List.length_append] at hi
    have h2 := congrArg (fun l => l.getD (i - xs.length) 0) he
    have h3 : i - xs.length < (be (tagB key xs).toNat 8).length := by omega
    simp only [List.getD, List.getElem?_set, if_pos h3, if_true] at h2
    rw [List.getD, List.getElem?_append_right (by omega), ← h2]; rfl
end Go.Proofs.Ytmkemghpedbopaa
