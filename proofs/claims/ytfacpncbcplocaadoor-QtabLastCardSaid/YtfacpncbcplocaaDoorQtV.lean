/- Layer 13: plays: an act of a script done on a table. -/
import Derived.Test.YtfacpncbcplocaaDoorQtR
set_option maxRecDepth 100000
set_option linter.unusedSimpArgs false
set_option linter.unusedVariables false
set_option linter.unnecessarySimpa false
namespace Go.Proofs.YtfacpncbcplocaaDoor
open Go.RowKit

theorem setCap_count' (q : TQ) (n : Int) : countN (setCapE q n).1 = countN q := by
  unfold setCapE
  split
  · rfl
  · exact shrink_count _ _
/-- what a script's act makes of a table, and what plays tells -/
def actP (q : TQ) (c : ActV) : TQ := if c.k % 4 = 0 then (insertE q c.f).1 else if c.k % 4 = 1 then (setCapE q c.n).1 else q
def playE (q : TQ) (c : ActV) : Int × Bool := if c.k % 4 = 0 then ((insertE q c.f).2.1, decide ((insertE q c.f).2.2 = 0)) else (0, false)
/-- an Insert that is done, and one that is not -/
theorem insert_ways (q : TQ) (f : Fd) : ((insertE q f).2.2 = 0 ∧ roomF f ≤ q.cap ∧ roomF f ≤ 1000 ∧ (insertE q f).2.1 = countN q ∧ (insertE q f).1 = { shrinkE (q.cap - roomF f) q with l := (shrinkE (q.cap - roomF f) q).l ++ [f] }) ∨ ((insertE q f).2.2 ≠ 0 ∧ (insertE q f).1 = q) := by
  unfold insertE
  split
  · exact .inr ⟨by simp, rfl⟩
  · split
    · exact .inr ⟨by simp, rfl⟩
    · exact .inl ⟨rfl, by omega, by unfold roomF; omega, rfl, rfl⟩
theorem act_ways (q : TQ) (c : ActV) : ((playE q c).2 = true ∧ roomF c.f ≤ q.cap ∧ roomF c.f ≤ 1000 ∧ (playE q c).1 = countN q ∧ actP q c = { shrinkE (q.cap - roomF c.f) q with l := (shrinkE (q.cap - roomF c.f) q).l ++ [c.f] }) ∨
    ((playE q c).2 = false ∧ (actP q c = q ∨ ∃ m : Nat, actP q c = shrinkE m { q with cap := m } ∧ m ≤ q.most)) := by
  unfold playE actP
  by_cases h0 : c.k % 4 = 0
  · simp only [if_pos h0]
    rcases insert_ways q c.f with ⟨h1, h2, h3, h4, h5⟩ | ⟨h1, h2⟩
    · exact .inl ⟨by simp [h1], h2, h3, h4, h5⟩
    · exact .inr ⟨by simp [h1], .inl h2⟩
  · simp only [if_neg h0]
    refine .inr ⟨by simp, ?_⟩
    split
    · unfold setCapE
      split
      · exact .inl rfl
      · exact .inr ⟨c.n.toNat, rfl, by omega⟩
    · exact .inl rfl
theorem actP_ok {q : TQ} (h : TOk q) (c : ActV) : TOk (actP q c) := by
  unfold actP
  split
  · exact insert_ok h c.f
  · split
    · exact setCap_ok h c.n
    · exact h
theorem actP_most (q : TQ) (c : ActV) : (actP q c).most = q.most := by
  rcases act_ways q c with ⟨_, _, _, _, h⟩ | ⟨_, h | ⟨m, h, _⟩⟩ <;> rw [h] <;> rfl
theorem actP_count (q : TQ) (c : ActV) : countN (actP q c) = countN q + (if (playE q c).2 then 1 else 0) := by
  rcases act_ways q c with ⟨h0, _, _, _, h⟩ | ⟨h0, h | ⟨m, h, _⟩⟩
  · rw [h, h0, if_pos rfl]
    have := shrink_count (q.cap - roomF c.f) q
    simp only [countN, List.length_append, List.length_singleton] at this ⊢
    omega
  · rw [h, h0]; simp
  · rw [h, h0, shrink_count]; simp [countN]
theorem Step.from {B b : Nat} {sl : Value} {q' : TQ} {w0 w w1 w' : World} (h : Step B b sl q' w0 w1 w') (hb : Below w.heap.size w w1) : Step B b sl q' w0 w w' := by
  obtain ⟨sl', h1, h2, h3⟩ := h
  refine ⟨sl', h1, fun j hj => ?_, (Keep.of_below hb).trans h3 (fun i hi => .inl hi)⟩
  rcases h2 j hj with e | e
  · exact .inl e
  · exact .inr (Nat.le_trans hb.size e)

theorem kind_ways' (k : Int) (h0 : 0 ≤ k) (h1 : k < 256) : ∃ r : Int, (r = 0 ∨ r = 1 ∨ r = 2 ∨ r = 3) ∧ k % 4 = r ∧ k.tmod 4 = r ∧ IntKind.u8.wrap r = r := by
  refine ⟨k % 4, by omega, rfl, by rw [Int.tmod_eq_emod_of_nonneg h0], ?_⟩
  rw [IntKind.wrap_u8]; omega

set_option maxHeartbeats 1600000 in
theorem plays_any {B b : Nat} {sl : Value} {q : TQ} {w0 w : World} (c : ActV) (h : Tm B b sl q w0 w) (hc : countN q ≤ 4611686018427387000) (ho : ActOk c) :
    Calls Tryd.prog 32 #[.pointer (some ⟨b, 0, none⟩), .agg #[.int .u8 c.k, .int .i64 c.n, .string c.f.n, .string c.f.v]] w fun e w' => e = .returned (.tuple #[.int .i64 (playE q c).1, .bool (playE q c).2]) ∧ Step B b sl (actP q c) w0 w w' := by
  obtain ⟨ck, cn, ⟨fn, fv⟩⟩ := c
  obtain ⟨r, hr, e1, e2, e3⟩ := kind_ways' ck ho.1 ho.2
  have hck : 0 ≤ ck := ho.1
  have B1 := Lib.hid (below1 w (.cells #[.int .u8 ck, .int .i64 cn, .string fn, .string fv] 44))
  have M1 := Lib.hid (h.below B1.out)
  have same : Hid (∀ w', w' = w.alloc (.cells #[.int .u8 ck, .int .i64 cn, .string fn, .string fv] 44) → Step B b sl q w0 w w') := fun w' e => ⟨sl, by rw [e]; exact M1.out, fun j hj => .inl hj, by rw [e]; exact Keep.of_below B1.out⟩
  unfold playE actP
  simp only
  clear ho h
  rcases hr with rfl | rfl | rfl | rfl
  · rw [if_pos e1, if_pos e1]
    have hin := insert_m M1.out ⟨fn, fv⟩ hc
    obtain ⟨⟨q', ni, ei⟩, hie⟩ : ∃ r, r = insertE q ⟨fn, fv⟩ := ⟨_, rfl⟩
    rw [← hie] at hin ⊢
    simp only at hin ⊢
    have HIN := Lib.hid hin
    clear hin hie
    go_enter Tryd.func32, Tryd.ntmps32
    go_wp2_with (go_at_call 18; refine HIN.out.mono ?_; rintro e wA ⟨rfl, hst⟩; have HST := Lib.hid hst; clear hst)
    go_ret2
    exact ⟨by first | rfl | simp, HST.out.from B1.out⟩
  · rw [if_neg (by omega), if_neg (by omega), if_pos e1]
    have hin := setCap_m M1.out cn hc
    obtain ⟨⟨q', ei⟩, hie⟩ : ∃ r, r = setCapE q cn := ⟨_, rfl⟩
    rw [← hie] at hin ⊢
    simp only at hin ⊢
    have HIN := Lib.hid hin
    clear hin hie
    go_enter Tryd.func32, Tryd.ntmps32
    go_wp2_with (go_at_call 20; refine HIN.out.mono ?_; rintro e wA ⟨rfl, hst⟩; have HST := Lib.hid hst; clear hst)
    go_ret2
    exact ⟨by first | rfl | simp, HST.out.from B1.out⟩
  · rw [if_neg (by omega), if_neg (by omega), if_neg (by omega)]
    go_enter Tryd.func32, Tryd.ntmps32
    go_wp2_with fail
    go_ret2
    exact ⟨rfl, same.out _ rfl⟩
  · rw [if_neg (by omega), if_neg (by omega), if_neg (by omega)]
    go_enter Tryd.func32, Tryd.ntmps32
    go_wp2_with fail
    go_ret2
    exact ⟨rfl, same.out _ rfl⟩
end Go.Proofs.YtfacpncbcplocaaDoor
