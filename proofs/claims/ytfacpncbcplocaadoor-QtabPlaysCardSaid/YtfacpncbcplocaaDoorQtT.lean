/- Layer 13: the two tables side by side; an act of a script. -/
import Derived.Test.YtfacpncbcplocaaDoorQtR
import Derived.Test.YtfacpncbcplocaaDoorQtN
import Derived.Test.YtfacpncbcplocaaDoorQtL
set_option maxRecDepth 100000
set_option linter.unusedSimpArgs false
set_option linter.unusedVariables false
set_option linter.unnecessarySimpa false
namespace Go.Proofs.YtfacpncbcplocaaDoor
open Go.RowKit

/-- the program's table and the document's, both of the call's own, apart -/
structure P2 (B b : Nat) (sl : Value) (q1 : TQ) (c : Nat) (v : Value) (q2 : TQ) (w0 w : World) : Prop where
  ours : Tm B b sl q1 w0 w
  theirs : RTb c v q2 w
  low : B ≤ c
  ne : c ≠ b
  sne : ∀ j, sl.ownBlock = some j → j ≠ c
  vne : q2.l ≠ [] → ∀ j, v.ownBlock = some j → j ≠ b ∧ sl.ownBlock ≠ some j
theorem P2.below {B b : Nat} {sl : Value} {q1 : TQ} {c : Nat} {v : Value} {q2 : TQ} {w0 w w' : World} (h : P2 B b sl q1 c v q2 w0 w) (hb : Below w.heap.size w w') : P2 B b sl q1 c v q2 w0 w' :=
  ⟨h.ours.below hb, h.theirs.below hb, h.low, h.ne, h.sne, h.vne⟩
theorem P2.drewN {B b : Nat} {sl : Value} {q1 : TQ} {c : Nat} {v : Value} {q2 : TQ} {w0 w : World} (h : P2 B b sl q1 c v q2 w0 w) (n : Nat) : P2 B b sl q1 c v q2 w0 (w.drewN n) := h.below (below_drewN (Below.refl _ _) n)
theorem P2.step1 {B b : Nat} {sl : Value} {q1 q' : TQ} {c : Nat} {v : Value} {q2 : TQ} {w0 w w' : World} (h : P2 B b sl q1 c v q2 w0 w) (hd : Step B b sl q' w0 w w') : ∃ sl', P2 B b sl' q' c v q2 w0 w' := by
  obtain ⟨sl', h1, h2, h3⟩ := hd
  refine ⟨sl', h1, h.theirs.keep h3 (fun hm => ?_) (fun h0 j hj hm => ?_), h.low, h.ne, fun j hj => ?_, fun h0 j hj => ⟨(h.vne h0 j hj).1, fun e => ?_⟩⟩
  · rcases mem_TS.1 hm with e | e
    · exact h.ne e
    · exact h.sne _ e rfl
  · rcases mem_TS.1 hm with e | e
    · exact (h.vne h0 j hj).1 e
    · exact (h.vne h0 j hj).2 e
  · rcases h2 j hj with e | e
    · exact h.sne j e
    · have := h.theirs.lt; omega
  · rcases h2 j e with e1 | e1
    · exact (h.vne h0 j hj).2 e1
    · have := h.theirs.vlt h0 j hj; omega
theorem P2.step2 {B b : Nat} {sl : Value} {q1 : TQ} {c : Nat} {v : Value} {q2 q' : TQ} {w0 w w' : World} (h : P2 B b sl q1 c v q2 w0 w) (hd : RDid c v q2 q' w w') : ∃ v', P2 B b sl q1 c v' q' w0 w' := by
  obtain ⟨v', h1, h2, h3⟩ := hd
  refine ⟨v', h.ours.keep h3 (fun i hi => by simp at hi; subst hi; exact h.low) (by simp; exact fun e => h.ne e.symm) (fun j hj => by simp; exact h.sne j hj), h1, h.low, h.ne, h.sne, fun h0 j hj => ?_⟩
  rcases h2 h0 j hj with ⟨e0, e⟩ | e
  · exact h.vne e0 j e
  · have h5 := h.ours.tbl.lt
    refine ⟨by omega, fun e1 => ?_⟩
    have := h.ours.tbl.slt j e1; omega

/-- how a count grows -/
theorem setCap_count (q : TQ) (n : Int) : countN (setCapE q n).1 = countN q := by
  unfold setCapE
  split
  · rfl
  · exact shrink_count _ _
theorem insert_count (q : TQ) (f : Fd) : countN (insertE q f).1 ≤ countN q + 1 := by
  unfold insertE
  split
  · simp
  · split
    · simp
    · have := shrink_count (q.cap - roomF f) q
      simp only [countN, List.length_append, List.length_singleton] at this ⊢
      omega
/-- what a script's act makes of a table -/
def actE (q : TQ) (c : ActV) : TQ := if c.k % 4 = 0 then (insertE q c.f).1 else if c.k % 4 = 1 then (setCapE q c.n).1 else q
theorem act_count (q : TQ) (c : ActV) : countN (actE q c) ≤ countN q + 1 := by
  unfold actE
  split
  · exact insert_count q c.f
  · split
    · rw [setCap_count]; omega
    · omega
end Go.Proofs.YtfacpncbcplocaaDoor
