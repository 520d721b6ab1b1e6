/- Layer 17: Elements. -/
import Derived.Test.YtdfebmjincnfiaaDoorFdD
import Derived.Test.YtdfebmjincnfiaaDoorKeep
set_option maxRecDepth 100000
set_option linter.unusedSimpArgs false
set_option linter.unusedVariables false
namespace Go.Proofs.YtdfebmjincnfiaaDoor
open Go.RowKit

theorem elemStr : ElemC Tryd.prog 9 1 16 (.string ⟨#[]⟩) := ⟨info_parts (by kernel_rfl), rfl, by decide⟩
/-- a row of texts of the call's own -/
def OwnT (w : World) (B : Nat) (v : Value) (ts : List (List UInt8)) : Prop := w.ownsRow B 9 1 v ts.length (strsC ts)
theorem OwnT.rd {w : World} {B : Nat} {v : Value} {ts : List (List UInt8)} (h : OwnT w B v ts) : RdT w v ts := RdC.of_owns h
theorem OwnT.kept {w w' : World} {B : Nat} {v : Value} {ts : List (List UInt8)} {row : Option Nat} (h : OwnT w B v ts) (hg : w.grownBy w' row) (hne : ∀ j, v.ownBlock = some j → row ≠ some j) : OwnT w' B v ts := by
  refine World.ownsRow.kept h hg ?_
  cases hv : v.ownBlock with
  | none => exact .inl rfl
  | some j => exact .inr fun e => hne j hv e.symm
theorem OwnT.below {w w' : World} {B : Nat} {v : Value} {ts : List (List UInt8)} (h : OwnT w B v ts) (hb : Below w.heap.size w w') : OwnT w' B v ts := h.kept (row := none) (grownBy_of_below hb) (fun _ _ => by simp)
theorem below_frozen {w w' : World} {B g o : Nat} (hb : Below B w w') (hg : g < B) : w'.frozen? ⟨g, o, none⟩ = w.frozen? ⟨g, o, none⟩ := by
  unfold World.frozen?
  rw [hb.block g hg]

theorem cell_lt {w : World} {b o : Nat} {v : Value} (h : w.cell? ⟨b, o, none⟩ = some v) : b < w.heap.size := by
  rcases Nat.lt_or_ge b w.heap.size with h' | h'
  · exact h'
  · unfold World.cell? at h
    simp [Array.getElem?_eq_none h'] at h
set_option maxHeartbeats 3200000 in
theorem push_any (g B D : Nat) (x : List UInt8) (ts : List (List UInt8)) (v : Value) (w : World) (hg : w.cell? ⟨g, 0, none⟩ = some v) (hz : w.frozen? ⟨g, 0, none⟩ = false) (ho : OwnT w B v ts) (hgB : g < B) (hB : B ≤ w.heap.size) (hD : D ≤ g) (hn : ts.length ≤ 1048576) :
    Calls Tryd.prog 13 #[.string (txt x), .pointer (some ⟨g, 0, none⟩)] w fun e w' => e = .returned (.bool false) ∧ (∃ v', w'.cell? ⟨g, 0, none⟩ = some v' ∧ w'.frozen? ⟨g, 0, none⟩ = false ∧ OwnT w' B v' (ts ++ [x])) ∧ Below D w w' := by
  obtain ⟨va, c, rfl, _, _⟩ := ho.rd.isSlice
  have O1 := Lib.hid (World.ownsRow.alloc ho (.cells #[.string (txt x)] 9))
  have B1 := Lib.hid ((Below.refl D w).alloc (by omega) (.cells #[.string (txt x)] 9))
  have R1 := Lib.hid (RdC.built 1 w #[.string (txt x)] 9 rfl)
  have hlt := cell_lt hg
  have HC1 : Hid ((w.alloc (.cells #[.string (txt x)] 9)).cell? ⟨g, 0, none⟩ = some (.slice va ts.length c)) := (B1.out.mono (Nat.le_refl _) |> fun _ => ((Below.refl w.heap.size w).alloc (Nat.le_refl _) (.cells #[.string (txt x)] 9)).cell (p := ⟨g, 0, none⟩) hlt).trans hg
  have HF : Hid (∀ (W : World) row, (w.alloc (.cells #[.string (txt x)] 9)).grownBy W row → some g ≠ row → W.frozen? ⟨g, 0, none⟩ = false) := fun W row hgr hne => by
    have h1 : W.heap[g]? = (w.alloc (.cells #[.string (txt x)] 9)).heap[g]? := hgr.block g (by simp; omega) hne
    have h2 : (w.alloc (.cells #[.string (txt x)] 9)).heap[g]? = w.heap[g]? := ((Below.refl w.heap.size w).alloc (Nat.le_refl _) _).block g hlt
    unfold World.frozen? at hz ⊢
    rw [h1, h2]
    exact hz
  have NE : Hid (∀ (n : Nat), some g ≠ (Value.slice va n c).ownBlock) := fun n e => by
    have e2 : (Value.slice va ts.length c).ownBlock = some g := by cases va <;> exact e.symm
    have := (World.ownsRow.lt O1.out g e2).1
    omega
  clear ho hz
  have hBw : Hid (B ≤ (w.alloc (.cells #[.string (txt x)] 9)).heap.size) := by show _ ≤ _; simp; omega
  go_enter Tryd.func13, Tryd.ntmps13
  go_wp2_with (at_builtin; ((with_reducible refine wpList_append_rows _ ?_ (.tmp 4) (.tmp 6) 22 ?_ elemStr Tryd.underlying22 B (.slice va ts.length c) ts.length (strsC ts) ?_ O1.out _ 1 [.string (txt x)] ?_ R1.out ?_ ?_ ?_ ?_ ?_)); rfl; rfl; rfl; rfl; (intro u hu; cases hu with | head => rfl | tail _ h => cases h); (omega); (unfold maxLen; omega); (exact hBw.out); intro v7 w7 o7 g7; obtain ⟨va7, c7, rfl, hx7, hy7⟩ := (RdC.of_owns o7).isSlice; have k7 : w7.cell? ⟨g, 0, none⟩ = some (.slice va ts.length c) := g7.cell HC1.out (NE.out _); have f7 : w7.frozen? ⟨g, 0, none⟩ = false := HF.out w7 _ g7 (NE.out _); have O7 := Lib.hid o7; have B7 := Lib.hid (B1.out.grown g7 (by simp; omega) (fun j hj => by have := (World.ownsRow.lt O1.out j hj).1; omega)); clear o7 g7)
  go_ret
  have k8 := O7.out
  have hcell : w7.cell? ⟨g, 0, none⟩ = some (.slice va ts.length c) := k7
  refine ⟨rfl, ⟨_, set_at hcell, by rw [World.frozen?_setCell]; exact f7, ?_⟩, B7.out.setCell (p := ⟨g, 0, none⟩) hD _⟩
  have h9 : (w7.setCell ⟨g, 0, none⟩ (.slice va7 (ts.length + 1) c7)).ownsRow B 9 1 (.slice va7 (ts.length + 1) c7) (ts.length + 1) (strsC ts ++ [.string (txt x)]) := by
    refine World.ownsRow.kept O7.out (grown_set g 0 w7 _) ?_
    cases hv : (Value.slice va7 (ts.length + 1) c7).ownBlock with
    | none => exact .inl rfl
    | some j =>
      refine .inr fun e => ?_
      have := (World.ownsRow.lt O7.out j hv).1
      simp only [Option.some.injEq] at e
      omega
  show World.ownsRow _ _ _ _ _ (ts ++ [x]).length _
  rw [List.length_append, show strsC (ts ++ [x]) = strsC ts ++ [.string (txt x)] by simp [strsC]]
  exact h9

/-- between two elements: the box g holds a row of the call's own -/
structure Col (w : World) (g B : Nat) (pre : List (List UInt8)) (v : Value) (vs : List (List UInt8)) (W : World) : Prop where
  box : ∃ u, W.cell? ⟨g, 0, none⟩ = some u ∧ W.frozen? ⟨g, 0, none⟩ = false ∧ OwnT W B u pre
  big : B ≤ W.heap.size
  rd : RdT W v vs
  bel : Below w.heap.size w W
set_option maxHeartbeats 3200000 in
theorem elements_any (vs : List (List UInt8)) (v : Value) (w : World) (hv : RdT w v vs) (hl : ∀ t ∈ vs, t.length ≤ 4611686018427387904) (hn : (allE vs).length ≤ 1048576) :
    Calls Tryd.prog 6 #[v] w fun e w' => ∃ u, e = .returned u ∧ OwnT w' (w.heap.size + 1) u (allE vs) ∧ Below w.heap.size w w' := by
  obtain ⟨va, c, rfl, _, _⟩ := RdC.isSlice hv
  have B1 := Lib.hid ((Below.refl w.heap.size w).alloc (Nat.le_refl _) (.cells #[.slice none 0 0] 22))
  have C0 : Hid (Col w w.heap.size (w.heap.size + 1) [] (.slice va vs.length c) vs (w.alloc (.cells #[.slice none 0 0] 22))) :=
    ⟨⟨.slice none 0 0, by rw [World.cell?_alloc_at _ _ _ _ rfl]; rfl, World.frozen?_alloc_at _ _ _ _ rfl, World.ownsRow_nil _ _ _ 1⟩, by simp, RdT.below hv B1.out, B1.out⟩
  have A := Lib.hid (any_any 13 #[.pointer (some ⟨w.heap.size, 0, none⟩)] (enters_of Tryd.func13 (by kernel_rfl) rfl) vs (.slice va vs.length c) _ C0.out.rd hl
    (fun pre W => Col w w.heap.size (w.heap.size + 1) pre (.slice va vs.length c) vs W) (fun _ _ => False) C0.out
    (fun pre W W' h hb => by
      obtain ⟨⟨u, h1, h2, h3⟩, h4, h5, h6⟩ := h
      exact ⟨⟨u, (hb.cell (p := ⟨w.heap.size, 0, none⟩) (cell_lt h1)).trans h1, (below_frozen hb (cell_lt h1)).trans h2, h3.below hb⟩, Nat.le_trans h4 hb.size, h5.below hb, h6.trans (hb.mono h6.size)⟩)
    (fun pre W h => h.rd)
    (fun pre x W h hp => by
      obtain ⟨⟨u, h1, h2, h3⟩, h4, h5, h6⟩ := h
      have hlen : pre.length + 1 ≤ (allE vs).length := by
        have := hp.length_le
        rwa [List.length_append] at this
      refine (push_any w.heap.size (w.heap.size + 1) w.heap.size x pre u W h1 h2 h3 (by omega) h4 (Nat.le_refl _) (by omega)).mono ?_
      rintro e W' ⟨rfl, hbx, hb⟩
      have hsz : W.heap.size ≤ W'.heap.size := hb.size
      refine ⟨false, rfl, fun _ => ⟨hbx, by omega, ?_, h6.trans hb⟩, fun h => by cases h⟩
      exact RdT.below hv (h6.trans hb)))
  have A2 := Lib.hid (A.out.mono (R' := fun e w' => e = .returned (.bool false) ∧ Col w w.heap.size (w.heap.size + 1) (allE vs) (.slice va vs.length c) vs w') fun e w' h => by
    rcases h with h | ⟨_, _, _, h⟩
    · exact h
    · exact h.elim)
  clear hv hl A
  go_enter Tryd.func6, Tryd.ntmps6
  go_wp2_with (go_at_call 12; refine A2.out.mono ?_; rintro e w2 ⟨rfl, ⟨u, h1, h2, h3⟩, h4, h5, h6⟩; obtain ⟨ua, uc, rfl, _, _⟩ := RdC.isSlice h3.rd; have H3 := Lib.hid h3; clear h3)
  go_ret
  exact ⟨_, rfl, H3.out, h6⟩
end Go.Proofs.YtdfebmjincnfiaaDoor
