/- Walks of layer 4: one frame is written, whatever its kind; Encode. -/
/- Walks of layer 4: Encode. -/
/- Walks of layer 4: Encode, whatever the frames. -/
import Derived.Test.YtfkkimaebhjneaaDoorFrX
set_option linter.unusedSimpArgs false
set_option linter.unusedVariables false
namespace Go.Proofs.YtfkkimaebhjneaaDoor
open Go.RowKit

theorem mayF_parts {f : Fr} (h : mayF f = true) : knownK f.kind ∧ numB f.stream (hStream f.kind) = true ∧ numB f.code (hCode f.kind) = true ∧ numB f.offset (hOffset f.kind) = true ∧ numB f.n (hN f.kind) = true ∧ spansB f.spans (hSpans f.kind) = true ∧ dataB f.data.length f.offset (hData f.kind) = true ∧ (hFin f.kind = true ∨ f.fin = false) := by
  unfold mayF at h
  simp only [Bool.and_eq_true, decide_eq_true_eq, Bool.or_eq_true, Bool.not_eq_true'] at h
  obtain ⟨⟨⟨⟨⟨⟨⟨h1, h2⟩, h3⟩, h4⟩, h5⟩, h6⟩, h7⟩, h8⟩ := h
  exact ⟨h1, h2, h3, h4, h5, h6, h7, h8⟩
theorem numB_yes {n : Int} {b : Bool} (h : numB n b = true) (hb : b = true) : 0 ≤ n ∧ n ≤ 4611686018427387903 := by subst hb; simpa [numB] using h
theorem numB_no {n : Int} {b : Bool} (h : numB n b = true) (hb : b = false) : n = 0 := by subst hb; simpa [numB] using h

theorem wframe_any (q : Nat) (v : Value) (f : Fr) (da sa : Option Addr) (dc sc : Nat) (bs : List Int) (w : World) (ht : Tab w) (h : WAt w q v bs) (hb : bs.length ≤ 262144) (hq : 0 < q) (hm : mayF f = true)
    (hd : ∀ V, Below q w V → Rd .u8 V (.slice da f.data.length dc) f.data) (hs : ∀ V, Below q w V → RdS V (.slice sa f.spans.length sc) f.spans) (hsb : ∀ b, sa = some b → 1 ≤ f.spans.length → b.block < q) :
    Calls Tryd.prog 21 #[.pointer (some ⟨q, 0, none⟩), .agg #[.int .i64 f.kind, .int .i64 f.stream, .int .i64 f.offset, .int .i64 f.n, .int .i64 f.code, .bool f.fin, .slice da f.data.length dc, .slice sa f.spans.length sc]] w (WIs w q (bs ++ encF f)) := by
  obtain ⟨hk, h1, h2, h3, h4, h5, h6, h7⟩ := mayF_parts hm
  have st : hStream f.kind = true → 0 ≤ f.stream ∧ f.stream ≤ 4611686018427387903 := numB_yes h1
  have cd : hCode f.kind = true → 0 ≤ f.code ∧ f.code ≤ 4611686018427387903 := numB_yes h2
  have of : hOffset f.kind = true → 0 ≤ f.offset ∧ f.offset ≤ 4611686018427387903 := numB_yes h3
  have nn : hN f.kind = true → 0 ≤ f.n ∧ f.n ≤ 4611686018427387903 := numB_yes h4
  have sp : hSpans f.kind = true → Rises f.spans ∧ 1 ≤ f.spans.length ∧ f.spans.length ≤ 32 := fun e => by
    rw [e] at h5
    simp only [spansB, if_true, Bool.and_eq_true, decide_eq_true_eq] at h5
    exact ⟨Rises.of (Int.le_refl _) h5.2, h5.1.1, h5.1.2⟩
  have dl : hData f.kind = true → f.data.length ≤ 1200 := fun e => by
    rw [e] at h6
    simp only [dataB, if_true, decide_eq_true_eq] at h6
    exact h6.1
  unfold knownK at hk
  rcases hk with hk | hk | hk | hk | hk | hk | hk | hk | hk | hk | hk
  all_goals rw [hk] at st cd of nn sp dl
  · have := wframe_4 q v f da sa dc sc bs w ht h hb hq hk (st rfl) (cd rfl) (of rfl) hd hs hsb
    rwa [hk]
  · have := wframe_5 q v f da sa dc sc bs w ht h hb hq hk (st rfl) (cd rfl) hd hs hsb
    rwa [hk]
  · have := wframe_8 q v f da sa dc sc bs w ht h hb hq hk (st rfl) (of rfl) (dl rfl) hd hs hsb
    rwa [hk]
  · have := wframe_17 q v f da sa dc sc bs w ht h hb hq hk (st rfl) (nn rfl) hd hs hsb
    rwa [hk]
  · have := wframe_16 q v f da sa dc sc bs w ht h hb hq hk (nn rfl) hd hs hsb
    rwa [hk]
  · have := wframe_18 q v f da sa dc sc bs w ht h hb hq hk (nn rfl) hd hs hsb
    rwa [hk]
  · have := wframe_2 q v f da sa dc sc bs w ht h hb hq hk (nn rfl) (sp rfl).1 (sp rfl).2.1 (sp rfl).2.2 hd hs hsb
    rwa [hk]
  · have := wframe_28 q v f da sa dc sc bs w ht h hb hq hk (cd rfl) (dl rfl) hd hs hsb
    rwa [hk]
  · have := wframe_0 q v f da sa dc sc bs w ht h hb hq hk hd hs hsb
    rwa [hk]
  · have := wframe_1 q v f da sa dc sc bs w ht h hb hq hk hd hs hsb
    rwa [hk]
  · have := wframe_30 q v f da sa dc sc bs w ht h hb hq hk hd hs hsb
    rwa [hk]
theorem encF_le {f : Fr} (hm : mayF f = true) : (encF f).length ≤ 1800 := by
  obtain ⟨hk, h1, h2, h3, h4, h5, h6, h7⟩ := mayF_parts hm
  have a1 := E_le (typeI f)
  have a2 := E_le f.stream
  have a3 := E_le f.code
  have a4 := E_le f.offset
  have a5 := E_le (lastTo f.spans)
  have a6 := E_le f.n
  have a7 := E_le (f.data.length : Int)
  have a8 : (if hSpans f.kind then spanBytes f.spans else []).length ≤ 512 := by
    split
    · rename_i e
      rw [e] at h5
      simp only [spansB, if_true, Bool.and_eq_true, decide_eq_true_eq] at h5
      have := spanBytes_le f.spans
      omega
    · simp
  have a9 : (if hData f.kind then E (f.data.length : Int) ++ f.data else []).length ≤ 1208 := by
    split
    · rename_i e
      rw [e] at h6
      simp only [dataB, if_true, decide_eq_true_eq] at h6
      rw [List.length_append]; omega
    · simp
  have b : ∀ (c : Bool) (n : Int), (if c = true then E n else []).length ≤ 8 := fun c n => by
    cases c
    · simp
    · exact E_le n
  have b1 := b (hStream f.kind) f.stream
  have b2 := b (hCode f.kind) f.code
  have b3 := b (hOffset f.kind) f.offset
  have b4 := b (hSpans f.kind) (lastTo f.spans)
  have b5 := b (hN f.kind) f.n
  rw [encF]
  simp only [List.length_append]
  omega
end Go.Proofs.YtfkkimaebhjneaaDoor

namespace Go.Proofs.YtfkkimaebhjneaaDoor
open Go.RowKit

/-- what stands at place k of a row of frames, in any world that has kept it -/
theorem RdF.at {w : World} {b o n c : Nat} {fs : List Fr} (h : RdF w (.slice (some ⟨b, o, none⟩) n c) fs) (hb : b < w.heap.size) (k : Nat) (hk : k < fs.length) :
    ∃ (f : Fr) (da sa : Option Addr) (dc sc : Nat), fs[k]? = some f ∧ (∀ b, sa = some b → 1 ≤ f.spans.length → b.block < w.heap.size) ∧ ∀ W, Below w.heap.size w W →
      (W.cell? ⟨b, o + k * 8, none⟩ = some (.int .i64 f.kind) ∧ W.cell? ⟨b, o + k * 8 + 1, none⟩ = some (.int .i64 f.stream) ∧ W.cell? ⟨b, o + k * 8 + 2, none⟩ = some (.int .i64 f.offset) ∧ W.cell? ⟨b, o + k * 8 + 3, none⟩ = some (.int .i64 f.n) ∧
        W.cell? ⟨b, o + k * 8 + 4, none⟩ = some (.int .i64 f.code) ∧ W.cell? ⟨b, o + k * 8 + 5, none⟩ = some (.bool f.fin) ∧ W.cell? ⟨b, o + k * 8 + 6, none⟩ = some (.slice da f.data.length dc) ∧ W.cell? ⟨b, o + k * 8 + 7, none⟩ = some (.slice sa f.spans.length sc)) ∧
      Rd .u8 W (.slice da f.data.length dc) f.data ∧ RdS W (.slice sa f.spans.length sc) f.spans := by
  obtain ⟨l, rfl, h2, h3⟩ := h
  rw [List.length_map] at hk
  have hn : n = l.length := by obtain ⟨_, _, e, _⟩ := RdC.isSlice h2; simp only [Value.slice.injEq] at e; exact e.2.1
  subst hn
  obtain ⟨hd, hs⟩ := h3 l[k] (List.getElem_mem hk)
  obtain ⟨da, dc, e1⟩ := hd.isSlice
  obtain ⟨sa, sc, e2, _, _⟩ := RdC.isSlice hs
  have cell : ∀ W, Below w.heap.size w W → ∀ j u, j < 8 → (frCell l[k])[j]? = some u → W.cell? ⟨b, o + k * 8 + j, none⟩ = some u := fun W hW j u hj hu =>
    (hW.cell (p := ⟨b, _, none⟩) hb).trans (RdC.cell h2 (k * 8 + j) u ((frC_get l k j hk hj).trans hu) _ (by omega))
  refine ⟨l[k].f, da, sa, dc, sc, by simp [hk], ?_, fun W hW => ⟨⟨cell W hW 0 _ (by omega) rfl, cell W hW 1 _ (by omega) rfl, cell W hW 2 _ (by omega) rfl, cell W hW 3 _ (by omega) rfl, cell W hW 4 _ (by omega) rfl, cell W hW 5 _ (by omega) rfl, ?_, ?_⟩, ?_, ?_⟩⟩
  · intro b' hb' h1
    rw [e2, hb'] at hs
    obtain ⟨_, ⟨h0, _⟩ | ⟨_, b2, o2, c2, e, _, _, h4, _⟩⟩ := hs
    · omega
    · simp only [Value.slice.injEq, Option.some.injEq] at e
      rw [e.1]; exact h4
  · rw [← e1]; exact cell W hW 6 _ (by omega) rfl
  · rw [← e2]; exact cell W hW 7 _ (by omega) rfl
  · rw [← e1]; exact hd.below hW
  · rw [← e2]; exact hs.below hW
theorem RdF.form {w : World} {v : Value} {fs : List Fr} (h : RdF w v fs) (hf : fs ≠ []) : ∃ b o c, v = .slice (some ⟨b, o, none⟩) fs.length c ∧ b < w.heap.size ∧ fs.length ≤ c ∧ c ≤ maxLen := by
  obtain ⟨l, rfl, h2, h3⟩ := h
  rw [List.length_map]
  obtain ⟨_, ⟨h0, _⟩ | ⟨_, b, o, c, rfl, hc, hm, h4, _⟩⟩ := h2
  · exact absurd (by rw [List.length_eq_zero_iff.1 h0]; rfl) hf
  · exact ⟨b, o, c, rfl, h4, hc, hm⟩

/-- ALL FRAMES' BYTES -/
def encFs (fs : List Fr) : List Int := fs.flatMap encF
def encL (fs : List Fr) : Except Int (List Int) := if 64 < fs.length then .error 6 else if fs.all mayF = true then (if 1200 < (encFs fs).length then .error 6 else .ok (encFs fs)) else .error 1
/-- WHAT Encode COMES TO -/
def EncIs (w : World) (r : Except Int (List Int)) (e : Ending) (w' : World) : Prop := Below w.heap.size w w' ∧ match r with
  | .ok bs => ∃ u, e = .returned (.tuple #[u, .int .i64 0]) ∧ Own .u8 5 w' w.heap.size u bs
  | .error c => e = .returned (.tuple #[.slice none 0 0, .int .i64 c])

theorem encode_long (v : Value) (fs : List Fr) (w : World) (hr : RdF w v fs) (hl : 64 < fs.length) : Calls Tryd.prog 9 #[v] w (EncIs w (.error 6)) := by
  obtain ⟨va, vc, rfl, _, _⟩ := hr.isSlice
  have t1 : decide (64 < (fs.length : Int)) = true := decide_eq_true (by omega)
  clear hr
  go_enter Tryd.func9, Tryd.ntmps9
  go_wp2
  go_ret2
  exact ⟨Below.refl _ _, rfl⟩

set_option maxHeartbeats 3200000 in
theorem encode_short (b o c : Nat) (fs : List Fr) (w : World) (ht : Tab w) (hr : RdF w (.slice (some ⟨b, o, none⟩) fs.length c) fs) (hb : b < w.heap.size) (hl : fs.length ≤ 64) (hall : fs.all mayF = true) (r : Except Int (List Int)) (hres : r = if 1200 < (encFs fs).length then .error 6 else .ok (encFs fs)) :
    Calls Tryd.prog 9 #[.slice (some ⟨b, o, none⟩) fs.length c] w (EncIs w r) := by
  have HRS := Lib.hid hres
  have hp := ht.pos
  have HT := Lib.hid ht
  have HR := Lib.hid hr
  have HAll := Lib.hid hall
  have t1 : decide (64 < (fs.length : Int)) = false := decide_eq_false (by omega)
  clear ht hr hall hres
  go_enter Tryd.func9, Tryd.ntmps9
  go_wp2_with fail
  go_loopw [14] (fun i wr => ∃ (k : Nat), i = .int .i64 k ∧ k ≤ fs.length ∧ Below w.heap.size w wr) (fun i _ => fs.length - (intOf i).toNat)
  case atStart => exact ⟨0, rfl, Nat.zero_le _, Below.refl _ _⟩
  case round =>
    obtain ⟨k, rfl, hk, hbel⟩ := hrel
    have hz := hbel.size
    by_cases hlt : k < fs.length
    · obtain ⟨f, da, sa, dc, sc, hf, _, hw⟩ := HR.out.at hb k hlt
      obtain ⟨⟨q0, q1, q2, q3, q4, q5, q6, q7⟩, _, _⟩ := hw wr hbel
      have hmay : mayF f = true := List.all_eq_true.1 HAll.out f (List.mem_of_getElem? hf)
      have bA : Below w.heap.size w (wr.alloc (.cells #[.int .i64 f.kind, .int .i64 f.stream, .int .i64 f.offset, .int .i64 f.n, .int .i64 f.code, .bool f.fin, .slice da f.data.length dc, .slice sa f.spans.length sc] 33)) := hbel.alloc hz _
      obtain ⟨_, hd, hs⟩ := hw _ bA
      have MA := Lib.hid (may_any f da sa dc sc _ hd hs)
      rw [hmay] at MA
      have hi1 : (k : Int) < (fs.length : Int) := by omega
      have hw1 : IntKind.i64.wrap ((k : Int) + 1) = (k : Int) + 1 := wraps_i64' _ (by omega) (by omega)
      clear hf hw hmay hd hs
      go_wp2_with (go_at_call 14; refine MA.out.mono ?_; rintro e w2 ⟨rfl, b2⟩)
      exact ⟨⟨k + 1, by go_num, by omega, bA.trans (b2.mono bA.size)⟩, by simp [intOf]; omega⟩
    · have hlt2 : decide ((k : Int) < (fs.length : Int)) = false := decide_eq_false (by omega)
      go_wp2_with fail
      have bq : Below w.heap.size w (wr.alloc (.cells #[.slice none 0 0] 46)) := hbel.alloc hz _
      have A0 : WAt (wr.alloc (.cells #[.slice none 0 0] 46)) wr.heap.size (.slice none 0 0) [] := ⟨alloc_at _ _, Own.nil _ _ _ _⟩
      have HA0 := Lib.hid A0
      generalize hQ : wr.heap.size = q at A0 HA0 hz ⊢
      generalize wr.alloc (.cells #[.slice none 0 0] 46) = w5 at A0 HA0 bq ⊢
      clear hQ hbel A0
      go_loopw [24] (fun i wr => ∃ (k : Nat) (v : Value), i = .int .i64 k ∧ k ≤ fs.length ∧ WAt wr q v (encFs (fs.take k)) ∧ WG q w5 wr) (fun i _ => fs.length - (intOf i).toNat)
      case atStart => exact ⟨0, _, rfl, Nat.zero_le _, by simpa [encFs] using HA0.out, WG.refl _ _⟩
      case round =>
        obtain ⟨k, v, rfl, hk, hat, hg⟩ := hrel
        have B1 : Below w.heap.size w wr := bq.trans (hg.bel.mono hz)
        have z1 := B1.size
        have HAT := Lib.hid hat
        obtain ⟨va, vc, hv⟩ := hat.own.len
        have hlen : (encFs (fs.take k)).length ≤ 1800 * k := by
          have h1 : ∀ (l : List Fr), (∀ f ∈ l, mayF f = true) → (encFs l).length ≤ 1800 * l.length := by
            intro l
            induction l with
            | nil => intro _; simp [encFs]
            | cons f l ih =>
              intro h
              have a := encF_le (h f (by simp))
              have b := ih fun g hg => h g (by simp [hg])
              simp only [encFs, List.flatMap_cons, List.length_append, List.length_cons] at b ⊢
              omega
          have := h1 (fs.take k) (fun f hf => List.all_eq_true.1 HAll.out f (List.mem_of_mem_take hf))
          rw [List.length_take] at this
          omega
        by_cases hlt : k < fs.length
        · obtain ⟨f, da, sa, dc, sc, hf, hsa, hw⟩ := HR.out.at hb k hlt
          obtain ⟨⟨q0, q1, q2, q3, q4, q5, q6, q7⟩, _, _⟩ := hw wr B1
          have hmay : mayF f = true := List.all_eq_true.1 HAll.out f (List.mem_of_getElem? hf)
          have bA : Below wr.heap.size wr (wr.alloc (.cells #[.int .i64 f.kind, .int .i64 f.stream, .int .i64 f.offset, .int .i64 f.n, .int .i64 f.code, .bool f.fin, .slice da f.data.length dc, .slice sa f.spans.length sc] 33)) := (Below.refl _ _).alloc (Nat.le_refl _) _
          have hTk : fs.take (k + 1) = fs.take k ++ [f] := by
            rw [List.take_succ_eq_append_getElem hlt]
            have : fs[k] = f := by rw [List.getElem?_eq_getElem hlt] at hf; exact Option.some.inj hf
            rw [this]
          have HTk : Hid (encFs (fs.take (k + 1)) = encFs (fs.take k) ++ encF f) := by show _ = _; rw [hTk]; simp [encFs]
          have bw : ∀ V, Below q (wr.alloc (.cells #[.int .i64 f.kind, .int .i64 f.stream, .int .i64 f.offset, .int .i64 f.n, .int .i64 f.code, .bool f.fin, .slice da f.data.length dc, .slice sa f.spans.length sc] 33)) V → Below w.heap.size w V := fun V hV => (B1.trans (bA.mono z1)).trans (hV.mono hz)
          have WA := Lib.hid (wframe_any q v f da sa dc sc (encFs (fs.take k)) _ (HT.out.below (B1.trans (bA.mono z1)) hp) (hat.below bA) (by omega) (by omega) hmay (fun V hV => (hw V (bw V hV)).2.1) (fun V hV => (hw V (bw V hV)).2.2) (fun b hb' h1 => Nat.lt_of_lt_of_le (hsa b hb' h1) hz))
          have hi1 : (k : Int) < (fs.length : Int) := by omega
          have hw1 : IntKind.i64.wrap ((k : Int) + 1) = (k : Int) + 1 := wraps_i64' _ (by omega) (by omega)
          have gA : WG q wr (wr.alloc (.cells #[.int .i64 f.kind, .int .i64 f.stream, .int .i64 f.offset, .int .i64 f.n, .int .i64 f.code, .bool f.fin, .slice da f.data.length dc, .slice sa f.spans.length sc] 33)) := WG.of_below bA (Nat.le_of_lt hat.lt)
          have HG := Lib.hid (hg.trans gA)
          clear hf hw hmay hTk hat hv hsa bw bA gA hg hlen
          go_wp2_with (go_at_call 21; refine WA.out.mono ?_; rintro e w2 ⟨rfl, g2, v2, A2⟩)
          exact ⟨⟨k + 1, v2, by go_num, by omega, by rw [HTk.out]; exact A2, HG.out.trans g2⟩, by simp [intOf]; omega⟩
        · have hlt3 : decide ((k : Int) < (fs.length : Int)) = false := decide_eq_false (by omega)
          have hkl : k = fs.length := by omega
          have HE : Hid (encFs (fs.take k) = encFs fs) := by show _ = _; rw [hkl, List.take_length]
          have c0 := Joins.cell_of_block hat.is 0
          subst hv
          generalize hbs : encFs (fs.take k) = bs at HAT HE c0
          clear hat hg hlen hkl hbs
          by_cases hbig : 1200 < bs.length
          · have t5 : decide (1200 < (bs.length : Int)) = true := decide_eq_true (by omega)
            have HE2 : Hid (r = .error 6) := by show _ = _; rw [HRS.out, ← HE.out]; exact if_pos hbig
            go_wp2
            go_ret2
            rw [HE2.out]
            exact ⟨B1, rfl⟩
          · have t5 : decide (1200 < (bs.length : Int)) = false := decide_eq_false (by omega)
            have HE2 : Hid (r = .ok bs) := by show _ = _; rw [HRS.out, ← HE.out]; exact if_neg hbig
            go_wp2
            go_ret2
            rw [HE2.out]
            exact ⟨B1, _, rfl, HAT.out.own.mono (by omega)⟩

end Go.Proofs.YtfkkimaebhjneaaDoor

namespace Go.Proofs.YtfkkimaebhjneaaDoor
open Go.RowKit

set_option maxHeartbeats 3200000 in
theorem encode_bad (b o c : Nat) (fs : List Fr) (w : World) (hr : RdF w (.slice (some ⟨b, o, none⟩) fs.length c) fs) (hb : b < w.heap.size) (hl : fs.length ≤ 64) (hall : ¬ fs.all mayF = true) :
    Calls Tryd.prog 9 #[.slice (some ⟨b, o, none⟩) fs.length c] w (EncIs w (.error 1)) := by
  have HR := Lib.hid hr
  have HAll := Lib.hid hall
  have t1 : decide (64 < (fs.length : Int)) = false := decide_eq_false (by omega)
  clear hr hall
  go_enter Tryd.func9, Tryd.ntmps9
  go_wp2_with fail
  go_loopw [14] (fun i wr => ∃ (k : Nat), i = .int .i64 k ∧ k ≤ fs.length ∧ (∀ f ∈ fs.take k, mayF f = true) ∧ Below w.heap.size w wr) (fun i _ => fs.length - (intOf i).toNat)
  case atStart => exact ⟨0, rfl, Nat.zero_le _, by simp, Below.refl _ _⟩
  case round =>
    obtain ⟨k, rfl, hk, hok, hbel⟩ := hrel
    have hz := hbel.size
    have HOK : Hid (∀ f ∈ fs.take k, mayF f = true) := hok
    clear hok
    by_cases hlt : k < fs.length
    · obtain ⟨f, da, sa, dc, sc, hf, _, hw⟩ := HR.out.at hb k hlt
      obtain ⟨⟨q0, q1, q2, q3, q4, q5, q6, q7⟩, _, _⟩ := hw wr hbel
      have bA : Below w.heap.size w (wr.alloc (.cells #[.int .i64 f.kind, .int .i64 f.stream, .int .i64 f.offset, .int .i64 f.n, .int .i64 f.code, .bool f.fin, .slice da f.data.length dc, .slice sa f.spans.length sc] 33)) := hbel.alloc hz _
      obtain ⟨_, hd, hs⟩ := hw _ bA
      have MA := Lib.hid (may_any f da sa dc sc _ hd hs)
      have hi1 : (k : Int) < (fs.length : Int) := by omega
      have hw1 : IntKind.i64.wrap ((k : Int) + 1) = (k : Int) + 1 := wraps_i64' _ (by omega) (by omega)
      have hTk : fs.take (k + 1) = fs.take k ++ [f] := by
        rw [List.take_succ_eq_append_getElem hlt]
        have : fs[k] = f := by rw [List.getElem?_eq_getElem hlt] at hf; exact Option.some.inj hf
        rw [this]
      cases hmay : mayF f
      · rw [hmay] at MA
        clear hf hw hmay hd hs hTk
        go_wp2_with (go_at_call 14; refine MA.out.mono ?_; rintro e w2 ⟨rfl, b2⟩)
        go_ret2
        exact ⟨bA.trans (b2.mono bA.size), rfl⟩
      · rw [hmay] at MA
        have HN : Hid (∀ g ∈ fs.take (k + 1), mayF g = true) := fun g hg => by
          rw [hTk] at hg
          rcases List.mem_append.1 hg with h | h
          · exact HOK.out g h
          · simp at h; subst h; exact hmay
        clear hf hw hmay hd hs hTk
        go_wp2_with (go_at_call 14; refine MA.out.mono ?_; rintro e w2 ⟨rfl, b2⟩)
        exact ⟨⟨k + 1, by go_num, by omega, HN.out, bA.trans (b2.mono bA.size)⟩, by simp [intOf]; omega⟩
    · exact absurd (by
        have hkl : k = fs.length := by omega
        have h := HOK.out
        rw [hkl, List.take_length] at h
        exact List.all_eq_true.2 h) HAll.out

theorem encode_empty (va : Option Addr) (vc : Nat) (w : World) : Calls Tryd.prog 9 #[.slice va 0 vc] w (EncIs w (.ok [])) := by
  go_enter Tryd.func9, Tryd.ntmps9
  go_wp2_with fail
  refine wp_loop_rounds 1 ?_
  rw [rounds_succ]
  go_wp2_with fail
  refine wp_loop_rounds 1 ?_
  rw [rounds_succ]
  go_wp2
  go_ret2
  exact ⟨(Below.refl _ _).alloc (Nat.le_refl _) _, _, rfl, Own.nil _ _ _ _⟩

/-- ENCODE, WHATEVER THE FRAMES -/
theorem encode_any (v : Value) (fs : List Fr) (w : World) (ht : Tab w) (hr : RdF w v fs) : Calls Tryd.prog 9 #[v] w (EncIs w (encL fs)) := by
  by_cases hl : 64 < fs.length
  · have e : encL fs = .error 6 := if_pos hl
    rw [e]
    exact encode_long v fs w hr hl
  by_cases h0 : fs = []
  · subst h0
    obtain ⟨va, vc, rfl, _, _⟩ := hr.isSlice
    exact encode_empty va vc w
  obtain ⟨b, o, c, rfl, hb, _, _⟩ := hr.form h0
  by_cases hall : fs.all mayF = true
  · have e : encL fs = if 1200 < (encFs fs).length then .error 6 else .ok (encFs fs) := by unfold encL; rw [if_neg hl, if_pos hall]
    exact encode_short b o c fs w ht hr hb (by omega) hall _ e
  · have e : encL fs = .error 1 := by unfold encL; rw [if_neg hl, if_neg hall]
    rw [e]
    exact encode_bad b o c fs w hr hb (by omega) hall
end Go.Proofs.YtfkkimaebhjneaaDoor
