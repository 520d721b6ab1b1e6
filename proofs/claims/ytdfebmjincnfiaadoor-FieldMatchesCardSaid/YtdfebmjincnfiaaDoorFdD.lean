/- Layer 17: the elements of values, handed to a function that is asked of each. -/
import Derived.Test.YtdfebmjincnfiaaDoorFdTr
import Derived.Deep.CutBlock
set_option maxRecDepth 100000
set_option linter.unusedSimpArgs false
set_option linter.unusedVariables false
namespace Go.Proofs.YtdfebmjincnfiaaDoor
open Go.RowKit

theorem go_cut1 : ∀ (l cur : List UInt8) (q : Nat), goE q cur l = elem (cur ++ l.take (endE q l)) ++ goE 0 [] (l.drop (endE q l + 1)) := by
  intro l
  induction l with
  | nil =>
    intro cur q
    simp only [goE, endE, List.take_nil, List.drop_nil, List.append_nil]
    show elem cur = elem cur ++ elem []
    rw [show elem [] = [] from rfl, List.append_nil]
  | cons b l ih =>
    intro cur q
    rw [goE, endE]
    split
    · simp
    · rw [ih]
      rw [show 1 + endE (nxt q b) l = endE (nxt q b) l + 1 by omega, List.take_succ_cons, List.drop_succ_cons, List.append_assoc]
      rfl
theorem one_cut (l : List UInt8) : oneE l = elem (l.take (endE 0 l)) ++ oneE (l.drop (endE 0 l + 1)) := go_cut1 l [] 0

/-- the cells of texts -/
def strsC (ts : List (List UInt8)) : List Value := ts.map fun t => .string (txt t)
def RdT (w : World) (v : Value) (ts : List (List UInt8)) : Prop := RdC 1 w v ts.length (strsC ts)
theorem strs_one {ts : List (List UInt8)} : ∀ u ∈ strsC ts, u.oneCell' = true := by
  intro u hu
  obtain ⟨t, _, rfl⟩ := List.mem_map.1 hu
  rfl
theorem RdT.form {w : World} {v : Value} {ts : List (List UInt8)} (h : RdT w v ts) (hl : 0 < ts.length) : ∃ b o c, v = .slice (some ⟨b, o, none⟩) ts.length c := by
  obtain ⟨_, ⟨h0, _⟩ | ⟨_, b, o, c, rfl, _⟩⟩ := h
  · omega
  · exact ⟨b, o, c, rfl⟩
theorem RdT.at {w : World} {b o c : Nat} {ts : List (List UInt8)} (h : RdT w (.slice (some ⟨b, o, none⟩) ts.length c) ts) (k : Nat) (hk : k < ts.length) : w.cell? ⟨b, o + k, none⟩ = some (.string (txt ts[k])) :=
  RdC.cell h k _ (by simp [strsC, hk]) _ rfl
theorem RdT.below {w w' : World} {v : Value} {ts : List (List UInt8)} (h : RdT w v ts) (hb : Below w.heap.size w w') : RdT w' v ts := RdC.below h hb
theorem txt_empty (l : List UInt8) : (txt l).toList.isEmpty = decide (l = []) := by rw [txt_list]; cases l <;> simp
theorem next_text (r : List UInt8) (e : Nat) (he : e ≤ r.length) : (txt r).extract (min ((e : Int) + 1) (r.length : Int)).toNat r.length = txt (r.drop (e + 1)) := by
  rw [txt_extract]
  rcases Nat.lt_or_ge r.length (e + 1) with h | h
  · rw [show (min ((e : Int) + 1) (r.length : Int)).toNat = r.length by omega, List.drop_of_length_le (Nat.le_refl _), List.drop_of_length_le (by omega), List.take_nil]
  · rw [show (min ((e : Int) + 1) (r.length : Int)).toNat = e + 1 by omega, List.take_of_length_le (by rw [List.length_drop]; omega)]
def strLen : Value → Nat
  | .string s => s.size
  | _ => 0
theorem drop_min (l : List UInt8) (n : Nat) (h : l.length < n) : l.drop n = [] := List.drop_of_length_le (by omega)

set_option maxHeartbeats 8000000 in
theorem any_any (g : Nat) (lb : Array Value) (eg : ∀ args w, (callFunc g args).run Tryd.prog w = .ok (.enter g args) w) (vs : List (List UInt8)) (v : Value) (w : World) (hv : RdT w v vs) (hl : ∀ t ∈ vs, t.length ≤ 4611686018427387904)
    (J T : List (List UInt8) → World → Prop) (hJ0 : J [] w) (hJb : ∀ pre W W', J pre W → Below W.heap.size W W' → J pre W') (hR : ∀ pre W, J pre W → RdT W v vs)
    (hask : ∀ pre x W, J pre W → (pre ++ [x]) <+: allE vs → Calls Tryd.prog g (#[.string (txt x)] ++ lb) W fun e W' => ∃ b, e = .returned (.bool b) ∧ (b = false → J (pre ++ [x]) W') ∧ (b = true → T (pre ++ [x]) W')) :
    Calls Tryd.prog 12 #[v, .func (.func g) #[] lb] w fun e w' => (e = .returned (.bool false) ∧ J (allE vs) w') ∨ (e = .returned (.bool true) ∧ ∃ pre, pre <+: allE vs ∧ T pre w') := by
  obtain ⟨va, c, rfl, hc1, hc2⟩ := RdC.isSlice hv
  have hmx : vs.length ≤ 9223372036854775807 := by unfold maxLen at hc2; omega
  have HL := Lib.hid hl
  have HA := Lib.hid hask
  have HJ := Lib.hid hJ0
  clear hv hl hask hJ0 hc1 hc2
  go_enter Tryd.func12, Tryd.ntmps12
  go_wp2_with fail
  go_loopw [11] (fun i wx => ∃ k : Nat, k ≤ vs.length ∧ i = .int .i64 (k : Int) ∧ J (allE (vs.take k)) wx) (fun i _ => vs.length - (intOf i).toNat)
  case atStart => exact ⟨0, by omega, rfl, HJ.out⟩
  case round =>
    obtain ⟨k, hk, rfl, hj⟩ := hrel
    have JJ := Lib.hid hj
    clear hj
    by_cases hlt : k < vs.length
    · have hx : (k : Int) < (vs.length : Int) := by omega
      have w0 := wr64 ((k : Int) + 1) (by omega) (by omega)
      have hR0 := hR _ _ JJ.out
      obtain ⟨b, o, c', hf⟩ := RdT.form hR0 (by omega)
      simp only [Value.slice.injEq] at hf
      obtain ⟨rfl, _, rfl⟩ := hf
      have cc := hR0.at k hlt
      have hlk := HL.out _ (List.getElem_mem hlt)
      have hall : Hid (allE (vs.take (k + 1)) = allE (vs.take k) ++ oneE vs[k]) := by
        show _ = _
        rw [take_more hlt, allE_app]
        show _ ++ (oneE vs[k] ++ []) = _
        rw [List.append_nil]
      have hpre : Hid (allE (vs.take (k + 1)) <+: allE vs) := by
        refine ⟨allE (vs.drop (k + 1)), ?_⟩
        rw [← allE_app, List.take_append_drop]
      have hlk0 : Hid (0 ≤ k) := Nat.zero_le k
      clear hR0
      generalize vs[k] = r0 at cc hlk hall
      go_wp2_with fail
      go_loopw [6] (fun s wx => ∃ (r : List UInt8) (pre : List (List UInt8)), s = .string (txt r) ∧ r.length ≤ 4611686018427387904 ∧ J pre wx ∧ allE (vs.take (k + 1)) = pre ++ oneE r) (fun s _ => strLen s)
      case atStart => exact ⟨r0, _, rfl, hlk, JJ.out, hall.out⟩
      case round =>
        obtain ⟨r, pre, rfl, hrl, hj, he⟩ := hrel
        have J2 := Lib.hid hj
        have HE := Lib.hid he
        clear hj he JJ hall
        have sz := txt_size r
        have hem : (txt r).toList.isEmpty = decide (r = []) := txt_empty r
        by_cases hr : r = []
        · subst hr
          rw [decide_eq_true rfl] at hem
          have hfin : Hid (allE (vs.take (k + 1)) = pre) := by
            have := HE.out
            rw [show oneE [] = [] from rfl, List.append_nil] at this
            exact this
          go_wp2_with fail
          go_round
          case rel => exact ⟨k + 1, by omega, by go_num, by rw [hfin.out]; exact J2.out⟩
          case measure => simp [intOf, w0]; omega
        · rw [decide_eq_false hr] at hem
          have hle := endE_le r 0
          have hoc := Lib.hid (one_cut r)
          have E := Lib.hid (end_any r hrl)
          have hrp : 0 < r.length := List.length_pos_iff.2 hr
          obtain ⟨e, hee⟩ : ∃ e, e = endE 0 r := ⟨_, rfl⟩
          rw [← hee] at hle hoc E
          clear hee
          have x1 := txt_extract r 0 e
          rw [List.drop_zero, Nat.sub_zero] at x1
          have hTr := Lib.hid (trim_any (r.take e) (by rw [List.length_take]; omega))
          have c1 : (0 : Int) ≤ (e : Int) := by omega
          have c2 : (e : Int) ≤ (r.length : Int) := by omega
          have w1 := wr64 ((e : Int) + 1) (by omega) (by omega)
          by_cases ht : trim (r.take e) = []
          · rw [ht] at hTr
            have hem2 : (txt []).toList.isEmpty = true := by rw [txt_empty]; rfl
            go_wp2_with (first
              | (go_at_call 21; refine (E.out _).mono ?_; rintro e2 w2 ⟨rfl, rfl⟩)
              | (go_at_call 22; refine (hTr.out _).mono ?_; rintro e2 w3 ⟨rfl, b3⟩))
            refine ⟨⟨r.drop (e + 1), pre, by rw [next_text r e hle], by rw [List.length_drop]; omega, hJb _ _ _ J2.out b3, ?_⟩, ?_⟩
            · have := HE.out
              rw [hoc.out, elem, if_pos ht] at this
              exact this
            · rw [next_text r e hle]
              show (txt _).size < (txt r).size
              rw [txt_size, txt_size, List.length_drop]
              omega
          · have hem2 : (txt (trim (r.take e))).toList.isEmpty = false := by rw [txt_empty]; exact decide_eq_false ht
            obtain ⟨x, hxx⟩ : ∃ x, x = trim (r.take e) := ⟨_, rfl⟩
            have hnew : Hid (allE (vs.take (k + 1)) = (pre ++ [x]) ++ oneE (r.drop (e + 1))) := by
              have := HE.out
              rw [hoc.out, elem, if_neg ht, ← hxx, ← List.append_assoc] at this
              exact this
            have hpx : Hid ((pre ++ [x]) <+: allE vs) := by
              obtain ⟨tl, htl⟩ := hpre.out
              refine ⟨oneE (r.drop (e + 1)) ++ tl, ?_⟩
              rw [← htl, hnew.out]
              simp only [List.append_assoc]
            rw [← hxx] at hTr hem2
            clear hxx ht HE hoc
            go_upto_region 7 with (first
              | (go_at_call 21; refine (E.out _).mono ?_; rintro e2 w2 ⟨rfl, rfl⟩)
              | (go_at_call 22; refine (hTr.out _).mono ?_; rintro e2 w3 ⟨rfl, b3⟩))
            have C := Lib.hid (HA.out pre x _ (hJb _ _ _ J2.out b3) hpx.out)
            clear J2
            go_upto_region 8 with fail
            refine C.out.mono ?_
            rintro e2 w4 ⟨bb, rfl, hno, hyes⟩
            have NO := Lib.hid hno
            have YES := Lib.hid hyes
            clear hno hyes C
            cases bb
            · have J4 := Lib.hid (NO.out rfl)
              clear YES NO
              go_wp2_with fail
              refine ⟨⟨r.drop (e + 1), pre ++ [x], by rw [next_text r e hle], by rw [List.length_drop]; omega, J4.out, hnew.out⟩, ?_⟩
              rw [next_text r e hle]
              show (txt _).size < (txt r).size
              rw [txt_size, txt_size, List.length_drop]
              omega
            · have T4 := Lib.hid (YES.out rfl)
              clear YES NO
              go_wp2_with fail
              go_ret
              exact .inr ⟨rfl, _, hpx.out, T4.out⟩
    · have hk2 : k = vs.length := by omega
      subst hk2
      rw [List.take_length] at JJ
      have hx : ¬ (vs.length : Int) < (vs.length : Int) := by omega
      go_wp2_with fail
      go_ret
      exact .inl ⟨rfl, JJ.out⟩
end Go.Proofs.YtdfebmjincnfiaaDoor
