/- Layer 17: the law that values one behind the other have the elements of all: its walk. -/
import Derived.Test.YtdfebmjincnfiaaDoorFdY
set_option maxRecDepth 100000
set_option linter.unusedSimpArgs false
set_option linter.unusedVariables false
namespace Go.Proofs.YtdfebmjincnfiaaDoor
open Go.RowKit

theorem OwnT.append {w : World} {B : Nat} {v : Value} {a b : List (List UInt8)} (h : w.ownsRow B 9 1 v (a.length + b.length) (strsC a ++ strsC b)) : OwnT w B v (a ++ b) := by
  show World.ownsRow _ _ _ _ _ (a ++ b).length (strsC (a ++ b))
  rw [List.length_append, show strsC (a ++ b) = strsC a ++ strsC b by simp [strsC]]
  exact h
theorem RdT.len {w : World} {v : Value} {ts : List (List UInt8)} (h : RdT w v ts) : ∃ a c, v = .slice a ts.length c := by
  obtain ⟨a, c, h, _⟩ := RdC.isSlice h
  exact ⟨a, c, h⟩
set_option maxHeartbeats 6400000 in
theorem joins_walk (va vb : Value) (a b : List (List UInt8)) (w : World) (ha : RdT w va a) (hb : RdT w vb b) (hn : a.length + b.length ≤ 1048576) (ht : tot a + tot b ≤ 1048576) :
    Calls Tryd.prog 3 #[va, vb] w (Yes w) := by
  have AL := Lib.hid alive_any
  have hta := all_tot a
  have htb := all_tot b
  have EL : Hid (∀ (vs : List (List UInt8)) (v : Value) (W : World), RdT W v vs → tot vs ≤ 8388608 → (allE vs).length ≤ 1048576 → Calls Tryd.prog 6 #[v] W fun e w' => ∃ u c, e = .returned (.slice u (allE vs).length c) ∧ RdT w' (.slice u (allE vs).length c) (allE vs) ∧ Below W.heap.size W w') := fun vs v W hv ht hl =>
    (elements_any vs v W hv (fun t h => by have := tot_mem h; omega) hl).mono fun e w' ⟨u, he, ho, hb⟩ => by
      obtain ⟨ua, uc, rfl⟩ := ho.rd.len
      exact ⟨ua, uc, he, ho.rd, hb⟩
  have E1 := Lib.hid (EL.out a va w ha (by omega) (by omega))
  have HA := Lib.hid ha
  have HB := Lib.hid hb
  obtain ⟨xa, xc, rfl⟩ := ha.len
  obtain ⟨ya, yc, rfl⟩ := hb.len
  clear ha hb
  go_enter Tryd.func3, Tryd.ntmps3
  go_upto_region 2 with (first
    | (go_at_call 6; refine E1.out.mono ?_; rintro e w1 ⟨u1, k1, rfl, r1, b1⟩; clear E1; have B1 := Lib.hid b1; have R1 := Lib.hid r1; clear b1 r1; have E2 := Lib.hid (EL.out b (.slice ya b.length yc) w1 (HB.out.below B1.out) (by omega) (by omega)))
    | (go_at_call 6; refine E2.out.mono ?_; rintro e w2 ⟨u2, k2, rfl, r2, b2⟩; clear E2; have B2 := Lib.hid (B1.out.trans (b2.mono B1.out.size)); have R12 := Lib.hid (R1.out.below b2); have R2 := Lib.hid r2; clear b2 r2))
  have A2 := Lib.hid (HA.out.below B2.out)
  have X2 := Lib.hid (HB.out.below B2.out)
  unfold RdT at A2 X2
  clear HA HB B1
  go_upto_region 3 with (first
    | (at_builtin; ((with_reducible refine wpList_append_rows _ ?_ (.const (.slice none 0 0)) (.tmp 17) 22 ?_ elemStr Tryd.underlying22 w2.heap.size (.slice none 0 0) (0) ([]) ?_ (World.ownsRow_nil _ _ _ 1) (.slice xa a.length xc) (a.length) (strsC a) ?_ A2.out ?_ ?_ ?_ ?_ ?_)); rfl; rfl; rfl; rfl; (exact strs_one); (omega); (unfold maxLen; omega); (exact Nat.le_refl _); intro v3 w3 o3 g3; simp only [Nat.zero_add, List.nil_append] at o3; obtain ⟨n3, c3, rfl, _, _⟩ := (RdC.of_owns o3).isSlice; have O3 := Lib.hid o3; have G3 := Lib.hid ((Below.refl w2.heap.size w2).grown g3 (Nat.le_refl _) (fun j hj => by cases hj)); have X3 := Lib.hid (RdC.below X2.out G3.out); clear o3 g3 A2)
    | (at_builtin; ((with_reducible refine wpList_append_rows _ ?_ (.tmp 18) (.tmp 19) 22 ?_ elemStr Tryd.underlying22 w2.heap.size (.slice n3 a.length c3) (a.length) (strsC a) ?_ O3.out (.slice ya b.length yc) (b.length) (strsC b) ?_ X3.out ?_ ?_ ?_ ?_ ?_)); rfl; rfl; rfl; rfl; (exact strs_one); (omega); (unfold maxLen; omega); (exact G3.out.size); intro v4 w4 o4 g4; have O4 := Lib.hid (OwnT.append o4); obtain ⟨n4, c4, hv4, _, _⟩ := (RdC.of_owns o4).isSlice; subst hv4; have G4 := Lib.hid (G3.out.grown g4 G3.out.size (fun j hj => (World.ownsRow.lt O3.out j hj).1)); have E4 := Lib.hid (EL.out (a ++ b) _ w4 O4.out.rd (by rw [tot_app]; omega) (by rw [allE_app, List.length_append]; omega)); clear o4 g4)
    | (go_at_call 6; refine E4.out.mono ?_; rintro e w5 ⟨u5, k5, rfl, r5, b5⟩))
  have R5 := Lib.hid r5
  have B5 := Lib.hid (G4.out.trans (b5.mono G4.out.size))
  clear r5 b5 O4 G4 O3 G3 X2 X3 E4
  have XA := Lib.hid (RdC.below R12.out B5.out)
  have XB := Lib.hid (RdC.below R2.out B5.out)
  have HLEN : Hid ((allE (a ++ b)).length ≤ 4611686018427387904) := by show _ ≤ _; rw [allE_app, List.length_append]; omega
  obtain ⟨N1, hN1⟩ : ∃ n, n = (allE a).length := ⟨_, rfl⟩
  obtain ⟨N2, hN2⟩ : ∃ n, n = (allE b).length := ⟨_, rfl⟩
  have JOIN : Hid (∀ (W : World) (v : Value), W.ownsRow w5.heap.size 9 1 v (N1 + N2) (strsC (allE a) ++ strsC (allE b)) → OwnT W w5.heap.size v (allE (a ++ b))) := fun W v h => by
    rw [hN1, hN2] at h
    rw [allE_app]
    exact OwnT.append h
  have HN1 := Lib.hid hN1
  rw [← hN1] at XA
  rw [← hN2] at XB
  have XA0 := Lib.hid XA.out
  rw [← hN1] at hta ⊢
  rw [← hN2] at htb ⊢
  clear hN1 hN2
  go_upto_region 4 with (first
    | (at_builtin; ((with_reducible refine wpList_append_rows _ ?_ (.const (.slice none 0 0)) (.tmp 23) 22 ?_ elemStr Tryd.underlying22 w5.heap.size (.slice none 0 0) (0) ([]) ?_ (World.ownsRow_nil _ _ _ 1) (.slice u1 N1 k1) (N1) (strsC (allE a)) ?_ XA.out ?_ ?_ ?_ ?_ ?_)); rfl; rfl; rfl; rfl; (exact strs_one); (omega); (unfold maxLen; omega); (exact Nat.le_refl _); intro v6 w6 o6 g6; simp only [Nat.zero_add, List.nil_append] at o6; obtain ⟨n6, c6, rfl, _, _⟩ := (RdC.of_owns o6).isSlice; have O6 := Lib.hid o6; have G6 := Lib.hid ((Below.refl w5.heap.size w5).grown g6 (Nat.le_refl _) (fun j hj => by cases hj)); have XB6 := Lib.hid (RdC.below XB.out G6.out); clear o6 g6 XA)
    | (at_builtin; ((with_reducible refine wpList_append_rows _ ?_ (.tmp 24) (.tmp 25) 22 ?_ elemStr Tryd.underlying22 w5.heap.size (.slice n6 N1 c6) (N1) (strsC (allE a)) ?_ O6.out (.slice u2 N2 k2) (N2) (strsC (allE b)) ?_ XB6.out ?_ ?_ ?_ ?_ ?_)); rfl; rfl; rfl; rfl; (exact strs_one); (omega); (unfold maxLen; omega); (exact G6.out.size); intro v7 w7 o7 g7; have O7 := Lib.hid (JOIN.out w7 v7 o7); obtain ⟨n7, c7, hv7, _, _⟩ := (RdC.of_owns o7).isSlice; subst hv7; have G7 := Lib.hid (G6.out.grown g7 G6.out.size (fun j hj => (World.ownsRow.lt O6.out j hj).1)); have TX := Lib.hid (texts_eq _ _ _ w7 (RdT.below R5.out G7.out) O7.out.rd HLEN.out); clear o7 g7)
    | (go_at_call 7; refine TX.out.mono ?_; rintro e w8 ⟨rfl, b8⟩; have B8 := Lib.hid (G7.out.trans (b8.mono G7.out.size)); clear b8))
  have LEN : Hid (∀ k, (joinE ((allE a).take k)).length ≤ 8388608) := fun k => by
    have h1 := join_len ((allE a).take k)
    have h2 := tot_take (allE a) k
    have h3 : ((allE a).take k).length ≤ N1 := by rw [HN1.out, List.length_take]; omega
    omega
  have TOT : Hid (∀ y ∈ allE a, y.length ≤ 1048576) := fun y hy => by have := tot_mem hy; omega
  have hN1 : N1 ≤ 1048576 := by omega
  have LST : Hid (tot (allE a) ≤ 1048576) := by show _ ≤ _; omega
  clear hta htb
  go_loopw [8, 31] (fun s i wx => ∃ k : Nat, k ≤ N1 ∧ i = .int .i64 (k : Int) ∧ s = .string (txt (joinE ((allE a).take k))) ∧ (∀ y ∈ (allE a).take k, fin 0 y = 0) ∧ Below w5.heap.size w5 wx) (fun _ i _ => N1 - (intOf i).toNat)
  case atStart => exact ⟨0, by omega, rfl, rfl, (fun y hy => by simp at hy), B8.out⟩
  case round =>
    obtain ⟨k, hk, rfl, rfl, hfin, hb⟩ := hrel
    have BB := Lib.hid hb
    have FN := Lib.hid hfin
    clear hb hfin
    by_cases hlt : k < N1
    · have ks : k < (allE a).length := by have := HN1.out; omega
      have RK := Lib.hid (RdC.below XA0.out BB.out)
      obtain ⟨p, o, hu1⟩ : ∃ p o, u1 = some ⟨p, o, none⟩ := by
        rcases XA0.out.2 with ⟨h0, _⟩ | ⟨_, b', o', c', e, _⟩
        · omega
        · simp only [Value.slice.injEq] at e
          exact ⟨b', o', e.1⟩
      subst hu1
      have q0 : wr.cell? ⟨p, o + k, none⟩ = some (.string (txt (allE a)[k])) := RdC.cell RK.out k _ (by simp [strsC, ks]) _ rfl
      have hel := TOT.out _ (List.getElem_mem ks)
      have hnext : Hid ((allE a).take (k + 1) = (allE a).take k ++ [(allE a)[k]]) := take_more ks
      have hS := LEN.out k
      have hk0 : Hid (0 ≤ k) := Nat.zero_le k
      have hkz : Hid (k = 0 ↔ (allE a).take k = []) := by
        constructor
        · intro h; rw [h]; rfl
        · intro h
          have := congrArg List.length h
          rw [List.length_take, List.length_nil] at this
          omega
      clear RK
      generalize (allE a)[k] = e at q0 hel hnext
      have hi1 : (k : Int) < (N1 : Int) := by omega
      have w0 := wr64 ((k : Int) + 1) (by omega) (by omega)
      go_wp2_with fail
      go_loopw [11, 12] (fun ov jv wx => ∃ (j : Nat) (ob : Bool), ov = .bool ob ∧ jv = .int .i64 (j : Int) ∧ Opn e j ob ∧ wx = wr) (fun _ jv _ => e.length + 2 - (intOf jv).toNat)
      case atStart => exact ⟨0, false, rfl, rfl, ⟨by omega, fun _ => rfl, fun h => by omega⟩, rfl⟩
      case round =>
        obtain ⟨j, ob, rfl, rfl, hop, rfl⟩ := hrel
        have OP := Lib.hid hop
        have sze := txt_size e
        clear hop
        by_cases hj : j < e.length
        · have hg := txt_get hj (by rw [sze]; exact hj)
          have hx : (j : Int) < (e.length : Int) := by omega
          have v0 := wr64 ((j : Int) + 1) (by omega) (by omega)
          have v1 := wr64 ((j : Int) + 1 + 1) (by omega) (by omega)
          have SK : Hid (ob = true → e[j] = 92 → Opn e (j + 1 + 1) true) := fun h h2 => by subst h; exact OP.out.skip hj h2
          have ST : Hid (¬ (ob = true ∧ e[j] = 92) → Opn e (j + 1) (if e[j] = 34 then !ob else ob)) := fun h => OP.out.step hj h
          generalize e[j] = x at hg SK ST
          have b2 := x.toNat_lt
          by_cases h34 : x = 34
          · have n34 : (x.toNat : Int) = 34 := by rw [h34]; rfl
            have n92 : ¬ (x.toNat : Int) = 92 := by omega
            have hst := ST.out (fun h => by rw [h34] at h; exact absurd h.2 (by decide))
            rw [if_pos h34] at hst
            have HST := Lib.hid hst
            clear hst h34 SK ST
            cases ob
            · go_wp2_with fail
              exact ⟨⟨j + 1, true, rfl, by go_num, HST.out, by trivial⟩, by simp [intOf, v0]; omega⟩
            · go_wp2_with fail
              exact ⟨⟨j + 1, false, rfl, by go_num, HST.out, by trivial⟩, by simp [intOf, v0]; omega⟩
          · have n34 : ¬ (x.toNat : Int) = 34 := fun h => h34 (UInt8.toNat_inj.1 (by simpa using (by omega : x.toNat = 34)))
            by_cases h92 : x = 92
            · have n92 : (x.toNat : Int) = 92 := by rw [h92]; rfl
              cases ob
              · have hst := ST.out (fun h => by cases h.1)
                rw [if_neg h34] at hst
                have HST := Lib.hid hst
                clear hst h34 h92 SK ST
                go_wp2_with fail
                exact ⟨⟨j + 1, false, rfl, by go_num, HST.out, by trivial⟩, by simp [intOf, v0]; omega⟩
              · have HST := Lib.hid (SK.out rfl h92)
                clear h34 h92 SK ST
                go_wp2_with fail
                exact ⟨⟨j + 1 + 1, true, rfl, by go_num, HST.out, by trivial⟩, by simp [intOf, v0, v1]; omega⟩
            · have n92 : ¬ (x.toNat : Int) = 92 := fun h => h92 (UInt8.toNat_inj.1 (by simpa using (by omega : x.toNat = 92)))
              have hst := ST.out (fun h => h92 h.2)
              rw [if_neg h34] at hst
              have HST := Lib.hid hst
              clear hst h34 h92 SK ST
              cases ob
              · go_wp2_with fail
                exact ⟨⟨j + 1, false, rfl, by go_num, HST.out, by trivial⟩, by simp [intOf, v0]; omega⟩
              · go_wp2_with fail
                exact ⟨⟨j + 1, true, rfl, by go_num, HST.out, by trivial⟩, by simp [intOf, v0]; omega⟩
        · have hx : ¬ (j : Int) < (e.length : Int) := by omega
          have DN := Lib.hid (OP.out.done hj)
          cases ob
          · have hf0 := Lib.hid (DN.out rfl)
            have HALL : Hid (∀ y ∈ (allE a).take (k + 1), fin 0 y = 0) := fun y hy => by
              rw [hnext.out] at hy
              rcases List.mem_append.1 hy with hy | hy
              · exact FN.out y hy
              · obtain rfl : y = e := List.mem_singleton.1 hy
                exact hf0.out
            by_cases hk00 : k = 0
            · have i3 : ¬ (0 : Int) < (k : Int) := by omega
              have HJ : Hid (joinE ((allE a).take (k + 1)) = joinE ((allE a).take k) ++ e) := by
                show _ = _
                rw [hnext.out, hkz.out.1 hk00]
                rfl
              generalize joinE ((allE a).take k) = S at hS HJ
              have szS := txt_size S
              have q1 : (txt S ++ txt e).size = S.length + e.length := by rw [ByteArray.size_append, txt_size, txt_size]
              clear hk00
              go_wp2_with fail
              exact ⟨⟨k + 1, by omega, by go_num, by rw [HJ.out, ← txt_app], HALL.out, BB.out⟩, by simp [intOf, w0]; omega⟩
            · have i3 : (0 : Int) < (k : Int) := by omega
              have HJ : Hid (joinE ((allE a).take (k + 1)) = joinE ((allE a).take k) ++ sepE ++ e) := by
                show _ = _
                rw [hnext.out, join_snoc _ _ (fun h => hk00 (hkz.out.2 h))]
              generalize joinE ((allE a).take k) = S at hS HJ
              have szS := txt_size S
              have q1 : (txt S ++ ⟨#[32, 44, 44, 32]⟩ : ByteArray).size = S.length + 4 := by rw [ByteArray.size_append, txt_size]; rfl
              have q2 : (txt S ++ ⟨#[32, 44, 44, 32]⟩ ++ txt e : ByteArray).size = S.length + 4 + e.length := by rw [ByteArray.size_append, q1, txt_size]
              clear hk00
              go_wp2_with fail
              exact ⟨⟨k + 1, by omega, by go_num, by rw [HJ.out, ← txt_app, ← txt_app]; rfl, HALL.out, BB.out⟩, by simp [intOf, w0]; omega⟩
          · go_wp2_with (go_at_call 8; refine (AL.out _).mono ?_; rintro e9 w9 ⟨rfl, b9⟩)
            go_ret
            exact ⟨rfl, B2.out.trans ((B5.out.trans ((BB.out.trans (b9.mono BB.out.size)).mono B5.out.size)).mono B2.out.size)⟩
    · have hk2 : k = N1 := by omega
      have hall : (allE a).take k = allE a := List.take_of_length_le (by rw [hk2, HN1.out]; exact Nat.le_refl _)
      have hS := LEN.out k
      have hfa := FN.out
      rw [hall] at hS hfa ⊢
      have HJ : Hid (allE [joinE (allE a)] = allE a) := by
        show oneE _ ++ [] = _
        rw [List.append_nil]
        exact one_join fun y hy => ⟨all_elems hy, hfa y hy⟩
      have XT : Hid (RdT w5 (.slice u1 N1 k1) (allE a)) := by
        have h := XA0.out
        show RdC 1 _ _ (allE a).length _
        rw [← HN1.out]
        exact h
      generalize joinE (allE a) = S at hS HJ
      have hx : ¬ (k : Int) < (N1 : Int) := by omega
      have BW := Lib.hid ((Below.refl wr.heap.size wr).alloc (Nat.le_refl _) (.cells #[.string (txt S)] 9))
      have EN := Lib.hid (EL.out [S] _ _ (RdC.built 1 wr #[.string (txt S)] 9 rfl) (by simp [tot]; omega) (by rw [HJ.out, ← HN1.out]; exact hN1))
      rw [HJ.out, ← HN1.out] at EN
      clear hall hfa
      go_wp2_with (first
        | (go_at_call 6; refine EN.out.mono ?_; rintro e9 w9 ⟨u9, k9, rfl, r9, b9⟩; have B9 := Lib.hid (BB.out.trans ((BW.out.trans (b9.mono BW.out.size)).mono BB.out.size)); have T9 := Lib.hid (texts_eq _ _ (allE a) w9 (show RdT w9 (.slice u9 N1 k9) (allE a) from r9) (RdT.below XT.out B9.out) (by rw [← HN1.out]; omega)); clear r9 b9)
        | (go_at_call 7; refine T9.out.mono ?_; rintro e10 w10 ⟨rfl, b10⟩)
        | (go_at_call 8; refine (AL.out _).mono ?_; rintro e11 w11 ⟨rfl, b11⟩))
      go_ret
      exact ⟨rfl, B2.out.trans ((B5.out.trans ((B9.out.trans ((b10.trans (b11.mono b10.size)).mono B9.out.size)).mono B5.out.size)).mono B2.out.size)⟩
end Go.Proofs.YtdfebmjincnfiaaDoor
