/- Layer 17: the law that spans lie within the content. -/
import Derived.Test.YtdfebmjincnfiaaDoorFdV
set_option maxRecDepth 100000
set_option linter.unusedSimpArgs false
set_option linter.unusedVariables false
namespace Go.Proofs.YtdfebmjincnfiaaDoor
open Go.RowKit

theorem within_in {p : RP} {n : Int} (h0 : 0 ≤ p.f ∧ 0 ≤ p.t) (h1 : (withinE p n).1 ≤ (withinE p n).2) : 0 ≤ (withinE p n).1 ∧ (withinE p n).2 < n := by
  unfold withinE at h1 ⊢
  split at h1
  · rename_i h
    rw [if_pos h]
    simp only at h1 ⊢
    omega
  · rename_i h
    rw [if_neg h]
    split at h1
    · rename_i h'
      rw [if_pos h']
      simp only at h1 ⊢
      omega
    · rename_i h'
      rw [if_neg h']
      simp only at h1 ⊢
      omega
theorem ranges_in (l : List UInt8) (n : Int) : ((rangesE l n).2 ≠ 0 ∧ (rangesE l n).1 = []) ∨ ((rangesE l n).2 = 0 ∧ (rangesE l n).1 ≠ [] ∧ (rangesE l n).1.length ≤ 16 ∧ ∀ s ∈ (rangesE l n).1, 0 ≤ s.1 ∧ s.1 ≤ s.2 ∧ s.2 < n) := by
  unfold rangesE
  cases h : rangeE l with
  | none => exact .inl ⟨by simp, rfl⟩
  | some ps =>
    simp only
    split
    · exact .inl ⟨by simp, rfl⟩
    · split
      · exact .inl ⟨by simp, rfl⟩
      · rename_i h16
        split
        · exact .inl ⟨by simp, rfl⟩
        · rename_i hne
          refine .inr ⟨rfl, hne, Nat.le_trans (spans_len _ _) (by omega), fun s hs => ?_⟩
          unfold spansE at hs
          rw [List.mem_filter] at hs
          obtain ⟨hm, hle⟩ := hs
          obtain ⟨p, hp, rfl⟩ := List.mem_map.1 hm
          have hb := range_bound h p hp
          have hle2 := of_decide_eq_true hle
          have := within_in (n := n) ⟨hb.1, hb.2.1⟩ hle2
          exact ⟨this.1, hle2, this.2⟩
set_option maxHeartbeats 6400000 in
theorem within_walk (l : List UInt8) (n : Int) (w : World) (hl : l.length ≤ 9223372036854775807) (hn : -9223372036854775808 ≤ n ∧ n < 9223372036854775808) :
    Calls Tryd.prog 4 #[.string (txt l), .int .i64 n] w (Yes w) := by
  have sz := txt_size l
  have AL := Lib.hid alive_any
  by_cases h3 : 3000 < l.length
  · have i1 : (3000 : Int) < (l.length : Int) := by omega
    go_enter Tryd.func4, Tryd.ntmps4
    go_wp2_with (go_at_call 8; refine (AL.out _).mono ?_; rintro e w2 ⟨rfl, hb2⟩)
    go_ret
    exact ⟨rfl, hb2⟩
  · have i1 : ¬ (3000 : Int) < (l.length : Int) := by omega
    have RA := Lib.hid (ranges_any l n (by omega) w hn)
    unfold SpOut at RA
    rcases ranges_in l n with ⟨he, h0⟩ | ⟨he, hne, h16, hin⟩
    · rw [h0] at RA
      have i2 : ((rangesE l n).2 != 0) = true := by simpa using he
      generalize (rangesE l n).2 = err at RA i2
      clear he h0
      go_enter Tryd.func4, Tryd.ntmps4
      go_wp2_with (first
        | (go_at_call 9; refine RA.out.mono ?_; rintro e w2 ⟨v, rfl, hr, hb2⟩; obtain ⟨va, vc, rfl, _, _⟩ := RdC.isSlice hr; clear hr)
        | (go_at_call 8; refine (AL.out _).mono ?_; rintro e w3 ⟨rfl, hb3⟩))
      go_ret
      exact ⟨rfl, hb2.trans (hb3.mono hb2.size)⟩
    · rw [he] at RA
      generalize (rangesE l n).1 = ss at RA hne h16 hin
      clear he
      have HIN := Lib.hid hin
      have hlen : 0 < ss.length := List.length_pos_iff.2 hne
      obtain ⟨N, hN⟩ : ∃ N, N = ss.length := ⟨_, rfl⟩
      have HN := Lib.hid hN
      rw [← hN] at hlen h16
      clear hin hne hN
      have j1 : (0 : Int) < (N : Int) := by omega
      have j2 : (N : Int) ≤ 16 := by omega
      go_enter Tryd.func4, Tryd.ntmps4
      go_wp2_with (go_at_call 9; refine RA.out.mono ?_; rintro e w2 ⟨v, rfl, hr, hb2⟩; obtain ⟨va, vc, hv, _, _⟩ := RdC.isSlice hr; rw [← HN.out] at hv; subst hv; have RR := Lib.hid hr; have B2 := Lib.hid hb2; clear hr hb2)
      go_loopw [29] (fun i wx => ∃ k : Nat, i = .int .i64 (k : Int) ∧ k ≤ N ∧ Below w2.heap.size w2 wx) (fun i _ => N - (intOf i).toNat)
      case atStart => exact ⟨0, rfl, Nat.zero_le _, Below.refl _ _⟩
      case round =>
        obtain ⟨k, rfl, hk, hbel⟩ := hrel
        have BB := Lib.hid hbel
        clear hbel
        by_cases hlt : k < N
        · have ks : k < ss.length := by have := HN.out; omega
          have RK := Lib.hid (RdC.below RR.out BB.out)
          obtain ⟨p, o, hva⟩ : ∃ p o, va = some ⟨p, o, none⟩ := by
            rcases RR.out.2 with ⟨h0, _⟩ | ⟨_, b, o, c', e, _⟩
            · omega
            · simp only [Value.slice.injEq] at e
              exact ⟨b, o, e.1⟩
          subst hva
          have RK2 : RdC 2 wr (.slice (some ⟨p, o, none⟩) ss.length vc) ss.length (spsC ss) := by
            have h := RK.out
            rw [HN.out] at h
            exact h
          have q0 : wr.cell? ⟨p, o + k * 2, none⟩ = some (.int .i64 ss[k].1) := RdC.cell RK2 (k * 2) _ (sps_get ss k 0 ks (by omega)) _ rfl
          have q1 : wr.cell? ⟨p, o + k * 2 + 1, none⟩ = some (.int .i64 ss[k].2) := RdC.cell RK2 (k * 2 + 1) _ (sps_get ss k 1 ks (by omega)) _ (by omega)
          obtain ⟨y1, y2, y3⟩ := HIN.out _ (List.getElem_mem ks)
          clear RK RK2
          generalize ss[k].1 = x at q0 y1 y2
          generalize ss[k].2 = y at q1 y2 y3
          have hi1 : (k : Int) < (N : Int) := by omega
          have w0 := wr64 ((k : Int) + 1) (by omega) (by omega)
          have m1 : ¬ x < 0 := by omega
          have m2 : ¬ y < x := by omega
          have m3 : ¬ n ≤ y := by omega
          have hk0 : Hid (0 ≤ k) := Nat.zero_le k
          have B3 := Lib.hid (BB.out.trans (((Below.refl wr.heap.size wr).alloc (Nat.le_refl _) (.cells #[.int .i64 x, .int .i64 y] 31)).mono BB.out.size))
          go_wp2_with fail
          refine ⟨⟨k + 1, by go_num, by omega, B3.out⟩, by simp [intOf]; omega⟩
        · have hk2 : ¬ (k : Int) < (N : Int) := by omega
          go_wp2_with (go_at_call 8; refine (AL.out _).mono ?_; rintro e w3 ⟨rfl, hb3⟩)
          go_ret
          exact ⟨rfl, B2.out.trans ((BB.out.trans (hb3.mono BB.out.size)).mono B2.out.size)⟩
end Go.Proofs.YtdfebmjincnfiaaDoor
