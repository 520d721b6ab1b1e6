/- Layer 13: the law QtabLast. -/
import Derived.Test.YtfacpncbcplocaaDoorQtV
import Derived.Test.YtfacpncbcplocaaDoorQtF
set_option maxRecDepth 100000
set_option linter.unusedSimpArgs false
set_option linter.unusedVariables false
set_option linter.unnecessarySimpa false
namespace Go.Proofs.YtfacpncbcplocaaDoor
open Go.RowKit

theorem last_of {q q' : TQ} {f : Fd} {n : Int} (h : ∃ m, q' = { shrinkE m q with l := (shrinkE m q).l ++ [f] }) (hn : n = countN q) : getE q' n = (f, 0) ∧ findE q' f = (n, n) ∧ (countN q' : Int) = n + 1 := by
  obtain ⟨m, rfl⟩ := h
  have hc := shrink_count m q
  subst hn
  have e1 : countN { shrinkE m q with l := (shrinkE m q).l ++ [f] } = countN q + 1 := by
    rw [← hc]; simp only [countN, List.length_append, List.length_singleton]; omega
  have e2 : (shrinkE m q).first + (shrinkE m q).l.length = countN q := by rw [← hc]; rfl
  refine ⟨?_, ?_, by rw [e1]; omega⟩
  · unfold getE
    rw [if_neg (by rw [e1]; simp only; omega)]
    simp only [Int.toNat_natCast]
    have : countN q - (shrinkE m q).first = (shrinkE m q).l.length := by omega
    rw [this]
    simp [List.getD]
  · unfold findE
    simp only
    rw [lastN_last _ _ _ _ (by simp [isF]), lastN_last _ _ _ _ (by simp [namedF]), e2]

set_option maxHeartbeats 6400000 in
theorem law_last (most : Int) (sv : Value) (l : List ActV) (w : World) (hF : Fix w) (hR : RdA w sv l) (hA : ∀ c ∈ l, ActOk c) (hl : l.length * 48 ≤ 140737488351232) :
    Calls Tryd.prog 7 #[.int .i64 most, sv] w (Yes w) := by
  have hpos := hF.pos
  have HF := Lib.hid hF
  by_cases hm : most < 0 ∨ 4096 < most
  · have HN := Lib.hid (new_no most w hm)
    have HAL := Lib.hid (alive_any w hF)
    clear hm hR hA hF hl
    go_enter Tryd.func7, Tryd.ntmps7
    go_wp2_with (first
      | (go_at_call 16; refine HN.out.mono ?_; rintro e w1 ⟨rfl, h⟩; obtain rfl : w = w1 := h.symm)
      | (go_at_call 15; refine HAL.out.mono ?_; rintro e w3 ⟨rfl, b3⟩))
    go_ret
    exact ⟨rfl, b3⟩
  · obtain ⟨k0, rfl⟩ : ∃ k : Nat, most = (k : Int) := ⟨most.toNat, by omega⟩
    have hnw := new_yes (k0 : Int) w (by omega) (by omega)
    rw [Int.toNat_natCast] at hnw
    have HN := Lib.hid hnw
    have HRD := Lib.hid hR
    have HA := Lib.hid hA
    have HL := Lib.hid hl
    have hk0 : k0 ≤ 4096 := by omega
    have HK0 := Lib.hid hk0
    clear hnw hm hR hA hF hl hk0
    obtain ⟨sa, sc, hsv, _, _⟩ := HRD.out.isSlice
    subst hsv
    go_enter Tryd.func7, Tryd.ntmps7
    go_wp2_with (first
      | (go_at_call 16; refine HN.out.mono ?_; rintro e w1 ⟨b, rfl, M1⟩
         have HM1 := Lib.hid M1
         have HAL := Lib.hid (alive_any _ (HF.out.below M1.bel hpos))
         clear M1)
      | (go_at_call 15; refine HAL.out.mono ?_; rintro e w3 ⟨rfl, b3⟩
         have M3 := Lib.hid (HM1.out.below b3)
         clear b3))
    clear HN HAL HM1
    go_loopw [33] (fun i wr => ∃ (k : Nat) (sl : Value) (q : TQ), i = .int .i64 k ∧ k ≤ l.length ∧ Tm w.heap.size b sl q w wr ∧ countN q ≤ k ∧ q.most = k0) (fun i _ => l.length - (intOf i).toNat)
    case atStart => exact ⟨0, _, _, rfl, Nat.zero_le _, M3.out, by simp [newT, countN], rfl⟩
    case round =>
      obtain ⟨k, sl, q, rfl, hk, hM, hcn, hmo⟩ := hrel
      have M := Lib.hid hM
      have CN := Lib.hid hcn
      have MO := Lib.hid hmo
      clear hM hcn M3 hmo
      have hlb : l.length ≤ 3000000000000 := by have := HL.out; omega
      by_cases hkl : k < l.length
      · obtain ⟨g, o, gc, hs2, hgc, hgm, hg⟩ := rd_form HRD.out (by omega)
        simp only [Value.slice.injEq, true_and] at hs2
        obtain ⟨rfl, rfl⟩ := hs2
        have hat := RdA.at HRD.out hg k hkl wr M.out.bel
        obtain ⟨a0, a1, a2, a3⟩ := hat
        have hok := HA.out _ (List.getElem_mem hkl)
        obtain ⟨c, hact⟩ : ∃ a, a = l[k] := ⟨_, rfl⟩
        rw [← hact] at a0 a1 a2 a3 hok
        clear hact
        have X1 := Lib.hid (Cs.made wr #[.int .u8 c.k, .int .i64 c.n, .string c.f.n, .string c.f.v] 44)
        have M1 := Lib.hid (M.out.below (below1 wr (.cells #[.int .u8 c.k, .int .i64 c.n, .string c.f.n, .string c.f.v] 44)))
        have hgl : g < wr.heap.size := Nat.lt_of_lt_of_le hg M.out.bel.size
        have hi1 : (k : Int) < (l.length : Int) := by omega
        have hi2 : (0 : Int) ≤ (k : Int) := by omega
        have hw1 : IntKind.i64.wrap ((k : Int) + 1) = ((k + 1 : Nat) : Int) := by rw [wraps_i64' _ (by omega) (by omega)]; omega
        have HKL := Lib.hid hkl
        have hpl := plays_any c M1.out (by have := CN.out; omega) hok
        have hXn : wr.heap.size ∉ TS b sl := fun hm => by
          rcases mem_TS.1 hm with h | h
          · have := M.out.tbl.lt; omega
          · have := M.out.tbl.slt _ h; omega
        have HXN := Lib.hid hXn
        have hpc := actP_count q c
        have hpm := actP_most q c
        rcases act_ways q c with ⟨p1, p2, p3, p4, p5⟩ | ⟨p1, p2⟩
        · obtain ⟨g1, g2, g3⟩ := last_of (q' := actP q c) (f := c.f) ⟨_, p5⟩ p4
          rw [p1, if_pos rfl] at hpc
          rw [p1] at hpl
          obtain ⟨n, hn⟩ : ∃ n, n = (playE q c).1 := ⟨_, rfl⟩
          rw [← hn] at hpl g1 g2 g3 p4
          obtain ⟨q', hq'⟩ : ∃ q', q' = actP q c := ⟨_, rfl⟩
          rw [← hq'] at hpl hpc hpm g1 g2 g3
          have hqc : countN q' ≤ k + 1 := by have := CN.out; omega
          have HQC := Lib.hid hqc
          have HPL := Lib.hid hpl
          have HPM := Lib.hid hpm
          have HG := Lib.hid (fun V (slA : Value) (hV : Tm w.heap.size b slA q' w V) => get_any n V hV.tbl (by omega))
          have HFD := Lib.hid (fun V (slA : Value) (hV : Tm w.heap.size b slA q' w V) => find_any c.f V hV.tbl (by omega))
          have HCT := Lib.hid (fun V (slA : Value) (hV : Tm w.heap.size b slA q' w V) => count_any V hV.tbl (by omega))
          rw [g1] at HG
          rw [g2] at HFD
          rw [g3] at HCT
          have hwn : IntKind.i64.wrap (n + 1 - 1) = n := by rw [wraps_i64' _ (by omega) (by omega)]; omega
          have hwn' : IntKind.i64.wrap n = n := by rw [wraps_i64' _ (by omega) (by omega)]
          have qe : ∀ W, (Op.equalIn 10000 23 (.agg #[.string c.f.n, .string c.f.v]) (.agg #[.string c.f.n, .string c.f.v])).run Tryd.prog W = .ok true W := fun W => by rw [eqF_any c.f c.f, decide_eq_true rfl]
          have hgd := guardF
          clear hpl hpc hpm g1 g2 g3 hn hq' p1 p2 p3 p4 p5 hok hkl hk hgc hgm hXn hqc
          go_wp2_with (first
            | (go_at_call 32; refine HPL.out.mono ?_; rintro e wA ⟨rfl, slA, MA, _, hKA⟩
               have HMA := Lib.hid MA
               have XA := Lib.hid (X1.out.keep hKA HXN.out)
               clear MA hKA)
            | (go_at_call 22; refine (HG.out _ _ HMA.out).mono ?_; rintro e wB ⟨rfl, bB⟩
               have MB := Lib.hid (HMA.out.below (bB.trans ((below1 wB (.cells #[.string c.f.n, .string c.f.v] 23)).mono bB.size)))
               have XB := Lib.hid (XA.out.below (bB.trans ((below1 wB (.cells #[.string c.f.n, .string c.f.v] 23)).mono bB.size)))
               have YB := Lib.hid (Cs.made wB #[.string c.f.n, .string c.f.v] 23)
               have x2 := XB.out.get 2 _ rfl
               have x3 := XB.out.get 3 _ rfl
               clear bB)
            | (go_at_call 24; refine (HFD.out _ _ MB.out).mono ?_; rintro e wC ⟨rfl, bC⟩
               have MC := Lib.hid (MB.out.below bC)
               have XC := XB.out.below bC
               have YC := YB.out.below bC
               have z2 := XC.get 2 _ rfl
               have z3 := XC.get 3 _ rfl
               have y0 := YC.get 0 _ rfl
               have y1 := YC.get 1 _ rfl
               clear bC XC YC)
            | (go_at_call 30; refine (HCT.out _ _ MC.out).mono ?_; rintro e wD ⟨rfl, nd, rfl⟩))
          exact ⟨⟨k + 1, slA, q', by simp, HKL.out, MC.out.drewN nd, HQC.out, HPM.out.trans MO.out⟩, by simp [intOf]; have := HKL.out; omega⟩
        · rw [p1] at hpl hpc
          have hqc : countN (actP q c) ≤ k + 1 := by have := CN.out; simp at hpc; omega
          have HQC := Lib.hid hqc
          have HPL := Lib.hid hpl
          have HPM := Lib.hid hpm
          clear hpl hpc hpm p1 p2 hok hkl hk hgc hgm hXn hqc
          go_wp2_with (first
            | (go_at_call 32; refine HPL.out.mono ?_; rintro e wA ⟨rfl, slA, MA, _, hKA⟩
               have HMA := Lib.hid MA
               clear MA hKA))
          exact ⟨⟨k + 1, slA, _, by simp, HKL.out, HMA.out, HQC.out, HPM.out.trans MO.out⟩, by simp [intOf]; have := HKL.out; omega⟩
      · obtain rfl : k = l.length := by omega
        have hi1 : ¬ ((l.length : Int) < (l.length : Int)) := by omega
        go_wp2_with fail
        go_ret
        exact ⟨rfl, M.out.bel⟩
end Go.Proofs.YtfacpncbcplocaaDoor
