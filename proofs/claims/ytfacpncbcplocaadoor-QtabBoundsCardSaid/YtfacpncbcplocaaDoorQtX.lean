/- Layer 13: the law QtabBounds. -/
import Derived.Test.YtfacpncbcplocaaDoorQtV
set_option maxRecDepth 100000
set_option linter.unusedSimpArgs false
set_option linter.unusedVariables false
set_option linter.unnecessarySimpa false
namespace Go.Proofs.YtfacpncbcplocaaDoor
open Go.RowKit

theorem get_in (q : TQ) (j : Nat) (hj : j < q.l.length) : getE q ((q.first : Int) + (j : Int)) = (q.l[j], 0) := by
  unfold getE
  rw [if_neg (by simp only [countN]; omega)]
  have : ((q.first : Int) + (j : Int)).toNat - q.first = j := by omega
  rw [this, getD_of hj]

set_option maxHeartbeats 6400000 in
theorem law_bounds (most : Int) (sv : Value) (l : List ActV) (w : World) (hF : Fix w) (hR : RdA w sv l) (hA : ∀ c ∈ l, ActOk c) (hl : l.length * 48 ≤ 140737488351232) :
    Calls Tryd.prog 5 #[.int .i64 most, sv] w (Yes w) := by
  have hpos := hF.pos
  have HF := Lib.hid hF
  by_cases hm : most < 0 ∨ 4096 < most
  · have HN := Lib.hid (new_no most w hm)
    have HAL := Lib.hid (alive_any w hF)
    clear hm hR hA hF hl
    go_enter Tryd.func5, Tryd.ntmps5
    go_wp2_with (first
      | (go_at_call 16; refine HN.out.mono ?_; rintro e w1 ⟨rfl, h⟩; obtain rfl : w = w1 := h.symm)
      | (go_at_call 15; refine HAL.out.mono ?_; rintro e w3 ⟨rfl, b3⟩))
    go_ret
    exact ⟨rfl, b3⟩
  · obtain ⟨k0, rfl⟩ : ∃ k : Nat, most = (k : Int) := ⟨most.toNat, by omega⟩
    have hnw := new_yes (k0 : Int) w (by omega) (by omega)
    rw [Int.toNat_natCast] at hnw
    have HN := Lib.hid hnw
    have HRD := Lib.hid hR
    have HA := Lib.hid hA
    have HL := Lib.hid hl
    have hk0 : k0 ≤ 4096 := by omega
    have HK0 := Lib.hid hk0
    clear hnw hm hR hA hF hl hk0
    obtain ⟨sa, sc, hsv, _, _⟩ := HRD.out.isSlice
    subst hsv
    go_enter Tryd.func5, Tryd.ntmps5
    go_wp2_with (first
      | (go_at_call 16; refine HN.out.mono ?_; rintro e w1 ⟨b, rfl, M1⟩
         have HM1 := Lib.hid M1
         have HAL := Lib.hid (alive_any _ (HF.out.below M1.bel hpos))
         clear M1)
      | (go_at_call 15; refine HAL.out.mono ?_; rintro e w3 ⟨rfl, b3⟩
         have M3 := Lib.hid (HM1.out.below b3)
         clear b3))
    clear HN HAL HM1
    go_loopw [31] (fun i wr => ∃ (k : Nat) (sl : Value) (q : TQ), i = .int .i64 k ∧ k ≤ l.length ∧ Tm w.heap.size b sl q w wr ∧ countN q ≤ k ∧ q.most = k0) (fun i _ => l.length - (intOf i).toNat)
    case atStart => exact ⟨0, _, _, rfl, Nat.zero_le _, M3.out, by simp [newT, countN], rfl⟩
    case round =>
      obtain ⟨k, sl, q, rfl, hk, hM, hcn, hmo⟩ := hrel
      have M := Lib.hid hM
      have CN := Lib.hid hcn
      have MO := Lib.hid hmo
      clear hM hcn M3 hmo
      have hlb : l.length ≤ 3000000000000 := by have := HL.out; omega
      by_cases hkl : k < l.length
      · obtain ⟨g, o, gc, hs2, hgc, hgm, hg⟩ := rd_form HRD.out (by omega)
        simp only [Value.slice.injEq, true_and] at hs2
        obtain ⟨rfl, rfl⟩ := hs2
        have hat := RdA.at HRD.out hg k hkl wr M.out.bel
        obtain ⟨a0, a1, a2, a3⟩ := hat
        have hok := HA.out _ (List.getElem_mem hkl)
        obtain ⟨c, hact⟩ : ∃ a, a = l[k] := ⟨_, rfl⟩
        rw [← hact] at a0 a1 a2 a3 hok
        clear hact
        have X1 := Lib.hid (Cs.made wr #[.int .u8 c.k, .int .i64 c.n, .string c.f.n, .string c.f.v] 44)
        have M1 := Lib.hid (M.out.below (below1 wr (.cells #[.int .u8 c.k, .int .i64 c.n, .string c.f.n, .string c.f.v] 44)))
        have hgl : g < wr.heap.size := Nat.lt_of_lt_of_le hg M.out.bel.size
        have hi1 : (k : Int) < (l.length : Int) := by omega
        have hi2 : (0 : Int) ≤ (k : Int) := by omega
        have hw1 : IntKind.i64.wrap ((k : Int) + 1) = ((k + 1 : Nat) : Int) := by rw [wraps_i64' _ (by omega) (by omega)]; omega
        have HKL := Lib.hid hkl
        have hpl := plays_any c M1.out (by have := CN.out; omega) hok
        have hXn : wr.heap.size ∉ TS b sl := fun hm => by
          rcases mem_TS.1 hm with h | h
          · have := M.out.tbl.lt; omega
          · have := M.out.tbl.slt _ h; omega
        have HXN := Lib.hid hXn
        have hpc := actP_count q c
        have hpm := actP_most q c
        obtain ⟨n0, hn⟩ : ∃ n, n = (playE q c).1 := ⟨_, rfl⟩
        obtain ⟨b0, hb0⟩ : ∃ n, n = (playE q c).2 := ⟨_, rfl⟩
        have hqc : countN (actP q c) ≤ k + 1 := by have := CN.out; rw [hpc]; split <;> omega
        rw [← hn, ← hb0] at hpl
        have hqo := actP_ok M.out.ok c
        obtain ⟨q', hq'⟩ : ∃ q', q' = actP q c := ⟨_, rfl⟩
        rw [← hq'] at hpl hqc hpm hqo
        have HQC := Lib.hid hqc
        have HPL := Lib.hid hpl
        have HPM := Lib.hid (hpm.trans MO.out)
        have HQO := Lib.hid hqo
        have hmany := hqo.many
        have hu1 := hqo.used
        have hu2 := hqo.cap
        have hpm2 := hpm.trans MO.out
        have hk0' := HK0.out
        have HC := Lib.hid (fun V (slA : Value) (hV : Tm w.heap.size b slA q' w V) => cap_any V hV.tbl)
        have HU := Lib.hid (fun V (slA : Value) (hV : Tm w.heap.size b slA q' w V) => used_any V hV.tbl)
        have HFI := Lib.hid (fun V (slA : Value) (hV : Tm w.heap.size b slA q' w V) => first_any V hV.tbl)
        have HCT := Lib.hid (fun V (slA : Value) (hV : Tm w.heap.size b slA q' w V) => count_any V hV.tbl (by omega))
        obtain ⟨qm, qcap, qf, ql⟩ := q'
        simp only at hu1 hu2 hmany hpm2 HC HU HFI
        obtain ⟨ru, hru⟩ : ∃ x, x = rooms ql := ⟨_, rfl⟩
        rw [← hru] at hu1 HU
        have hct : countN ⟨qm, qcap, qf, ql⟩ = qf + ql.length := rfl
        rw [hct] at HCT hqc
        obtain ⟨L, hL⟩ : ∃ L, L = ql.length := ⟨_, rfl⟩
        rw [← hL] at HCT hmany hqc
        have f1 : decide ((qcap : Int) < 0) = false := decide_eq_false (by omega)
        have f2 : decide ((k0 : Int) < (qcap : Int)) = false := decide_eq_false (by omega)
        have f2n : decide (k0 < qcap) = false := decide_eq_false (by omega)
        have f3 : decide ((qcap : Int) < (ru : Int)) = false := decide_eq_false (by omega)
        have f3n : decide (qcap < ru) = false := decide_eq_false (by omega)
        have f4 : decide ((qf : Int) < 0) = false := decide_eq_false (by omega)
        have f5 : decide (((qf + L : Nat) : Int) < (qf : Int)) = false := decide_eq_false (by omega)
        have f5i : decide ((qf : Int) + (L : Int) < (qf : Int)) = false := decide_eq_false (by omega)
        have f5n : decide (qf + L < qf) = false := decide_eq_false (by omega)
        have f6 : IntKind.i64.wrap (((qf + L : Nat) : Int) - (qf : Int)) = (L : Int) := by rw [wraps_i64' _ (by omega) (by omega)]; omega
        have f6i : IntKind.i64.wrap ((qf : Int) + (L : Int) - (qf : Int)) = (L : Int) := by rw [wraps_i64' _ (by omega) (by omega)]; omega
        have f7 : decide ((200 : Int) < (L : Int)) = false := decide_eq_false (by omega)
        have f7n : decide (200 < L) = false := decide_eq_false (by omega)
        have HRU := Lib.hid hru
        have HLL := Lib.hid hL
        have HMY := Lib.hid hmany
        have HU1 := Lib.hid hu1
        have HU2 := Lib.hid hu2
        have HPM2 := Lib.hid hpm2
        have HQQ := Lib.hid hqc
        clear hpl hpc hpm hn hb0 hq' hok hkl hk hgc hgm hXn hqc hqo hmany hu1 hu2 hpm2 hk0' hru hct hL
        go_wp2_with (first
          | (go_at_call 32; refine HPL.out.mono ?_; rintro e wA ⟨rfl, slA, MA, _, hKA⟩
             have HMA := Lib.hid MA
             clear MA hKA)
          | (go_at_call 26; refine (HC.out _ _ HMA.out).mono ?_; rintro e wB ⟨rfl, h⟩; obtain rfl : _ = wB := h.symm)
          | (go_at_call 27; refine (HU.out _ _ HMA.out).mono ?_; rintro e wB ⟨rfl, h⟩; obtain rfl : _ = wB := h.symm)
          | (go_at_call 29; refine (HFI.out _ _ HMA.out).mono ?_; rintro e wB ⟨rfl, h⟩; obtain rfl : _ = wB := h.symm)
          | (go_at_call 30; refine (HCT.out _ _ HMA.out).mono ?_; rintro e wB ⟨rfl, nd, h⟩
             have HMA := Lib.hid (by rw [h]; exact HMA.out.drewN nd : Tm w.heap.size b slA ⟨qm, qcap, qf, ql⟩ w wB)
             clear h))
        clear HPL X1 M1 a0 a1 a2 a3 f1 f2 f2n f3 f3n f4 f5 f5i f5n f6 f6i f7 f7n M
        go_loopw [9, 10] (fun i9 i10 wi => ∃ j : Nat, i9 = .int .i64 (rooms (ql.take j) : Int) ∧ i10 = .int .i64 ((qf : Int) + (j : Int)) ∧ j ≤ ql.length ∧ Tm w.heap.size b slA ⟨qm, qcap, qf, ql⟩ w wi) (fun _ i _ => qf + ql.length - (intOf i).toNat)
        case atStart => exact ⟨0, by simp [rooms], by simp, Nat.zero_le _, HMA.out⟩
        case round =>
          obtain ⟨j, rfl, rfl, hj, hMI⟩ := hrel
          have MI := Lib.hid hMI
          clear hMI
          obtain ⟨u, hu⟩ : ∃ u, u = rooms (ql.take j) := ⟨_, rfl⟩
          rw [← hu]
          have HUU := Lib.hid hu
          clear hu
          by_cases hjl : j < ql.length
          · have hG := get_in ⟨qm, qcap, qf, ql⟩ j hjl
            simp only at hG
            have hst := rooms_take ql j hjl
            have hspl := rooms_split ql (j + 1)
            have HG := Lib.hid (fun V (hV : Tm w.heap.size b slA ⟨qm, qcap, qf, ql⟩ w V) => get_any ((qf : Int) + (j : Int)) V hV.tbl (by show qf + ql.length ≤ _; have := HQQ.out; have := HLL.out; omega))
            rw [hG] at HG
            have hrl : roomF ql[j] ≤ 4096 := by have := HRU.out; have := HU1.out; have := HU2.out; have := HPM2.out; have := HK0.out; omega
            obtain ⟨fd, hfd⟩ : ∃ fd, fd = ql[j] := ⟨_, rfl⟩
            rw [← hfd] at HG hst hrl
            rw [← HUU.out] at hst
            have HRM := Lib.hid (fun V => room_any fd V (szF_of hrl))
            obtain ⟨rf, hrf⟩ : ∃ rf, rf = roomF fd := ⟨_, rfl⟩
            rw [← hrf] at HRM hst
            have hub : u + rf ≤ 4096 := by have := HRU.out; have := HU1.out; have := HU2.out; have := HPM2.out; have := HK0.out; omega
            have hwu : IntKind.i64.wrap ((u : Int) + (rf : Int)) = (u : Int) + (rf : Int) := wraps_i64' _ (by omega) (by omega)
            have hwj : IntKind.i64.wrap ((qf : Int) + (j : Int) + 1) = (qf : Int) + ((j : Int) + 1) := by rw [wraps_i64' _ (by omega) (by have := HQQ.out; have := HLL.out; omega)]; omega
            have hjL : j < L := by rw [HLL.out]; exact hjl
            have hc1 : (qf : Int) + (j : Int) < (qf : Int) + (L : Int) := by omega
            have hc2 : (j : Int) < (L : Int) := by omega
            have hc3 : (qf : Int) + (j : Int) < ((qf + L : Nat) : Int) := by omega
            have HJL := Lib.hid hjl
            have HST := Lib.hid hst
            clear hG hst hspl hrl hfd hrf hub hjl hj
            go_wp2_with (first
              | (go_at_call 30; refine (HCT.out _ _ MI.out).mono ?_; rintro e wB ⟨rfl, nd, h⟩
                 have MB := Lib.hid (by rw [h]; exact MI.out.drewN nd : Tm w.heap.size b slA ⟨qm, qcap, qf, ql⟩ w wB)
                 clear h)
              | (go_at_call 22; refine (HG.out _ MB.out).mono ?_; rintro e wC ⟨rfl, bC⟩
                 have MC := Lib.hid (MB.out.below (bC.trans ((below1 wC (.cells #[.string fd.n, .string fd.v] 23)).mono bC.size)))
                 have y0 := (Cs.made wC #[.string fd.n, .string fd.v] 23).get 0 _ rfl
                 have y1 := (Cs.made wC #[.string fd.n, .string fd.v] 23).get 1 _ rfl
                 clear bC)
              | (go_at_call 13; refine (HRM.out _).mono ?_; rintro e wD ⟨rfl, bD⟩
                 have MD := Lib.hid (MC.out.below bD)
                 clear bD))
            exact ⟨⟨j + 1, by rw [HST.out]; simp, by simp, HJL.out, MD.out⟩, by simp [intOf]; have := HJL.out; omega⟩
          · obtain rfl : j = ql.length := by omega
            have hTake : ql.take ql.length = ql := List.take_length
            have HUV := Lib.hid (HUU.out.trans (by rw [hTake, ← HRU.out] : rooms (ql.take ql.length) = ru))
            have hLL := HLL.out
            have hc1 : ¬ ((qf : Int) + (ql.length : Int) < (qf : Int) + (L : Int)) := by omega
            have hc2 : ¬ ((ql.length : Int) < (L : Int)) := by omega
            have hc3 : ¬ ((qf : Int) + (ql.length : Int) < ((qf + L : Nat) : Int)) := by omega
            have huv := HUV.out
            subst huv
            clear hTake hLL
            go_wp2_with (first
              | (go_at_call 30; refine (HCT.out _ _ MI.out).mono ?_; rintro e wB ⟨rfl, nd, h⟩
                 have MB := Lib.hid (by rw [h]; exact MI.out.drewN nd : Tm w.heap.size b slA ⟨qm, qcap, qf, ql⟩ w wB)
                 clear h)
              | (go_at_call 27; refine (HU.out _ _ MB.out).mono ?_; rintro e wC ⟨rfl, h⟩; obtain rfl : _ = wC := h.symm))
            exact ⟨⟨k + 1, slA, ⟨qm, qcap, qf, ql⟩, by simp, HKL.out, MB.out, HQC.out, HPM2.out⟩, by simp [intOf]; have := HKL.out; omega⟩
      · obtain rfl : k = l.length := by omega
        have hi1 : ¬ ((l.length : Int) < (l.length : Int)) := by omega
        go_wp2_with fail
        go_ret
        exact ⟨rfl, M.out.bel⟩
end Go.Proofs.YtfacpncbcplocaaDoor
