/- Walks of layer 11: putGroups, Put. -/
import Derived.Test.YtnjgnbdloeadgaaPiB
set_option maxRecDepth 100000
namespace Go.Proofs.Ytnjgnbdloeadgaa
open Go.RowKit

theorem or_128 : ∀ i : Fin 128, bits .or .u8 (i.val : Int) 128 = 128 + (i.val : Int) := by decide +kernel
theorem or_high (x : Int) (h0 : 0 ≤ x) (h1 : x < 128) : bits .or .u8 x 128 = 128 + x := by
  have := or_128 ⟨x.toNat, by omega⟩
  simp only [Int.toNat_of_nonneg h0] at this
  exact this

/-- what stands there behind k rounds -/
def upTo (L G : List Int) (a k : Nat) : List Int := L.take a ++ G.take k ++ L.drop (a + k)
theorem upTo_len (L G : List Int) (a k : Nat) (ha : a + k ≤ L.length) (hk : k ≤ G.length) : (upTo L G a k).length = L.length := by simp [upTo]; omega
theorem upTo_set (L G : List Int) (a k : Nat) (ha : a + k < L.length) (hk : k < G.length) : (upTo L G a k).set (a + k) (G.getD k 0) = upTo L G a (k + 1) := by
  unfold upTo
  have e : L.drop (a + k) = L.getD (a + k) 0 :: L.drop (a + (k + 1)) := by
    rw [List.drop_eq_getElem_cons ha]; simp [List.getD, List.getElem?_eq_getElem ha, Nat.add_assoc]
  rw [e, List.append_assoc, List.set_append_right _ _ (by simp; omega), List.set_append_right _ _ (by simp; omega)]
  rw [List.take_succ_eq_append_getElem hk]
  have : a + k - (L.take a).length - (G.take k).length = 0 := by simp; omega
  rw [this]
  have e2 : G.getD k 0 = G[k] := by simp [List.getD, List.getElem?_eq_getElem hk]
  rw [e2, List.set_cons_zero, List.append_assoc, List.append_assoc, List.singleton_append]

theorem putGroups_none (ad : Option Addr) (c : Nat) (rest : Int) (w : World) :
    Calls Try.prog 17 #[.slice ad 0 c, .int .i64 rest] w fun e w' => e = .returned (.tuple #[]) ∧ w = w' := by
  go_enter Try.func17, Try.ntmps17
  go_wp2
  refine wp_loop_rounds 1 ?_
  repeat any_goals (rw [rounds_succ]; go_wp2)
  go_end0
  exact ⟨rfl, rfl⟩

theorem grp_pow (m k : Nat) : (m : Int) / 2 ^ (7 * k) = ((m / 128 ^ k : Nat) : Int) := by
  have e : ((2 : Int) ^ (7 * k)) = ((128 ^ k : Nat) : Int) := by
    rw [Int.pow_mul]; simp
  rw [e, Int.natCast_ediv]
theorem val_high {m k : Nat} {x : Int} (hx : x = if m / 128 ^ k < 128 then ((m / 128 ^ k : Nat) : Int) else ((128 + m / 128 ^ k % 128 : Nat) : Int)) (h : 127 < (m : Int) / 2 ^ (7 * k)) :
    bits .or .u8 (bits .and .i64 ((m : Int) / 2 ^ (7 * k)) 127 % 256) 128 = x := by
  rw [grp_pow] at *
  generalize m / 128 ^ k = q at *
  rw [low7, show (q : Int) % 128 % 256 = (q : Int) % 128 by omega, or_high _ (by omega) (by omega), hx, if_neg (by omega)]
  omega
theorem val_low {m k : Nat} {x : Int} (hx : x = if m / 128 ^ k < 128 then ((m / 128 ^ k : Nat) : Int) else ((128 + m / 128 ^ k % 128 : Nat) : Int)) (h : ¬ 127 < (m : Int) / 2 ^ (7 * k)) :
    bits .and .i64 ((m : Int) / 2 ^ (7 * k)) 127 % 256 = x := by
  rw [grp_pow] at *
  generalize m / 128 ^ k = q at *
  rw [low7, hx, if_pos (by omega)]
  omega
set_option maxHeartbeats 2000000 in
theorem putGroups_any (B g a n m : Nat) (L : List Int) (w : World) (hm : m ≤ 4611686018427387903) (hown : Own .u8 5 w B (.slice (some ⟨g, 0, none⟩) n n) L) (hB : B ≤ g) (hn : L.length = a + (grp m).length) :
    Calls Try.prog 17 #[.slice (some ⟨g, a, none⟩) (grp m).length (grp m).length, .int .i64 m] w fun e w' => e = .returned (.tuple #[]) ∧ Own .u8 5 w' B (.slice (some ⟨g, 0, none⟩) n n) (L.take a ++ grp m) ∧ Below B w w' := by
  have hK := grp_len9 hm
  have hget := Lib.hid (fun k => grp_get k m)
  have hN := Lib.hid hn
  obtain ⟨G, hG⟩ : ∃ G, G = grp m := ⟨_, rfl⟩
  obtain ⟨K, hKe⟩ : ∃ K, K = G.length := ⟨_, rfl⟩
  rw [← hG] at hK hN hget ⊢
  rw [← hKe] at hK hN hget ⊢
  have hGL := Lib.hid hKe
  clear hKe hn hG
  have o0 : Hid (Own .u8 5 w B (.slice (some ⟨g, 0, none⟩) n n) (upTo L G a 0)) := by
    have : upTo L G a 0 = L := by simp [upTo]
    rw [this]; exact hown
  clear hown
  go_enter Try.func17, Try.ntmps17
  go_wp2_with fail
  go_loopw [8] (fun i wr => ∃ k : Nat, k ≤ K ∧ i = .int .i64 k ∧ Own .u8 5 wr B (.slice (some ⟨g, 0, none⟩) n n) (upTo L G a k) ∧ Below B w wr) (fun i _ => K - (intOf i).toNat)
  case atStart => exact ⟨0, Nat.zero_le _, rfl, o0.out, Below.refl _ _⟩
  case round =>
    obtain ⟨k, hk, rfl, ho, hb⟩ := hrel
    by_cases hlt : k < K
    · have hL1 : a + k < L.length := by rw [hN.out]; omega
      have hGk : k < G.length := by rw [← hGL.out]; exact hlt
      obtain ⟨hcell, hfr⟩ := ho.at (a + k) (by rw [upTo_len _ _ _ _ (by omega) (by omega)]; exact hL1)
      have hv := hget.out k hlt
      have hset := upTo_set L G a k hL1 hGk
      have hS : Hid ((upTo L G a k).set (a + k) (G.getD k 0) = upTo L G a (k + 1)) := hset
      have hV := Lib.hid hv
      clear hset hv hL1 hGk
      go_wp2_with fail
      · rename_i hq
        go_roundw
        case rel =>
          refine ⟨k + 1, by omega, by go_num, ?_, (hb.setCell hB _).setCell hB _⟩
          have h1 := (ho.set (a + k) (bits .and .i64 ((m : Int) / 2 ^ (7 * k)) 127 % 256)).set (a + k) (bits .or .u8 (bits .and .i64 ((m : Int) / 2 ^ (7 * k)) 127 % 256) 128)
          rw [List.set_set] at h1
          have e1 := val_high hV.out hq
          have e2 := hS.out
          rw [← e1] at e2
          rw [e2] at h1
          exact h1
        case measure => simp [intOf]; omega
      · rename_i hq
        go_roundw
        case rel =>
          refine ⟨k + 1, by omega, by go_num, ?_, hb.setCell hB _⟩
          have h1 := ho.set (a + k) (bits .and .i64 ((m : Int) / 2 ^ (7 * k)) 127 % 256)
          have e1 := val_low hV.out (by omega)
          have e2 := hS.out
          rw [← e1] at e2
          rw [e2] at h1
          exact h1
        case measure => simp [intOf]; omega
    · have hkK : k = K := by omega
      have hU : Hid (upTo L G a k = L.take a ++ G) := by
        show upTo L G a k = _
        unfold upTo
        rw [List.take_of_length_le (l := G) (by rw [← hGL.out]; omega), List.drop_of_length_le (by rw [hN.out]; omega), List.append_nil]
      subst hkK
      go_wp2_with fail
      go_end0
      exact ⟨rfl, by rw [← hU.out]; exact ho, hb⟩
end Go.Proofs.Ytnjgnbdloeadgaa
