/- Layer 17: small letters. -/
import Derived.Test.YtdfebmjincnfiaaDoorFdB
import Derived.Lib.ConvBytes
set_option maxRecDepth 100000
set_option linter.unusedSimpArgs false
set_option linter.unusedVariables false
namespace Go.Proofs.YtdfebmjincnfiaaDoor
open Go.RowKit

def low1 (b : UInt8) : UInt8 := if 65 ≤ b.toNat ∧ b.toNat ≤ 90 then b + 32 else b
def lowE (l : List UInt8) : List UInt8 := l.map low1
theorem low_nat (b : UInt8) (h : 65 ≤ b.toNat ∧ b.toNat ≤ 90) : (low1 b).toNat = b.toNat + 32 := by
  unfold low1
  rw [if_pos h, UInt8.toNat_add]
  simp
  omega
/-- the numbers of bytes -/
def numsOf (l : List UInt8) : List Int := l.map fun b => (b.toNat : Int)
theorem numsOf_str (l : List UInt8) : strOfNums (numsOf l) = txt l := by
  apply ByteArray.ext
  have : (fun n : Int => UInt8.ofNat n.toNat) ∘ (fun b : UInt8 => (b.toNat : Int)) = id := by funext b; simp
  simp [strOfNums, numsOf, txt, this]
theorem numsOf_get {l : List UInt8} {k : Nat} (h : k < l.length) : (numsOf l).getD k 0 = (l[k].toNat : Int) := by simp [numsOf, List.getD, h]
theorem bytesWorld_keeps (w : World) (e : TypeId) (s : ByteArray) : Below w.heap.size w (Lib.bytesWorld w e s) := by
  have h0 : Below w.heap.size w w.drew := (Below.refl _ w).drew
  refine ⟨rfl, rfl, rfl, by rw [Lib.bytesWorld_size]; omega, fun i hi => Lib.bytesWorld_at_old w e s i hi⟩
theorem set_at {w : World} {g i : Nat} {v u : Value} (h : w.cell? ⟨g, i, none⟩ = some u) : (w.setCell ⟨g, i, none⟩ v).cell? ⟨g, i, none⟩ = some v := World.cell?_setCell_same' _ _ _ (by rw [h]; rfl)
theorem set_off (w : World) (g i j : Nat) (v : Value) (h : j ≠ i) : (w.setCell ⟨g, i, none⟩ v).cell? ⟨g, j, none⟩ = w.cell? ⟨g, j, none⟩ := by
  apply World.cell?_setCell_other
  intro e
  exact h (by cases e; rfl)
set_option maxHeartbeats 3200000 in
theorem small_any (l : List UInt8) (h0 : l ≠ []) (hl : l.length ≤ 1048576) (w : World) :
    Calls Tryd.prog 27 #[.string (txt l)] w fun e w' => e = .returned (.string (txt (lowE l))) ∧ Below w.heap.size w w' := by
  have sz := txt_size l
  have hcv := Lib.run_convert_string_bytes (P := Tryd.prog) w 9 82 5 (txt l) (u := .string) Tryd.underlying9 Tryd.underlying82 Tryd.underlying5
  have B1 := Lib.hid (bytesWorld_keeps w 5 (txt l))
  have hwa : w.heap.size < (Lib.bytesWorld w 5 (txt l)).heap.size := by rw [Lib.bytesWorld_size]; omega
  have C1 : Hid (∀ i, i < l.length → (Lib.bytesWorld w 5 (txt l)).cell? ⟨w.heap.size, i, none⟩ = some (.int .u8 ((numsOf l).getD i 0)) ∧ (Lib.bytesWorld w 5 (txt l)).frozen? ⟨w.heap.size, i, none⟩ = false) := fun i hi => by
    refine ⟨?_, ?_⟩
    · rw [Lib.bytesWorld_cell w 5 (txt l) i (by rw [sz]; exact hi)]
      simp [numsOf, txt, List.getD, hi]
    · unfold World.frozen?
      rw [Lib.bytesWorld_at_new]
      have hsz : (Lib.bytesCells w 5 (txt l)).size ≥ l.length := by simp [Lib.bytesCells, ByteArray.size, txt]
      simp
      omega
  generalize Lib.bytesWorld w 5 (txt l) = w1 at hcv B1 hwa C1
  generalize grownCap w (txt l).size 0 5 = cap at hcv
  obtain ⟨g, hg⟩ : ∃ g, g = w.heap.size := ⟨_, rfl⟩
  have hgl : Hid (w.heap.size ≤ g) := Nat.le_of_eq hg.symm
  rw [← hg] at hcv hwa C1
  clear hg
  go_enter Tryd.func27, Tryd.ntmps27
  go_wp2_with fail
  have HCV := Lib.hid hcv
  clear hcv
  go_loopw [10] (fun c wx => ∃ k : Nat, k ≤ l.length ∧ c = .int .i64 (k : Int) ∧ (∀ i, i < l.length → wx.cell? ⟨g, i, none⟩ = some (.int .u8 ((numsOf (lowE (l.take k) ++ l.drop k)).getD i 0)) ∧ wx.frozen? ⟨g, i, none⟩ = false) ∧ Below w.heap.size w wx ∧ g < wx.heap.size) (fun c _ => l.length - (intOf c).toNat)
  case atStart => exact ⟨0, by omega, rfl, C1.out, B1.out, hwa⟩
  case round =>
    obtain ⟨k, hk, rfl, hc, hb, hw⟩ := hrel
    have BB := Lib.hid hb
    have CC := Lib.hid hc
    clear hb hc
    have hlow : (lowE (l.take k)).length = k := by simp [lowE]; omega
    by_cases hlt : k < l.length
    · have hdr := Lib.hid (drop_get hlt)
      have htk : Hid (lowE (l.take (k + 1)) = lowE (l.take k) ++ [low1 l[k]]) := by
        show _ = _
        unfold lowE
        rw [take_more hlt, List.map_append]
        rfl
      have hcur := (CC.out k hlt).1
      have hfz := (CC.out k hlt).2
      rw [numsOf_get (by simp [lowE]; omega), List.getElem_append_right (by omega)] at hcur
      simp only [hlow, Nat.sub_self, List.getElem_drop, Nat.add_zero] at hcur
      have hlen : Hid ((lowE (l.take k)).length = k) := hlow
      generalize l[k] = x at hdr htk hcur
      have b2 := x.toNat_lt
      have hx : (k : Int) < (l.length : Int) := by omega
      have w0 := wr64 ((k : Int) + 1) (by omega) (by omega)
      have fin : Hid (∀ (W : World) (y : UInt8), y = low1 x → W.cell? ⟨g, k, none⟩ = some (.int .u8 (y.toNat : Int)) → (∀ i, i ≠ k → W.cell? ⟨g, i, none⟩ = wr.cell? ⟨g, i, none⟩) → ∀ i, i < l.length → W.cell? ⟨g, i, none⟩ = some (.int .u8 ((numsOf (lowE (l.take (k + 1)) ++ l.drop (k + 1))).getD i 0))) := fun W y hy hW ho i hi => by
        have e1 : lowE (l.take (k + 1)) ++ l.drop (k + 1) = lowE (l.take k) ++ (low1 x :: l.drop (k + 1)) := by rw [htk.out]; simp
        have e2 : lowE (l.take k) ++ l.drop k = lowE (l.take k) ++ (x :: l.drop (k + 1)) := by rw [hdr.out]
        by_cases hik : i = k
        · subst hik
          rw [hW, e1, hy]
          simp [numsOf, List.getD, hlen.out, List.getElem?_append_right]
        · rw [ho i hik, (CC.out i hi).1, e1, e2]
          simp only [numsOf, List.map_append, List.map_cons, List.getD_eq_getElem?_getD]
          rcases Nat.lt_or_ge i k with hlt2 | hge
          · rw [List.getElem?_append_left (by rw [List.length_map, hlen.out]; exact hlt2), List.getElem?_append_left (by rw [List.length_map, hlen.out]; exact hlt2)]
          · rw [List.getElem?_append_right (by rw [List.length_map, hlen.out]; exact hge), List.getElem?_append_right (by rw [List.length_map, hlen.out]; exact hge), List.length_map, hlen.out]
            obtain ⟨d, hd⟩ : ∃ d, i - k = d + 1 := ⟨i - k - 1, by omega⟩
            rw [hd]
            rfl
      clear hlow hlen
      by_cases h1 : 65 ≤ x.toNat
      · by_cases h2 : x.toNat ≤ 90
        · have i1 : (65 : Int) ≤ (x.toNat : Int) := by omega
          have i2 : (x.toNat : Int) ≤ 90 := by omega
          have w2 : IntKind.u8.wrap ((x.toNat : Int) - 65) = (x.toNat : Int) - 65 := by rw [IntKind.wrap_u8]; omega
          have w3 : IntKind.u8.wrap ((x.toNat : Int) - 65 + 97) = ((low1 x).toNat : Int) := by rw [IntKind.wrap_u8, low_nat x ⟨h1, h2⟩]; omega
          go_wp2
          go_round
          case rel =>
            refine ⟨k + 1, by omega, by go_num, fun i hi => ⟨fin.out _ _ rfl (set_at hcur) (fun j hj => set_off _ _ _ _ _ hj) i hi, ?_⟩, BB.out.setCell (p := ⟨g, k, none⟩) hgl.out _, by simpa using hw⟩
            rw [World.frozen?_setCell]; exact (CC.out i hi).2
          case measure => simp [intOf, w0]; omega
        · have i1 : (65 : Int) ≤ (x.toNat : Int) := by omega
          have i2 : ¬ (x.toNat : Int) ≤ 90 := by omega
          have e : x = low1 x := by unfold low1; rw [if_neg (by omega)]
          have E := Lib.hid e
          clear e
          go_wp2
          go_round
          case rel => exact ⟨k + 1, by omega, by go_num, fun i hi => ⟨fin.out _ x E.out hcur (fun _ _ => rfl) i hi, (CC.out i hi).2⟩, BB.out, hw⟩
          case measure => simp [intOf, w0]; omega
      · have i1 : ¬ (65 : Int) ≤ (x.toNat : Int) := by omega
        have e : x = low1 x := by unfold low1; rw [if_neg (by omega)]
        have E := Lib.hid e
        clear e
        go_wp2
        go_round
        case rel => exact ⟨k + 1, by omega, by go_num, fun i hi => ⟨fin.out _ x E.out hcur (fun _ _ => rfl) i hi, (CC.out i hi).2⟩, BB.out, hw⟩
        case measure => simp [intOf, w0]; omega
    · have hk2 : k = l.length := by omega
      subst hk2
      have hcb := run_convert_bytes_arg (P := Tryd.prog) wr 82 5 Tryd.underlying82 Tryd.underlying5 g 0 l.length cap (numsOf (lowE l)) (by simp [numsOf, lowE]) (fun i hi => by
        have := (CC.out i hi).1
        rw [List.take_length, List.drop_of_length_le (Nat.le_refl _), List.append_nil] at this
        rw [Nat.zero_add]; exact this) 9 Tryd.underlying9
      rw [numsOf_str] at hcb
      go_wp2
      go_ret
      exact ⟨rfl, BB.out⟩
end Go.Proofs.YtdfebmjincnfiaaDoor
