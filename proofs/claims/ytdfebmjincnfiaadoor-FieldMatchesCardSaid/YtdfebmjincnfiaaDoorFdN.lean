/- Layer 17: directives, as far as the law's own example goes. -/
import Derived.Test.YtdfebmjincnfiaaDoorFdE
import Derived.Laws.Rows
set_option maxRecDepth 100000
set_option linter.unusedSimpArgs false
set_option linter.unusedVariables false
namespace Go.Proofs.YtdfebmjincnfiaaDoor
open Go.RowKit

def unqE (l : List UInt8) : List UInt8 := if (Lib.hasPrefix l [34] && Lib.hasSuffix (Lib.trimPrefix l [34]) [34]) = true then Lib.trimSuffix (Lib.trimPrefix l [34]) [34] else l
set_option maxHeartbeats 1600000 in
theorem unquoted_any (l : List UInt8) (hl : l.length ≤ 4611686018427387904) (w : World) :
    Calls Tryd.prog 43 #[.string (txt l)] w fun e w' => e = .returned (.string (txt (unqE l))) ∧ w' = w := by
  have C1 : Hid (∀ W, Calls Tryd.prog 18 #[.string (txt l), .string (txt [34])] W fun e w' => e = .returned (.tuple #[.string (txt (Lib.trimPrefix l [34])), .bool (Lib.hasPrefix l [34])]) ∧ w' = W) := fun W => strings_CutPrefix (txt l) (txt [34]) W
  have hlen : (Lib.trimPrefix l [34]).length ≤ l.length := by
    unfold Lib.trimPrefix
    split
    · rw [List.length_drop]; omega
    · omega
  have C2 : Hid (∀ W, Calls Tryd.prog 53 #[.string (txt (Lib.trimPrefix l [34])), .string (txt [34])] W fun e w' => e = .returned (.tuple #[.string (txt (Lib.trimSuffix (Lib.trimPrefix l [34]) [34])), .bool (Lib.hasSuffix (Lib.trimPrefix l [34]) [34])]) ∧ w' = W) := fun W => strings_CutSuffix (txt (Lib.trimPrefix l [34])) (txt [34]) W (by rw [txt_size]; omega)
  unfold unqE
  generalize Lib.trimPrefix l [34] = p at C1 C2 ⊢
  generalize Lib.hasPrefix l [34] = h1 at C1 ⊢
  generalize Lib.trimSuffix p [34] = s at C2 ⊢
  generalize Lib.hasSuffix p [34] = h2 at C2 ⊢
  cases h1 <;> cases h2
  all_goals
    go_enter Tryd.func43, Tryd.ntmps43
    go_wp2_with (first
      | (go_at_call 18; refine (C1.out _).mono ?_; rintro e w2 ⟨rfl, rfl⟩)
      | (go_at_call 53; refine (C2.out _).mono ?_; rintro e w2 ⟨rfl, rfl⟩))
    go_ret
    exact ⟨rfl, by trivial⟩
theorem first_any (b o : Nat) (n : Int) (w : World) (hc : w.cell? ⟨b, o, none⟩ = some (.int .i64 (-1))) (hz : w.frozen? ⟨b, o, none⟩ = false) :
    Calls Tryd.prog 39 #[.pointer (some ⟨b, o, none⟩), .int .i64 n] w fun e w' => e = .returned (.tuple #[]) ∧ w' = w.setCell ⟨b, o, none⟩ (.int .i64 n) := by
  go_enter Tryd.func39, Tryd.ntmps39
  go_wp2
  go_end0
  exact ⟨rfl, by trivial⟩
/-- a directive's value -/
def dirV (n a : List UInt8) (g : Bool) : Value := .agg #[.string (txt n), .string (txt a), .bool g]
theorem secs_any (n a : List UInt8) (g : Bool) (w : World) (ha : digs a = true) (hl : a.length ≤ 1048576) :
    Calls Tryd.prog 40 #[dirV n a g] w fun e w' => e = .returned (.int .i64 (secE a)) ∧ Below w.heap.size w w' := by
  have B1 := Lib.hid ((Below.refl w.heap.size w).alloc (Nat.le_refl _) (.cells #[.string (txt n), .string (txt a), .bool g] 61))
  have S := Lib.hid (seconds_any a (by omega))
  rw [ha] at S
  simp only [if_true] at S
  unfold dirV
  go_enter Tryd.func40, Tryd.ntmps40
  go_wp2_with (go_at_call 51; refine (S.out _).mono ?_; rintro e w2 ⟨rfl, rfl⟩)
  go_ret
  exact ⟨rfl, B1.out⟩
theorem load_dir {U : World} {g : Nat} {a b c : Value} (h : Cs U g [a, b, c]) : (loadVar 61 ⟨g, 0, none⟩).run Tryd.prog U = .ok (.agg #[a, b, c]) U := by
  obtain ⟨T, hT⟩ := h
  exact run_loadVar_row (P := Tryd.prog) U g T 61 #[a, b, c] (0, 0) _ hT Tryd.underlying61 rfl (by kernel_rfl)
set_option maxHeartbeats 1600000 in
theorem dirof_any (l : List UInt8) (hl : l.length ≤ 1048576) (h0 : (cutB 61 l).1 ≠ []) (w : World) :
    Calls Tryd.prog 26 #[.string (txt l)] w fun e w' => e = .returned (dirV (lowE (cutB 61 l).1) (unqE (cutB 61 l).2.1) (cutB 61 l).2.2) ∧ Below w.heap.size w w' := by
  have hcl : (cutB 61 l).1.length ≤ l.length ∧ (cutB 61 l).2.1.length ≤ l.length := by
    rcases cut_ix 61 l with ⟨_, h⟩ | ⟨i, _, _, h⟩
    · rw [h]; simp
    · rw [h]; simp only [List.length_take, List.length_drop]; omega
  have C := Lib.hid (cut_any 61 l (by omega))
  have SM := Lib.hid (small_any (cutB 61 l).1 h0 (by omega))
  have U := Lib.hid (unquoted_any (cutB 61 l).2.1 (by omega))
  generalize (cutB 61 l).1 = a at C SM
  generalize (cutB 61 l).2.1 = b at C U ⊢
  generalize (cutB 61 l).2.2 = g at C ⊢
  generalize lowE a = a2 at SM ⊢
  generalize unqE b = b2 at U ⊢
  have Z1 : Hid (Below w.heap.size w (w.alloc (.cells #[.string (txt []), .string (txt []), .bool false] 61))) := (Below.refl _ _).alloc (Nat.le_refl _) _
  have R1 : Hid (Cs (w.alloc (.cells #[.string (txt []), .string (txt []), .bool false] 61)) w.heap.size [.string (txt []), .string (txt []), .bool false]) := Cs.made w _ _
  go_enter Tryd.func26, Tryd.ntmps26
  go_upto_region 2 with (go_at_call 42; refine (C.out _).mono ?_; rintro e w2 ⟨rfl, hb2⟩; have R2 := Lib.hid (R1.out.below hb2); have Z2 := Lib.hid (Z1.out.trans (hb2.mono Z1.out.size)); clear hb2)
  clear R1 Z1
  go_wp2_with (first
    | (go_at_call 27; refine (SM.out _).mono ?_; rintro e w3 ⟨rfl, hb3⟩; have R3 := Lib.hid (R2.out.below hb3); have Z3 := Lib.hid (Z2.out.trans (hb3.mono Z2.out.size)); clear hb3; have r0 := R3.out.get 0 _ rfl; have r1 := R3.out.get 1 _ rfl; have r2 := R3.out.get 2 _ rfl; have z0 := R3.out.free 0; have z1 := R3.out.free 1; have z2 := R3.out.free 2)
    | (go_at_call 43; refine (U.out _).mono ?_; rintro e w4 ⟨rfl, rfl⟩))
  have R4 := ((R3.out.set 0 (.string (txt a2))).set 1 (.string (txt b2))).set 2 (.bool g)
  have Z4 := ((Z3.out.setCell (p := ⟨w.heap.size, 0, none⟩) (Nat.le_refl _) (.string (txt a2))).setCell (p := ⟨w.heap.size, 1, none⟩) (Nat.le_refl _) (.string (txt b2))).setCell (p := ⟨w.heap.size, 2, none⟩) (Nat.le_refl _) (.bool g)
  have hlv := load_dir R4
  refine bodyPost_ret (v := dirV a2 b2 g) ?_ rfl ⟨rfl, Z4⟩
  simp [results, Tryd.results26, asAddr, hlv, dirV]
/-- directives, cell by cell -/
def ctl0 : List Value := [.bool false, .bool false, .bool false, .bool false, .bool false, .bool false, .int .i64 (-1), .int .i64 (-1), .int .i64 (-1), .int .i64 (-1), .int .i64 (-1), .int .i64 (-1)]
def ctl1 : List Value := [.bool false, .bool false, .bool false, .bool false, .bool false, .bool false, .int .i64 60, .int .i64 (-1), .int .i64 (-1), .int .i64 (-1), .int .i64 (-1), .int .i64 (-1)]
def ctl2 : List Value := [.bool true, .bool false, .bool false, .bool false, .bool false, .bool false, .int .i64 60, .int .i64 (-1), .int .i64 (-1), .int .i64 (-1), .int .i64 (-1), .int .i64 (-1)]
def maxAge : List UInt8 := [109, 97, 120, 45, 97, 103, 101]
def noStore : List UInt8 := [110, 111, 45, 115, 116, 111, 114, 101]
set_option maxHeartbeats 3200000 in
theorem note_store (a : List UInt8) (g : Bool) (b : Nat) (w : World) (hc : Cs w b ctl1) :
    Calls Tryd.prog 25 #[.pointer (some ⟨b, 0, none⟩), dirV noStore a g] w fun e w' => e = .returned (.tuple #[]) ∧ Cs w' b ctl2 ∧ w.grownBy w' (some b) := by
  have q1 : ((txt noStore).toList == [110, 111, 45, 115, 116, 111, 114, 101]) = true := by rw [txt_list]; decide
  have hlt := hc.lt
  have B1 := Lib.hid ((Below.refl w.heap.size w).alloc (Nat.le_refl _) (.cells #[.string (txt noStore), .string (txt a), .bool g] 61))
  have C1 := Lib.hid (hc.below B1.out)
  have D1 : Hid (Cs (w.alloc (.cells #[.string (txt noStore), .string (txt a), .bool g] 61)) w.heap.size [.string (txt noStore), .string (txt a), .bool g]) := Cs.made w _ _
  have n0 := D1.out.get 0 _ rfl
  have k0 := (C1.out.get 0 _ rfl)
  have z0 := C1.out.free 0
  clear hc
  unfold dirV
  generalize noStore = nm at *
  go_enter Tryd.func25, Tryd.ntmps25
  go_upto_region 1 with fail
  generalize w.alloc (.cells #[.string (txt nm), .string (txt a), .bool g] 61) = W at B1 C1 D1 n0 k0 z0 ⊢
  go_wp2
  go_end0
  exact ⟨rfl, C1.out.set 0 (.bool true), grownBy_trans (grownBy_of_below B1.out) (grown_set b 0 W (.bool true))⟩
end Go.Proofs.YtdfebmjincnfiaaDoor
