/- Bytes: the lowest bytes of a number, the highest first; two rows of bytes compared (the given Same). -/
import Derived.Test.YtjaeccealfeakaaGen
namespace Go.Proofs.Ytjaeccealfeakaa
open Go.RowKit

theorem elemU8 : Elem Try.prog 5 .u8 1 := ⟨Try.underlying5, info_parts (by kernel_rfl)⟩

/-- the lowest k bytes of m, the highest first -/
def be (m : Nat) : Nat → List Int
  | 0 => []
  | k + 1 => be (m / 256) k ++ [((m % 256 : Nat) : Int)]
theorem be_len (m k : Nat) : (be m k).length = k := by
  induction k generalizing m with
  | zero => rfl
  | succ k ih => simp [be, ih]
theorem be_cons (m k : Nat) : be m (k + 1) = ((m / 256 ^ k % 256 : Nat) : Int) :: be m k := by
  induction k generalizing m with
  | zero => simp [be]
  | succ k ih => rw [be, ih, be, Nat.div_div_eq_div_mul, List.cons_append, ← Nat.pow_succ']
theorem be_bts (m k : Nat) : Bts (be m k) := by
  induction k generalizing m with
  | zero => intro x hx; simp [be] at hx
  | succ k ih =>
    intro x hx
    rw [be, List.mem_append] at hx
    rcases hx with hx | hx
    · exact ih _ x hx
    · obtain rfl := List.mem_singleton.1 hx; omega
theorem be_take (m W j : Nat) (h : j < W) : (be m W).take (j + 1) = (be m W).take j ++ [((m / 256 ^ (W - 1 - j) % 256 : Nat) : Int)] := by
  induction W generalizing j with
  | zero => omega
  | succ W ih =>
    rw [be_cons]
    cases j with
    | zero => simp
    | succ j =>
      rw [List.take_succ_cons, ih j (by omega), List.take_succ_cons, List.cons_append, show W + 1 - 1 - (j + 1) = W - 1 - j by omega]
theorem be_all (m W : Nat) : (be m W).take W = be m W := List.take_of_length_le (by rw [be_len]; exact Nat.le_refl _)
theorem be_inj {m m' : Nat} : ∀ {k : Nat}, m < 256 ^ k → m' < 256 ^ k → be m k = be m' k → m = m' := by
  intro k
  induction k generalizing m m' with
  | zero => intro h h' _; simp at h h'; omega
  | succ k ih =>
    intro h h' he
    rw [be, be] at he
    obtain ⟨h1, h2⟩ := List.append_inj he (by rw [be_len, be_len])
    rw [Nat.pow_succ] at h h'
    have h3 := ih (Nat.div_lt_of_lt_mul (by rw [Nat.mul_comm]; exact h)) (Nat.div_lt_of_lt_mul (by rw [Nat.mul_comm]; exact h')) h1
    have h4 : ((m % 256 : Nat) : Int) = ((m' % 256 : Nat) : Int) := (List.cons.inj h2).1
    omega

theorem same_any (a b : Value) (xs ys : List Int) (w : World) (ha : Rd .u8 w a xs) (hb : Rd .u8 w b ys) (bx : Bts xs) (by_ : Bts ys) :
    Calls Try.prog 22 #[a, b] w fun e w' => e = .returned (.bool (decide (xs = ys))) ∧ w = w' := by
  have h1 := ha.conv Try.underlying36 Try.underlying5 Try.underlying9
  have h2 := hb.conv Try.underlying36 Try.underlying5 Try.underlying9
  have h3 := Lib.hid (str_eq' bx by_)
  clear ha hb bx by_
  go_enter Try.func22, Try.ntmps22
  go_wp2
  go_ret
  exact ⟨ret_bool h3.out, rfl⟩
theorem same_yes (a b : Value) (xs : List Int) (w : World) (ha : Rd .u8 w a xs) (hb : Rd .u8 w b xs) (hx : Bts xs) :
    Calls Try.prog 22 #[a, b] w fun e w' => e = .returned (.bool true) ∧ w = w' :=
  (same_any a b xs xs w ha hb hx hx).mono fun e w' h => by simpa using h
end Go.Proofs.Ytjaeccealfeakaa
