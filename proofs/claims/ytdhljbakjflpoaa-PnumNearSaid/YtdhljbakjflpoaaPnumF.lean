/- Walks of layer 3: the laws Back, Near and Few. -/
import Derived.Test.YtdhljbakjflpoaaPnumE
namespace Go.Proofs.Ytdhljbakjflpoaa
open Go.RowKit

theorem pnumBack_no (n acked l : Int) (w : World) (h : widthI n acked = 0) : Calls Try.prog 5 #[.int .i64 n, .int .i64 acked, .int .i64 l] w (Yes w) := by
  have H := Lib.hid h
  clear h
  go_enter Try.func5, Try.ntmps5
  go_wp2_with fail
  refine (w_any n acked _).mono ?_
  rintro e w' ⟨rfl, rfl⟩
  rw [H.out, if_pos rfl]
  go_wp2_with fail
  refine (alive_any _).mono ?_
  rintro e w' ⟨rfl, rfl⟩
  go_wp2_with fail
  go_ret
  exact yes_same _

/-- P3.3 where the largest is one between, or what was acked -/
theorem pnumBack_in (n acked l L v c : Int) (w : World) (hv : widthI n acked = v) (hv0 : ¬ v = 0) (hc : cutOk n v = true) (hcc : n % cnt v = c) (hg : GrowOk L c v) (hgg : growI L c v = n)
    (hL : (acked ≤ l ∧ l < n ∧ L = l) ∨ (l < acked ∧ L = acked) ∨ (acked ≤ l ∧ n ≤ l ∧ L = acked)) : Calls Try.prog 5 #[.int .i64 n, .int .i64 acked, .int .i64 l] w (Yes w) := by
  have H1 := Lib.hid hv
  have H2 := Lib.hid hv0
  have H3 := Lib.hid hc
  have H4 := Lib.hid hcc
  have H5 := Lib.hid hg
  have H6 := Lib.hid hgg
  clear hv hv0 hc hcc hg hgg
  rcases hL with ⟨q1, q2, rfl⟩ | ⟨q1, rfl⟩ | ⟨q1, q2, rfl⟩
  · have d1 : decide (L < acked) = false := by simp; omega
    have d2 : decide (L ≥ n) = false := by simp; omega
    clear q1 q2
    go_enter Try.func5, Try.ntmps5
    go_wp2_with fail
    refine (w_any n acked _).mono ?_
    rintro e w' ⟨rfl, rfl⟩
    rw [H1.out, if_neg H2.out]
    go_wp2_with fail
    refine (cut_any n v _).mono ?_
    rintro e w' ⟨rfl, rfl⟩
    rw [if_pos H3.out, if_pos H3.out, H4.out]
    go_wp2_with fail
    refine (grow_any L c v _).mono ?_
    rintro e w' ⟨rfl, rfl⟩
    rw [if_pos H5.out, if_pos H5.out, H6.out]
    go_wp2_with fail
    refine (alive_any _).mono ?_
    rintro e w' ⟨rfl, rfl⟩
    go_wp2_with fail
    go_ret
    exact yes_same _
  · have d1 : decide (l < L) = true := by simp; omega
    clear q1
    go_enter Try.func5, Try.ntmps5
    go_wp2_with fail
    refine (w_any n L _).mono ?_
    rintro e w' ⟨rfl, rfl⟩
    rw [H1.out, if_neg H2.out]
    go_wp2_with fail
    refine (cut_any n v _).mono ?_
    rintro e w' ⟨rfl, rfl⟩
    rw [if_pos H3.out, if_pos H3.out, H4.out]
    go_wp2_with fail
    refine (grow_any L c v _).mono ?_
    rintro e w' ⟨rfl, rfl⟩
    rw [if_pos H5.out, if_pos H5.out, H6.out]
    go_wp2_with fail
    refine (alive_any _).mono ?_
    rintro e w' ⟨rfl, rfl⟩
    go_wp2_with fail
    go_ret
    exact yes_same _
  · have d1 : decide (l < L) = false := by simp; omega
    have d2 : decide (l ≥ n) = true := by simp; omega
    clear q1 q2
    go_enter Try.func5, Try.ntmps5
    go_wp2_with fail
    refine (w_any n L _).mono ?_
    rintro e w' ⟨rfl, rfl⟩
    rw [H1.out, if_neg H2.out]
    go_wp2_with fail
    refine (cut_any n v _).mono ?_
    rintro e w' ⟨rfl, rfl⟩
    rw [if_pos H3.out, if_pos H3.out, H4.out]
    go_wp2_with fail
    refine (grow_any L c v _).mono ?_
    rintro e w' ⟨rfl, rfl⟩
    rw [if_pos H5.out, if_pos H5.out, H6.out]
    go_wp2_with fail
    refine (alive_any _).mono ?_
    rintro e w' ⟨rfl, rfl⟩
    go_wp2_with fail
    go_ret
    exact yes_same _

/-- P3.3 -/
theorem pnumBack_walk (n acked l : Int) (w : World) : Calls Try.prog 5 #[.int .i64 n, .int .i64 acked, .int .i64 l] w (Yes w) := by
  by_cases h : widthI n acked = 0
  · exact pnumBack_no n acked l w h
  · obtain ⟨_, _, hna, _⟩ := widthI_ok h
    by_cases h1 : acked ≤ l
    · by_cases h2 : l < n
      · obtain ⟨g1, g2, g3⟩ := back_ok n acked l h h1 h2
        exact pnumBack_in n acked l l _ _ w rfl h g1 rfl g2 g3 (.inl ⟨h1, h2, rfl⟩)
      · obtain ⟨g1, g2, g3⟩ := back_ok n acked acked h (Int.le_refl _) hna
        exact pnumBack_in n acked l acked _ _ w rfl h g1 rfl g2 g3 (.inr (.inr ⟨h1, by omega, rfl⟩))
    · obtain ⟨g1, g2, g3⟩ := back_ok n acked acked h (Int.le_refl _) hna
      exact pnumBack_in n acked l acked _ _ w rfl h g1 rfl g2 g3 (.inr (.inl ⟨by omega, rfl⟩))

theorem pnumNear_no (l c k : Int) (w : World) (h : ¬ GrowOk l c k) : Calls Try.prog 6 #[.int .i64 l, .int .i64 c, .int .i64 k] w (Yes w) := by
  have H := Lib.hid h
  clear h
  go_enter Try.func6, Try.ntmps6
  go_wp2_with fail
  refine (grow_any l c k _).mono ?_
  rintro e w' ⟨rfl, rfl⟩
  rw [if_neg H.out, if_neg H.out]
  go_wp2_with fail
  refine (alive_any _).mono ?_
  rintro e w' ⟨rfl, rfl⟩
  go_wp2_with fail
  go_ret
  exact yes_same _

theorem pnumNear_in (l c k m n : Int) (w : World) (hk : (k = 1 ∧ m = 256) ∨ (k = 2 ∧ m = 65536) ∨ (k = 3 ∧ m = 16777216) ∨ (k = 4 ∧ m = 4294967296)) (h : GrowOk l c k) (hg : growI l c k = n) (hn : IsNum n) (hc : n % m = c) (h1 : n - l ≤ m) (h2 : l - n ≤ m) :
    Calls Try.prog 6 #[.int .i64 l, .int .i64 c, .int .i64 k] w (Yes w) := by
  have H := Lib.hid h
  have HG := Lib.hid hg
  have HN := Lib.hid hn
  have w1 : IntKind.i64.wrap (n - l) = n - l := by
    rw [IntKind.wrap_i64]; have := hn.1; have := hn.2; have := h.1; have := h.2.1; omega
  have w2 : IntKind.i64.wrap (l - n) = l - n := by
    rw [IntKind.wrap_i64]; have := hn.1; have := hn.2; have := h.1; have := h.2.1; omega
  have d0 : decide (n ≥ 0) = true := by have := hn.1; simp; omega
  have d1 : decide (n ≤ 4611686018427387903) = true := by have := hn.2; simp; omega
  have d2 : decide (n - l ≤ m) = true := by simp; omega
  have d3 : decide (l - n ≤ m) = true := by simp; omega
  clear h hg hn h1 h2
  rcases hk with ⟨rfl, rfl⟩ | ⟨rfl, rfl⟩ | ⟨rfl, rfl⟩ | ⟨rfl, rfl⟩
  all_goals
    have hok : Hid (cutOk n _ = true) := Lib.hid (by simp only [cutOk, Bool.and_eq_true, decide_eq_true_eq]; exact ⟨HN.out, H.out.2.2.1⟩)
    have HC := Lib.hid hc
    clear hc
    go_enter Try.func6, Try.ntmps6
    go_wp2_with fail
    refine (grow_any l c _ _).mono ?_
    rintro e w' ⟨rfl, rfl⟩
    rw [if_pos H.out, if_pos H.out, HG.out]
    go_wp2_with fail
    refine (cut_any n _ _).mono ?_
    rintro e w' ⟨rfl, rfl⟩
    rw [if_pos hok.out, if_pos hok.out]
    have hcc := HC.out
    simp only [cnt, Int.reduceEq, if_true, if_false]
    rw [hcc]
    clear hcc
    go_wp2_with fail
    refine (alive_any _).mono ?_
    rintro e w' ⟨rfl, rfl⟩
    go_wp2_with fail
    go_ret
    exact yes_same _

/-- P3.4 -/
theorem pnumNear_walk (l c k : Int) (w : World) : Calls Try.prog 6 #[.int .i64 l, .int .i64 c, .int .i64 k] w (Yes w) := by
  by_cases h : GrowOk l c k
  · obtain ⟨a, b, d, e⟩ := near l c k _ rfl h.2.2.1.row h
    refine pnumNear_in l c k _ _ w ?_ h rfl a b d e
    rcases h.2.2.1.cases with rfl | rfl | rfl | rfl
    · exact .inl ⟨rfl, rfl⟩
    · exact .inr (.inl ⟨rfl, rfl⟩)
    · exact .inr (.inr (.inl ⟨rfl, rfl⟩))
    · exact .inr (.inr (.inr ⟨rfl, rfl⟩))
  · exact pnumNear_no l c k w h

theorem pnumFew_short (n acked : Int) (w : World) (h : widthI n acked = 0 ∨ widthI n acked = 1) : Calls Try.prog 7 #[.int .i64 n, .int .i64 acked] w (Yes w) := by
  rcases h with h | h
  · have H := Lib.hid h
    clear h
    go_enter Try.func7, Try.ntmps7
    go_wp2_with fail
    refine (w_any n acked _).mono ?_
    rintro e w' ⟨rfl, rfl⟩
    rw [H.out, if_pos rfl]
    go_wp2_with fail
    refine (alive_any _).mono ?_
    rintro e w' ⟨rfl, rfl⟩
    go_wp2_with fail
    go_ret
    exact yes_same _
  · have H := Lib.hid h
    clear h
    go_enter Try.func7, Try.ntmps7
    go_wp2_with fail
    refine (w_any n acked _).mono ?_
    rintro e w' ⟨rfl, rfl⟩
    rw [H.out, if_neg (by decide)]
    go_wp2_with fail
    refine (alive_any _).mono ?_
    rintro e w' ⟨rfl, rfl⟩
    go_wp2_with fail
    go_ret
    exact yes_same _

theorem pnumFew_long (n acked v a b : Int) (w : World) (hv : widthI n acked = v) (hq : (v = 2 ∧ a = 128 ∧ b = 32768) ∨ (v = 3 ∧ a = 32768 ∧ b = 8388608) ∨ (v = 4 ∧ a = 8388608 ∧ b = 2147483648)) (h1 : a < n - acked) (h2 : n - acked ≤ b) :
    Calls Try.prog 7 #[.int .i64 n, .int .i64 acked] w (Yes w) := by
  have H := Lib.hid hv
  have w1 : IntKind.i64.wrap (n - acked) = n - acked := by rw [IntKind.wrap_i64]; omega
  have d1 : decide (n - acked > a) = true := by simp; omega
  have d2 : decide (n - acked ≤ b) = true := by simp; omega
  clear hv h1 h2
  rcases hq with ⟨rfl, rfl, rfl⟩ | ⟨rfl, rfl, rfl⟩ | ⟨rfl, rfl, rfl⟩
  all_goals
    go_enter Try.func7, Try.ntmps7
    go_wp2_with fail
    refine (w_any n acked _).mono ?_
    rintro e w' ⟨rfl, rfl⟩
    rw [H.out, if_neg (by decide)]
    go_wp2_with fail
    refine (alive_any _).mono ?_
    rintro e w' ⟨rfl, rfl⟩
    go_wp2_with fail
    go_ret
    exact yes_same _

/-- P3.1: no fewer bytes would do -/
theorem pnumFew_walk (n acked : Int) (w : World) : Calls Try.prog 7 #[.int .i64 n, .int .i64 acked] w (Yes w) := by
  by_cases h : widthI n acked = 0
  · exact pnumFew_short n acked w (.inl h)
  · obtain ⟨_, _, _, hc⟩ := widthI_ok h
    rcases hc with ⟨e, g⟩ | ⟨e, g, g'⟩ | ⟨e, g, g'⟩ | ⟨e, g, g'⟩
    · exact pnumFew_short n acked w (.inr e)
    · exact pnumFew_long n acked 2 _ _ w e (.inl ⟨rfl, rfl, rfl⟩) g g'
    · exact pnumFew_long n acked 3 _ _ w e (.inr (.inl ⟨rfl, rfl, rfl⟩)) g g'
    · exact pnumFew_long n acked 4 _ _ w e (.inr (.inr ⟨rfl, rfl, rfl⟩)) g g'
end Go.Proofs.Ytdhljbakjflpoaa
