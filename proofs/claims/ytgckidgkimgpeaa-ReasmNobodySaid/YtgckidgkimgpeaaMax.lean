/- max and min of two numbers, as laws for the walk: what they come to is the prover's to say. -/
import Derived.Test.YtgckidgkimgpeaaGen
import Derived.Laws.Small
namespace Go.Proofs.Ytgckidgkimgpeaa
open Go.RowKit
theorem wpList_max_int {P : Program} (w : World) {ops : Array Oper} {rest : List Oper} {o : Oper} {a : Act} {Q : Exit → Act → World → Prop} (hgd : o.guard = none) (x y : Operand) (t t' : TypeId)
    (ho : o.op = .call { callee := .builtin .max, args := #[x, y], argTypes := #[t, t'] }) (m n c : Int) (hx : a.eval x = .int .i64 m) (hy : a.eval y = .int .i64 n) (hc : max m n = c)
    (h : wpList P ops Q rest (a.put o.dst (.int .i64 c)) w) : wpList P ops Q (o :: rest) a w := by
  have e : (if n > m then n else m) = c := by rw [← hc]; split <;> omega
  refine wpList_plain hgd fun K hK => ?_
  have hrun := run_max_int2 (P := P) (w := w) #[t, t'] o.type .i64 .i64 m n
  rw [e] at hrun
  unfold Oper.wp
  simp only [execOp, ho, resolve, invoke, builtin, Sem.run_bind, Sem.run_pure, Result.andThen_ok, List.map_toArray, List.map_cons, List.map_nil, hx, hy, hrun]
  exact hK _ _ h
theorem wpList_min_int {P : Program} (w : World) {ops : Array Oper} {rest : List Oper} {o : Oper} {a : Act} {Q : Exit → Act → World → Prop} (hgd : o.guard = none) (x y : Operand) (t t' : TypeId)
    (ho : o.op = .call { callee := .builtin .min, args := #[x, y], argTypes := #[t, t'] }) (m n c : Int) (hx : a.eval x = .int .i64 m) (hy : a.eval y = .int .i64 n) (hc : min m n = c)
    (h : wpList P ops Q rest (a.put o.dst (.int .i64 c)) w) : wpList P ops Q (o :: rest) a w := by
  have e : (if n < m then n else m) = c := by rw [← hc]; split <;> omega
  refine wpList_plain hgd fun K hK => ?_
  have hrun := run_min_int2 (P := P) (w := w) #[t, t'] o.type .i64 .i64 m n
  rw [e] at hrun
  unfold Oper.wp
  simp only [execOp, ho, resolve, invoke, builtin, Sem.run_bind, Sem.run_pure, Result.andThen_ok, List.map_toArray, List.map_cons, List.map_nil, hx, hy, hrun]
  exact hK _ _ h
end Go.Proofs.Ytgckidgkimgpeaa
