import Derived.Test.YtmcomdmcmnbhlaaGreatDoorKCg0
set_option maxRecDepth 100000
set_option maxHeartbeats 25600000
set_option linter.unusedSimpArgs false
set_option linter.unusedVariables false
set_option linter.unnecessarySimpa false
namespace Go.Proofs.YtmcomdmcmnbhlaaGreatDoor
open Go.RowKit
theorem gone_eq {z t f s p n z' t' f' s' p' e' : Int} (he : goneE ⟨z,t,f,s,p⟩ n = (⟨z',t',f',s',p'⟩,e')) (w : World) :
  Calls Tryz.prog 104 #[.agg #[.int .i64 z,.int .i64 t,.int .i64 f,.int .i64 s,.int .i64 p],.int .i64 n] w fun e w' => e = .returned (.tuple #[.agg #[.int .i64 z',.int .i64 t',.int .i64 f',.int .i64 s',.int .i64 p'],.int .i64 e']) ∧ Below w.heap.size w w':=by
 have B1:=below_one7 w (.cells #[.int .i64 z,.int .i64 t,.int .i64 f,.int .i64 s,.int .i64 p] 58)
 have B2:=below_more B1 (qlr _) (.cells #[.int .i64 n] 3)
 have B3:=below_more B2 (qlr _) (.cells #[.int .i64 0,.int .i64 0,.int .i64 0,.int .i64 0,.int .i64 0] 58)
 have BB:=qhi B3
 have h0:=((heldI_at (b:=w.heap.size + 1) n 3 (w.alloc (.cells #[.int .i64 z,.int .i64 t,.int .i64 f,.int .i64 s,.int .i64 p] 58)) (by simp)).alloc (.cells #[.int .i64 0,.int .i64 0,.int .i64 0,.int .i64 0,.int .i64 0] 58))
 have HR:=qhi ((held_at7 (b:=w.heap.size + 2) 0 0 0 0 0 58 ((w.alloc (.cells #[.int .i64 z,.int .i64 t,.int .i64 f,.int .i64 s,.int .i64 p] 58)).alloc (.cells #[.int .i64 n] 3)) (by simp)))
 have A:=qhi (ask_gone z t f s p n _ (((w.alloc (.cells #[.int .i64 z,.int .i64 t,.int .i64 f,.int .i64 s,.int .i64 p] 58)).alloc (.cells #[.int .i64 n] 3)).alloc (.cells #[.int .i64 0,.int .i64 0,.int .i64 0,.int .i64 0,.int .i64 0] 58)) h0)
 rw [he] at A
 clear he h0 B1 B2 B3
 go_enter Tryz.func104,Tryz.ntmps104
 go_wp2_with fail
 refine A.out.mono ?_
 rintro e w2 ⟨rfl,bn⟩
 have HR:=qhi (HR.out.below bn)
 have BB:=qhi (BB.out.trans (bn.mono BB.out.size))
 clear bn A
 obtain ⟨r0,r1,r2,r3,r4⟩:=HR.out.facts
 obtain ⟨f0,f1,f2,f3,f4⟩:=HR.out.free
 go_wp2
 exact bodyPost_ret (v:=.tuple #[.agg #[.int .i64 z',.int .i64 t',.int .i64 f',.int .i64 s',.int .i64 p'],.int .i64 e']) (by simp [results,Tryz.results104,go_sem,r0,r1,r2,r3,r4]) rfl ⟨rfl,below_five7 BB.out _ (by omega) _ _ _ _ _⟩
theorem lost_eq {z t f s p n a now z' t' f' s' p' e' : Int} (he : lostE ⟨z,t,f,s,p⟩ n a now = (⟨z',t',f',s',p'⟩,e')) (w : World) :
  Calls Tryz.prog 95 #[.agg #[.int .i64 z,.int .i64 t,.int .i64 f,.int .i64 s,.int .i64 p],.int .i64 n,.int .i64 a,.int .i64 now] w fun e w' => e = .returned (.tuple #[.agg #[.int .i64 z',.int .i64 t',.int .i64 f',.int .i64 s',.int .i64 p'],.int .i64 e']) ∧ Below w.heap.size w w':=by
 have B1:=below_one7 w (.cells #[.int .i64 z,.int .i64 t,.int .i64 f,.int .i64 s,.int .i64 p] 58)
 have B2:=below_more B1 (qlr _) (.cells #[.int .i64 n] 3)
 have B3:=below_more B2 (qlr _) (.cells #[.int .i64 a] 3)
 have B4:=below_more B3 (qlr _) (.cells #[.int .i64 now] 3)
 have B5:=below_more B4 (qlr _) (.cells #[.int .i64 0,.int .i64 0,.int .i64 0,.int .i64 0,.int .i64 0] 58)
 have B6:=below_more B5 (qlr _) (.cells #[.int .i64 a,.int .i64 now] 3)
 have BB:=qhi B6
 have h0:=(((((heldI_at (b:=w.heap.size + 1) n 3 (w.alloc (.cells #[.int .i64 z,.int .i64 t,.int .i64 f,.int .i64 s,.int .i64 p] 58)) (by simp)).alloc (.cells #[.int .i64 a] 3)).alloc (.cells #[.int .i64 now] 3)).alloc (.cells #[.int .i64 0,.int .i64 0,.int .i64 0,.int .i64 0,.int .i64 0] 58)).alloc (.cells #[.int .i64 a,.int .i64 now] 3))
 have h1:=((((heldI_at (b:=w.heap.size + 2) a 3 ((w.alloc (.cells #[.int .i64 z,.int .i64 t,.int .i64 f,.int .i64 s,.int .i64 p] 58)).alloc (.cells #[.int .i64 n] 3)) (by simp)).alloc (.cells #[.int .i64 now] 3)).alloc (.cells #[.int .i64 0,.int .i64 0,.int .i64 0,.int .i64 0,.int .i64 0] 58)).alloc (.cells #[.int .i64 a,.int .i64 now] 3))
 have h2:=(((heldI_at (b:=w.heap.size + 3) now 3 (((w.alloc (.cells #[.int .i64 z,.int .i64 t,.int .i64 f,.int .i64 s,.int .i64 p] 58)).alloc (.cells #[.int .i64 n] 3)).alloc (.cells #[.int .i64 a] 3)) (by simp)).alloc (.cells #[.int .i64 0,.int .i64 0,.int .i64 0,.int .i64 0,.int .i64 0] 58)).alloc (.cells #[.int .i64 a,.int .i64 now] 3))
 have HR:=qhi ((held_at7 (b:=w.heap.size + 4) 0 0 0 0 0 58 ((((w.alloc (.cells #[.int .i64 z,.int .i64 t,.int .i64 f,.int .i64 s,.int .i64 p] 58)).alloc (.cells #[.int .i64 n] 3)).alloc (.cells #[.int .i64 a] 3)).alloc (.cells #[.int .i64 now] 3)) (by simp)).alloc (.cells #[.int .i64 a,.int .i64 now] 3))
 have A:=qhi (ask_lost z t f s p n a now _ _ _ (w.heap.size + 5) ((((((w.alloc (.cells #[.int .i64 z,.int .i64 t,.int .i64 f,.int .i64 s,.int .i64 p] 58)).alloc (.cells #[.int .i64 n] 3)).alloc (.cells #[.int .i64 a] 3)).alloc (.cells #[.int .i64 now] 3)).alloc (.cells #[.int .i64 0,.int .i64 0,.int .i64 0,.int .i64 0,.int .i64 0] 58)).alloc (.cells #[.int .i64 a,.int .i64 now] 3)) h0 h1 h2 (by simp) (by rw [World.cell?_alloc_at _ _ _ _ (by simp)];rfl) (by rw [World.cell?_alloc_at _ _ _ _ (by simp)];rfl))
 rw [he] at A
 clear he h0 h1 h2 B1 B2 B3 B4 B5 B6
 go_enter Tryz.func95,Tryz.ntmps95
 go_wp2_with fail
 refine A.out.mono ?_
 rintro e w2 ⟨rfl,bn⟩
 have HR:=qhi (HR.out.below bn)
 have BB:=qhi (BB.out.trans (bn.mono BB.out.size))
 clear bn A
 obtain ⟨r0,r1,r2,r3,r4⟩:=HR.out.facts
 obtain ⟨f0,f1,f2,f3,f4⟩:=HR.out.free
 go_wp2
 exact bodyPost_ret (v:=.tuple #[.agg #[.int .i64 z',.int .i64 t',.int .i64 f',.int .i64 s',.int .i64 p'],.int .i64 e']) (by simp [results,Tryz.results95,go_sem,r0,r1,r2,r3,r4]) rfl ⟨rfl,below_five7 BB.out _ (by omega) _ _ _ _ _⟩
end Go.Proofs.YtmcomdmcmnbhlaaGreatDoor
