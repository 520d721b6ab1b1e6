import Derived.Test.YtmcomdmcmnbhlaaGreatDoorKLGen0
import Derived.ChangeKeysEq
set_option maxRecDepth 100000
set_option maxHeartbeats 25600000
set_option linter.unusedSimpArgs false
set_option linter.unusedVariables false
set_option linter.unnecessarySimpa false
namespace Go.Proofs.YtmcomdmcmnbhlaaGreatDoor
open Go.RowKit
theorem run_eqItems_nums {P : Program} (w : World) (d : Nat) {e : TypeId} {k : IntKind} (he : P.underlying e = some (.int k)) (ps qs : List Int) (hl : ps.length = qs.length) : ∀ (is : List Nat),(∀ i ∈ is,i < ps.length) →
  (Op.eqItems (d + 1) e 1 (ps.map (Value.int k)).toArray (qs.map (Value.int k)).toArray is).run P w = .ok (is.all fun i => ps.getD i 0 == qs.getD i 0) w
 | [],_ => by simp [Op.eqItems]
 | i :: is,h => by
   have hi : i < ps.length:=h i (by simp)
   have hp : P.plainKey e = true:=by simp [Program.plainKey,he]
   have p1:=run_part_plain (P:=P) w hp (xs:=(ps.map (Value.int k)).toArray) (off:=i) (v:=.int k (ps.getD i 0)) (by simp [List.getD,List.getElem?_eq_getElem hi])
   have p2:=run_part_plain (P:=P) w hp (xs:=(qs.map (Value.int k)).toArray) (off:=i) (v:=.int k (qs.getD i 0)) (by simp [List.getD,List.getElem?_eq_getElem (show i < qs.length by omega)])
   have p3:=run_equalIn_int (P:=P) w d e k k (ps.getD i 0) (qs.getD i 0) he
   simp only [Op.eqItems,Sem.run_bind,Nat.mul_one,p1,p2,p3,Result.andThen_ok,List.all_cons]
   have ih:=run_eqItems_nums w d he ps qs hl is (fun j hj => h j (by simp [hj]))
   cases ps.getD i 0 == qs.getD i 0
   ·simp
   ·simpa using ih
theorem all_getD (ps qs : List Int) (hl : ps.length = qs.length) : ((List.range ps.length).all fun i => ps.getD i 0 == qs.getD i 0) = decide (ps = qs):=by
 rw [Bool.eq_iff_iff,List.all_eq_true,decide_eq_true_iff]
 constructor
 ·intro h
  apply List.ext_getElem hl
  intro i h1 h2
  have:=h i (by simpa using h1)
  simpa [List.getD,List.getElem?_eq_getElem h1,List.getElem?_eq_getElem h2] using this
 ·rintro rfl i _
  simp
theorem run_eq_nums {P : Program} (w : World) {t e : TypeId} {k : IntKind} {n : Nat} {i : TypeInfo} (hu : P.underlying t = some (.array n e)) (he : P.underlying e = some (.int k)) (hi : P.info? e = some i) (hc : P.cellsOf e = 1) (ps qs : List Int) (ha : ps.length = n) (hb : qs.length = n) :
  (Op.equalIn 10000 t (.agg (ps.map (Value.int k)).toArray) (.agg (qs.map (Value.int k)).toArray)).run P w = .ok (decide (ps = qs)) w:=by
 rw [run_equalIn_array w 9999 _ _ hu hi,hc,run_eqItems_nums w 9998 he ps qs (by omega) _ (fun j hj => by rw [ha];simpa using hj),← ha,all_getD ps qs (by omega)]
end Go.Proofs.YtmcomdmcmnbhlaaGreatDoor
