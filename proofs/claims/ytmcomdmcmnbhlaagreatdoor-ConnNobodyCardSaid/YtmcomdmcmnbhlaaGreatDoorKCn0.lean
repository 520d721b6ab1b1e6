import Derived.Test.YtmcomdmcmnbhlaaGreatDoorKLKeep0
import Derived.Test.YtmcomdmcmnbhlaaGreatDoorKSp0
import Derived.Test.YtmcomdmcmnbhlaaGreatDoorKSn0
import Derived.Test.YtmcomdmcmnbhlaaGreatDoorKLBe0
import Derived.Test.YtmcomdmcmnbhlaaGreatDoorKPn0
import Derived.Test.YtmcomdmcmnbhlaaGreatDoorKTa0
import Derived.Deep.RegionHeld
set_option maxRecDepth 100000
set_option maxHeartbeats 25600000
set_option linter.unusedSimpArgs false
set_option linter.unusedVariables false
set_option linter.unnecessarySimpa false
namespace Go.Proofs.YtmcomdmcmnbhlaaGreatDoor
open Go.RowKit
abbrev Col:=Nat → Nat
structure Stp (c c' : Col) (K : Nat → Prop) (w w' : World) : Prop where
 os : w'.os = w.os
 tape : w'.tape = w.tape
 output : w'.output = w.output
 size : w.heap.size ≤ w'.heap.size
 col : ∀ i,i < w.heap.size → c' i = c i
 block : ∀ i,i < w.heap.size → ¬ K (c i) → w'.heap[i]? = w.heap[i]?
theorem Stp.refl (c : Col) (K : Nat → Prop) (w : World) : Stp c c K w w:=⟨rfl,rfl,rfl,qlr _,fun _ _ => rfl,fun _ _ _ => rfl⟩
theorem Stp.trans {c c' c'' : Col} {K : Nat → Prop} {a b d : World} (h : Stp c c' K a b) (k : Stp c' c'' K b d) : Stp c c'' K a d :=
 ⟨k.os.trans h.os,k.tape.trans h.tape,k.output.trans h.output,Nat.le_trans h.size k.size,
  fun i hi => (k.col i (Nat.lt_of_lt_of_le hi h.size)).trans (h.col i hi),
  fun i hi hn => (k.block i (Nat.lt_of_lt_of_le hi h.size) (by rw [h.col i hi];exact hn)).trans (h.block i hi hn)⟩
theorem Stp.mono {c c' : Col} {K K' : Nat → Prop} {a b : World} (h : Stp c c' K a b) (hk : ∀ i,K i → K' i) : Stp c c' K' a b :=
 ⟨h.os,h.tape,h.output,h.size,h.col,fun i hi hn => h.block i hi (fun e => hn (hk _ e))⟩
theorem Stp.of_keep {c : Col} {K : Nat → Prop} {S : List Nat} {w w' : World} (h : Keep S w w') (hs : ∀ i ∈ S,i < w.heap.size → K (c i)) : Stp c c K w w' :=
 ⟨h.os,h.tape,h.output,h.size,fun _ _ => rfl,fun i hi hn => h.block i hi (fun hm => hn (hs i hm hi))⟩
theorem Stp.of_below {c : Col} {K : Nat → Prop} {w w' : World} (h : Below w.heap.size w w') : Stp c c K w w':=⟨h.os,h.tape,h.output,h.size,fun _ _ => rfl,fun i hi _ => h.block i hi⟩
theorem Stp.of_grown {c : Col} {K : Nat → Prop} {w w' : World} {row : Option Nat} (h : w.grownBy w' row) (hs : ∀ j,row = some j → j < w.heap.size → K (c j)) : Stp c c K w w' :=
 ⟨h.os,h.tape,h.output,h.size,fun _ _ => rfl,fun i hi hn => h.block i hi (fun e => hn (hs i e.symm hi))⟩
theorem Stp.drewN {c c' : Col} {K : Nat → Prop} {w w' : World} (h : Stp c c' K w w') (n : Nat) : Stp c c' K w (w'.drewN n):=⟨h.os,h.tape,h.output,h.size,h.col,h.block⟩
theorem Stp.drew {c c' : Col} {K : Nat → Prop} {w w' : World} (h : Stp c c' K w w') : Stp c c' K w w'.drew:=⟨h.os,h.tape,h.output,h.size,h.col,h.block⟩
theorem Stp.below {c c' : Col} {K : Nat → Prop} {w w' : World} (h : Stp c c' K w w') {B : Nat} (hB : B ≤ w.heap.size) (hs : ∀ i,i < B → ¬ K (c i)) : Below B w w' :=
 ⟨h.os,h.tape,h.output,h.size,fun i hi => h.block i (by omega) (hs i hi)⟩
def paint (c : Col) (B k : Nat) : Col:=fun i => if i < B then c i else k
theorem paint_lt {c : Col} {B k i : Nat} (h : i < B) : paint c B k i = c i:=if_pos h
theorem paint_ge {c : Col} {B k i : Nat} (h : B ≤ i) : paint c B k i = k:=if_neg (by omega)
theorem Stp.paint {c : Col} {K : Nat → Prop} {w w' : World} (h : Stp c c K w w') (k : Nat) : Stp c (paint c w.heap.size k) K w w':=⟨h.os,h.tape,h.output,h.size,fun i hi => paint_lt hi,h.block⟩
theorem Stp.set {c : Col} {K : Nat → Prop} {w : World} (p : Addr) (v : Value) (hK : K (c p.block)) : Stp c c K w (w.setCell p v) :=
 ⟨rfl,rfl,rfl,by simp [World.setCell],fun _ _ => rfl,fun i hi hn => Below.heap_setCell _ _ _ _ (fun e => hn (e ▸ hK))⟩
def Cell (e j : Nat) (v : Value) (w : World) : Prop:=w.cell? ⟨e,j,none⟩ = some v ∧ w.frozen? ⟨e,j,none⟩ = false
theorem cell_lt {e j : Nat} {v : Value} {w : World} (h : w.cell? ⟨e,j,none⟩ = some v) : e < w.heap.size:=by
 simp only [World.cell?] at h
 cases hg : w.heap[e]? with
 | none => rw [hg] at h;cases h
 | some o => exact (qgs hg).1
theorem Cell.lt {e j : Nat} {v : Value} {w : World} (h : Cell e j v w) : e < w.heap.size:=cell_lt h.1
theorem Cell.block {e j : Nat} {v : Value} {w w' : World} (h : Cell e j v w) (hb : w'.heap[e]? = w.heap[e]?) : Cell e j v w' :=
 ⟨(World.cell?_of_block (w:=w) hb).trans h.1,by have:=h.2;simp only [World.frozen?] at this ⊢;rw [hb];exact this⟩
theorem Cell.below {e j : Nat} {v : Value} {w w' : World} (h : Cell e j v w) (hb : Below w.heap.size w w') : Cell e j v w':=h.block (hb.block e h.lt)
theorem Cell.grown {row : Option Nat} {e j : Nat} {v : Value} {w w' : World} (h : Cell e j v w) (k : w.grownBy w' row) (hn : row ≠ some e) : Cell e j v w':=h.block (k.block e h.lt (fun x => hn x.symm))
theorem Cell.of {e j : Nat} {v : Value} {w : World} (h1 : w.cell? ⟨e,j,none⟩ = some v) (h2 : w.frozen? ⟨e,j,none⟩ = false) : Cell e j v w:=⟨h1,h2⟩
def Rgn (e lo hi : Nat) (w w' : World) : Prop:=∀ j,¬ (lo ≤ j ∧ j < hi) → w'.cell? ⟨e,j,none⟩ = w.cell? ⟨e,j,none⟩ ∧ w'.frozen? ⟨e,j,none⟩ = w.frozen? ⟨e,j,none⟩
theorem Rgn.refl (e lo hi : Nat) (w : World) : Rgn e lo hi w w:=fun _ _ => ⟨rfl,rfl⟩
theorem Rgn.trans {e lo hi : Nat} {a b d : World} (h : Rgn e lo hi a b) (k : Rgn e lo hi b d) : Rgn e lo hi a d:=fun j hj => ⟨(k j hj).1.trans (h j hj).1,(k j hj).2.trans (h j hj).2⟩
theorem Rgn.mono {e lo hi lo' hi' : Nat} {a b : World} (h : Rgn e lo hi a b) (h1 : lo' ≤ lo) (h2 : hi ≤ hi') : Rgn e lo' hi' a b:=fun j hj => h j (by omega)
theorem Rgn.of_block {e lo hi : Nat} {w w' : World} (hb : w'.heap[e]? = w.heap[e]?) : Rgn e lo hi w w':=fun j _ => ⟨World.cell?_of_block (w:=w) hb,by simp only [World.frozen?];rw [hb]⟩
theorem Rgn.below {e lo hi : Nat} {w w' : World} (he : e < w.heap.size) (hb : Below w.heap.size w w') : Rgn e lo hi w w':=Rgn.of_block (hb.block e he)
theorem Rgn.keep {S : List Nat} {e lo hi : Nat} {w w' : World} (he : e < w.heap.size) (k : Keep S w w') (hn : e ∉ S) : Rgn e lo hi w w':=Rgn.of_block (k.block e he hn)
theorem Rgn.grown {row : Option Nat} {e lo hi : Nat} {w w' : World} (he : e < w.heap.size) (k : w.grownBy w' row) (hn : row ≠ some e) : Rgn e lo hi w w':=Rgn.of_block (k.block e he (fun x => hn x.symm))
theorem Rgn.set {e lo hi j : Nat} {v : Value} {w : World} (hj : lo ≤ j ∧ j < hi) : Rgn e lo hi w (w.setCell ⟨e,j,none⟩ v):=fun i hi' => by
 have hne : j ≠ i:=fun e => hi' (e ▸ hj)
 refine ⟨?_,?_⟩
 ·simp only [World.cell?,World.setCell,Array.getElem?_modify,if_true]
  cases hg : w.heap[e]? with
  | none => rfl
  | some o =>
    cases o <;> simp [hne]
 ·simp only [World.frozen?,World.setCell,Array.getElem?_modify,if_true]
  cases hg : w.heap[e]? with
  | none => rfl
  | some o => cases o <;> simp
theorem Cell.rgn {e lo hi j : Nat} {v : Value} {w w' : World} (h : Cell e j v w) (k : Rgn e lo hi w w') (hj : ¬ (lo ≤ j ∧ j < hi)) : Cell e j v w':=⟨(k j hj).1.trans h.1,(k j hj).2.trans h.2⟩
theorem Cell.set {e j : Nat} {v : Value} {w : World} (h : Cell e j v w) (u : Value) (hu : u.oneCell' = true) : Cell e j u (w.setCell ⟨e,j,none⟩ u):=by
 obtain ⟨h1,h2⟩:=h
 simp only [World.cell?,World.frozen?] at h1 h2
 refine ⟨?_,?_⟩
 ·simp only [World.cell?,World.setCell,Array.getElem?_modify,if_true]
  cases hg : w.heap[e]? with
  | none => rw [hg] at h1;cases h1
  | some o =>
    rw [hg] at h1
    cases o with
    | cells cs T fr =>
      simp only [Option.bind_some,Option.map_some] at h1 ⊢
      have hj : j < cs.size:=(qgs (by simpa using h1)).1
      simp [hj]
    | _ => simp at h1
 ·simp only [World.frozen?,World.setCell,Array.getElem?_modify,if_true]
  cases hg : w.heap[e]? with
  | none => rw [hg] at h1;cases h1
  | some o =>
    rw [hg] at h2
    cases o <;> simpa using h2
theorem ownsRow_block {w w' : World} {B e m n : Nat} {v : Value} {fl : List Value} (h : w.ownsRow B e m v n fl) (hb : ∀ j,v.ownBlock = some j → w'.heap[j]? = w.heap[j]?) : w'.ownsRow B e m v n fl:=by
 obtain ⟨h1,h2⟩:=h
 refine ⟨h1,?_⟩
 rcases h2 with h2 | ⟨g,cap,cur,rfl,a2,a3,a4⟩
 ·exact .inl h2
 ·exact .inr ⟨g,cap,cur,rfl,a2,(hb g rfl).trans a3,a4⟩
theorem ownsRow_stp {c c' : Col} {K : Nat → Prop} {w w' : World} {B e m n : Nat} {v : Value} {fl : List Value} (h : w.ownsRow B e m v n fl) (k : Stp c c' K w w') (hn : ∀ j,v.ownBlock = some j → ¬ K (c j)) : w'.ownsRow B e m v n fl :=
 ownsRow_block h fun j hj => k.block j (World.ownsRow.lt h j hj).2 (hn j hj)
theorem RdC.block {m n : Nat} {w w' : World} {v : Value} {fl : List Value} (h : RdC m w v n fl) (hs : w.heap.size ≤ w'.heap.size) (hb : 0 < n → ∀ j,v.ownBlock = some j → w'.heap[j]? = w.heap[j]?) : RdC m w' v n fl:=by
 obtain ⟨h0,h | ⟨h1,b,o,c,rfl,h2,h3,h4,h5⟩⟩:=h
 ·exact ⟨h0,.inl h⟩
 ·exact ⟨h0,.inr ⟨h1,b,o,c,rfl,h2,h3,Nat.lt_of_lt_of_le h4 hs,fun j u hu => (World.cell?_of_block (w:=w) (hb h1 b rfl)).trans (h5 j u hu)⟩⟩
theorem RdC.stp {c c' : Col} {K : Nat → Prop} {m n : Nat} {w w' : World} {v : Value} {fl : List Value} (h : RdC m w v n fl) (k : Stp c c' K w w') (hn : 0 < n → ∀ j,v.ownBlock = some j → ¬ K (c j)) : RdC m w' v n fl :=
 h.block k.size fun h0 j hj => k.block j (h.blt h0 j hj) (hn h0 j hj)
theorem Rd.stp {c c' : Col} {K : Nat → Prop} {k : IntKind} {w w' : World} {v : Value} {xs : List Int} (h : Rd k w v xs) (s : Stp c c' K w w') (hn : xs ≠ [] → ∀ j,v.ownBlock = some j → ¬ K (c j)) : Rd k w' v xs:=by
 rcases h with h | ⟨h1,b,o,cc,rfl,h2,h3,h4,h5⟩
 ·exact .inl h
 ·exact .inr ⟨h1,b,o,cc,rfl,h2,h3,Nat.lt_of_lt_of_le h4 s.size,fun i hi => (World.cell?_of_block (w:=w) (s.block b h4 (hn h1 b rfl))).trans (h5 i hi)⟩
theorem Cs.stp {c c' : Col} {K : Nat → Prop} {w w' : World} {g : Nat} {cs : List Value} (h : Cs w g cs) (k : Stp c c' K w w') (hn : ¬ K (c g)) : Cs w' g cs:=h.block (k.block g h.lt hn)
end Go.Proofs.YtmcomdmcmnbhlaaGreatDoor
namespace Go.Proofs.YtmcomdmcmnbhlaaGreatDoor
open Go.RowKit Go.Maps
structure Td where
 n : Int
 t : Int
 row : Option Nat
 len : Nat
 cap : Nat
def tdS (p : Td) : Value:=.slice (p.row.map fun b => ⟨b,0,none⟩) p.len p.cap
def tdV (p : Td) : Value:=.agg #[.int .i64 p.t,tdS p]
def rowD : Option Nat → DataW Unit
 | none => .nil
 | some b => .lit (.int .i64 b)
def tdD (p : Td) : DataW Unit:=.agg [.lit (.int .i64 p.t),rowD p.row,.lit (.int .i64 p.len),.lit (.int .i64 p.cap)]
def tdR (v : Value) : Option (DataW Unit × List MemPlace) :=
 match v with
 | .agg cs => match cs.toList with
   | [.int .i64 t,.slice none n c] => some (tdD ⟨0,t,none,n,c⟩,[])
   | [.int .i64 t,.slice (some ⟨b,0,none⟩) n c] => some (tdD ⟨0,t,some b,n,c⟩,[])
   | _ => none
 | _ => none
theorem tdR_mk (p : Td) : tdR (tdV p) = some (tdD p,[]):=by
 obtain ⟨n,t,row,len,cap⟩:=p
 cases row <;> rfl
theorem tdR_inv {v : Value} {y : DataW Unit × List MemPlace} (h : tdR v = some y) : ∃ p,v = tdV p ∧ y = (tdD p,[]):=by
 unfold tdR at h
 split at h
 ·rename_i cs
  split at h
  ·rename_i t n c e
   cases h
   refine ⟨⟨0,t,none,n,c⟩,?_,rfl⟩
   have : cs = #[.int .i64 t,.slice none n c]:=by rw [← Array.toArray_toList (xs:=cs),e]
   rw [this];rfl
  ·rename_i t b n c e
   cases h
   refine ⟨⟨0,t,some b,n,c⟩,?_,rfl⟩
   have : cs = #[.int .i64 t,.slice (some ⟨b,0,none⟩) n c]:=by rw [← Array.toArray_toList (xs:=cs),e]
   rw [this];rfl
  ·cases h
 ·cases h
theorem tdD_val {p q : Td} (h : tdD p = tdD q) : tdV p = tdV q:=by
 obtain ⟨n,t,row,len,cap⟩:=p
 obtain ⟨n',t',row',len',cap'⟩:=q
 unfold tdD at h
 simp only [DataW.agg.injEq,List.cons.injEq,DataW.lit.injEq,Lit.int.injEq,true_and,and_true] at h
 obtain ⟨h1,h2,h3,h4⟩:=h
 have h3 : len = len':=by omega
 have h4 : cap = cap':=by omega
 subst h1 h3 h4
 cases row <;> cases row' <;> simp [rowD] at h2
 ·rfl
 ·rename_i b b'
  have h5 : b = b':=by omega
  subst h5
  rfl
def keyT (p : Td) : Lit:=.int .i64 p.n
theorem keyT_same (p : Td) (x : Int) : (keyT p).sameKey (.int .i64 x) = decide (p.n = x):=by simp [keyT,Lit.sameKey]
def dt (l : List Td) : DataW Unit:=.map (l.map fun p => (keyT p,tdD p))
theorem dt_put (l : List Td) (p : Td) (h : ∀ q ∈ l,q.n < p.n) : (dt l).put (keyT p) (tdD p) = dt (l ++ [p]):=by
 unfold dt DataW.put
 simp only
 rw [List.filter_eq_self.2,insert_last]
 ·simp
 ·intro y hy
  obtain ⟨q,hq,rfl⟩:=List.mem_map.1 hy
  have:=h q hq
  simp only [keyT,Lit.before,decide_eq_false_iff_not];omega
 ·intro y hy
  obtain ⟨q,hq,rfl⟩:=List.mem_map.1 hy
  have:=h q hq
  simp only [keyT,Lit.sameKey,true_and,Bool.not_eq_true',decide_eq_false_iff_not];omega
theorem dt_size (l : List Td) : Maps.size (dt l) = l.length:=by simp [dt,Maps.size]
def noTd : Td:=⟨0,0,none,0,0⟩
theorem dt_look (l : List Td) (x : Int) : ∃ p,(p = noTd ∨ p ∈ l ∧ p.n = x) ∧ (dt l).atKey (.int .i64 x) (tdD noTd) = tdD p:=by
 unfold dt DataW.atKey
 simp only
 cases hf : (l.map fun p => (keyT p,tdD p)).find? (fun p => p.1.sameKey (.int .i64 x)) with
 | none => exact ⟨noTd,.inl rfl,rfl⟩
 | some z =>
   obtain ⟨p,hp,rfl⟩:=List.mem_map.1 (List.mem_of_find?_eq_some hf)
   have hk:=List.find?_some hf
   rw [keyT_same] at hk
   exact ⟨p,.inr ⟨hp,by simpa using hk⟩,rfl⟩
def Mt (w : World) (mb : Nat) (l : List Td) : Prop:=w.ownsMap Tryz.prog 3 tdR mb l.length (dt l)
theorem Mt.of {w : World} {mb n : Nat} {l : List Td} (h : w.ownsMap Tryz.prog 3 tdR mb n (dt l)) : Mt w mb l:=by
 have:=tight h
 rwa [dt_size] at this
theorem Mt.lt {w : World} {mb : Nat} {l : List Td} (h : Mt w mb l) : mb < w.heap.size:=World.ownsMap.lt h
theorem Mt.made (w : World) : Mt (w.alloc (.map #[] 0)) w.heap.size []:=World.ownsMap_made w _ _ _
theorem Mt.block {w w' : World} {mb : Nat} {l : List Td} (h : Mt w mb l) (hb : w'.heap[mb]? = w.heap[mb]?) : Mt w' mb l:=by
 obtain ⟨es,clock,h1,h2⟩:=h
 exact ⟨es,clock,hb.trans h1,h2⟩
theorem zeroTd (w : World) : (zeroValue 120).run Tryz.prog w = .ok (tdV noTd) w:=by
 first | (kernel_rfl) | (rfl)
theorem Mt.look {w : World} {mb : Nat} {l : List Td} (h : Mt w mb l) (x : Int) (h0 : (Lit.int .i64 x).wf = true) :
  ∃ p,(p = noTd ∨ p ∈ l ∧ p.n = x) ∧ (Instr.lookup 55 (.map (some mb)) (.int .i64 x) false).run Tryz.prog w = .ok (tdV p) w:=by
 obtain ⟨v,ps,hrun,hv⟩:=World.ownsMap.lookup h lawI Tryz.underlying55 (zeroTd w) (tdR_mk noTd) (keyOf_int_mk Tryz.underlying3 h0)
 obtain ⟨p,hp,hd⟩:=dt_look l x
 obtain ⟨q,rfl,hq⟩:=tdR_inv hv
 rw [hd] at hq
 refine ⟨p,hp,?_⟩
 rw [hrun,tdD_val (by simpa using hq : tdD p = tdD q ∧ ps = []).1]
section
variable (w : World) {ops : Array Oper} {rest : List Oper} {o : Oper} {a : Act} {Q : Exit → Act → World → Prop}
theorem wpList_put_td (hg : o.guard = none) (m x v : Operand) (hop : o.op = Op.mapUpdate 55 m x v) (mb : Nat) (l : List Td) (p : Td) (hm : a.eval m = .map (some mb)) (hM : Mt w mb l) (hl : l.length ≤ 1048576)
  (hx : a.eval x = .int .i64 p.n) (hv : a.eval v = tdV p) (h0 : 0 ≤ p.n ∧ p.n ≤ 4611686018427387903) (hup : ∀ q ∈ l,q.n < p.n)
  (hK : ∀ w',Mt w' mb (l ++ [p]) → w.mapTurned w' mb → wpList Tryz.prog ops Q rest (a.put o.dst undef) w') : wpList Tryz.prog ops Q (o :: rest) a w :=
 wpList_mapUpdate_in w hg m x v 55 hop 3 120 lawI Tryz.underlying55 tdR mb l.length (dt l) hm hM (by unfold maxLen;omega) _ _ (keyT p) hx hv (keyOf_int_mk Tryz.underlying3 (wfI h0.1 h0.2)) (tdD p) [] (tdR_mk p)
  fun w' h1 h2 => hK w' (Mt.of (by rw [dt_put l p hup] at h1;exact h1)) h2
end
end Go.Proofs.YtmcomdmcmnbhlaaGreatDoor
namespace Go.Proofs.YtmcomdmcmnbhlaaGreatDoor
open Go.RowKit
theorem join8 (a b : Int) (h0 : 0 ≤ a) (h1 : a < 16777216) (h2 : 0 ≤ b) (h3 : b < 256) : bits .or .i64 (a * 256) b = a * 256 + b :=
 bits_join .i64 63 (by decide) (fun n p q => by rw [IntKind.wrap_i64];omega) 8 _ _ (by omega) (by omega) (by omega) h2 (by omega) (by omega)
theorem grow_low {L n : Int} (h0 : -1 ≤ L) (h1 : L < 1048576) (h2 : 0 ≤ n) (h3 : n < 1048576) : GrowOk L n 4 ∧ growI L n 4 = n:=by
 constructor
 ·unfold GrowOk;simp [IsNum,IsWid,cnt];omega
 ·unfold growI
  simp [cnt]
  split <;> omega
theorem be4 (n : Nat) (h : n < 1048576) : be n 4 = [0,((n / 65536 : Nat) : Int),((n / 256 % 256 : Nat) : Int),((n % 256 : Nat) : Int)]:=by
 simp only [be_cons,be]
 simp
 omega
theorem openNumber_good (v : Value) (n : Nat) (r : List Int) (L : Int) (w : World) (hn : n < 1048576) (hL0 : -1 ≤ L) (hL1 : L < 1048576) (hr : Rd .u8 w v (4 :: (be n 4 ++ r))) :
  Calls Tryz.prog 75 #[v,.int .i64 L] w fun e w' => ∃ u,e = .returned (.tuple #[.int .i64 n,u,.int .i64 0]) ∧ Rd .u8 w' u r ∧ Below w.heap.size w w':=by
 obtain ⟨hg1,hg2⟩:=grow_low hL0 hL1 (n:=n) (by omega) (by omega)
 have G : Hid (∀ W : World,Calls Tryz.prog 118 #[.int .i64 L,.int .i64 n,.int .i64 4] W (Two W n 0)):=fun W => by
  have:=grow_any3 L n 4 W
  rw [if_pos hg1,if_pos hg1,hg2] at this;exact this
 have hR:=qhi hr
 rw [be4 n hn] at hr
 obtain ⟨hx,_⟩ | ⟨h0,b,o,c,rfl,h2,h3,h4,h5⟩:=hr
 ·cases hx
 have hl : (4 :: ([0,((n / 65536 : Nat) : Int),((n / 256 % 256 : Nat) : Int),((n % 256 : Nat) : Int)] ++ r)).length = r.length + 5:=by simp
 have c0:=h5 0 (by omega)
 have c1:=h5 1 (by omega)
 have c2:=h5 2 (by omega)
 have c3:=h5 3 (by omega)
 have c4:=h5 4 (by omega)
 simp only [List.getD_cons_zero,List.getD_cons_succ,List.cons_append,Nat.add_zero] at c0 c1 c2 c3 c4
 have hml : maxLen = 9223372036854775807:=rfl
 rw [hml] at h3
 rw [hl] at h2 ⊢
 clear hg1 hg2 h5 h0 hl hml
 go_enter Tryz.func75,Tryz.ntmps75
 go_wp2
 refine wp_loop_rounds 5 ?_
 repeat any_goals (rw [rounds_succ];go_wp2_with fail)
 have hE : bits .or .i64 (wrap64 (bits .or .i64 (wrap64 (bits .or .i64 (wrap64 (bits .or .i64 0 0 * 256)) ((n : Int) / 65536) * 256)) ((n : Int) / 256 % 256) * 256)) ((n : Int) % 256) = n:=by
  have z : bits .or .i64 0 0 = 0:=by decide
  have j1:=join8 0 ((n : Int) / 65536) (by omega) (by omega) (by omega) (by omega)
  have j2:=join8 ((n : Int) / 65536) ((n : Int) / 256 % 256) (by omega) (by omega) (by omega) (by omega)
  have j3:=join8 ((n : Int) / 256) ((n : Int) % 256) (by omega) (by omega) (by omega) (by omega)
  rw [z,show wrap64 ((0 : Int) * 256) = 0 * 256 by unfold wrap64;omega,j1,show wrap64 (((0 : Int) * 256 + (n : Int) / 65536) * 256) = ((n : Int) / 65536) * 256 by unfold wrap64;omega,j2,
   show wrap64 (((n : Int) / 65536 * 256 + (n : Int) / 256 % 256) * 256) = ((n : Int) / 256) * 256 by unfold wrap64;omega,j3]
  omega
 rw [hE]
 refine (G.out w).mono ?_
 rintro e w1 ⟨rfl,rfl⟩
 go_wp2_with fail
 go_quiet (fail)
 go_wp2_with fail
 ·have hr0 : r = []:=List.eq_nil_of_length_eq_zero (by omega)
  refine bodyPost_ret (v:=.tuple #[.int .i64 n,.slice (some ⟨b,o,none⟩) r.length 0,.int .i64 0]) (by simp [results,Tryz.results75,go_sem]) rfl ⟨_,rfl,?_,qbd (qbr _ _) _⟩
  subst hr0
  exact .inl ⟨rfl,_,_,rfl,by simp,fun h => by cases h⟩
 ·rename_i hc5
  refine bodyPost_ret (v:=.tuple #[.int .i64 n,.slice (some ⟨b,o + 5,none⟩) r.length (c - 5),.int .i64 0]) (by simp [results,Tryz.results75,go_sem]) rfl ⟨_,rfl,?_,qbd (qbr _ _) _⟩
  have h1:=hR.out
  have hl : (4 :: (be n 4 ++ r)).length = r.length + 5:=by simp [be_len];omega
  have h2:=(hl ▸ h1.below (qbd (qbr _ _) nq) : Rd .u8 _ (.slice (some ⟨b,o,none⟩) (r.length + 5) c) (4 :: (be n 4 ++ r)))
  have h3:=Rd.cut h2 5 r.length (by omega) (some ⟨b,o + 5,none⟩) (fun _ => rfl) (by simp)
  have h4 : ((4 :: (be n 4 ++ r)).drop 5).take r.length = r:=by
   rw [List.drop_succ_cons,List.drop_append,List.drop_of_length_le (by rw [be_len];omega),be_len];simp
  rw [h4] at h3
  exact h3
end Go.Proofs.YtmcomdmcmnbhlaaGreatDoor
