import Derived.Test.YtmcomdmcmnbhlaaGreatDoorKCns2
set_option maxRecDepth 100000
set_option maxHeartbeats 25600000
set_option linter.unusedSimpArgs false
set_option linter.unusedVariables false
set_option linter.unnecessarySimpa false
namespace Go.Proofs.YtmcomdmcmnbhlaaGreatDoor
open Go.RowKit Go.Maps
section
variable {c : Col} {K e : Nat} {X : Nat → List Int} {F : Nat → Bool} {Y : Nat → List Int} {G : Nat → Bool} {q : EQ} {w : World}
theorem EOk.setTime (h : EOk c K e X F Y G q w) (t : Int) (ht : q.time ≤ t ∧ t ≤ 1099511627776) :
  EOk c K e X F Y G { q with time:=t } (w.setCell ⟨e,2,none⟩ (.int .i64 t)) ∧ Stp c c (fun i => i = K) w (w.setCell ⟨e,2,none⟩ (.int .i64 t)) ∧ Rgn e 2 3 w (w.setCell ⟨e,2,none⟩ (.int .i64 t)):=by
 have hc:=h.cell.ce
 have s : Stp c c (fun i => i = K) w (w.setCell ⟨e,2,none⟩ (.int .i64 t)):=Stp.set _ _ hc
 have r : Rgn e 2 3 w (w.setCell ⟨e,2,none⟩ (.int .i64 t)):=Rgn.set ⟨by omega,by omega⟩
 obtain ⟨a0,a1,a2,a3,a4,a5,a6,a7,a8,a9,a10⟩:=h.cell
 obtain ⟨b0,b1,b2,b3,b4,b5,b6,b7,b8⟩:=h.num
 refine ⟨⟨⟨a0.rgn r (by omega),a1.rgn r (by omega),a2.set _ rfl,a3.rgn r (by omega),a4.rgn r (by omega),a5.rgn r (by omega),a6.rgn r (by omega),a7.rgn r (by omega),a8.block fun j hj => s.block j (World.ownsRow.lt a8 j hj).2 (by rw [a9 j hj];omega),a9,a10⟩,⟨b0,⟨Int.le_trans b1.1 ht.1,ht.2⟩,b2,b3,b4,b5,b6,b7,⟨b8.1,Int.le_trans b8.2 ht.1⟩⟩,
  fun i hi => (h.wr i hi).frame s r (by omega) (by omega),fun i hi => (h.rd i hi).frame s r (by omega) (by omega),h.wok,h.rok,h.fly.frame s r (by omega) (by omega)⟩,s,r⟩
theorem EOk.setTurn (h : EOk c K e X F Y G q w) (t : Int) (ht : 0 ≤ t ∧ t < 4) :
  EOk c K e X F Y G { q with turn:=t } (w.setCell ⟨e,35,none⟩ (.int .i64 t)) ∧ Stp c c (fun i => i = K) w (w.setCell ⟨e,35,none⟩ (.int .i64 t)) ∧ Rgn e 35 36 w (w.setCell ⟨e,35,none⟩ (.int .i64 t)):=by
 have hc:=h.cell.ce
 have s : Stp c c (fun i => i = K) w (w.setCell ⟨e,35,none⟩ (.int .i64 t)):=Stp.set _ _ hc
 have r : Rgn e 35 36 w (w.setCell ⟨e,35,none⟩ (.int .i64 t)):=Rgn.set ⟨by omega,by omega⟩
 obtain ⟨a0,a1,a2,a3,a4,a5,a6,a7,a8,a9,a10⟩:=h.cell
 obtain ⟨b0,b1,b2,b3,b4,b5,b6,b7,b8⟩:=h.num
 refine ⟨⟨⟨a0.rgn r (by omega),a1.rgn r (by omega),a2.rgn r (by omega),a3.set _ rfl,a4.rgn r (by omega),a5.rgn r (by omega),a6.rgn r (by omega),a7.rgn r (by omega),a8.block fun j hj => s.block j (World.ownsRow.lt a8 j hj).2 (by rw [a9 j hj];omega),a9,a10⟩,⟨b0,b1,ht,b3,b4,b5,b6,b7,b8⟩,
  fun i hi => (h.wr i hi).frame s r (by omega) (by omega),fun i hi => (h.rd i hi).frame s r (by omega) (by omega),h.wok,h.rok,h.fly.frame s r (by omega) (by omega)⟩,s,r⟩
theorem EOk.setNext (h : EOk c K e X F Y G q w) (t : Int) (ht : q.next ≤ t ∧ t ≤ 1048575) :
  EOk c K e X F Y G { q with next:=t } (w.setCell ⟨e,36,none⟩ (.int .i64 t)) ∧ Stp c c (fun i => i = K) w (w.setCell ⟨e,36,none⟩ (.int .i64 t)) ∧ Rgn e 36 37 w (w.setCell ⟨e,36,none⟩ (.int .i64 t)):=by
 have hc:=h.cell.ce
 have s : Stp c c (fun i => i = K) w (w.setCell ⟨e,36,none⟩ (.int .i64 t)):=Stp.set _ _ hc
 have r : Rgn e 36 37 w (w.setCell ⟨e,36,none⟩ (.int .i64 t)):=Rgn.set ⟨by omega,by omega⟩
 obtain ⟨a0,a1,a2,a3,a4,a5,a6,a7,a8,a9,a10⟩:=h.cell
 obtain ⟨b0,b1,b2,b3,b4,b5,b6,b7,b8⟩:=h.num
 refine ⟨⟨⟨a0.rgn r (by omega),a1.rgn r (by omega),a2.rgn r (by omega),a3.rgn r (by omega),a4.set _ rfl,a5.rgn r (by omega),a6.rgn r (by omega),a7.rgn r (by omega),a8.block fun j hj => s.block j (World.ownsRow.lt a8 j hj).2 (by rw [a9 j hj];omega),a9,a10⟩,⟨b0,b1,b2,⟨Int.le_trans b3.1 ht.1,ht.2⟩,Int.lt_of_lt_of_le b4 ht.1,b5,b6,b7,b8⟩,
  fun i hi => (h.wr i hi).frame s r (by omega) (by omega),fun i hi => (h.rd i hi).frame s r (by omega) (by omega),h.wok,h.rok,h.fly.frame s r (by omega) (by omega)⟩,s,r⟩
theorem EOk.recol {c' : Col} (h : EOk c K e X F Y G q w) (hc : ∀ j,EndC K (c j) → c' j = c j) : EOk c' K e X F Y G q w:=by
 have E : ∀ {j k},c j = k → EndC K k → c' j = k:=fun h1 h2 => (hc _ (h1 ▸ h2)).trans h1
 have hce:=E h.cell.ce ⟨qlr _,by omega⟩
 obtain ⟨a0,a1,a2,a3,a4,a5,a6,a7,a8,a9,a10⟩:=h.cell
 refine ⟨⟨a0,a1,a2,a3,a4,a5,a6,a7,a8,fun j hj => E (a9 j hj) ⟨by omega,by omega⟩,hce⟩,h.num,fun i hi => ?_,fun i hi => ?_,h.wok,h.rok,?_⟩
 ·obtain ⟨b0,b1,b2,b3⟩:=h.wr i hi
  exact ⟨b0,b1,fun j hj => E (b2 j hj) ⟨by omega,by omega⟩,b3⟩
 ·obtain ⟨b0,b1,b2,b3,b4⟩:=h.rd i hi
  exact ⟨b0,b1,E b2 ⟨by omega,by omega⟩,E b3 ⟨by omega,by omega⟩,E b4 ⟨by omega,by omega⟩⟩
 ·obtain ⟨d0,d1,d2,d3,d4,d5,d6,d7,d8,d9,d10,d11,d12⟩:=h.fly
  refine ⟨d0,d1,d2,d3,d4,d5,d6,d7,d8,fun x hx => ?_,⟨E d10.1 ⟨by omega,by omega⟩,E d10.2.1 ⟨by omega,by omega⟩,E d10.2.2 ⟨by omega,by omega⟩⟩,by rw [hce];omega,d12⟩
  obtain ⟨ps,p1,p2,p3,p4⟩:=d9 x hx
  exact ⟨ps,p1,p2,fun j hj => E (p3 j hj) ⟨by omega,by omega⟩,p4⟩
theorem Stp.recol {c' c'' : Col} {P : Nat → Prop} {w' : World} (h : Stp c c' P w w') (hc : ∀ j,j < w.heap.size → c'' j = c j) : Stp c c'' P w w':=⟨h.os,h.tape,h.output,h.size,hc,h.block⟩
end
end Go.Proofs.YtmcomdmcmnbhlaaGreatDoor
