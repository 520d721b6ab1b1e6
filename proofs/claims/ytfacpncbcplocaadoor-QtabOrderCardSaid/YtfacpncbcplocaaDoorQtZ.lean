/- Layer 13: the law QtabOrder. -/
import Derived.Test.YtfacpncbcplocaaDoorQtV
import Derived.Test.YtfacpncbcplocaaDoorQtI
set_option maxRecDepth 100000
set_option linter.unusedSimpArgs false
set_option linter.unusedVariables false
set_option linter.unnecessarySimpa false
namespace Go.Proofs.YtfacpncbcplocaaDoor
open Go.RowKit

/-- what a script's act leaves, told of all that was put in -/
structure OrdS (q q' : TQ) (all : List Fd) : Prop where
  lst : q'.l = all.drop q'.first
  cnt : countN q' = all.length
  le : q.first ≤ q'.first
  fit : q'.first ≤ all.length
  last : q.first < q'.first → q'.cap < rooms (all.drop (q'.first - 1))
  sum : rooms (all.drop q.first) ≤ 5096
theorem fit_of {q : TQ} {all : List Fd} (h1 : q.l = all.drop q.first) (h2 : countN q = all.length) : q.first ≤ all.length := by
  have := congrArg List.length h1
  simp only [countN, List.length_drop] at this h2
  omega
theorem ord_in {q : TQ} {all : List Fd} {f : Fd} (h : TOk q) (h1 : q.l = all.drop q.first) (h2 : countN q = all.length) (hf : roomF f ≤ q.cap) (hf2 : roomF f ≤ 1000) :
    OrdS q { shrinkE (q.cap - roomF f) q with l := (shrinkE (q.cap - roomF f) q).l ++ [f] } (all ++ [f]) := by
  have h3 := fit_of h1 h2
  have h4 := goneN_le (q.cap - roomF f) q.l
  have h5 : q.l.length = all.length - q.first := by rw [h1, List.length_drop]
  have h6 : rooms q.l ≤ 4096 := Nat.le_trans h.used (Nat.le_trans h.cap h.most)
  have hd : ∀ k, k ≤ all.length → (all ++ [f]).drop k = all.drop k ++ [f] := fun k hk => by rw [List.drop_append_of_le_length hk]
  refine ⟨?_, ?_, ?_, ?_, fun hlt => ?_, ?_⟩
  · show q.l.drop _ ++ [f] = (all ++ [f]).drop (q.first + goneN (q.cap - roomF f) q.l)
    rw [hd _ (by omega), h1, List.drop_drop]
  · show q.first + _ + (q.l.drop _ ++ [f]).length = _
    simp only [countN] at h2
    rw [List.length_append, List.length_append, List.length_drop, List.length_singleton]; omega
  · show q.first ≤ q.first + _; omega
  · show q.first + _ ≤ _; rw [List.length_append]; omega
  · have hlt' : 0 < goneN (q.cap - roomF f) q.l := by
      have : q.first < q.first + goneN (q.cap - roomF f) q.l := hlt
      omega
    have hw := goneN_wants (q.cap - roomF f) q.l (goneN (q.cap - roomF f) q.l - 1) (by omega)
    show q.cap < rooms ((all ++ [f]).drop (q.first + goneN (q.cap - roomF f) q.l - 1))
    rw [hd _ (by omega), rooms_append, show q.first + goneN (q.cap - roomF f) q.l - 1 = q.first + (goneN (q.cap - roomF f) q.l - 1) by omega, ← List.drop_drop, ← h1]
    simp only [rooms]
    omega
  · rw [hd _ h3, rooms_append, ← h1]; simp only [rooms]; omega
theorem ord_cap {q : TQ} {all : List Fd} (m : Nat) (h : TOk q) (h1 : q.l = all.drop q.first) (h2 : countN q = all.length) : OrdS q (shrinkE m { q with cap := m }) all := by
  have h3 := fit_of h1 h2
  have h4 := goneN_le m q.l
  have h5 : q.l.length = all.length - q.first := by rw [h1, List.length_drop]
  have h6 : rooms q.l ≤ 4096 := Nat.le_trans h.used (Nat.le_trans h.cap h.most)
  refine ⟨?_, ?_, ?_, ?_, fun hlt => ?_, ?_⟩
  · show q.l.drop _ = all.drop (q.first + goneN m q.l)
    rw [h1, List.drop_drop]
  · show countN (shrinkE m { q with cap := m }) = _
    rw [shrink_count]; exact h2
  · show q.first ≤ q.first + _; omega
  · show q.first + goneN m q.l ≤ all.length; omega
  · have hlt' : 0 < goneN m q.l := by
      have : q.first < q.first + goneN m q.l := hlt
      omega
    have hw := goneN_wants m q.l (goneN m q.l - 1) (by omega)
    show m < rooms (all.drop (q.first + goneN m q.l - 1))
    rw [show q.first + goneN m q.l - 1 = q.first + (goneN m q.l - 1) by omega, ← List.drop_drop, ← h1]
    exact hw
  · rw [← h1]; omega
theorem ord_same {q : TQ} {all : List Fd} (h : TOk q) (h1 : q.l = all.drop q.first) (h2 : countN q = all.length) : OrdS q q all := by
  have h6 : rooms q.l ≤ 4096 := Nat.le_trans h.used (Nat.le_trans h.cap h.most)
  exact ⟨h1, h2, Nat.le_refl _, fit_of h1 h2, fun h => absurd h (Nat.lt_irrefl _), by rw [← h1]; omega⟩
/-- append of elements onto a row, in a walk: the row lies where it lay, or in a new block -/
theorem wpList_append_at {P : Program} (w : World) {ops : Array Oper} {rest : List Oper} {o : Oper} {a : Act} {Q : Exit → Act → World → Prop} (hgd : o.guard = none) (s x : Operand) (t : TypeId)
    (ho : o.op = .call { callee := .builtin .append, args := #[s, x], argTypes := #[t, t] }) {e : TypeId} {m bytes : Nat} {z : Value} (hE : ElemC P e m bytes z) (ht : P.underlying t = some (.slice e))
    (B : Nat) (v : Value) (n : Nat) (fl : List Value) (hs : a.eval s = v) (hown : w.ownsRow B e m v n fl) (u : Value) (k : Nat) (gl : List Value) (hx : a.eval x = u) (hr : RdC m w u k gl) (hk : 0 < k) (hone : ∀ u ∈ gl, u.oneCell' = true)
    (hby : (n + k) * bytes ≤ 140737488355328) (h63 : n + k ≤ maxLen) (hB : B ≤ w.heap.size)
    (h : ∀ v' w', w'.ownsRow B e m v' (n + k) (fl ++ gl) → w.grownBy w' v.ownBlock → (v'.ownBlock = v.ownBlock ∨ v'.ownBlock = some w.heap.size) → wpList P ops Q rest (a.put o.dst v') w') : wpList P ops Q (o :: rest) a w := by
  refine wpList_plain hgd fun K hK => ?_
  obtain ⟨i, hi, hz, hsz, hbs⟩ := hE.info
  obtain ⟨hlen, ⟨rfl, _⟩ | ⟨h0, b, off, c, rfl, h2, h3, h4, h5⟩⟩ := hr
  · omega
  · obtain ⟨v', w', hrun, q2, q3, _, q5⟩ := run_append_own_at (P := P) w B t o.type e i z m bytes ht hi hz hsz hbs hE.size hE.pos v n _ hown ⟨b, off, none⟩ k c gl hlen (fun j u hu => by rw [Addr.add_lit]; exact h5 j u hu) hone h63 hby hB
    unfold Oper.wp execOp
    simp only [ho, resolve, invoke, builtin, Sem.run_bind, Sem.run_pure, Result.andThen_ok, List.map_toArray, List.map_cons, List.map_nil, hs, hx, hrun]
    exact hK _ _ (h v' w' q2 q3 q5)
theorem ownsRow_zero {B e m n : Nat} {w : World} {v : Value} {fl : List Value} (h : w.ownsRow B e m v n fl) : w.ownsRow 0 e m v n fl := by
  obtain ⟨h1, h2⟩ := h
  refine ⟨h1, ?_⟩
  rcases h2 with h2 | ⟨g, cap, cur, a1, a2, a3⟩
  · exact .inl h2
  · exact .inr ⟨g, cap, cur, a1, Nat.zero_le _, a3⟩
/-- the row of all that was put in: of the call's own, apart from the table -/
structure RowA (B b : Nat) (sl : Value) (av : Value) (all : List Fd) (w : World) : Prop where
  row : w.ownsRow B 23 2 av all.length (fdC all)
  ne : ∀ j, av.ownBlock = some j → j ≠ b ∧ sl.ownBlock ≠ some j
theorem RowA.below {B b : Nat} {sl av : Value} {all : List Fd} {w w' : World} (h : RowA B b sl av all w) (hb : Below w.heap.size w w') : RowA B b sl av all w' := ⟨owns_keep h.row (Keep.of_below (S := []) hb) (by simp), h.ne⟩
theorem RowA.step {B b : Nat} {sl sl' av : Value} {all : List Fd} {w w' : World} (h : RowA B b sl av all w) (h1 : ∀ j, sl'.ownBlock = some j → sl.ownBlock = some j ∨ w.heap.size ≤ j) (hk : Keep (TS b sl) w w') : RowA B b sl' av all w' := by
  refine ⟨owns_keep h.row hk (fun j hj hm => ?_), fun j hj => ⟨(h.ne j hj).1, fun e => ?_⟩⟩
  · rcases mem_TS.1 hm with e | e
    · exact (h.ne j hj).1 e
    · exact (h.ne j hj).2 e
  · rcases h1 j e with e1 | e1
    · exact (h.ne j hj).2 e1
    · have := owns_blt h.row j hj; omega

set_option maxHeartbeats 6400000 in
theorem law_order (most : Int) (sv : Value) (l : List ActV) (w : World) (hF : Fix w) (hR : RdA w sv l) (hA : ∀ c ∈ l, ActOk c) (hl : l.length * 48 ≤ 140737488351232) :
    Calls Tryd.prog 6 #[.int .i64 most, sv] w (Yes w) := by
  have hpos := hF.pos
  have HF := Lib.hid hF
  by_cases hm : most < 0 ∨ 4096 < most
  · have HN := Lib.hid (new_no most w hm)
    have HAL := Lib.hid (alive_any w hF)
    clear hm hR hA hF hl
    go_enter Tryd.func6, Tryd.ntmps6
    go_wp2_with (first
      | (go_at_call 16; refine HN.out.mono ?_; rintro e w1 ⟨rfl, h⟩; obtain rfl : w = w1 := h.symm)
      | (go_at_call 15; refine HAL.out.mono ?_; rintro e w3 ⟨rfl, b3⟩))
    go_ret
    exact ⟨rfl, b3⟩
  · obtain ⟨k0, rfl⟩ : ∃ k : Nat, most = (k : Int) := ⟨most.toNat, by omega⟩
    have hnw := new_yes (k0 : Int) w (by omega) (by omega)
    rw [Int.toNat_natCast] at hnw
    have HN := Lib.hid hnw
    have HRD := Lib.hid hR
    have HA := Lib.hid hA
    have HL := Lib.hid hl
    have hk0 : k0 ≤ 4096 := by omega
    have HK0 := Lib.hid hk0
    clear hnw hm hR hA hF hl hk0
    obtain ⟨sa, sc, hsv, _, _⟩ := HRD.out.isSlice
    subst hsv
    go_enter Tryd.func6, Tryd.ntmps6
    go_wp2_with (first
      | (go_at_call 16; refine HN.out.mono ?_; rintro e w1 ⟨b, rfl, M1⟩
         have HM1 := Lib.hid M1
         have HAL := Lib.hid (alive_any _ (HF.out.below M1.bel hpos))
         clear M1)
      | (go_at_call 15; refine HAL.out.mono ?_; rintro e w3 ⟨rfl, b3⟩
         have M3 := Lib.hid (HM1.out.below b3)
         clear b3))
    clear HN HAL HM1
    go_loopw [7, 39] (fun av i wr => ∃ (k : Nat) (sl : Value) (q : TQ) (all : List Fd), i = .int .i64 k ∧ k ≤ l.length ∧ Tm w.heap.size b sl q w wr ∧ RowA w.heap.size b sl av all wr ∧ q.l = all.drop q.first ∧ countN q = all.length ∧ all.length ≤ k ∧ (∀ f ∈ all, roomF f ≤ 1000)) (fun _ i _ => l.length - (intOf i).toNat)
    case atStart => exact ⟨0, _, _, [], rfl, Nat.zero_le _, M3.out, ⟨World.ownsRow_nil _ _ _ _, fun j hj => by cases hj⟩, rfl, rfl, Nat.le_refl _, fun f hf => by cases hf⟩
    case round =>
      obtain ⟨k, sl, q, all, rfl, hk, hM, hRw, hql, hqn, hak, hall⟩ := hrel
      have M := Lib.hid hM
      have RW := Lib.hid hRw
      have QL := Lib.hid hql
      have QN := Lib.hid hqn
      have AK := Lib.hid hak
      have ALL := Lib.hid hall
      obtain ⟨aa, ac, hav, _, _⟩ := (RdC.of_owns hRw.row).isSlice
      subst hav
      clear hM hRw hql hqn hak hall M3
      have hlb : l.length ≤ 3000000000000 := by have := HL.out; omega
      by_cases hkl : k < l.length
      · obtain ⟨g, o, gc, hs2, hgc, hgm, hg⟩ := rd_form HRD.out (by omega)
        simp only [Value.slice.injEq, true_and] at hs2
        obtain ⟨rfl, rfl⟩ := hs2
        have hat := RdA.at HRD.out hg k hkl wr M.out.bel
        obtain ⟨a0, a1, a2, a3⟩ := hat
        have hok := HA.out _ (List.getElem_mem hkl)
        obtain ⟨c, hact⟩ : ∃ a, a = l[k] := ⟨_, rfl⟩
        rw [← hact] at a0 a1 a2 a3 hok
        clear hact
        have X1 := Lib.hid (Cs.made wr #[.int .u8 c.k, .int .i64 c.n, .string c.f.n, .string c.f.v] 44)
        have b1 := below1 wr (.cells #[.int .u8 c.k, .int .i64 c.n, .string c.f.n, .string c.f.v] 44)
        have M1 := Lib.hid (M.out.below b1)
        have RW1 := Lib.hid (RW.out.below b1)
        have hgl : g < wr.heap.size := Nat.lt_of_lt_of_le hg M.out.bel.size
        have hi1 : (k : Int) < (l.length : Int) := by omega
        have hi2 : (0 : Int) ≤ (k : Int) := by omega
        have hw1 : IntKind.i64.wrap ((k : Int) + 1) = ((k + 1 : Nat) : Int) := by rw [wraps_i64' _ (by omega) (by omega)]; omega
        have HKL := Lib.hid hkl
        have hpl := plays_any c M1.out (by have := QN.out; have := AK.out; omega) hok
        have hXn : wr.heap.size ∉ TS b sl := fun hm => by
          rcases mem_TS.1 hm with h | h
          · have := M.out.tbl.lt; omega
          · have := M.out.tbl.slt _ h; omega
        have HXN := Lib.hid hXn
        obtain ⟨n0, hn⟩ : ∃ n, n = (playE q c).1 := ⟨_, rfl⟩
        obtain ⟨b0, hb0⟩ : ∃ n, n = (playE q c).2 := ⟨_, rfl⟩
        rw [← hn, ← hb0] at hpl
        have hqo := actP_ok M.out.ok c
        have WAYS := Lib.hid (act_ways q c)
        obtain ⟨q', hq'⟩ : ∃ q', q' = actP q c := ⟨_, rfl⟩
        rw [← hq'] at hpl hqo
        rw [← hq', ← hb0] at WAYS
        have HPL := Lib.hid hpl
        have HQO := Lib.hid hqo
        have HFI := Lib.hid (first_any _ M1.out.tbl)
        have HU := Lib.hid (used_any _ M1.out.tbl)
        clear hpl hn hb0 hq' hok hkl hk hgc hgm hXn hqo
        go_upto_if 53 with (first
          | (go_at_call 29; refine HFI.out.mono ?_; rintro e wB ⟨rfl, h⟩; obtain rfl := h)
          | (go_at_call 27; refine HU.out.mono ?_; rintro e wB ⟨rfl, h⟩; obtain rfl := h)
          | (go_at_call 32; refine HPL.out.mono ?_; rintro e wA ⟨rfl, slA, MA, hsA, hKA⟩
             have HMA := Lib.hid MA
             have XA := Lib.hid (X1.out.keep hKA HXN.out)
             have RWA := Lib.hid (RW1.out.step hsA hKA)
             clear MA hKA hsA))
        have RWB := Lib.hid (owns_blt RW.out.row)
        clear HPL HFI HU RW1 RW M1 X1
        go_cut [7, 11] from 54 to 63 (fun av us wc => ∃ all' : List Fd, us = .int .i64 (rooms (all'.drop q.first) : Int) ∧ OrdS q q' all' ∧ Tm w.heap.size b slA q' w wc ∧ RowA w.heap.size b slA av all' wc ∧ all'.length ≤ k + 1 ∧ (∀ f ∈ all', roomF f ≤ 1000))
        case first =>
          have hw0 := WAYS.out
          cases b0
          · have hord : OrdS q q' all := by
              rcases hw0 with ⟨h, _⟩ | ⟨_, h | ⟨m, h, _⟩⟩
              · cases h
              · rw [h]; exact ord_same M.out.ok QL.out QN.out
              · rw [h]; exact ord_cap m M.out.ok QL.out QN.out
            have ORD := Lib.hid hord
            clear hord hw0
            go_wp2_with fail
            go_meet
            exact ⟨all, by rw [← QL.out], ORD.out, HMA.out, RWA.out, Nat.le_succ_of_le AK.out, ALL.out⟩
          · obtain ⟨hf1, hf2, hq5⟩ : roomF c.f ≤ q.cap ∧ roomF c.f ≤ 1000 ∧ q' = { shrinkE (q.cap - roomF c.f) q with l := (shrinkE (q.cap - roomF c.f) q).l ++ [c.f] } := by
              rcases hw0 with ⟨_, h1, h2, _, h3⟩ | ⟨h, _⟩
              · exact ⟨h1, h2, h3⟩
              · cases h
            have hord : OrdS q q' (all ++ [c.f]) := by rw [hq5]; exact ord_in M.out.ok QL.out QN.out hf1 hf2
            have ORD := Lib.hid hord
            have HF2 := Lib.hid hf2
            have hru : rooms q.l ≤ 4096 := Nat.le_trans M.out.ok.used (Nat.le_trans M.out.ok.cap M.out.ok.most)
            have hsum : rooms ((all ++ [c.f]).drop q.first) = rooms q.l + roomF c.f := by
              rw [List.drop_append_of_le_length (fit_of QL.out QN.out), rooms_append, ← QL.out]; simp [rooms]
            have HRM := Lib.hid (fun V => room_any c.f V (szF_of (Nat.le_trans hf2 (by omega))))
            obtain ⟨rf, hrf⟩ : ∃ rf, rf = roomF c.f := ⟨_, rfl⟩
            obtain ⟨ru, hruu⟩ : ∃ ru, ru = rooms q.l := ⟨_, rfl⟩
            rw [← hrf] at HRM hsum hf2
            rw [← hruu] at hru hsum ⊢
            have HSUM := Lib.hid hsum
            have hwu : IntKind.i64.wrap ((ru : Int) + (rf : Int)) = (ru : Int) + (rf : Int) := wraps_i64' _ (by omega) (by omega)
            have x2 := XA.out.get 2 _ rfl
            have x3 := XA.out.get 3 _ rfl
            have hal : all.length ≤ 3000000000000 := by have := AK.out; have := HKL.out; omega
            have hXlt : wr.heap.size < wA.heap.size := XA.out.lt
            have hBA : w.heap.size ≤ wA.heap.size := HMA.out.size
            have HRUU := Lib.hid hruu
            clear hord hw0 hf1 hf2 hq5 hru hsum hrf hruu
            go_wp2_with (first
              | (at_builtin; (with_reducible refine wpList_append_at _ ?_ (.tmp 54) (.tmp 57) 38 ?_ elemFd Tryd.underlying38 w.heap.size (.slice aa all.length ac) all.length (fdC all) ?_ (World.ownsRow.alloc RWA.out.row _) (.slice (some ⟨wA.heap.size, 0, none⟩) 1 1) 1 [.string c.f.n, .string c.f.v] ?_ (RdC.built 2 wA #[.string c.f.n, .string c.f.v] 23 rfl) ?_ ?_ ?_ ?_ ?_ ?_); rfl; rfl; rfl; rfl; (omega); (intro u hu; simp at hu; rcases hu with rfl | rfl <;> rfl); (omega); (unfold maxLen; omega); (simp; omega); intro v7 w7 o7 g7 b7
                 have O7 := Lib.hid o7
                 have B7 := Lib.hid b7
                 have KG : Hid (Keep (Value.ownBlock (.slice aa all.length ac)).toList (wA.alloc (.cells #[.string c.f.n, .string c.f.v] 23)) w7) := Keep.of_grown g7 (fun j hj => .inl (by simp [hj]))
                 have hXr : wr.heap.size ∉ (Value.ownBlock (.slice aa all.length ac)).toList := fun hm => by
                   have := Option.mem_toList.1 hm
                   have := RWB.out _ this
                   omega
                 have X7 := Lib.hid ((XA.out.below (below1 _ _)).keep KG.out hXr)
                 have x2 := X7.out.get 2 _ rfl
                 have x3 := X7.out.get 3 _ rfl
                 have M7 := Lib.hid ((HMA.out.below (below1 _ _)).keep KG.out (fun i hi => (World.ownsRow.lt RWA.out.row i (Option.mem_toList.1 hi)).1) (fun hm => (RWA.out.ne _ (Option.mem_toList.1 hm)).1 rfl) (fun j hj hm => (RWA.out.ne _ (Option.mem_toList.1 hm)).2 hj))
                 have N7 : Hid (∀ j, v7.ownBlock = some j → j ≠ b ∧ slA.ownBlock ≠ some j) := fun j hj => by
                   rcases B7.out with h | h
                   · exact RWA.out.ne j (by rw [← h]; exact hj)
                   · rw [hj] at h
                     simp only [Option.some.injEq, World.size_alloc] at h
                     have h1 := HMA.out.tbl.lt
                     exact ⟨by omega, fun e => by have := HMA.out.tbl.slt j e; omega⟩
                 obtain ⟨a7, c7, hv7, _, _⟩ := (RdC.of_owns o7).isSlice
                 subst hv7
                 clear o7 g7 b7 hXr)
              | (go_at_call 13; refine (HRM.out _).mono ?_; rintro e w8 ⟨rfl, b8⟩))
            have hruu := HRUU.out
            subst hruu
            go_meet
            have hll : (all ++ [c.f]).length = all.length + 1 := by simp
            refine ⟨all ++ [c.f], by rw [HSUM.out]; first | rfl | simp, ORD.out, M7.out.below b8, ⟨?_, N7.out⟩, by rw [hll]; have := AK.out; omega, fun f hf => ?_⟩
            · rw [hll, fdC_append, fdC_one]
              exact owns_keep O7.out (Keep.of_below (S := []) b8) (by simp)
            · rcases List.mem_append.1 hf with h | h
              · exact ALL.out f h
              · simp at h; subst h; exact HF2.out
        case rest =>
          obtain ⟨all', rfl, hO, hMC, hRC, hac, hallc⟩ := hcut
          have OR := Lib.hid hO
          have MC := Lib.hid hMC
          have RC := Lib.hid hRC
          have AC := Lib.hid hac
          have ALC := Lib.hid hallc
          have hqm := HQO.out.many
          have hQC := HQO.out.cap
          have hQM := HQO.out.most
          obtain ⟨va, vc, hvv, hvc, hvm⟩ := (RdC.of_owns hRC.row).isSlice
          subst hvv
          have hal2 : all'.length ≤ 3000000000001 := by have := HKL.out; omega
          have hcnt := hO.cnt
          have hfit := hO.fit
          have hle := hO.le
          have hsum := hO.sum
          have hlst := hO.lst
          have hlast := hO.last
          have HCT := Lib.hid (fun V (hV : Tm w.heap.size b slA q' w V) => count_any V hV.tbl (by omega))
          rw [hcnt] at HCT
          have HFI := Lib.hid (fun V (hV : Tm w.heap.size b slA q' w V) => first_any V hV.tbl)
          have HCP := Lib.hid (fun V (hV : Tm w.heap.size b slA q' w V) => cap_any V hV.tbl)
          have HGT := Lib.hid (fun (j : Nat) V (hV : Tm w.heap.size b slA q' w V) => get_any ((q'.first : Int) + (j : Int)) V hV.tbl (by omega))
          have HIN : Hid (∀ j, j < q'.l.length → ∃ (h : q'.first + j < all'.length), getE q' ((q'.first : Int) + (j : Int)) = (all'[q'.first + j], 0)) := fun j hj => by
            have h1 : q'.first + j < all'.length := by rw [hlst, List.length_drop] at hj; omega
            refine ⟨h1, ?_⟩
            unfold getE
            rw [if_neg (by simp only [countN]; omega)]
            have h2 : ((q'.first : Int) + (j : Int)).toNat - q'.first = j := by omega
            rw [h2, getD_of hj]
            simp only [hlst, List.getElem_drop]
          have HLN : Hid (q'.first + q'.l.length = all'.length) := hcnt
          obtain ⟨f0, hf0⟩ : ∃ x, x = q.first := ⟨_, rfl⟩
          obtain ⟨f1, hf1⟩ : ∃ x, x = q'.first := ⟨_, rfl⟩
          obtain ⟨cp, hcp⟩ : ∃ x, x = q'.cap := ⟨_, rfl⟩
          rw [← hf0, ← hf1] at hle
          rw [← hf0] at hsum hlast ⊢
          rw [← hf1] at HFI HGT HIN HLN hlast hfit
          rw [← hcp] at HCP hlast hQC
          have d1 : decide ((f1 : Int) < (f0 : Int)) = false := decide_eq_false (by omega)
          have d1n : decide (f1 < f0) = false := decide_eq_false (by omega)
          obtain ⟨us, hus⟩ : ∃ us, us = rooms (all'.drop f0) := ⟨_, rfl⟩
          rw [← hus] at hsum ⊢
          have HUS := Lib.hid hus
          have HLAST := Lib.hid hlast
          have HF0 := Lib.hid hf0
          have HF1 := Lib.hid hf1
          have HVC := Lib.hid hvc
          clear hO hMC hRC hac hallc hcnt hlst hlast hqm hus hf0 hf1 hvc hvm XA RWA HMA
          by_cases hgt : f0 < f1
          · have e1 : (f0 : Int) < (f1 : Int) := by omega
            have hw5 : IntKind.i64.wrap ((f1 : Int) - 1) = (f1 : Int) - 1 := wraps_i64' _ (by omega) (by omega)
            have e2 : (f1 : Int) - 1 < (all'.length : Int) := by omega
            have e2l : (f1 : Int) ≤ (all'.length : Int) := by omega
            have e3 : (f0 : Int) ≤ (f1 : Int) := by omega
            have e4 : (f1 : Int) ≤ (vc : Int) := by have := HVC.out; omega
            have e5 : (0 : Int) ≤ (f0 : Int) := by omega
            have e6 : (0 : Int) ≤ (f1 : Int) - 1 := by omega
            have e7 : ¬ vc = f0 := by have := HVC.out; omega
            obtain ⟨g2, gc2, hg2, hgl2, hgc2, hgm2⟩ := OwnF.form (show OwnF wc _ all' from ownsRow_zero RC.out.row) (fun e => by rw [e] at hfit; simp at hfit; omega)
            simp only [Value.slice.injEq] at hg2
            obtain ⟨rfl, _, rfl⟩ := hg2
            have HAT : Hid (∀ V, Below wc.heap.size wc V → ∀ i (hi : i < all'.length), V.cell? ⟨g2, i * 2, none⟩ = some (.string all'[i].n) ∧ V.cell? ⟨g2, i * 2 + 1, none⟩ = some (.string all'[i].v)) := fun V hV i hi => OwnF.at (show OwnF V _ all' from ownsRow_zero (RC.out.below hV).row) i hi
            have HGT1 := Lib.hid hgt
            have HFIT := Lib.hid hfit
            have HSM := Lib.hid hsum
            clear hgt hgl2 hgc2 hgm2
            go_upto_region 19 with (first
              | (go_at_call 30; refine (HCT.out _ MC.out).mono ?_; rintro e wE ⟨rfl, nd, h⟩
                 have BE : Hid (Below wc.heap.size wc wE) := (by rw [h]; exact below_drewN (Below.refl _ _) nd : Below _ _ _)
                 have ME := Lib.hid (MC.out.below BE.out)
                 clear h)
              | (go_at_call 29; refine (HFI.out _ ME.out).mono ?_; rintro e wF ⟨rfl, h⟩; obtain rfl : wE = wF := h.symm))
            clear a0 a1 a2 a3 hw5 e2l e3 e4 e5 e7
            have BE0 := BE
            clear BE
            go_loopw [15, 92] (fun gv i wi => ∃ j : Nat, gv = .int .i64 (rooms ((all'.drop f0).take j) : Int) ∧ i = .int .i64 j ∧ j ≤ f1 - f0 ∧ Below wE.heap.size wE wi) (fun _ i _ => f1 - f0 - (intOf i).toNat)
            case atStart => exact ⟨0, by simp [rooms], rfl, Nat.zero_le _, Below.refl _ _⟩
            case round =>
              obtain ⟨j, rfl, rfl, hj, hbi⟩ := hrel
              have BI := Lib.hid hbi
              have BW : Hid (Below wc.heap.size wc wr) := BE0.out.trans (hbi.mono BE0.out.size)
              clear hbi
              obtain ⟨u, hu⟩ : ∃ u, u = rooms ((all'.drop f0).take j) := ⟨_, rfl⟩
              rw [← hu]
              have HUU := Lib.hid hu
              clear hu
              by_cases hjl : j < f1 - f0
              · have hx : f0 + j < all'.length := by have := HFIT.out; omega
                have hxd : j < (all'.drop f0).length := by rw [List.length_drop]; omega
                obtain ⟨k2, k3⟩ := HAT.out wr BW.out (f0 + j) hx
                have hst := rooms_take (all'.drop f0) j hxd
                have hge : (all'.drop f0)[j]'hxd = all'[f0 + j]'hx := by simp
                rw [hge, ← HUU.out] at hst
                have hrl : roomF (all'[f0 + j]'hx) ≤ 1000 := ALC.out _ (List.getElem_mem hx)
                have hspl := rooms_split (all'.drop f0) (j + 1)
                rw [hst, ← HUS.out] at hspl
                obtain ⟨fd, hfd⟩ : ∃ fd, fd = all'[f0 + j]'hx := ⟨_, rfl⟩
                rw [← hfd] at k2 k3 hst hrl hspl
                have HRM := Lib.hid (fun V => room_any fd V (szF_of (by omega)))
                obtain ⟨rf, hrf⟩ : ∃ rf, rf = roomF fd := ⟨_, rfl⟩
                rw [← hrf] at HRM hst hspl hrl
                have hwu : IntKind.i64.wrap ((u : Int) + (rf : Int)) = (u : Int) + (rf : Int) := by rw [wraps_i64' _ (by omega) (by have := HSM.out; omega)]
                have hwj : IntKind.i64.wrap ((j : Int) + 1) = ((j + 1 : Nat) : Int) := by rw [wraps_i64' _ (by omega) (by omega)]; omega
                have k2' : wr.cell? ⟨g2, f0 * 2 + j * 2, none⟩ = some (.string fd.n) := by rw [← Nat.add_mul]; exact k2
                have k3' : wr.cell? ⟨g2, f0 * 2 + j * 2 + 1, none⟩ = some (.string fd.v) := by rw [← Nat.add_mul]; exact k3
                have c1 : (j : Int) < ((f1 - f0 : Nat) : Int) := by omega
                have c2 : (j : Int) < (f1 : Int) - (f0 : Int) := by omega
                have c3 : (0 : Int) ≤ (j : Int) := by omega
                have g2lt : g2 < wr.heap.size := World.block_lt_of_cell? wr _ k2
                have HJL := Lib.hid hjl
                have HST := Lib.hid hst
                clear hge hxd hx hst hrl hspl hfd hrf hjl hj k2 k3
                go_wp2_with (first
                  | (go_at_call 13; refine (HRM.out _).mono ?_; rintro e wG ⟨rfl, bG⟩
                     have BG : Hid (Below wE.heap.size wE wG) := BI.out.trans (((below1 wr (.cells #[.string fd.n, .string fd.v] 23)).trans (bG.mono (by simp))).mono BI.out.size)
                     clear bG))
                exact ⟨⟨j + 1, by rw [HST.out]; simp, by simp, HJL.out, BG.out⟩, by simp [intOf]; have := HJL.out; omega⟩
              · obtain rfl : j = f1 - f0 := by omega
                have c1 : ¬ (((f1 - f0 : Nat) : Int) < ((f1 - f0 : Nat) : Int)) := by omega
                have c2 : ¬ (((f1 - f0 : Nat) : Int) < (f1 : Int) - (f0 : Int)) := by have := HGT1.out; omega
                have hx : f1 - 1 < all'.length := by have := HFIT.out; have := HGT1.out; omega
                obtain ⟨k2, k3⟩ := HAT.out wr BW.out (f1 - 1) hx
                have hd1 := rooms_drop all' (f1 - 1) hx
                rw [show f1 - 1 + 1 = f1 by have := HGT1.out; omega] at hd1
                have hls := HLAST.out HGT1.out
                have hrl : roomF (all'[f1 - 1]'hx) ≤ 1000 := ALC.out _ (List.getElem_mem hx)
                have hspl := rooms_split (all'.drop f0) (f1 - f0)
                rw [List.drop_drop, show f0 + (f1 - f0) = f1 by have := HGT1.out; omega, ← HUU.out, ← HUS.out] at hspl
                obtain ⟨fd, hfd⟩ : ∃ fd, fd = all'[f1 - 1]'hx := ⟨_, rfl⟩
                rw [← hfd] at k2 k3 hd1 hrl
                have HRM := Lib.hid (fun V => room_any fd V (szF_of (by omega)))
                obtain ⟨rf, hrf⟩ : ∃ rf, rf = roomF fd := ⟨_, rfl⟩
                rw [← hrf] at HRM hd1 hrl
                obtain ⟨ra, hra⟩ : ∃ ra, ra = rooms (all'.drop f1) := ⟨_, rfl⟩
                rw [← hra] at hd1 hspl
                rw [hd1] at hls
                have hwa : IntKind.i64.wrap ((us : Int) - (u : Int)) = (ra : Int) := by rw [wraps_i64' _ (by have := HSM.out; omega) (by have := HSM.out; omega)]; omega
                have hwb : IntKind.i64.wrap ((ra : Int) + (rf : Int)) = (ra : Int) + (rf : Int) := by rw [wraps_i64' _ (by omega) (by have := HSM.out; omega)]
                have hwf : IntKind.i64.wrap ((f1 : Int) - 1) = ((f1 - 1 : Nat) : Int) := by rw [wraps_i64' _ (by omega) (by have := HFIT.out; omega)]; have := HGT1.out; omega
                have hcf : ¬ ((ra : Int) + (rf : Int) ≤ (cp : Int)) := by omega
                have c5 : ((f1 - 1 : Nat) : Int) < (all'.length : Int) := by omega
                have c6 : (0 : Int) ≤ ((f1 - 1 : Nat) : Int) := by omega
                obtain ⟨fm, hfm⟩ : ∃ fm, fm = f1 - 1 := ⟨_, rfl⟩
                rw [← hfm] at k2 k3 hwf c5 c6
                have MW := Lib.hid (MC.out.below BW.out)
                have g2lt : g2 < wr.heap.size := World.block_lt_of_cell? wr _ k2
                clear e1 e2 e6 hx hd1 hls hrl hspl hfd hrf hra hfm
                go_upto_region 26 with (first
                  | (go_at_call 13; refine (HRM.out _).mono ?_; rintro e wG ⟨rfl, bG⟩
                     have BG : Hid (Below wc.heap.size wc wG) := BW.out.trans (bG.mono BW.out.size)
                     have MG := Lib.hid (MW.out.below bG)
                     clear bG)
                  | (go_at_call 26; refine (HCP.out _ MG.out).mono ?_; rintro e wH ⟨rfl, h⟩; obtain rfl : wG = wH := h.symm)
                  | (go_at_call 29; refine (HFI.out _ MG.out).mono ?_; rintro e wH ⟨rfl, h⟩; obtain rfl : wG = wH := h.symm))
                obtain ⟨wG0, hwG⟩ : ∃ x, x = wG := ⟨_, rfl⟩
                rw [← hwG] at MG BG ⊢
                have MD := MG
                have RD := Lib.hid (RC.out.below BG.out)
                go_loopw [18] (fun i wi => ∃ j : Nat, i = .int .i64 ((f1 : Int) + (j : Int)) ∧ j ≤ q'.l.length ∧ Below wG0.heap.size wG0 wi) (fun i _ => f1 + q'.l.length - (intOf i).toNat)
                case atStart => exact ⟨0, by simp, Nat.zero_le _, Below.refl _ _⟩
                case round =>
                  obtain ⟨j, rfl, hj, hbi⟩ := hrel
                  have BI := Lib.hid hbi
                  have MI := Lib.hid (MD.out.below hbi)
                  have RI := Lib.hid (RD.out.below hbi)
                  clear hbi
                  by_cases hjl : j < q'.l.length
                  · obtain ⟨hx, hG⟩ := HIN.out j hjl
                    obtain ⟨g3, gc3, hg3, hgl3, hgc3, hgm3⟩ := OwnF.form (show OwnF wr _ all' from ownsRow_zero RI.out.row) (fun e => by rw [e] at hx; simp at hx)
                    simp only [Value.slice.injEq] at hg3
                    obtain ⟨hg4, _, rfl⟩ := hg3
                    first
                      | subst hg4
                      | (simp only [Option.some.injEq, Addr.mk.injEq, and_true] at hg4; have hg5 := hg4.symm; clear hg4; subst hg5)
                    have HAT : Hid (∀ V, Below wr.heap.size wr V → V.cell? ⟨g3, (f1 + j) * 2, none⟩ = some (.string (all'[f1 + j]'hx).n) ∧ V.cell? ⟨g3, (f1 + j) * 2 + 1, none⟩ = some (.string (all'[f1 + j]'hx).v)) := fun V hV => OwnF.at (show OwnF V _ all' from ownsRow_zero (RI.out.below hV).row) (f1 + j) hx
                    have hgt3 := HGT.out j
                    rw [hG] at hgt3
                    obtain ⟨fd, hfd⟩ : ∃ fd, fd = all'[f1 + j]'hx := ⟨_, rfl⟩
                    rw [← hfd] at hgt3 HAT
                    have HG := Lib.hid hgt3
                    have h1 : (f1 : Int) + (j : Int) < (all'.length : Int) := by have := HLN.out; omega
                    have h2 : (0 : Int) ≤ (f1 : Int) + (j : Int) := by omega
                    have hadd : (((f1 : Int) + (j : Int))).toNat = f1 + j := by omega
                    have hw7 : IntKind.i64.wrap ((f1 : Int) + (j : Int) + 1) = (f1 : Int) + ((j : Int) + 1) := by rw [wraps_i64' _ (by omega) (by have := HLN.out; omega)]; omega
                    have h3 : f1 + j < all'.length := by have := HLN.out; omega
                    have qe : ∀ W, (Op.equalIn 10000 23 (.agg #[.string fd.n, .string fd.v]) (.agg #[.string fd.n, .string fd.v])).run Tryd.prog W = .ok true W := fun W => by rw [eqF_any fd fd, decide_eq_true rfl]
                    have hgd := guardF
                    have HJL := Lib.hid hjl
                    clear hfd hG hgt3 hjl hj hgc3 hgm3
                    go_upto_region 29 with (first
                      | (go_at_call 30; refine (HCT.out _ MI.out).mono ?_; rintro e wE ⟨rfl, nd, h⟩
                         have BE : Hid (Below wr.heap.size wr wE) := (by rw [h]; exact below_drewN (Below.refl _ _) nd : Below _ _ _)
                         have ME := Lib.hid (MI.out.below BE.out)
                         clear h)
                      | (go_at_call 22; refine (HG.out _ ME.out).mono ?_; rintro e wF ⟨rfl, bF⟩
                         have BF : Hid (Below wr.heap.size wr (wF.alloc (.cells #[.string fd.n, .string fd.v] 23))) := (BE.out.trans (bF.mono BE.out.size)).trans ((below1 _ _).mono (BE.out.trans (bF.mono BE.out.size)).size)
                         have YF := Lib.hid (Cs.made wF #[.string fd.n, .string fd.v] 23)
                         clear bF))
                    generalize wF.alloc (.cells #[.string fd.n, .string fd.v] 23) = wG at BF YF ⊢
                    obtain ⟨k0', k1'⟩ := HAT.out _ BF.out
                    have y0 := YF.out.get 0 _ rfl
                    have y1 := YF.out.get 1 _ rfl
                    go_quiet (fail)
                    go_wp2_with fail
                    exact ⟨⟨j + 1, by simp, HJL.out, BI.out.trans ((below_drewN BF.out _).mono BI.out.size)⟩, by simp [intOf]; have := HJL.out; omega⟩
                  · obtain rfl : j = q'.l.length := by omega
                    have hnn := HLN.out
                    have hnI : (f1 : Int) + (q'.l.length : Int) = (all'.length : Int) := by omega
                    rw [hnI]
                    clear hnn hnI
                    go_wp2_with (first
                      | (go_at_call 30; refine (HCT.out _ MI.out).mono ?_; rintro e wE ⟨rfl, nd, h⟩
                         have BE : Hid (Below wr.heap.size wr wE) := (by rw [h]; exact below_drewN (Below.refl _ _) nd : Below _ _ _)
                         clear h))
                    exact ⟨⟨k + 1, slA, q', all', by simp, HKL.out, MI.out.below BE.out, RI.out.below BE.out, OR.out.lst, OR.out.cnt, AC.out, ALC.out⟩, by simp [intOf]; have := HKL.out; omega⟩
          · have e1 : ¬ ((f0 : Int) < (f1 : Int)) := by omega
            have e1n : decide (f0 < f1) = false := decide_eq_false hgt
            have e1i : decide ((f0 : Int) < (f1 : Int)) = false := decide_eq_false e1
            clear hgt a0 a1 a2 a3
            go_upto_region 26 with (first
              | (go_at_call 30; refine (HCT.out _ MC.out).mono ?_; rintro e wE ⟨rfl, nd, h⟩
                 have BE : Hid (Below wc.heap.size wc wE) := (by rw [h]; exact below_drewN (Below.refl _ _) nd : Below _ _ _)
                 have ME := Lib.hid (MC.out.below BE.out)
                 clear h)
              | (go_at_call 29; refine (HFI.out _ ME.out).mono ?_; rintro e wF ⟨rfl, h⟩; obtain rfl : wE = wF := h.symm))
            obtain ⟨wE0, hwE⟩ : ∃ x, x = wE := ⟨_, rfl⟩
            rw [← hwE] at ME BE ⊢
            have MD := ME
            have RD := Lib.hid (RC.out.below BE.out)
            go_loopw [18] (fun i wi => ∃ j : Nat, i = .int .i64 ((f1 : Int) + (j : Int)) ∧ j ≤ q'.l.length ∧ Below wE0.heap.size wE0 wi) (fun i _ => f1 + q'.l.length - (intOf i).toNat)
            case atStart => exact ⟨0, by simp, Nat.zero_le _, Below.refl _ _⟩
            case round =>
              obtain ⟨j, rfl, hj, hbi⟩ := hrel
              have BI := Lib.hid hbi
              have MI := Lib.hid (MD.out.below hbi)
              have RI := Lib.hid (RD.out.below hbi)
              clear hbi
              by_cases hjl : j < q'.l.length
              · obtain ⟨hx, hG⟩ := HIN.out j hjl
                obtain ⟨g3, gc3, hg3, hgl3, hgc3, hgm3⟩ := OwnF.form (show OwnF wr _ all' from ownsRow_zero RI.out.row) (fun e => by rw [e] at hx; simp at hx)
                simp only [Value.slice.injEq] at hg3
                obtain ⟨hg4, _, rfl⟩ := hg3
                first
                  | subst hg4
                  | (simp only [Option.some.injEq, Addr.mk.injEq, and_true] at hg4; have hg5 := hg4.symm; clear hg4; subst hg5)
                have HAT : Hid (∀ V, Below wr.heap.size wr V → V.cell? ⟨g3, (f1 + j) * 2, none⟩ = some (.string (all'[f1 + j]'hx).n) ∧ V.cell? ⟨g3, (f1 + j) * 2 + 1, none⟩ = some (.string (all'[f1 + j]'hx).v)) := fun V hV => OwnF.at (show OwnF V _ all' from ownsRow_zero (RI.out.below hV).row) (f1 + j) hx
                have hgt3 := HGT.out j
                rw [hG] at hgt3
                obtain ⟨fd, hfd⟩ : ∃ fd, fd = all'[f1 + j]'hx := ⟨_, rfl⟩
                rw [← hfd] at hgt3 HAT
                have HG := Lib.hid hgt3
                have h1 : (f1 : Int) + (j : Int) < (all'.length : Int) := by have := HLN.out; omega
                have h2 : (0 : Int) ≤ (f1 : Int) + (j : Int) := by omega
                have hadd : (((f1 : Int) + (j : Int))).toNat = f1 + j := by omega
                have hw7 : IntKind.i64.wrap ((f1 : Int) + (j : Int) + 1) = (f1 : Int) + ((j : Int) + 1) := by rw [wraps_i64' _ (by omega) (by have := HLN.out; omega)]; omega
                have h3 : f1 + j < all'.length := by have := HLN.out; omega
                have qe : ∀ W, (Op.equalIn 10000 23 (.agg #[.string fd.n, .string fd.v]) (.agg #[.string fd.n, .string fd.v])).run Tryd.prog W = .ok true W := fun W => by rw [eqF_any fd fd, decide_eq_true rfl]
                have hgd := guardF
                have HJL := Lib.hid hjl
                clear hfd hG hgt3 hjl hj hgc3 hgm3
                go_upto_region 29 with (first
                  | (go_at_call 30; refine (HCT.out _ MI.out).mono ?_; rintro e wE ⟨rfl, nd, h⟩
                     have BE : Hid (Below wr.heap.size wr wE) := (by rw [h]; exact below_drewN (Below.refl _ _) nd : Below _ _ _)
                     have ME := Lib.hid (MI.out.below BE.out)
                     clear h)
                  | (go_at_call 22; refine (HG.out _ ME.out).mono ?_; rintro e wF ⟨rfl, bF⟩
                     have BF : Hid (Below wr.heap.size wr (wF.alloc (.cells #[.string fd.n, .string fd.v] 23))) := (BE.out.trans (bF.mono BE.out.size)).trans ((below1 _ _).mono (BE.out.trans (bF.mono BE.out.size)).size)
                     have YF := Lib.hid (Cs.made wF #[.string fd.n, .string fd.v] 23)
                     clear bF))
                generalize wF.alloc (.cells #[.string fd.n, .string fd.v] 23) = wG at BF YF ⊢
                obtain ⟨k0', k1'⟩ := HAT.out _ BF.out
                have y0 := YF.out.get 0 _ rfl
                have y1 := YF.out.get 1 _ rfl
                go_quiet (fail)
                go_wp2_with fail
                exact ⟨⟨j + 1, by simp, HJL.out, BI.out.trans ((below_drewN BF.out _).mono BI.out.size)⟩, by simp [intOf]; have := HJL.out; omega⟩
              · obtain rfl : j = q'.l.length := by omega
                have hnn := HLN.out
                have hnI : (f1 : Int) + (q'.l.length : Int) = (all'.length : Int) := by omega
                rw [hnI]
                clear hnn hnI
                go_wp2_with (first
                  | (go_at_call 30; refine (HCT.out _ MI.out).mono ?_; rintro e wE ⟨rfl, nd, h⟩
                     have BE : Hid (Below wr.heap.size wr wE) := (by rw [h]; exact below_drewN (Below.refl _ _) nd : Below _ _ _)
                     clear h))
                exact ⟨⟨k + 1, slA, q', all', by simp, HKL.out, MI.out.below BE.out, RI.out.below BE.out, OR.out.lst, OR.out.cnt, AC.out, ALC.out⟩, by simp [intOf]; have := HKL.out; omega⟩
      · obtain rfl : k = l.length := by omega
        have hi1 : ¬ ((l.length : Int) < (l.length : Int)) := by omega
        go_wp2_with fail
        go_ret
        exact ⟨rfl, M.out.bel⟩
end Go.Proofs.YtfacpncbcplocaaDoor
