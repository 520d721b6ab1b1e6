/- Datagrams that were sent: the mathematics of layer 8. -/
import Derived.Test.YtobalbaieakcmaaSpM
set_option linter.unusedSimpArgs false
set_option linter.unusedVariables false
namespace Go.Proofs.Ytobalbaieakcmaa

/-- a datagram that was sent: its number, when, its bytes -/
structure Pk where
  n : Int
  t : Int
  s : Int
deriving DecidableEq, Inhabited

/-- a ledger: those out, by rising numbers; the last that was sent, when that was; the largest that was acked -/
structure Lg where
  l : List Pk
  last : Int
  time : Int
  big : Int

def Up (l : List Pk) : Prop := l.Pairwise fun p q => p.n < q.n

def withinB (n a b : Int) : Bool := decide (a ≤ n) && decide (n ≤ b)
def nowB (n : Int) : Bool := withinB n 0 1099511627776
def waitB (n : Int) : Bool := withinB n 1 1099511627776
def waitsB (now wait : Int) : Bool := nowB now && waitB wait
def sendB (n t s : Int) : Bool := withinB n 0 4611686018427387903 && nowB t && withinB s 1 1200

theorem within_iff {n a b : Int} : withinB n a b = true ↔ a ≤ n ∧ n ≤ b := by simp [withinB]

/-- what Sent comes to -/
def sentE (q : Lg) (n t s : Int) : Lg × Int :=
  if sendB n t s = false then (q, 1)
  else if n ≤ q.last ∨ t < q.time then (q, 14)
  else if 512 ≤ q.l.length then (q, 6)
  else (⟨q.l ++ [⟨n, t, s⟩], n, t, q.big⟩, 0)

/-- a datagram is lost -/
def lostB (big now wait : Int) (p : Pk) : Bool := decide (p.n < big) && (decide (big - p.n ≥ 3) || decide (now - p.t ≥ wait))

/-- what Lose comes to -/
def loseE (q : Lg) (now wait : Int) : Lg × List Pk :=
  if waitsB now wait = false then (q, [])
  else (⟨q.l.filter (fun p => !lostB q.big now wait p), q.last, q.time, q.big⟩, q.l.filter (lostB q.big now wait))

/-- the greatest number of a set -/
def topI (ss : List (Int × Int)) : Int := (ss.getD (ss.length - 1) (0, 0)).2
def ackB (ss : List (Int × Int)) (now wait : Int) : Bool := decide (ss ≠ []) && rightB ss && waitsB now wait
/-- a ledger behind what came -/
def cameQ (q : Lg) (ss : List (Int × Int)) : Lg := ⟨q.l.filter (fun p => !inB p.n ss), q.last, q.time, max q.big (topI ss)⟩
/-- what Ack comes to -/
def ackE (q : Lg) (ss : List (Int × Int)) (now wait : Int) : Lg × List Pk × List Pk × Int :=
  if ackB ss now wait = false then (q, [], [], 1)
  else if q.last < topI ss then (q, [], [], 14)
  else ((loseE (cameQ q ss) now wait).1, q.l.filter (fun p => inB p.n ss), (loseE (cameQ q ss) now wait).2, 0)

/-- what Due comes to: one step -/
def dueF (big wait d : Int) (p : Pk) : Int := if p.n < big ∧ (d < 0 ∨ p.t + wait < d) then p.t + wait else d
def dueE (q : Lg) (wait : Int) : Int := if waitB wait = false then -1 else q.l.foldl (dueF q.big wait) (-1)

def dropE (q : Lg) : Lg × List Pk := (⟨[], q.last, q.time, q.big⟩, q.l)

/-- a ledger that calls have made -/
structure Ok (q : Lg) : Prop where
  up : Up q.l
  each : ∀ p ∈ q.l, 0 ≤ p.n ∧ p.n ≤ q.last ∧ 0 ≤ p.t ∧ p.t ≤ 1099511627776
  last : -1 ≤ q.last ∧ q.last ≤ 4611686018427387903
  time : -1 ≤ q.time ∧ q.time ≤ 1099511627776
  big : -1 ≤ q.big ∧ q.big ≤ q.last
  few : q.l.length ≤ 512
def fresh : Lg := ⟨[], -1, -1, -1⟩
theorem fresh_ok : Ok fresh := ⟨List.Pairwise.nil, fun p hp => (by cases hp), by decide, by decide, by decide, by decide⟩

theorem Up.filter {l : List Pk} (h : Up l) (f : Pk → Bool) : Up (l.filter f) := List.Pairwise.filter f h
theorem Up.sub {l l' : List Pk} (h : Up l) (hs : l'.Sublist l) : Up l' := List.Pairwise.sublist hs h
theorem Up.inj {l : List Pk} (h : Up l) {p q : Pk} (hp : p ∈ l) (hq : q ∈ l) (hn : p.n = q.n) : p = q := by
  induction l with
  | nil => cases hp
  | cons x r ih =>
    obtain ⟨h1, h2⟩ := List.pairwise_cons.1 h
    rcases List.mem_cons.1 hp with rfl | hp'
    · rcases List.mem_cons.1 hq with rfl | hq'
      · rfl
      · have := h1 q hq'; omega
    · rcases List.mem_cons.1 hq with rfl | hq'
      · have := h1 p hp'; omega
      · exact ih h2 hp' hq'
theorem Up.snoc {l : List Pk} (h : Up l) {p : Pk} (hp : ∀ q ∈ l, q.n < p.n) : Up (l ++ [p]) := by
  unfold Up
  rw [List.pairwise_append]
  exact ⟨h, by simp, fun a ha b hb => by rw [List.mem_singleton] at hb; subst hb; exact hp a ha⟩
theorem Up.nodup {l : List Pk} (h : Up l) : l.Nodup := h.imp fun hlt e => by rw [e] at hlt; omega
/-- two lists by rising numbers with the same datagrams are one -/
theorem up_perm {a b : List Pk} (ha : Up a) (hb : Up b) (h : a.Perm b) : a = b :=
  List.Perm.eq_of_pairwise (fun x y _ _ h1 h2 => by omega) ha hb h

theorem sent_ok {q : Lg} (h : Ok q) (n t s : Int) : Ok (sentE q n t s).1 := by
  unfold sentE
  by_cases h1 : sendB n t s = false
  · rw [if_pos h1]; exact h
  rw [if_neg h1]
  by_cases h2 : n ≤ q.last ∨ t < q.time
  · rw [if_pos h2]; exact h
  rw [if_neg h2]
  by_cases h3 : 512 ≤ q.l.length
  · rw [if_pos h3]; exact h
  rw [if_neg h3]
  have hs : (0 ≤ n ∧ n ≤ 4611686018427387903) ∧ (0 ≤ t ∧ t ≤ 1099511627776) ∧ 1 ≤ s ∧ s ≤ 1200 := by
    simp only [sendB, nowB, Bool.not_eq_false, Bool.and_eq_true, within_iff] at h1; exact ⟨h1.1.1, h1.1.2, h1.2⟩
  obtain ⟨hu, he, hl, ht, hb, hf⟩ := h
  refine ⟨hu.snoc fun p hp => ?_, fun p hp => ?_, ?_, ?_, ?_, ?_⟩
  · have := he p hp; simp only; omega
  · rcases List.mem_append.1 hp with hp | hp
    · have := he p hp; simp only; omega
    · rw [List.mem_singleton] at hp; subst hp; simp only; omega
  · simp only; omega
  · simp only; omega
  · simp only; omega
  · simp only [List.length_append, List.length_singleton]; omega
theorem Ok.filt {q : Lg} (h : Ok q) (f : Pk → Bool) : Ok ⟨q.l.filter f, q.last, q.time, q.big⟩ :=
  ⟨h.up.filter f, fun p hp => h.each p (List.mem_filter.1 hp).1, h.last, h.time, h.big, Nat.le_trans (List.length_filter_le _ _) h.few⟩
theorem lose_ok {q : Lg} (h : Ok q) (now wait : Int) : Ok (loseE q now wait).1 := by
  unfold loseE
  split
  · exact h
  · exact h.filt _
theorem drop_ok {q : Lg} (h : Ok q) : Ok (dropE q).1 := ⟨List.Pairwise.nil, fun p hp => (by cases hp), h.last, h.time, h.big, Nat.zero_le _⟩
theorem top_in {ss : List (Int × Int)} {l : Int} (h : riseB l ss = true) (h0 : ss ≠ []) : l ≤ topI ss ∧ topI ss ≤ 4611686018427387903 := by
  have hl := List.length_pos_iff.2 h0
  have hm : ss.getD (ss.length - 1) (0, 0) ∈ ss := by
    rw [List.getD_eq_getElem?_getD, List.getElem?_eq_getElem (by omega)]; exact List.getElem_mem (by omega)
  have := rise_mem h _ hm
  unfold topI; omega
theorem came_ok {q : Lg} (h : Ok q) {ss : List (Int × Int)} (hr : riseB 0 ss = true) (h0 : ss ≠ []) (ht : topI ss ≤ q.last) : Ok (cameQ q ss) := by
  have := top_in hr h0
  have h' := h.filt fun p => !inB p.n ss
  refine ⟨h'.up, h'.each, h.last, h.time, ?_, h'.few⟩
  have := h.big
  unfold cameQ; simp only; omega
theorem ack_ok {q : Lg} (h : Ok q) (ss : List (Int × Int)) (now wait : Int) : Ok (ackE q ss now wait).1 := by
  unfold ackE
  by_cases h1 : ackB ss now wait = false
  · rw [if_pos h1]; exact h
  rw [if_neg h1]
  by_cases h2 : q.last < topI ss
  · rw [if_pos h2]; exact h
  rw [if_neg h2]
  have hr : (ss ≠ [] ∧ rightB ss = true) ∧ waitsB now wait = true := by
    simpa only [ackB, Bool.not_eq_false, Bool.and_eq_true, decide_eq_true_eq] using h1
  have hR : ss.length ≤ 256 ∧ riseB 0 ss = true := by simpa [rightB] using hr.1.2
  exact lose_ok (came_ok h hR.2 hr.1.1 (by omega)) now wait

/-! ### due, in whatever order -/
/-- d IS when the first of those of l below big is lost by its time, or -1 -/
def DueIs (big wait : Int) (l : List Pk) (d : Int) : Prop :=
  (d = -1 ∧ ∀ p ∈ l, ¬ p.n < big) ∨ (0 ≤ d ∧ (∃ p ∈ l, p.n < big ∧ d = p.t + wait) ∧ ∀ p ∈ l, p.n < big → d ≤ p.t + wait)
theorem due_nil (big wait : Int) : DueIs big wait [] (-1) := .inl ⟨rfl, fun p hp => by cases hp⟩
theorem due_snoc {big wait d : Int} {l : List Pk} {p : Pk} (h : DueIs big wait l d) (hp : 0 ≤ p.t + wait) : DueIs big wait (l ++ [p]) (dueF big wait d p) := by
  have mem : ∀ x, x ∈ l ++ [p] ↔ x ∈ l ∨ x = p := fun x => by simp
  unfold dueF
  by_cases hb : p.n < big
  · rcases h with ⟨rfl, h⟩ | ⟨h0, ⟨p1, hp1, hb1, rfl⟩, hm⟩
    · rw [if_pos ⟨hb, .inl (by omega)⟩]
      refine .inr ⟨hp, ⟨p, (mem p).2 (.inr rfl), hb, rfl⟩, fun x hx hxb => ?_⟩
      rcases (mem x).1 hx with hx | rfl
      · exact absurd hxb (h x hx)
      · exact Int.le_refl _
    · by_cases hlt : p.t + wait < p1.t + wait
      · rw [if_pos ⟨hb, .inr hlt⟩]
        refine .inr ⟨hp, ⟨p, (mem p).2 (.inr rfl), hb, rfl⟩, fun x hx hxb => ?_⟩
        rcases (mem x).1 hx with hx | rfl
        · have := hm x hx hxb; omega
        · exact Int.le_refl _
      · rw [if_neg (by rintro ⟨_, h | h⟩ <;> omega)]
        refine .inr ⟨h0, ⟨p1, (mem p1).2 (.inl hp1), hb1, rfl⟩, fun x hx hxb => ?_⟩
        rcases (mem x).1 hx with hx | rfl
        · exact hm x hx hxb
        · omega
  · rw [if_neg (fun h => hb h.1)]
    rcases h with ⟨rfl, h⟩ | ⟨h0, ⟨p1, hp1, hb1, rfl⟩, hm⟩
    · exact .inl ⟨rfl, fun x hx => by
      rcases (mem x).1 hx with hx | rfl
      · exact h x hx
      · exact hb⟩
    · refine .inr ⟨h0, ⟨p1, (mem p1).2 (.inl hp1), hb1, rfl⟩, fun x hx hxb => ?_⟩
      rcases (mem x).1 hx with hx | rfl
      · exact hm x hx hxb
      · exact absurd hxb hb
theorem due_perm {big wait d : Int} {l l' : List Pk} (h : DueIs big wait l d) (hp : l.Perm l') : DueIs big wait l' d := by
  rcases h with ⟨rfl, h⟩ | ⟨h0, ⟨p1, hp1, hb1, rfl⟩, hm⟩
  · exact .inl ⟨rfl, fun x hx => h x (hp.mem_iff.2 hx)⟩
  · exact .inr ⟨h0, ⟨p1, hp.mem_iff.1 hp1, hb1, rfl⟩, fun x hx => hm x (hp.mem_iff.2 hx)⟩
theorem due_one {big wait d e : Int} {l : List Pk} (h : DueIs big wait l d) (k : DueIs big wait l e) : d = e := by
  rcases h with ⟨rfl, h⟩ | ⟨h0, ⟨p1, hp1, hb1, rfl⟩, hm⟩ <;> rcases k with ⟨rfl, k⟩ | ⟨k0, ⟨p2, hp2, hb2, rfl⟩, km⟩
  · rfl
  · exact absurd hb2 (h p2 hp2)
  · exact absurd hb1 (k p1 hp1)
  · have := hm p2 hp2 hb2; have := km p1 hp1 hb1; omega
theorem due_fold {big wait : Int} : ∀ (l l0 : List Pk) (d : Int), DueIs big wait l0 d → (∀ p ∈ l, 0 ≤ p.t + wait) → DueIs big wait (l0 ++ l) (l.foldl (dueF big wait) d)
  | [], l0, d, h, _ => by simpa using h
  | p :: r, l0, d, h, hp => by
    have := due_fold r (l0 ++ [p]) _ (due_snoc h (hp p (by simp))) (fun x hx => hp x (by simp [hx]))
    simpa using this
theorem due_is {q : Lg} (h : Ok q) {wait : Int} (hw : waitB wait = true) : DueIs q.big wait q.l (dueE q wait) := by
  have hw' : 1 ≤ wait := (within_iff.1 hw).1
  unfold dueE
  rw [if_neg (by rw [hw]; decide)]
  have := due_fold (big := q.big) (wait := wait) q.l [] (-1) (due_nil _ _) (fun p hp => by have := h.each p hp; omega)
  simpa using this

/-! ### what of a list goes, and what stays -/
theorem part_done {gs l' l : List Pk} {f : Pk → Bool} (hp : (gs ++ l').Perm l) (hs : l'.Sublist l) (hg : ∀ p ∈ gs, f p = true) (hl : ∀ p ∈ l', f p = false) :
    gs.Perm (l.filter f) ∧ l' = l.filter (fun p => !f p) := by
  have e1 : gs.filter f = gs := List.filter_eq_self.2 hg
  have e2 : l'.filter f = [] := List.filter_eq_nil_iff.2 fun p hp => by rw [hl p hp]; decide
  have e3 : gs.filter (fun p => !f p) = [] := List.filter_eq_nil_iff.2 fun p hp => by rw [hg p hp]; decide
  have e4 : l'.filter (fun p => !f p) = l' := List.filter_eq_self.2 fun p hp => by rw [hl p hp]; rfl
  constructor
  · have := hp.filter f
    rwa [List.filter_append, e1, e2, List.append_nil] at this
  · have k := hp.filter (fun p => !f p)
    rw [List.filter_append, e3, e4, List.nil_append] at k
    have s := hs.filter (fun p => !f p)
    rw [e4] at s
    exact s.eq_of_length k.length_eq
end Go.Proofs.Ytobalbaieakcmaa
