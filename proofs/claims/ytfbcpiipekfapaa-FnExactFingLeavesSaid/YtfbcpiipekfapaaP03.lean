/-
  Chapter 3 in plain Lean: nodes as strings, trees as lists of levels, pushing, popping, concatenating. No program here. Own work.
-/
import Derived.PlainAid
namespace Go.Proofs.Ytfbcpiipekfapaa.P
set_option linter.unusedVariables false


abbrev Str := List UInt8

/-- The node made of others. -/
def nd (ks : List Str) : Str := 40 :: (ks.flatten ++ [41])

/-- Nodes of depth d. -/
def Node : Nat → Str → Prop
  | 0, s => s = [120]
  | d + 1, s => ∃ ks : List Str, (ks.length = 2 ∨ ks.length = 3) ∧ (∀ k ∈ ks, Node d k) ∧ s = nd ks

/-- How many are opened and not closed. -/
def bal (s : Str) : Int := (s.count 40 : Int) - (s.count 41 : Int)

theorem bal_append (a b : Str) : bal (a ++ b) = bal a + bal b := by unfold bal; rw [List.count_append, List.count_append]; omega
theorem bal_nil : bal [] = 0 := rfl
theorem bal_cons (c : UInt8) (a : Str) : bal (c :: a) = bal [c] + bal a := bal_append [c] a
theorem bal_open : bal [40] = 1 := by decide
theorem bal_close : bal [41] = -1 := by decide
theorem bal_leaf : bal [120] = 0 := by decide

/-- Balanced, and no shorter piece from its start is. -/
structure Good (s : Str) : Prop where
  ne : s ≠ []
  zero : bal s = 0
  pos : ∀ p q, s = p ++ q → p ≠ [] → q ≠ [] → 0 < bal p
  chars : ∀ c ∈ s, c = 40 ∨ c = 41 ∨ c = 120

theorem good_leaf : Good [120] := by
  refine ⟨by simp, by decide, ?_, by simp⟩
  intro p q h hp hq
  have h2 := congrArg List.length h
  rw [List.length_append] at h2
  have := List.length_pos_iff.2 hp
  have := List.length_pos_iff.2 hq
  simp at h2
  omega

theorem flat_bal {ks : List Str} (h : ∀ k ∈ ks, Good k) : bal ks.flatten = 0 := by
  induction ks with
  | nil => rfl
  | cons k t ih =>
    rw [List.flatten_cons, bal_append, (h k (by simp)).zero, ih (fun x hx => h x (by simp [hx]))]
    rfl

theorem flat_pre {ks : List Str} (h : ∀ k ∈ ks, Good k) : ∀ p q, ks.flatten = p ++ q → 0 ≤ bal p := by
  induction ks with
  | nil =>
    intro p q e
    have : p = [] := by simp at e; exact e.1
    subst this
    exact Int.le_refl _
  | cons k t ih =>
    intro p q e
    rw [List.flatten_cons, List.append_eq_append_iff] at e
    have hk := h k (by simp)
    rcases e with ⟨c, e1, e2⟩ | ⟨c, e1, e2⟩
    · have := ih (fun x hx => h x (by simp [hx])) c q e2
      rw [e1, bal_append, hk.zero]
      omega
    · by_cases hp : p = []
      · subst hp; exact Int.le_refl _
      · by_cases hc : c = []
        · subst hc
          rw [List.append_nil] at e1
          rw [← e1, hk.zero]
          exact Int.le_refl _
        · exact Int.le_of_lt (hk.pos p c e1 hp hc)

theorem flat_chars {ks : List Str} (h : ∀ k ∈ ks, Good k) : ∀ c ∈ ks.flatten, c = 40 ∨ c = 41 ∨ c = 120 := by
  intro c hc
  obtain ⟨k, hk, hck⟩ := List.mem_flatten.1 hc
  exact (h k hk).chars c hck

theorem good_nd {ks : List Str} (h : ∀ k ∈ ks, Good k) : Good (nd ks) := by
  refine ⟨by simp [nd], ?_, ?_, ?_⟩
  · unfold nd
    rw [bal_cons, bal_append, flat_bal h, bal_open, bal_close]
    rfl
  · intro p q e hp hq
    cases p with
    | nil => exact absurd rfl hp
    | cons c p =>
      unfold nd at e
      rw [List.cons_append, List.cons.injEq] at e
      obtain ⟨rfl, e⟩ := e
      rw [bal_cons, bal_open]
      suffices 0 ≤ bal p by omega
      rw [List.append_eq_append_iff] at e
      rcases e with ⟨c, e1, e2⟩ | ⟨c, e1, e2⟩
      · cases c with
        | nil => rw [List.append_nil] at e1; rw [e1, flat_bal h]; exact Int.le_refl _
        | cons x c =>
          exfalso
          have h7 := congrArg List.length e2
          rw [List.length_append, List.length_singleton, List.length_cons] at h7
          have := List.length_pos_iff.2 hq
          omega
      · exact flat_pre h p c e1
  · intro c hc
    unfold nd at hc
    simp only [List.mem_cons, List.mem_append, List.mem_nil_iff, or_false] at hc
    rcases hc with h1 | h1 | h1
    · exact .inl h1
    · exact flat_chars h c h1
    · exact .inr (.inl h1)

theorem Node.good : ∀ {d : Nat} {s : Str}, Node d s → Good s := by
  intro d
  induction d with
  | zero => intro s h; unfold Node at h; rw [h]; exact good_leaf
  | succ d ih => intro s h; obtain ⟨ks, _, h2, rfl⟩ := h; exact good_nd (fun k hk => ih (h2 k hk))

theorem good_prefix {a b u v : Str} (ha : Good a) (hb : Good b) (e : a ++ u = b ++ v) : a = b ∧ u = v := by
  rw [List.append_eq_append_iff] at e
  rcases e with ⟨c, e1, e2⟩ | ⟨c, e1, e2⟩
  · by_cases hc : c = []
    · subst hc; exact ⟨by simpa using e1.symm, by simpa using e2⟩
    · have := hb.pos a c e1 ha.ne hc
      rw [ha.zero] at this
      omega
  · by_cases hc : c = []
    · subst hc; exact ⟨by simpa using e1, by simpa using e2.symm⟩
    · have := ha.pos b c e1 hb.ne hc
      rw [hb.zero] at this
      omega

theorem good_flat_inj : ∀ {as bs : List Str}, (∀ k ∈ as, Good k) → (∀ k ∈ bs, Good k) → as.flatten = bs.flatten → as = bs := by
  intro as
  induction as with
  | nil =>
    intro bs _ hb e
    cases bs with
    | nil => rfl
    | cons b t =>
      exfalso
      rw [List.flatten_nil, List.flatten_cons] at e
      have := (hb b (by simp)).ne
      have h2 := congrArg List.length e
      rw [List.length_append] at h2
      have := List.length_pos_iff.2 this
      simp at h2
      omega
  | cons a t ih =>
    intro bs ha hb e
    cases bs with
    | nil =>
      exfalso
      rw [List.flatten_nil, List.flatten_cons] at e
      have := (ha a (by simp)).ne
      have h2 := congrArg List.length e
      rw [List.length_append, List.length_nil] at h2
      have := List.length_pos_iff.2 this
      omega
    | cons b u =>
      rw [List.flatten_cons, List.flatten_cons] at e
      obtain ⟨e1, e2⟩ := good_prefix (ha a (by simp)) (hb b (by simp)) e
      rw [e1, ih (fun x hx => ha x (by simp [hx])) (fun x hx => hb x (by simp [hx])) e2]

theorem nd_inj {as bs : List Str} (ha : ∀ k ∈ as, Good k) (hb : ∀ k ∈ bs, Good k) (e : nd as = nd bs) : as = bs := by
  unfold nd at e
  rw [List.cons.injEq, List.append_cancel_right_eq] at e
  exact good_flat_inj ha hb e.2

/-- The children of a node: what is written in it. -/
noncomputable def kids (s : Str) : List Str := @dite _ (∃ js : List Str, (∀ j ∈ js, Good j) ∧ s = nd js) (Classical.propDecidable _) (fun h => Classical.choose h) (fun _ => [])

theorem kids_nd {ks : List Str} (h : ∀ k ∈ ks, Good k) : kids (nd ks) = ks := by
  unfold kids
  have hx : ∃ js : List Str, (∀ j ∈ js, Good j) ∧ nd ks = nd js := ⟨ks, h, rfl⟩
  rw [dif_pos hx]
  have := Classical.choose_spec hx
  exact (nd_inj h this.1 this.2).symm

theorem kids_none {s : Str} (h : ¬ ∃ js : List Str, (∀ j ∈ js, Good j) ∧ s = nd js) : kids s = [] := by
  unfold kids
  rw [dif_neg h]

theorem kids_some {s : Str} (h : kids s ≠ []) : (∀ k ∈ kids s, Good k) ∧ s = nd (kids s) := by
  by_cases hx : ∃ js : List Str, (∀ j ∈ js, Good j) ∧ s = nd js
  · obtain ⟨js, h1, rfl⟩ := hx
    rw [kids_nd h1]
    exact ⟨h1, rfl⟩
  · exact absurd (kids_none hx) h

theorem node_succ {d : Nat} {s : Str} : Node (d + 1) s ↔ ((kids s).length = 2 ∨ (kids s).length = 3) ∧ ∀ k ∈ kids s, Node d k := by
  constructor
  · rintro ⟨ks, h1, h2, rfl⟩
    rw [kids_nd (fun k hk => (h2 k hk).good)]
    exact ⟨h1, h2⟩
  · rintro ⟨h1, h2⟩
    have hne : kids s ≠ [] := by
      intro e
      rw [e] at h1
      simp at h1
    exact ⟨kids s, h1, h2, (kids_some hne).2⟩

/-- The leaves of a shape. -/
def lv (s : Str) : Nat := s.count 120

theorem lv_append (a b : Str) : lv (a ++ b) = lv a + lv b := List.count_append
theorem lv_nd (ks : List Str) : lv (nd ks) = lv ks.flatten := by
  unfold lv nd
  rw [List.count_cons, List.count_append]
  simp

theorem lv_flat_ge (n : Nat) : ∀ {ks : List Str}, (∀ k ∈ ks, n ≤ lv k) → n * ks.length ≤ lv ks.flatten := by
  intro ks
  induction ks with
  | nil => intro _; simp
  | cons k t ih =>
    intro h
    rw [List.flatten_cons, lv_append, List.length_cons, Nat.mul_add]
    have := ih (fun x hx => h x (by simp [hx]))
    have := h k (by simp)
    omega

theorem node_pow : ∀ {d : Nat} {s : Str}, Node d s → 2 ^ d ≤ lv s := by
  intro d
  induction d with
  | zero => intro s h; unfold Node at h; subst h; decide
  | succ d ih =>
    rintro s ⟨ks, h1, h2, rfl⟩
    rw [lv_nd]
    have := lv_flat_ge (2 ^ d) (fun k hk => ih (h2 k hk))
    have h3 : 2 ^ d * 2 ≤ 2 ^ d * ks.length := Nat.mul_le_mul_left _ (by omega)
    rw [Nat.pow_succ]
    omega

theorem node_depth {d : Nat} {s : Str} (h : Node d s) (hl : lv s ≤ 200) : d ≤ 7 := by
  have := node_pow h
  by_cases h8 : d ≤ 7
  · exact h8
  · have : 2 ^ 8 ≤ 2 ^ d := Nat.pow_le_pow_right (by omega) (by omega)
    omega

theorem node_lv {d : Nat} {s : Str} (h : Node d s) : 1 ≤ lv s := by
  have := node_pow h
  have := Nat.one_le_two_pow (n := d)
  omega

theorem nflat_len : ∀ {ks : List Str}, (∀ k ∈ ks, k.length + 2 ≤ 3 * lv k) → ks.flatten.length + 2 * ks.length ≤ 3 * lv ks.flatten := by
  intro ks
  induction ks with
  | nil => intro _; simp
  | cons k t ih =>
    intro h
    rw [List.flatten_cons, lv_append, List.length_cons, List.length_append]
    have := ih (fun x hx => h x (by simp [hx]))
    have := h k (by simp)
    omega

theorem node_len : ∀ {d : Nat} {s : Str}, Node d s → s.length + 2 ≤ 3 * lv s := by
  intro d
  induction d with
  | zero => intro s h; unfold Node at h; subst h; decide
  | succ d ih =>
    rintro s ⟨ks, h1, h2, rfl⟩
    rw [lv_nd]
    have := nflat_len (fun k hk => ih (h2 k hk))
    unfold nd
    simp only [List.length_cons, List.length_append, List.length_nil]
    omega

/-- Is s a node of depth d of at most 200 leaves? -/
def ShapeP (s : Str) (d : Int) : Prop := 0 ≤ d ∧ Node d.toNat s ∧ lv s ≤ 200
noncomputable def shapeB (s : Str) (d : Int) : Bool := @decide (ShapeP s d) (Classical.propDecidable _)
theorem shapeB_iff {s : Str} {d : Int} : shapeB s d = true ↔ ShapeP s d := by unfold shapeB; exact @decide_eq_true_iff _ (Classical.propDecidable _)
theorem shapeB_false {s : Str} {d : Int} : shapeB s d = false ↔ ¬ ShapeP s d := by
  rw [← shapeB_iff]; simp

/-! ### reading a node off the front -/
def Aft (d : Nat) (s r : Str) : Prop := ∃ n, Node d n ∧ s = n ++ r

theorem Aft.det {d : Nat} {s r t : Str} (h : Aft d s r) (k : Aft d s t) : r = t := by
  obtain ⟨n, hn, rfl⟩ := h
  obtain ⟨m, hm, e⟩ := k
  exact (good_prefix hn.good hm.good e).2

theorem node_head {d : Nat} {s : Str} (h : Node d s) : ∃ c t, s = c :: t ∧ (c = 40 ∨ c = 120) := by
  cases d with
  | zero => exact ⟨120, [], h, .inr rfl⟩
  | succ d => obtain ⟨ks, _, _, rfl⟩ := h; exact ⟨40, _, rfl, .inl rfl⟩

/-- Two readings of one string agree as far as both go. -/
theorem parse_agree {d : Nat} : ∀ (ks js : List Str) (r t : Str), (∀ k ∈ ks, Node d k) → (∀ k ∈ js, Node d k) → ks.flatten ++ r = js.flatten ++ 41 :: t →
    ks.length ≤ js.length ∧ r = (js.drop ks.length).flatten ++ 41 :: t := by
  intro ks
  induction ks with
  | nil => intro js r t _ _ e; exact ⟨Nat.zero_le _, by simpa using e⟩
  | cons k ks ih =>
    intro js r t hk hj e
    cases js with
    | nil =>
      exfalso
      obtain ⟨c, u, e1, e2⟩ := node_head (hk k (by simp))
      rw [List.flatten_cons, List.flatten_nil, e1] at e
      simp at e
      rcases e2 with h | h <;> rw [h] at e <;> exact absurd e.1 (by decide)
    | cons j js =>
      rw [List.flatten_cons, List.flatten_cons, List.append_assoc, List.append_assoc] at e
      obtain ⟨e1, e2⟩ := good_prefix (hk k (by simp)).good (hj j (by simp)).good e
      obtain ⟨h1, h2⟩ := ih js r t (fun x hx => hk x (by simp [hx])) (fun x hx => hj x (by simp [hx])) e2
      exact ⟨by simp; omega, by simpa using h2⟩

/-- The reading of a deeper node: what was found, and why it ended. -/
theorem aft_succ {d : Nat} {s r : Str} {ks : List Str} (hs : s = 40 :: (ks.flatten ++ r)) (hk : ∀ k ∈ ks, Node d k) (h3 : ks.length ≤ 3) (hend : ks.length = 3 ∨ ¬ ∃ t, Aft d r t) (t : Str) :
    Aft (d + 1) s t ↔ 2 ≤ ks.length ∧ r = 41 :: t := by
  constructor
  · rintro ⟨n, ⟨js, h1, h2, rfl⟩, e⟩
    have e' : ks.flatten ++ r = js.flatten ++ 41 :: t := by
      rw [hs] at e
      unfold nd at e
      simpa using e
    obtain ⟨hl, hr⟩ := parse_agree ks js r t hk h2 e'
    have hend' : ks.length = js.length := by
      rcases hend with h | h
      · omega
      · by_cases hlt : ks.length < js.length
        · exfalso
          apply h
          rw [List.drop_eq_getElem_cons hlt, List.flatten_cons, List.append_assoc] at hr
          exact ⟨_, js[ks.length], h2 _ (List.getElem_mem hlt), hr⟩
        · omega
    refine ⟨by omega, ?_⟩
    rw [hr, hend', List.drop_length]
    rfl
  · rintro ⟨h1, rfl⟩
    refine ⟨nd ks, ⟨ks, by omega, hk, rfl⟩, ?_⟩
    rw [hs]
    unfold nd
    simp

theorem aft_zero {s r : Str} : Aft 0 s r ↔ s = 120 :: r := by
  constructor
  · rintro ⟨n, h, rfl⟩
    unfold Node at h
    subst h
    rfl
  · rintro rfl
    exact ⟨[120], rfl, rfl⟩

theorem aft_no_open {d : Nat} {s t : Str} (h : ∀ u, s ≠ 40 :: u) : ¬ Aft (d + 1) s t := by
  rintro ⟨n, ⟨js, _, _, rfl⟩, e⟩
  exact h _ (by rw [e]; rfl)

theorem shape_aft {s : Str} {d : Nat} (hl : lv s ≤ 200) : ShapeP s (d : Int) ↔ Aft d s [] := by
  unfold ShapeP Aft
  constructor
  · rintro ⟨_, h, _⟩
    exact ⟨s, h, by simp⟩
  · rintro ⟨n, h, e⟩
    rw [List.append_nil] at e
    subst e
    exact ⟨by omega, h, hl⟩

/-! ### trees as lists of levels -/
abbrev Lv := List Str × List Str
def sing (l : Lv) : Bool := decide (l.1.length = 1 ∧ l.2.length = 0)

def ahead : List Lv → Str → List Lv
  | [], s => [([s], [])]
  | l :: t, s => if sing l then ([s], l.1) :: t else if l.1.length < 4 then (s :: l.1, l.2) :: t else ([s, l.1.headD []], l.2) :: ahead t (nd (l.1.drop 1))
def behind : List Lv → Str → List Lv
  | [], s => [([s], [])]
  | l :: t, s => if sing l then (l.1, [s]) :: t else if l.2.length < 4 then (l.1, l.2 ++ [s]) :: t else (l.1, [l.2.getD 3 [], s]) :: behind t (nd (l.2.take 3))

def parts (k : List Str) : List Lv := if k.length = 1 then [(k, [])] else [(k.take ((k.length + 1) / 2), k.drop ((k.length + 1) / 2))]

noncomputable def popF : List Lv → Str × List Lv
  | [] => ([], [])
  | l :: t => (l.1.headD [], if sing l then [] else if 1 < l.1.length then (l.1.drop 1, l.2) :: t else if t = [] then parts l.2 else (kids (popF t).1, l.2) :: (popF t).2)
noncomputable def popL : List Lv → Str × List Lv
  | [] => ([], [])
  | l :: t => (if sing l then l.1.headD [] else l.2.getLastD [], if sing l then [] else if 1 < l.2.length then (l.1, l.2.dropLast) :: t else if t = [] then parts l.1 else (l.1, kids (popL t).1) :: (popL t).2)

def group : List Str → List Str
  | [] => []
  | [a] => [nd [a]]
  | [a, b] => [nd [a, b]]
  | [a, b, c] => [nd [a, b, c]]
  | [a, b, c, d] => [nd [a, b], nd [c, d]]
  | a :: b :: c :: d :: e :: t => nd [a, b, c] :: group (d :: e :: t)

def pushF (b : List Lv) (ms : List Str) : List Lv := ms.foldr (fun m b => ahead b m) b
def pushB (a : List Lv) (ms : List Str) : List Lv := ms.foldl behind a
def cat : List Lv → List Str → List Lv → List Lv
  | [], m, b => pushF b m
  | x :: a, m, [] => pushB (x :: a) m
  | x :: a, m, y :: b => if sing x then pushF (y :: b) (x.1 ++ m) else if sing y then pushB (x :: a) (m ++ y.1) else (x.1, y.2) :: cat a (group (x.2 ++ m ++ y.1)) b

/-- A level of a digit at either end, or of one node. -/
structure LOk (l : Lv) : Prop where
  a1 : 1 ≤ l.1.length
  a4 : l.1.length ≤ 4
  b4 : l.2.length ≤ 4
  b0 : l.2.length = 0 → l.1.length = 1
def LsOk (ls : List Lv) : Prop := ∀ l ∈ ls, LOk l

theorem LOk.sing_iff {l : Lv} (h : LOk l) : sing l = decide (l.2.length = 0) := by
  unfold sing
  rw [decide_eq_decide]
  constructor
  · exact fun x => x.2
  · exact fun x => ⟨h.b0 x, x⟩

theorem LOk.sing_true {l : Lv} (h : LOk l) (hs : sing l = true) : ∃ s, l = ([s], []) := by
  unfold sing at hs
  have hs := of_decide_eq_true hs
  obtain ⟨a, b⟩ := l
  match a, b, hs with
  | [s], [], _ => exact ⟨s, rfl⟩
theorem LOk.sing_false {l : Lv} (h : LOk l) (hs : sing l = false) : 1 ≤ l.2.length := by
  rw [h.sing_iff] at hs
  have := of_decide_eq_false hs
  omega

theorem lok_mk {a b : List Str} (h1 : 1 ≤ a.length) (h2 : a.length ≤ 4) (h3 : b.length ≤ 4) (h4 : 1 ≤ b.length ∨ a.length = 1) : LOk (a, b) := ⟨h1, h2, h3, fun h => by simp at h; rcases h4 with h4 | h4 <;> simp_all⟩

theorem lsok_cons {l : Lv} {t : List Lv} : LsOk (l :: t) ↔ LOk l ∧ LsOk t := by unfold LsOk; simp
theorem lsok_nil : LsOk [] := by unfold LsOk; simp

theorem ahead_ok : ∀ (ls : List Lv) (s : Str), LsOk ls → LsOk (ahead ls s) := by
  intro ls
  induction ls with
  | nil => intro s _; exact lsok_cons.2 ⟨lok_mk (by simp) (by simp) (by simp) (by simp), lsok_nil⟩
  | cons l t ih =>
    intro s h
    obtain ⟨h1, h2⟩ := lsok_cons.1 h
    unfold ahead
    by_cases hs : sing l = true
    · rw [if_pos hs]
      exact lsok_cons.2 ⟨lok_mk (by simp) (by simp) h1.a4 (.inl h1.a1), h2⟩
    · rw [if_neg hs]
      have hb := h1.sing_false (by simpa using hs)
      have h4 := h1.b4
      by_cases h5 : l.1.length < 4
      · rw [if_pos h5]
        exact lsok_cons.2 ⟨lok_mk (by simp) (by simp; omega) h4 (.inl hb), h2⟩
      · rw [if_neg h5]
        exact lsok_cons.2 ⟨lok_mk (by simp) (by simp) h4 (.inl hb), ih _ h2⟩

theorem behind_ok : ∀ (ls : List Lv) (s : Str), LsOk ls → LsOk (behind ls s) := by
  intro ls
  induction ls with
  | nil => intro s _; exact lsok_cons.2 ⟨lok_mk (by simp) (by simp) (by simp) (by simp), lsok_nil⟩
  | cons l t ih =>
    intro s h
    obtain ⟨h1, h2⟩ := lsok_cons.1 h
    unfold behind
    by_cases hs : sing l = true
    · rw [if_pos hs]
      exact lsok_cons.2 ⟨lok_mk h1.a1 h1.a4 (by simp) (by simp), h2⟩
    · rw [if_neg hs]
      by_cases h5 : l.2.length < 4
      · rw [if_pos h5]
        exact lsok_cons.2 ⟨lok_mk h1.a1 h1.a4 (by simp; omega) (by simp), h2⟩
      · rw [if_neg h5]
        exact lsok_cons.2 ⟨lok_mk h1.a1 h1.a4 (by simp) (by simp), ih _ h2⟩

theorem pushF_ok (b : List Lv) (ms : List Str) (h : LsOk b) : LsOk (pushF b ms) := by
  unfold pushF
  induction ms with
  | nil => exact h
  | cons m t ih => exact ahead_ok _ _ ih
theorem pushB_ok : ∀ (ms : List Str) (a : List Lv), LsOk a → LsOk (pushB a ms) := by
  intro ms
  unfold pushB
  induction ms with
  | nil => intro a h; exact h
  | cons m t ih => intro a h; exact ih _ (behind_ok _ _ h)

theorem cat_ok : ∀ (a : List Lv) (m : List Str) (b : List Lv), LsOk a → LsOk b → LsOk (cat a m b) := by
  intro a
  induction a with
  | nil => intro m b _ hb; unfold cat; exact pushF_ok _ _ hb
  | cons x a ih =>
    intro m b ha hb
    cases b with
    | nil => unfold cat; exact pushB_ok _ _ ha
    | cons y b =>
      unfold cat
      obtain ⟨h1, h2⟩ := lsok_cons.1 ha
      obtain ⟨h3, h4⟩ := lsok_cons.1 hb
      split
      · exact pushF_ok _ _ hb
      · rename_i hx
        split
        · exact pushB_ok _ _ ha
        · rename_i hy
          have := h3.sing_false (by simpa using hy)
          exact lsok_cons.2 ⟨lok_mk h1.a1 h1.a4 h3.b4 (.inl this), ih _ _ h2 h4⟩

theorem group_big {l : List Str} (h : 5 ≤ l.length) : group l = nd (l.take 3) :: group (l.drop 3) := by
  match l, h with
  | a :: b :: c :: d :: e :: t, _ => rw [group]; rfl

theorem group_length : ∀ (n : Nat) (l : List Str), l.length ≤ n → 2 ≤ l.length → 2 * (group l).length ≤ l.length ∧ 1 ≤ (group l).length := by
  intro n
  induction n with
  | zero => intro l h1 h2; omega
  | succ n ih =>
    intro l h1 h2
    by_cases h5 : 5 ≤ l.length
    · rw [group_big h5]
      have := ih (l.drop 3) (by rw [List.length_drop]; omega) (by rw [List.length_drop]; omega)
      rw [List.length_drop] at this
      simp only [List.length_cons]
      omega
    · match l, h2, h5 with
      | [a, b], _, _ => simp [group]
      | [a, b, c], _, _ => simp [group]
      | [a, b, c, d], _, _ => simp [group]
      | a :: b :: c :: d :: e :: t, _, h5 => simp at h5

/-! ### valid trees -/
def leaves : List Lv → Nat
  | [] => 0
  | l :: t => lv l.1.flatten + lv l.2.flatten + leaves t
def Form : List Lv → Prop
  | [] => True
  | l :: t => (((1 ≤ l.1.length ∧ l.1.length ≤ 4) ∧ (1 ≤ l.2.length ∧ l.2.length ≤ 4)) ∨ (sing l = true ∧ t = [])) ∧ Form t
def Nds : Nat → List Lv → Prop
  | _, [] => True
  | d, l :: t => (∀ s ∈ l.1, Node d s) ∧ (∀ s ∈ l.2, Node d s) ∧ Nds (d + 1) t
structure FOk (ls : List Lv) : Prop where
  form : Form ls
  nds : Nds 0 ls
  few : leaves ls ≤ 200

theorem Form.ls : ∀ {ls : List Lv}, Form ls → LsOk ls := by
  intro ls
  induction ls with
  | nil => intro _; exact lsok_nil
  | cons l t ih =>
    intro h
    refine lsok_cons.2 ⟨?_, ih h.2⟩
    rcases h.1 with h1 | h1
    · exact lok_mk h1.1.1 h1.1.2 h1.2.2 (.inl h1.2.1)
    · have := h1.1
      unfold sing at this
      have := of_decide_eq_true this
      exact lok_mk (by omega) (by omega) (by omega) (.inr this.1)

theorem leaves_append (a b : List Lv) : leaves (a ++ b) = leaves a + leaves b := by
  induction a with
  | nil => simp [leaves]
  | cons l t ih => rw [List.cons_append, leaves, leaves, ih]; omega

theorem flat_pos {ks : List Str} {d : Nat} (h : ∀ k ∈ ks, Node d k) (h1 : 1 ≤ ks.length) : 2 ^ d ≤ lv ks.flatten := by
  have := lv_flat_ge (2 ^ d) (fun k hk => node_pow (h k hk))
  have : 2 ^ d * 1 ≤ 2 ^ d * ks.length := Nat.mul_le_mul_left _ h1
  omega

/-- A tree of many levels has many leaves. -/
theorem levels_pow : ∀ (ls : List Lv) (d : Nat), LsOk ls → Nds d ls → ls ≠ [] → 2 ^ (d + ls.length - 1) ≤ leaves ls := by
  intro ls
  induction ls with
  | nil => intro d _ _ h; exact absurd rfl h
  | cons l t ih =>
    intro d h hn _
    obtain ⟨h1, h2⟩ := lsok_cons.1 h
    obtain ⟨n1, n2, n3⟩ := hn
    rw [leaves]
    by_cases ht : t = []
    · subst ht
      have := flat_pos n1 h1.a1
      simp only [List.length_cons, List.length_nil]
      rw [show d + (0 + 1) - 1 = d by omega]
      omega
    · have := ih (d + 1) h2 n3 ht
      rw [List.length_cons, show d + (t.length + 1) - 1 = d + 1 + t.length - 1 by omega]
      omega

theorem FOk.depth {ls : List Lv} (h : FOk ls) : ls.length ≤ 8 := by
  by_cases hn : ls = []
  · subst hn; simp
  · have h1 := levels_pow ls 0 h.form.ls h.nds hn
    have h2 := h.few
    by_cases h8 : ls.length ≤ 8
    · exact h8
    · have : 2 ^ 8 ≤ 2 ^ (0 + ls.length - 1) := Nat.pow_le_pow_right (by omega) (by omega)
      omega

theorem Form.at : ∀ {ls : List Lv}, Form ls → ∀ i (h : i < ls.length), ((1 ≤ ls[i].1.length ∧ ls[i].1.length ≤ 4) ∧ (1 ≤ ls[i].2.length ∧ ls[i].2.length ≤ 4)) ∨ (sing ls[i] = true ∧ i + 1 = ls.length) := by
  intro ls
  induction ls with
  | nil => intro _ i h; simp at h
  | cons l t ih =>
    intro h i hi
    cases i with
    | zero =>
      rcases h.1 with h1 | ⟨h1, h2⟩
      · exact .inl h1
      · subst h2; exact .inr ⟨h1, rfl⟩
    | succ i =>
      have := ih h.2 i (by simpa using hi)
      simpa using this
theorem Form.of : ∀ {ls : List Lv}, (∀ i (h : i < ls.length), ((1 ≤ ls[i].1.length ∧ ls[i].1.length ≤ 4) ∧ (1 ≤ ls[i].2.length ∧ ls[i].2.length ≤ 4)) ∨ (sing ls[i] = true ∧ i + 1 = ls.length)) → Form ls := by
  intro ls
  induction ls with
  | nil => intro _; trivial
  | cons l t ih =>
    intro h
    refine ⟨?_, ih (fun i hi => by have := h (i + 1) (by simpa using hi); simpa using this)⟩
    rcases h 0 (by simp) with h1 | ⟨h1, h2⟩
    · exact .inl h1
    · refine .inr ⟨h1, ?_⟩
      cases t with
      | nil => rfl
      | cons _ _ => simp at h2
theorem Nds.at : ∀ {ls : List Lv} {d : Nat}, Nds d ls → ∀ i (h : i < ls.length), (∀ s ∈ ls[i].1, Node (d + i) s) ∧ (∀ s ∈ ls[i].2, Node (d + i) s) := by
  intro ls
  induction ls with
  | nil => intro d _ i h; simp at h
  | cons l t ih =>
    intro d h i hi
    cases i with
    | zero => exact ⟨h.1, h.2.1⟩
    | succ i =>
      have := ih h.2.2 i (by simpa using hi)
      rw [show d + 1 + i = d + (i + 1) by omega] at this
      simpa using this
theorem Nds.of : ∀ {ls : List Lv} {d : Nat}, (∀ i (h : i < ls.length), (∀ s ∈ ls[i].1, Node (d + i) s) ∧ (∀ s ∈ ls[i].2, Node (d + i) s)) → Nds d ls := by
  intro ls
  induction ls with
  | nil => intro d _; trivial
  | cons l t ih =>
    intro d h
    refine ⟨(h 0 (by simp)).1, (h 0 (by simp)).2, ih (fun i hi => ?_)⟩
    have := h (i + 1) (by simpa using hi)
    rw [show d + 1 + i = d + (i + 1) by omega]
    simpa using this

noncomputable def fingB (ls : List Lv) : Bool := @decide (FOk ls) (Classical.propDecidable _)
theorem fingB_iff {ls : List Lv} : fingB ls = true ↔ FOk ls := by unfold fingB; exact @decide_eq_true_iff _ (Classical.propDecidable _)
theorem fingB_false {ls : List Lv} : fingB ls = false ↔ ¬ FOk ls := by rw [← fingB_iff]; simp

/-- The total of the signs of a tree. -/
def vol : List Lv → Nat
  | [] => 0
  | l :: t => l.1.flatten.length + l.2.flatten.length + vol t
theorem lv_le (s : Str) : lv s ≤ s.length := List.count_le_length
theorem leaves_le_size (ls : List Lv) : leaves ls ≤ vol ls := by
  induction ls with
  | nil => simp [leaves, vol]
  | cons l t ih => rw [leaves, vol]; have := lv_le l.1.flatten; have := lv_le l.2.flatten; omega
theorem FOk.len {ls : List Lv} {d : Nat} (h : Nds d ls) : vol ls ≤ 3 * leaves ls := by
  induction ls generalizing d with
  | nil => simp [leaves, vol]
  | cons l t ih =>
    rw [leaves, vol]
    have := ih h.2.2
    have := nflat_len (fun k hk => node_len (h.1 k hk))
    have := nflat_len (fun k hk => node_len (h.2.1 k hk))
    omega

/-! ### what pushing, popping and concatenating keep -/
theorem four {l : List Str} (h : ¬ l.length < 4) (h4 : l.length ≤ 4) : ∃ a b c e, l = [a, b, c, e] := by
  match l, h, h4 with
  | [a, b, c, e], _, _ => exact ⟨a, b, c, e, rfl⟩
  | a :: b :: c :: e :: f :: t, _, h4 => simp at h4
  | [], h, _ => simp at h
  | [_], h, _ => simp at h
  | [_, _], h, _ => simp at h
  | [_, _, _], h, _ => simp at h

theorem node3 {d : Nat} {a b c : Str} (ha : Node d a) (hb : Node d b) (hc : Node d c) : Node (d + 1) (nd [a, b, c]) :=
  ⟨[a, b, c], .inr rfl, by simp [ha, hb, hc], rfl⟩
theorem node2 {d : Nat} {a b : Str} (ha : Node d a) (hb : Node d b) : Node (d + 1) (nd [a, b]) :=
  ⟨[a, b], .inl rfl, by simp [ha, hb], rfl⟩

theorem lv_nil : lv [] = 0 := rfl
theorem lv_cons (a : Str) (t : List Str) : lv (a :: t).flatten = lv a + lv t.flatten := by rw [List.flatten_cons, lv_append]
theorem lv_app (a b : List Str) : lv (a ++ b).flatten = lv a.flatten + lv b.flatten := by rw [List.flatten_append, lv_append]

theorem ahead_all : ∀ (ls : List Lv) (d : Nat) (s : Str), Form ls → Nds d ls → Node d s → Form (ahead ls s) ∧ Nds d (ahead ls s) ∧ leaves (ahead ls s) = leaves ls + lv s := by
  intro ls
  induction ls with
  | nil =>
    intro d s _ _ hs
    refine ⟨⟨.inr ⟨rfl, rfl⟩, trivial⟩, ⟨by simpa using hs, by simp, trivial⟩, ?_⟩
    simp [ahead, leaves, lv_nil]
  | cons l t ih =>
    intro d s hf hn hs
    have hl := lsok_cons.1 hf.ls
    obtain ⟨n1, n2, n3⟩ := hn
    unfold ahead
    by_cases hsi : sing l = true
    · rw [if_pos hsi]
      obtain ⟨x, rfl⟩ := hl.1.sing_true hsi
      have ht : t = [] := by
        rcases hf.1 with h | h
        · simp at h
        · exact h.2
      subst ht
      refine ⟨⟨.inl ⟨by simp, by simp⟩, trivial⟩, ⟨by simpa using hs, n1, trivial⟩, ?_⟩
      simp [leaves, lv_nil]
      omega
    · rw [if_neg hsi]
      have hdeep : (1 ≤ l.1.length ∧ l.1.length ≤ 4) ∧ (1 ≤ l.2.length ∧ l.2.length ≤ 4) := by
        rcases hf.1 with h | h
        · exact h
        · exact absurd h.1 hsi
      by_cases h4 : l.1.length < 4
      · rw [if_pos h4]
        refine ⟨⟨.inl ⟨⟨by simp, by simp; omega⟩, hdeep.2⟩, hf.2⟩, ⟨?_, n2, n3⟩, ?_⟩
        · intro k hk
          rcases List.mem_cons.1 hk with rfl | hk
          · exact hs
          · exact n1 k hk
        · simp only [leaves, lv_cons]; omega
      · rw [if_neg h4]
        obtain ⟨a, b, c, e, he⟩ := four h4 hdeep.1.2
        obtain ⟨l1, l2⟩ := l
        simp only at he n1 n2 hdeep
        subst he
        have hnode : Node (d + 1) (nd [b, c, e]) := node3 (n1 b (by simp)) (n1 c (by simp)) (n1 e (by simp))
        obtain ⟨i1, i2, i3⟩ := ih (d + 1) (nd [b, c, e]) hf.2 n3 hnode
        refine ⟨⟨.inl ⟨by simp, hdeep.2⟩, i1⟩, ⟨?_, n2, i2⟩, ?_⟩
        · intro k hk
          simp at hk
          rcases hk with rfl | rfl
          · exact hs
          · exact n1 k (by simp)
        · show lv ([s, a] : List Str).flatten + lv l2.flatten + leaves (ahead t (nd [b, c, e])) = _
          rw [i3, lv_nd]
          simp only [leaves, lv_cons, List.flatten_nil, lv_nil]
          omega

theorem behind_all : ∀ (ls : List Lv) (d : Nat) (s : Str), Form ls → Nds d ls → Node d s → Form (behind ls s) ∧ Nds d (behind ls s) ∧ leaves (behind ls s) = leaves ls + lv s := by
  intro ls
  induction ls with
  | nil =>
    intro d s _ _ hs
    refine ⟨⟨.inr ⟨rfl, rfl⟩, trivial⟩, ⟨by simpa using hs, by simp, trivial⟩, ?_⟩
    simp [behind, leaves, lv_nil]
  | cons l t ih =>
    intro d s hf hn hs
    have hl := lsok_cons.1 hf.ls
    obtain ⟨n1, n2, n3⟩ := hn
    unfold behind
    by_cases hsi : sing l = true
    · rw [if_pos hsi]
      obtain ⟨x, rfl⟩ := hl.1.sing_true hsi
      have ht : t = [] := by
        rcases hf.1 with h | h
        · simp at h
        · exact h.2
      subst ht
      refine ⟨⟨.inl ⟨by simp, by simp⟩, trivial⟩, ⟨n1, by simpa using hs, trivial⟩, ?_⟩
      simp [leaves, lv_nil]
    · rw [if_neg hsi]
      have hdeep : (1 ≤ l.1.length ∧ l.1.length ≤ 4) ∧ (1 ≤ l.2.length ∧ l.2.length ≤ 4) := by
        rcases hf.1 with h | h
        · exact h
        · exact absurd h.1 hsi
      by_cases h4 : l.2.length < 4
      · rw [if_pos h4]
        refine ⟨⟨.inl ⟨hdeep.1, ⟨by simp, by simp; omega⟩⟩, hf.2⟩, ⟨n1, ?_, n3⟩, ?_⟩
        · intro k hk
          rcases List.mem_append.1 hk with hk | hk
          · exact n2 k hk
          · have : k = s := by simpa using hk
            subst this; exact hs
        · simp only [leaves, lv_app, lv_cons, List.flatten_nil, lv_nil]; omega
      · rw [if_neg h4]
        obtain ⟨a, b, c, e, he⟩ := four h4 hdeep.2.2
        obtain ⟨l1, l2⟩ := l
        simp only at he n1 n2 hdeep
        subst he
        have hnode : Node (d + 1) (nd [a, b, c]) := node3 (n2 a (by simp)) (n2 b (by simp)) (n2 c (by simp))
        obtain ⟨i1, i2, i3⟩ := ih (d + 1) (nd [a, b, c]) hf.2 n3 hnode
        refine ⟨⟨.inl ⟨hdeep.1, by simp⟩, i1⟩, ⟨n1, ?_, i2⟩, ?_⟩
        · intro k hk
          simp at hk
          rcases hk with rfl | rfl
          · exact n2 k (by simp)
          · exact hs
        · show lv l1.flatten + lv ([e, s] : List Str).flatten + leaves (behind t (nd [a, b, c])) = _
          rw [i3, lv_nd]
          simp only [leaves, lv_cons, List.flatten_nil, lv_nil]
          omega

theorem pushF_all (d : Nat) (b : List Lv) (ms : List Str) (hf : Form b) (hn : Nds d b) (hm : ∀ m ∈ ms, Node d m) : Form (pushF b ms) ∧ Nds d (pushF b ms) ∧ leaves (pushF b ms) = leaves b + lv ms.flatten := by
  unfold pushF
  induction ms with
  | nil => exact ⟨hf, hn, by simp [lv_nil]⟩
  | cons m t ih =>
    obtain ⟨i1, i2, i3⟩ := ih (fun x hx => hm x (by simp [hx]))
    obtain ⟨j1, j2, j3⟩ := ahead_all _ d m i1 i2 (hm m (by simp))
    refine ⟨j1, j2, ?_⟩
    rw [List.foldr_cons, j3, i3, lv_cons]
    omega
theorem pushB_all (d : Nat) : ∀ (ms : List Str) (a : List Lv), Form a → Nds d a → (∀ m ∈ ms, Node d m) → Form (pushB a ms) ∧ Nds d (pushB a ms) ∧ leaves (pushB a ms) = leaves a + lv ms.flatten := by
  intro ms
  unfold pushB
  induction ms with
  | nil => intro a hf hn _; exact ⟨hf, hn, by simp [lv_nil]⟩
  | cons m t ih =>
    intro a hf hn hm
    obtain ⟨j1, j2, j3⟩ := behind_all a d m hf hn (hm m (by simp))
    obtain ⟨i1, i2, i3⟩ := ih _ j1 j2 (fun x hx => hm x (by simp [hx]))
    refine ⟨i1, i2, ?_⟩
    rw [List.foldl_cons, i3, j3, lv_cons]
    omega

theorem group_all (d : Nat) : ∀ (n : Nat) (l : List Str), l.length ≤ n → 2 ≤ l.length → (∀ s ∈ l, Node d s) → (∀ s ∈ group l, Node (d + 1) s) ∧ lv (group l).flatten = lv l.flatten := by
  intro n
  induction n with
  | zero => intro l h1 h2; omega
  | succ n ih =>
    intro l h1 h2 hn
    match l, h1, h2, hn with
    | [a, b], _, _, hn =>
      refine ⟨fun s hs => ?_, by simp [group, lv_nd]⟩
      have : s = nd [a, b] := by simpa [group] using hs
      subst this; exact node2 (hn a (by simp)) (hn b (by simp))
    | [a, b, c], _, _, hn =>
      refine ⟨fun s hs => ?_, by simp [group, lv_nd]⟩
      have : s = nd [a, b, c] := by simpa [group] using hs
      subst this; exact node3 (hn a (by simp)) (hn b (by simp)) (hn c (by simp))
    | [a, b, c, e], _, _, hn =>
      refine ⟨fun s hs => ?_, by simp [group, lv_nd, lv_append]; omega⟩
      have : s = nd [a, b] ∨ s = nd [c, e] := by simpa [group] using hs
      rcases this with rfl | rfl
      · exact node2 (hn a (by simp)) (hn b (by simp))
      · exact node2 (hn c (by simp)) (hn e (by simp))
    | a :: b :: c :: e :: f :: t, h1, _, hn =>
      have := ih (e :: f :: t) (by simp at h1 ⊢; omega) (by simp) (fun s hs => hn s (by simp at hs ⊢; rcases hs with h | h | h <;> simp [h]))
      rw [group]
      refine ⟨fun s hs => ?_, ?_⟩
      · rcases List.mem_cons.1 hs with rfl | hs
        · exact node3 (hn a (by simp)) (hn b (by simp)) (hn c (by simp))
        · exact this.1 s hs
      · simp only [lv_cons, this.2, lv_nd, List.flatten_nil, lv_nil]
        omega

theorem sing_nil_tail {l : Lv} {t : List Lv} (h : Form (l :: t)) (hs : sing l = true) : t = [] := by
  rcases h.1 with h1 | h1
  · unfold sing at hs
    have := of_decide_eq_true hs
    omega
  · exact h1.2
theorem deep_of {l : Lv} {t : List Lv} (h : Form (l :: t)) (hs : ¬ sing l = true) : (1 ≤ l.1.length ∧ l.1.length ≤ 4) ∧ (1 ≤ l.2.length ∧ l.2.length ≤ 4) := by
  rcases h.1 with h1 | h1
  · exact h1
  · exact absurd h1.1 hs

theorem cat_all : ∀ (a : List Lv) (d : Nat) (m : List Str) (b : List Lv), Form a → Nds d a → Form b → Nds d b → (∀ s ∈ m, Node d s) → Form (cat a m b) ∧ Nds d (cat a m b) ∧ leaves (cat a m b) = leaves a + lv m.flatten + leaves b := by
  intro a
  induction a with
  | nil =>
    intro d m b _ _ fb nb hm
    unfold cat
    obtain ⟨h1, h2, h3⟩ := pushF_all d b m fb nb hm
    exact ⟨h1, h2, by rw [h3, leaves]; omega⟩
  | cons x a ih =>
    intro d m b fa na fb nb hm
    cases b with
    | nil =>
      unfold cat
      obtain ⟨h1, h2, h3⟩ := pushB_all d m (x :: a) fa na hm
      exact ⟨h1, h2, by rw [h3]; simp [leaves]⟩
    | cons y b =>
      unfold cat
      by_cases hx : sing x = true
      · rw [if_pos hx]
        have := sing_nil_tail fa hx
        subst this
        obtain ⟨p, rfl⟩ := (lsok_cons.1 fa.ls).1.sing_true hx
        obtain ⟨h1, h2, h3⟩ := pushF_all d (y :: b) ([p] ++ m) fb nb (fun s hs => by
          rcases List.mem_append.1 hs with hs | hs
          · exact na.1 s hs
          · exact hm s hs)
        refine ⟨h1, h2, ?_⟩
        rw [h3, lv_app]
        simp only [leaves, List.flatten_nil, lv_nil]
        omega
      · rw [if_neg hx]
        by_cases hy : sing y = true
        · rw [if_pos hy]
          have := sing_nil_tail fb hy
          subst this
          obtain ⟨p, rfl⟩ := (lsok_cons.1 fb.ls).1.sing_true hy
          obtain ⟨h1, h2, h3⟩ := pushB_all d (m ++ [p]) (x :: a) fa na (fun s hs => by
            rcases List.mem_append.1 hs with hs | hs
            · exact hm s hs
            · exact nb.1 s hs)
          refine ⟨h1, h2, ?_⟩
          rw [h3, lv_app]
          simp only [leaves, List.flatten_nil, lv_nil]
          omega
        · rw [if_neg hy]
          have dx := deep_of fa hx
          have dy := deep_of fb hy
          have hall : ∀ s ∈ x.2 ++ m ++ y.1, Node d s := by
            intro s hs
            rcases List.mem_append.1 hs with hs | hs
            · rcases List.mem_append.1 hs with hs | hs
              · exact na.2.1 s hs
              · exact hm s hs
            · exact nb.1 s hs
          obtain ⟨g1, g2⟩ := group_all d _ (x.2 ++ m ++ y.1) (Nat.le_refl _) (by simp only [List.length_append]; omega) hall
          obtain ⟨h1, h2, h3⟩ := ih (d + 1) _ b fa.2 na.2.2 fb.2 nb.2.2 g1
          refine ⟨⟨.inl ⟨dx.1, dy.2⟩, h1⟩, ⟨na.1, nb.2.1, h2⟩, ?_⟩
          simp only [leaves]
          rw [h3, g2, lv_app, lv_app]
          omega

theorem parts_all (d : Nat) (k : List Str) (h1 : 1 ≤ k.length) (h4 : k.length ≤ 4) (hk : ∀ s ∈ k, Node d s) : Form (parts k) ∧ Nds d (parts k) ∧ leaves (parts k) = lv k.flatten := by
  unfold parts
  split
  · rename_i h
    exact ⟨⟨.inr ⟨by unfold sing; simp [h], rfl⟩, trivial⟩, ⟨hk, by simp, trivial⟩, by simp [leaves, lv_nil]⟩
  · rename_i h
    refine ⟨⟨.inl ⟨⟨?_, ?_⟩, ?_, ?_⟩, trivial⟩, ⟨fun s hs => hk s (List.mem_of_mem_take hs), fun s hs => hk s (List.mem_of_mem_drop hs), trivial⟩, ?_⟩
    · simp only [List.length_take]; omega
    · simp only [List.length_take]; omega
    · simp only [List.length_drop]; omega
    · simp only [List.length_drop]; omega
    · simp only [leaves, Nat.add_zero]
      rw [← lv_app, List.take_append_drop]

theorem kids_all {d : Nat} {s : Str} (h : Node (d + 1) s) : ((kids s).length = 2 ∨ (kids s).length = 3) ∧ (∀ k ∈ kids s, Node d k) ∧ lv (kids s).flatten = lv s := by
  obtain ⟨h1, h2⟩ := node_succ.1 h
  refine ⟨h1, h2, ?_⟩
  have hne : kids s ≠ [] := by intro e; rw [e] at h1; simp at h1
  have := (kids_some hne).2
  conv => rhs; rw [this, lv_nd]

theorem headD_mem {l : List Str} (h : 1 ≤ l.length) : l.headD [] ∈ l ∧ lv l.flatten = lv (l.headD []) + lv (l.drop 1).flatten := by
  cases l with
  | nil => simp at h
  | cons a t => exact ⟨by simp, by simp [lv_append]⟩
theorem lastD_mem {l : List Str} (h : 1 ≤ l.length) : l.getLastD [] ∈ l ∧ lv l.flatten = lv (l.getLastD []) + lv l.dropLast.flatten := by
  have hne : l ≠ [] := by intro e; subst e; simp at h
  have e1 : l.getLastD [] = l.getLast hne := by
    cases l with
    | nil => exact absurd rfl hne
    | cons a t => simp [List.getLastD]
  refine ⟨by rw [e1]; exact List.getLast_mem hne, ?_⟩
  have := List.dropLast_concat_getLast hne
  conv => lhs; rw [← this]
  rw [lv_app, e1]
  simp
  omega

theorem popF_all : ∀ (ls : List Lv) (d : Nat), ls ≠ [] → Form ls → Nds d ls → Node d (popF ls).1 ∧ Form (popF ls).2 ∧ Nds d (popF ls).2 ∧ leaves ls = lv (popF ls).1 + leaves (popF ls).2 := by
  intro ls
  induction ls with
  | nil => intro d h; exact absurd rfl h
  | cons l t ih =>
    intro d _ hf hn
    have hl := (lsok_cons.1 hf.ls).1
    have hh := headD_mem hl.a1
    obtain ⟨n1, n2, n3⟩ := hn
    refine ⟨by rw [popF]; exact n1 _ hh.1, ?_⟩
    rw [popF]
    by_cases hs : sing l = true
    · have := sing_nil_tail hf hs
      subst this
      obtain ⟨p, rfl⟩ := hl.sing_true hs
      simp only [hs, if_true]
      exact ⟨trivial, trivial, by simp [leaves, lv_nil]⟩
    · have hd := deep_of hf hs
      have hs2 : sing l = false := by simpa using hs
      simp only [hs2, Bool.false_eq_true, if_false]
      by_cases h1 : 1 < l.1.length
      · simp only [h1, if_true]
        refine ⟨⟨.inl ⟨⟨by simp; omega, by simp; omega⟩, hd.2⟩, hf.2⟩, ⟨fun s hs => n1 s (List.mem_of_mem_drop hs), n2, n3⟩, ?_⟩
        simp only [leaves]; rw [hh.2]; omega
      · simp only [h1, if_false]
        have h0 : (l.1.drop 1).flatten = [] := by
          have : l.1.drop 1 = [] := List.eq_nil_of_length_eq_zero (by simp; omega)
          rw [this]; rfl
        rw [h0, lv_nil] at hh
        by_cases ht : t = []
        · subst ht
          simp only [if_true]
          obtain ⟨p1, p2, p3⟩ := parts_all d l.2 hd.2.1 hd.2.2 n2
          refine ⟨p1, p2, ?_⟩
          simp only [leaves]; rw [p3, hh.2]; omega
        · simp only [ht, if_false]
          obtain ⟨i1, i2, i3, i4⟩ := ih (d + 1) ht hf.2 n3
          obtain ⟨k1, k2, k3⟩ := kids_all i1
          refine ⟨⟨.inl ⟨⟨by simp only; omega, by simp only; omega⟩, hd.2⟩, i2⟩, ⟨k2, n2, i3⟩, ?_⟩
          simp only [leaves]; rw [k3, hh.2, i4]; omega

theorem popL_all : ∀ (ls : List Lv) (d : Nat), ls ≠ [] → Form ls → Nds d ls → Node d (popL ls).1 ∧ Form (popL ls).2 ∧ Nds d (popL ls).2 ∧ leaves ls = lv (popL ls).1 + leaves (popL ls).2 := by
  intro ls
  induction ls with
  | nil => intro d h; exact absurd rfl h
  | cons l t ih =>
    intro d _ hf hn
    have hl := (lsok_cons.1 hf.ls).1
    obtain ⟨n1, n2, n3⟩ := hn
    rw [popL]
    by_cases hs : sing l = true
    · have := sing_nil_tail hf hs
      subst this
      obtain ⟨p, rfl⟩ := hl.sing_true hs
      simp only [hs, if_true]
      exact ⟨n1 _ (by simp), trivial, trivial, by simp [leaves, lv_nil]⟩
    · have hd := deep_of hf hs
      have hh := lastD_mem hd.2.1
      have hs2 : sing l = false := by simpa using hs
      simp only [hs2, Bool.false_eq_true, if_false]
      refine ⟨n2 _ hh.1, ?_⟩
      by_cases h1 : 1 < l.2.length
      · simp only [h1, if_true]
        refine ⟨⟨.inl ⟨hd.1, ⟨by simp; omega, by simp; omega⟩⟩, hf.2⟩, ⟨n1, fun s hs => n2 s (List.dropLast_subset _ hs), n3⟩, ?_⟩
        simp only [leaves]; rw [hh.2]; omega
      · simp only [h1, if_false]
        have h0 : l.2.dropLast.flatten = [] := by
          have : l.2.dropLast = [] := List.eq_nil_of_length_eq_zero (by simp; omega)
          rw [this]; rfl
        rw [h0, lv_nil] at hh
        by_cases ht : t = []
        · subst ht
          simp only [if_true]
          obtain ⟨p1, p2, p3⟩ := parts_all d l.1 hd.1.1 hd.1.2 n1
          refine ⟨p1, p2, ?_⟩
          simp only [leaves]; rw [p3, hh.2]; omega
        · simp only [ht, if_false]
          obtain ⟨i1, i2, i3, i4⟩ := ih (d + 1) ht hf.2 n3
          obtain ⟨k1, k2, k3⟩ := kids_all i1
          refine ⟨⟨.inl ⟨hd.1, ⟨by simp only; omega, by simp only; omega⟩⟩, i2⟩, ⟨n1, k2, i3⟩, ?_⟩
          simp only [leaves]; rw [k3, hh.2, i4]; omega

theorem lv_leaf : lv [120] = 1 := by decide
theorem FOk.ahead {ls : List Lv} (h : FOk ls) (h2 : leaves ls < 200) : FOk (ahead ls [120]) ∧ leaves (P.ahead ls [120]) = leaves ls + 1 := by
  obtain ⟨a, b, c⟩ := ahead_all ls 0 [120] h.form h.nds rfl
  rw [lv_leaf] at c
  exact ⟨⟨a, b, by omega⟩, c⟩
theorem FOk.behind {ls : List Lv} (h : FOk ls) (h2 : leaves ls < 200) : FOk (behind ls [120]) ∧ leaves (P.behind ls [120]) = leaves ls + 1 := by
  obtain ⟨a, b, c⟩ := behind_all ls 0 [120] h.form h.nds rfl
  rw [lv_leaf] at c
  exact ⟨⟨a, b, by omega⟩, c⟩
theorem FOk.cat {a b : List Lv} (ha : FOk a) (hb : FOk b) (h2 : leaves a + leaves b ≤ 200) : FOk (cat a [] b) ∧ leaves (P.cat a [] b) = leaves a + leaves b := by
  obtain ⟨x, y, z⟩ := cat_all a 0 [] b ha.form ha.nds hb.form hb.nds (by simp)
  rw [List.flatten_nil, lv_nil] at z
  exact ⟨⟨x, y, by omega⟩, by omega⟩
theorem FOk.popF {ls : List Lv} (h : FOk ls) (h0 : ls ≠ []) : FOk (popF ls).2 ∧ leaves ls = leaves (P.popF ls).2 + 1 := by
  obtain ⟨a, b, c, d⟩ := popF_all ls 0 h0 h.form h.nds
  have : (P.popF ls).1 = [120] := a
  rw [this, lv_leaf] at d
  exact ⟨⟨b, c, by have := h.few; omega⟩, by omega⟩
theorem FOk.popL {ls : List Lv} (h : FOk ls) (h0 : ls ≠ []) : FOk (popL ls).2 ∧ leaves ls = leaves (P.popL ls).2 + 1 := by
  obtain ⟨a, b, c, d⟩ := popL_all ls 0 h0 h.form h.nds
  have : (P.popL ls).1 = [120] := a
  rw [this, lv_leaf] at d
  exact ⟨⟨b, c, by have := h.few; omega⟩, by omega⟩
theorem FOk.nil : FOk [] := ⟨trivial, trivial, by simp [leaves]⟩
theorem FOk.ne {ls : List Lv} (h : FOk ls) : ls ≠ [] ↔ leaves ls ≠ 0 := by
  constructor
  · intro hn h0
    have := levels_pow ls 0 h.form.ls h.nds hn
    have := Nat.one_le_two_pow (n := 0 + ls.length - 1)
    omega
  · rintro h1 rfl
    exact h1 rfl

/-- The tree of n leaves. -/
def fnew : Nat → List Lv
  | 0 => []
  | n + 1 => behind (fnew n) [120]
theorem fnew_ok : ∀ n, n ≤ 200 → FOk (fnew n) ∧ leaves (fnew n) = n := by
  intro n
  induction n with
  | zero => intro _; exact ⟨FOk.nil, rfl⟩
  | succ n ih =>
    intro h
    obtain ⟨h1, h2⟩ := ih (by omega)
    have := h1.behind (by omega)
    exact ⟨this.1, by rw [fnew, this.2, h2]⟩
/-! ### splitting what is written in a node -/
/-- A piece that is still open: no start of it is balanced. -/
structure Part (cur : Str) : Prop where
  pos : ∀ p q, cur = p ++ q → p ≠ [] → 0 < bal p
  chars : ∀ c ∈ cur, c = 40 ∨ c = 41 ∨ c = 120
theorem Part.nil : Part [] := ⟨fun p q e hp => by simp at e; exact absurd e.1 hp, by simp⟩
theorem Part.bal_nonneg {cur : Str} (h : Part cur) : 0 ≤ bal cur := by
  by_cases hc : cur = []
  · subst hc; exact Int.le_refl _
  · exact Int.le_of_lt (h.pos cur [] (by simp) hc)
theorem Part.zero {cur : Str} (h : Part cur) (h0 : bal cur = 0) : cur = [] := by
  by_cases hc : cur = []
  · exact hc
  · have := h.pos cur [] (by simp) hc; omega

theorem prefix_snoc {cur p q : Str} {c : UInt8} (e : cur ++ [c] = p ++ q) : q = [] ∨ ∃ q', cur = p ++ q' := by
  rcases List.append_eq_append_iff.1 e with ⟨a, h1, h2⟩ | ⟨a, h1, h2⟩
  · cases a with
    | nil => exact .inr ⟨[], by simpa using h1.symm⟩
    | cons x a =>
      left
      have := congrArg List.length h2
      simp only [List.length_append, List.length_cons, List.length_nil] at this
      exact List.eq_nil_of_length_eq_zero (by omega)
  · exact .inr ⟨a, h1⟩

theorem Part.snoc {cur : Str} {c : UInt8} (h : Part cur) (hc : c = 40 ∨ c = 41 ∨ c = 120) (hp : 0 < bal (cur ++ [c])) : Part (cur ++ [c]) := by
  refine ⟨fun p q e hpn => ?_, fun x hx => ?_⟩
  · rcases prefix_snoc e with rfl | ⟨q', e'⟩
    · rw [List.append_nil] at e; rw [← e]; exact hp
    · exact h.pos p q' e' hpn
  · rcases List.mem_append.1 hx with hx | hx
    · exact h.chars x hx
    · have : x = c := by simpa using hx
      rw [this]; exact hc
theorem Part.good {cur : Str} {c : UInt8} (h : Part cur) (hc : c = 40 ∨ c = 41 ∨ c = 120) (hp : bal (cur ++ [c]) = 0) : Good (cur ++ [c]) := by
  refine ⟨by simp, hp, fun p q e hpn hq => ?_, fun x hx => ?_⟩
  · rcases prefix_snoc e with rfl | ⟨q', e'⟩
    · exact absurd rfl hq
    · exact h.pos p q' e' hpn
  · rcases List.mem_append.1 hx with hx | hx
    · exact h.chars x hx
    · have : x = c := by simpa using hx
      rw [this]; exact hc
theorem bal_snoc (a : Str) (c : UInt8) : bal (a ++ [c]) = bal a + bal [c] := bal_append a [c]
theorem bal_other {c : UInt8} (h1 : c ≠ 40) (h2 : c ≠ 41) : bal [c] = 0 := by
  unfold bal
  rw [List.count_singleton, List.count_singleton]
  simp [h1, h2]

/-- What is written in s between its first and last sign. -/
def inner (s : Str) : Str := (s.drop 1).take (s.length - 2)
theorem inner_nd (ks : List Str) : inner (nd ks) = ks.flatten := by
  unfold inner nd
  simp
theorem nd_inner {s : Str} (h2 : 2 ≤ s.length) (h0 : s.getD 0 0 = 40) (h1 : s.getD (s.length - 1) 0 = 41) : s = 40 :: (inner s ++ [41]) := by
  cases s with
  | nil => simp at h2
  | cons a t =>
    have ha : a = 40 := by simpa using h0
    subst ha
    unfold inner
    simp only [List.drop_succ_cons, List.drop_zero, List.length_cons] at *
    have hne : t ≠ [] := by intro e; subst e; simp at h2
    rw [show t.length + 1 - 2 = t.length - 1 by omega, ← List.dropLast_eq_take]
    have h3 : t.getLast hne = 41 := by
      rw [show t.length + 1 - 1 = (t.length - 1) + 1 by omega] at h1
      rw [List.getLast_eq_getElem]
      simp only [List.getD_cons_succ] at h1
      rw [List.getD_eq_getElem?_getD, List.getElem?_eq_getElem (by omega)] at h1
      simpa using h1
    have := List.dropLast_concat_getLast hne
    rw [h3] at this
    rw [this]
theorem kids_ends {s : Str} (h : kids s ≠ []) : 2 ≤ s.length ∧ s.getD 0 0 = 40 ∧ s.getD (s.length - 1) 0 = 41 := by
  have e := (kids_some h).2
  obtain ⟨X, hX⟩ : ∃ X, (kids s).flatten = X := ⟨_, rfl⟩
  unfold nd at e
  rw [hX] at e
  subst e
  refine ⟨by simp, by simp, ?_⟩
  simp [List.getD]
theorem kids_bad {s : Str} (h : s.length < 2 ∨ s.getD 0 0 ≠ 40 ∨ s.getD (s.length - 1) 0 ≠ 41) : kids s = [] := by
  by_cases hk : kids s = []
  · exact hk
  · obtain ⟨h1, h2, h3⟩ := kids_ends hk
    rcases h with h | h | h
    · omega
    · exact absurd h2 h
    · exact absurd h3 h
theorem kids_char {s : Str} {c : UInt8} (hc : c ∈ inner s) (h : ¬ (c = 40 ∨ c = 41 ∨ c = 120)) : kids s = [] := by
  by_cases hk : kids s = []
  · exact hk
  · obtain ⟨h1, h2⟩ := kids_some hk
    exfalso
    rw [h2, inner_nd] at hc
    exact h (flat_chars h1 c hc)
theorem kids_neg {s p q : Str} (hp : inner s = p ++ q) (h : bal p < 0) : kids s = [] := by
  by_cases hk : kids s = []
  · exact hk
  · obtain ⟨h1, h2⟩ := kids_some hk
    exfalso
    rw [h2, inner_nd] at hp
    have := flat_pre h1 p q hp
    omega
theorem kids_open {s : Str} (h : bal (inner s) ≠ 0) : kids s = [] := by
  by_cases hk : kids s = []
  · exact hk
  · obtain ⟨h1, h2⟩ := kids_some hk
    exfalso
    rw [h2, inner_nd] at h
    exact h (flat_bal h1)
theorem kids_done {s : Str} {ks : List Str} (h2 : 2 ≤ s.length) (h0 : s.getD 0 0 = 40) (h1 : s.getD (s.length - 1) 0 = 41) (hk : ∀ k ∈ ks, Good k) (hf : inner s = ks.flatten) : kids s = ks := by
  have := nd_inner h2 h0 h1
  rw [hf] at this
  rw [this]
  exact kids_nd hk

/-- The splitting's state at offset i: the pieces, and what is open. -/
structure Splits (s : Str) (i f : Nat) (js : List Str) (cur : Str) : Prop where
  lo : 1 ≤ f
  le : f ≤ i
  hi : i + 1 ≤ s.length
  cur_eq : (s.take i).drop f = cur
  seen : (s.drop 1).take (i - 1) = js.flatten ++ cur
  good : ∀ j ∈ js, Good j
  part : Part cur
theorem Splits.start {s : Str} (h : 2 ≤ s.length) : Splits s 1 1 [] [] := by
  refine ⟨by omega, by omega, by omega, ?_, by simp, by simp, Part.nil⟩
  apply List.eq_nil_of_length_eq_zero
  rw [List.length_drop, List.length_take]; omega

theorem Splits.next_seen {s : Str} {i f : Nat} {js : List Str} {cur : Str} (h : Splits s i f js cur) (hi : i + 1 < s.length) :
    (s.drop 1).take (i + 1 - 1) = js.flatten ++ (cur ++ [s[i]]) := by
  have hf := h.lo
  have hfi := h.le
  rw [show i + 1 - 1 = (i - 1) + 1 by omega, List.take_succ_eq_append_getElem (by rw [List.length_drop]; omega), h.seen, List.append_assoc]
  congr 2
  simp only [List.getElem_drop]
  congr 2
  omega
theorem Splits.next_cur {s : Str} {i f : Nat} {js : List Str} {cur : Str} (h : Splits s i f js cur) (hi : i + 1 < s.length) : (s.take (i + 1)).drop f = cur ++ [s[i]] := by
  have hfi := h.le
  rw [List.take_succ_eq_append_getElem (by omega), List.drop_append_of_le_length (by rw [List.length_take]; omega), h.cur_eq]
theorem Splits.goon {s : Str} {i f : Nat} {js : List Str} {cur : Str} (h : Splits s i f js cur) (hi : i + 1 < s.length) (hc : s[i] = 40 ∨ s[i] = 41 ∨ s[i] = 120) (hp : 0 < bal (cur ++ [s[i]])) :
    Splits s (i + 1) f js (cur ++ [s[i]]) :=
  ⟨h.lo, by have := h.le; omega, by omega, h.next_cur hi, h.next_seen hi, h.good, h.part.snoc hc hp⟩
theorem Splits.close {s : Str} {i f : Nat} {js : List Str} {cur : Str} (h : Splits s i f js cur) (hi : i + 1 < s.length) (hc : s[i] = 40 ∨ s[i] = 41 ∨ s[i] = 120) (hp : bal (cur ++ [s[i]]) = 0) :
    Splits s (i + 1) (i + 1) (js ++ [cur ++ [s[i]]]) [] := by
  refine ⟨by omega, by omega, by omega, ?_, ?_, ?_, Part.nil⟩
  · apply List.eq_nil_of_length_eq_zero
    rw [List.length_drop, List.length_take]; omega
  · rw [h.next_seen hi]; simp
  · intro j hj
    rcases List.mem_append.1 hj with hj | hj
    · exact h.good j hj
    · have : j = cur ++ [s[i]] := by simpa using hj
      rw [this]
      exact h.part.good hc hp
theorem Splits.below {s : Str} {i f : Nat} {js : List Str} {cur : Str} (h : Splits s i f js cur) (hi : i + 1 < s.length) (hp : bal (cur ++ [s[i]]) < 0) : kids s = [] := by
  have e : inner s = (js.flatten ++ (cur ++ [s[i]])) ++ ((s.drop 1).drop i).take (s.length - 2 - i) := by
    rw [← h.next_seen hi]
    unfold inner
    rw [show i + 1 - 1 = i by omega]
    conv => lhs; rw [show s.length - 2 = i + (s.length - 2 - i) by omega]
    rw [List.take_add]
  refine kids_neg e ?_
  rw [bal_append, flat_bal h.good]
  omega
theorem Splits.bad {s : Str} {i f : Nat} {js : List Str} {cur : Str} (h : Splits s i f js cur) (hi : i + 1 < s.length) (hc : ¬ (s[i] = 40 ∨ s[i] = 41 ∨ s[i] = 120)) : kids s = [] := by
  refine kids_char ?_ hc
  have hf := h.lo
  have hfi := h.le
  have hn := h.next_seen hi
  have hm : s[i] ∈ (s.drop 1).take (i + 1 - 1) := by rw [hn]; simp
  unfold inner
  rw [show s.length - 2 = (i + 1 - 1) + (s.length - 2 - i) by omega, List.take_add]
  exact List.mem_append.2 (.inl hm)
theorem Splits.done {s : Str} {i f : Nat} {js : List Str} {cur : Str} (h : Splits s i f js cur) (hi : i + 1 = s.length) (h0 : s.getD 0 0 = 40) (h1 : s.getD (s.length - 1) 0 = 41) :
    kids s = if bal cur = 0 then js else [] := by
  have hf := h.lo
  have hfi := h.le
  have e : inner s = js.flatten ++ cur := by
    rw [← h.seen]
    unfold inner
    rw [show s.length - 2 = i - 1 by omega]
  split
  · rename_i hb
    have := h.part.zero hb
    subst this
    rw [List.append_nil] at e
    exact kids_done (by omega) h0 h1 h.good e
  · rename_i hb
    refine kids_open ?_
    rw [e, bal_append, flat_bal h.good]
    omega

theorem mem_flat_len {k : Str} {l : List Str} (h : k ∈ l) : k.length ≤ l.flatten.length := by
  induction l with
  | nil => simp at h
  | cons a t ih =>
    rw [List.flatten_cons, List.length_append]
    rcases List.mem_cons.1 h with rfl | h
    · omega
    · have := ih h; omega
theorem kid_len {s k : Str} (h : k ∈ kids s) : k.length ≤ s.length := by
  have hne : kids s ≠ [] := by intro e; rw [e] at h; simp at h
  have h2 := (kids_some hne).2
  have h3 := mem_flat_len h
  conv => rhs; rw [h2]
  unfold nd
  simp only [List.length_cons, List.length_append]
  omega
theorem kids_len (s : Str) : (kids s).length ≤ s.length := by
  by_cases hne : kids s = []
  · rw [hne]; exact Nat.zero_le _
  · obtain ⟨h1, h2⟩ := kids_some hne
    have : ∀ l : List Str, (∀ k ∈ l, Good k) → l.length ≤ l.flatten.length := by
      intro l
      induction l with
      | nil => intro _; simp
      | cons a t ih =>
        intro h
        rw [List.flatten_cons, List.length_append, List.length_cons]
        have := ih (fun x hx => h x (by simp [hx]))
        have := List.length_pos_iff.2 (h a (by simp)).ne
        omega
    have h3 := this _ h1
    conv => rhs; rw [h2]
    unfold nd
    simp only [List.length_cons, List.length_append]
    omega

/-- Is s a node of depth d, d at most 10? -/
def NodeP (s : Str) (d : Int) : Prop := 0 ≤ d ∧ d ≤ 10 ∧ Node d.toNat s
noncomputable def nodeB (s : Str) (d : Int) : Bool := @decide (NodeP s d) (Classical.propDecidable _)
theorem nodeB_iff {s : Str} {d : Int} : nodeB s d = true ↔ NodeP s d := by unfold nodeB; exact @decide_eq_true_iff _ (Classical.propDecidable _)
theorem nodeB_false {s : Str} {d : Int} : nodeB s d = false ↔ ¬ NodeP s d := by rw [← nodeB_iff]; simp
theorem nodeB_zero (s : Str) : nodeB s 0 = decide (s = [120]) := by
  rw [Bool.eq_iff_iff, nodeB_iff, decide_eq_true_iff]
  exact ⟨fun h => h.2.2, fun h => ⟨by omega, by omega, h⟩⟩
theorem nodeB_out {s : Str} {d : Int} (h : d < 0 ∨ 10 < d) : nodeB s d = false := by
  rw [nodeB_false]; rintro ⟨h1, h2, _⟩; omega
theorem nodeB_kids {s : Str} {n : Nat} (h : n + 1 ≤ 10) : nodeB s ((n + 1 : Nat) : Int) = (decide ((kids s).length = 2 ∨ (kids s).length = 3) && (kids s).all fun k => nodeB k (n : Int)) := by
  rw [Bool.eq_iff_iff, nodeB_iff, Bool.and_eq_true, decide_eq_true_iff, List.all_eq_true]
  unfold NodeP
  rw [Int.toNat_natCast, node_succ]
  constructor
  · rintro ⟨_, _, h1, h2⟩
    exact ⟨h1, fun k hk => nodeB_iff.2 ⟨by omega, by omega, by rw [Int.toNat_natCast]; exact h2 k hk⟩⟩
  · rintro ⟨h1, h2⟩
    refine ⟨by omega, by omega, h1, fun k hk => ?_⟩
    have := (nodeB_iff.1 (h2 k hk)).2.2
    rw [Int.toNat_natCast] at this
    exact this
theorem shapeB_nodeB (s : Str) (d : Int) : shapeB s d = (decide (s.length ≤ 1000) && decide (lv s ≤ 200) && nodeB s d) := by
  rw [Bool.eq_iff_iff, shapeB_iff, Bool.and_eq_true, Bool.and_eq_true, decide_eq_true_iff, decide_eq_true_iff, nodeB_iff]
  unfold ShapeP NodeP
  constructor
  · rintro ⟨h1, h2, h3⟩
    have := node_len h2
    have := node_depth h2 h3
    exact ⟨⟨by omega, h3⟩, h1, by omega, h2⟩
  · rintro ⟨⟨_, h1⟩, h2, _, h3⟩
    exact ⟨h2, h3, h1⟩

/-- Small enough for the laws' bound. -/
structure Small (ls : List Lv) : Prop where
  len : ls.length ≤ 2000000
  each : ∀ l ∈ ls, l.1.length + l.2.length ≤ 2000000 ∧ l.1.flatten.length + l.2.flatten.length ≤ 2000000
  lvs : leaves ls ≤ 2000000
theorem leaves_take (ls : List Lv) (k : Nat) (h : k < ls.length) : leaves (ls.take (k + 1)) = leaves (ls.take k) + (lv (ls[k]).1.flatten + lv (ls[k]).2.flatten) := by
  rw [List.take_succ_eq_append_getElem h, leaves_append]; simp [leaves]
theorem leaves_le (ls : List Lv) (k : Nat) (h : k < ls.length) : leaves (ls.take k) + (lv (ls[k]).1.flatten + lv (ls[k]).2.flatten) ≤ leaves ls := by
  rw [← leaves_take ls k h]
  have : leaves ls = leaves (ls.take (k + 1)) + leaves (ls.drop (k + 1)) := by rw [← leaves_append, List.take_append_drop]
  omega
theorem lvs_take (l : List Str) (k : Nat) (h : k < l.length) : lv (l.take (k + 1)).flatten = lv (l.take k).flatten + lv l[k] := by
  rw [List.take_succ_eq_append_getElem h, lv_app]; simp
theorem lvs_le (l : List Str) (k : Nat) (h : k < l.length) : lv (l.take k).flatten + lv l[k] ≤ lv l.flatten := by
  rw [← lvs_take l k h]
  have : l.flatten = (l.take (k + 1)).flatten ++ (l.drop (k + 1)).flatten := by rw [← List.flatten_append, List.take_append_drop]
  rw [this, lv_append]
  omega

/-- Has the level the form of a level, the last or not? -/
def formB (l : Lv) (last : Bool) : Bool := if sing l then last else decide (1 ≤ l.1.length ∧ l.1.length ≤ 4) && decide (1 ≤ l.2.length ∧ l.2.length ≤ 4)
theorem formB_iff {l : Lv} {last : Bool} : formB l last = true ↔ (((1 ≤ l.1.length ∧ l.1.length ≤ 4) ∧ (1 ≤ l.2.length ∧ l.2.length ≤ 4)) ∨ (sing l = true ∧ last = true)) := by
  unfold formB
  by_cases h : sing l = true
  · rw [if_pos h]
    have h2 := h
    unfold sing at h2
    have h2 := of_decide_eq_true h2
    constructor
    · intro h3; exact .inr ⟨h, h3⟩
    · rintro (h3 | h3)
      · omega
      · exact h3.2
  · rw [if_neg h, Bool.and_eq_true, decide_eq_true_iff, decide_eq_true_iff]
    constructor
    · intro h3; exact .inl h3
    · rintro (h3 | h3)
      · exact h3
      · exact absurd h3.1 h


/-- Level i of a tree in order. -/
def okAt (ls : List Lv) (i : Nat) : Prop := ∃ h : i < ls.length, formB ls[i] (decide (i + 1 = ls.length)) = true ∧ (ls[i].1.all fun s => shapeB s (i : Int)) = true ∧ (ls[i].2.all fun s => shapeB s (i : Int)) = true
theorem lv_mem {k : Str} {l : List Str} (h : k ∈ l) : lv k ≤ lv l.flatten := by
  obtain ⟨i, hi, rfl⟩ := List.mem_iff_getElem.1 h
  have := lvs_le l i hi
  omega
theorem fingB_eq (ls : List Lv) : fingB ls = true ↔ (∀ i, i < ls.length → okAt ls i) ∧ leaves ls ≤ 200 := by
  rw [fingB_iff]
  constructor
  · intro h
    refine ⟨fun i hi => ⟨hi, ?_, ?_, ?_⟩, h.few⟩
    · rw [formB_iff]
      rcases h.form.at i hi with h1 | h1
      · exact .inl h1
      · exact .inr ⟨h1.1, decide_eq_true h1.2⟩
    · rw [List.all_eq_true]
      intro s hs
      have h1 := (h.nds.at i hi).1 s hs
      rw [Nat.zero_add] at h1
      have h2 := leaves_le ls i hi
      have h3 := lv_mem hs
      have := h.few
      exact shapeB_iff.2 ⟨by omega, by rw [Int.toNat_natCast]; exact h1, by omega⟩
    · rw [List.all_eq_true]
      intro s hs
      have h1 := (h.nds.at i hi).2 s hs
      rw [Nat.zero_add] at h1
      have h2 := leaves_le ls i hi
      have h3 := lv_mem hs
      have := h.few
      exact shapeB_iff.2 ⟨by omega, by rw [Int.toNat_natCast]; exact h1, by omega⟩
  · rintro ⟨h1, h2⟩
    refine ⟨Form.of fun i hi => ?_, Nds.of fun i hi => ?_, h2⟩
    · obtain ⟨_, hf, _, _⟩ := h1 i hi
      rw [formB_iff] at hf
      rcases hf with hf | hf
      · exact .inl hf
      · exact .inr ⟨hf.1, of_decide_eq_true hf.2⟩
    · obtain ⟨_, _, hp, hq⟩ := h1 i hi
      rw [List.all_eq_true] at hp hq
      rw [Nat.zero_add]
      refine ⟨fun s hs => ?_, fun s hs => ?_⟩
      · have := (shapeB_iff.1 (hp s hs)).2.1
        rw [Int.toNat_natCast] at this
        exact this
      · have := (shapeB_iff.1 (hq s hs)).2.1
        rw [Int.toNat_natCast] at this
        exact this
theorem fingB_not {ls : List Lv} {i : Nat} (hi : i < ls.length) (h : ¬ okAt ls i) : fingB ls = false := by
  rw [Bool.eq_false_iff]
  intro hf
  exact h (((fingB_eq ls).1 hf).1 i hi)
theorem fingB_few {ls : List Lv} (h : ∀ i, i < ls.length → okAt ls i) : fingB ls = decide (leaves ls ≤ 200) := by
  rw [Bool.eq_iff_iff, fingB_eq, decide_eq_true_iff]
  exact ⟨fun x => x.2, fun x => ⟨h, x⟩⟩

end Go.Proofs.Ytfbcpiipekfapaa.P
