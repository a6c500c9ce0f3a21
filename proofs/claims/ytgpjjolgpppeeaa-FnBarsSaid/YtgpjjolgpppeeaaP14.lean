/-
  Chapter 7, plain: what LeaseTake and LeaseRenew give; a lease put by the model. Own work.
  Chapter 7, plain: what LeaseRenew gives. Own work.
-/
import Derived.Test.YtgpjjolgpppeeaaP13
import Derived.Test.YtgpjjolgpppeeaaS14
namespace Go.Proofs.Ytgpjjolgpppeeaa
open Go.RowKit P
set_option linter.unusedVariables false

/-- Do two leases have a byte in common? -/
def meet (a b : Le) : Bool := decide (max a.1 b.1 < min a.2.1 b.2.1)
theorem meet_iff (a b : Le) : meet a b = decide (a.1 < b.2.1 ∧ b.1 < a.2.1 ∧ a.1 < a.2.1 ∧ b.1 < b.2.1) := by
  unfold meet
  rw [decide_eq_decide]
  omega
/-- Does o bar l from being taken? -/
def barsL (l o : Le) : Bool := decide (o.2.2.1 ≠ l.2.2.1) && meet o l
def heldL (es : List Le) (l : Le) (now : Int) : Bool := es.any (fun o => decide (now < o.2.2.2) && barsL l o)
theorem heldL_exp {es : List Le} {l : Le} {now : Int} (hok : leOk es = true) : (leExp es now).any (barsL l) = heldL es l now := by
  unfold leExp heldL
  rw [if_pos hok, List.any_filter]

def takeN (es : List Le) (l : Le) (now : Int) : Int :=
  if (leOk es && leRight l && decide (0 ≤ now ∧ now ≤ 1000) && !decide (l.1 = l.2.1)) = true then (if now < l.2.2.2 then (if heldL es l now = true then 3 else if keyIx es l < es.length ∨ es.length = 12 then 4 else 0) else 2) else 1
def takeL (es : List Le) (l : Le) (now : Int) : List Le := if takeN es l now = 0 then putL es l else []
theorem takeN_zero {es : List Le} {l : Le} {now : Int} (h : takeN es l now = 0) : leOk es = true ∧ leRight l = true ∧ ¬ keyIx es l < es.length ∧ es.length < 12 := by
  unfold takeN at h
  split at h
  · rename_i h1
    simp only [Bool.and_eq_true] at h1
    split at h
    · split at h
      · cases h
      · split at h
        · cases h
        · rename_i h2
          have := leOk_len h1.1.1.1
          exact ⟨h1.1.1.1, h1.1.1.2, fun h3 => h2 (.inl h3), by omega⟩
    · cases h
  · cases h
theorem takeL_len (es : List Le) (l : Le) (now : Int) : (takeL es l now).length ≤ 1000000 := by
  unfold takeL
  split
  · rename_i h
    have h1 := takeN_zero h
    have h2 := putL_length es l
    omega
  · simp
theorem takeN_form {es : List Le} {l : Le} {now : Int} (h : (leOk es && leRight l && decide (0 ≤ now ∧ now ≤ 1000) && !decide (l.1 = l.2.1)) = false) : takeN es l now = 1 ∧ takeL es l now = [] := by
  have e : takeN es l now = 1 := by unfold takeN; rw [if_neg (by rw [h]; simp)]
  exact ⟨e, by unfold takeL; rw [e]; rfl⟩
theorem takeN_clock {es : List Le} {l : Le} {now : Int} (h : (leOk es && leRight l && decide (0 ≤ now ∧ now ≤ 1000) && !decide (l.1 = l.2.1)) = true) (h2 : ¬ now < l.2.2.2) : takeN es l now = 2 ∧ takeL es l now = [] := by
  have e : takeN es l now = 2 := by unfold takeN; rw [if_pos h, if_neg h2]
  exact ⟨e, by unfold takeL; rw [e]; rfl⟩
theorem takeN_held {es : List Le} {l : Le} {now : Int} (h : (leOk es && leRight l && decide (0 ≤ now ∧ now ≤ 1000) && !decide (l.1 = l.2.1)) = true) (h2 : now < l.2.2.2) (h3 : heldL es l now = true) : takeN es l now = 3 ∧ takeL es l now = [] := by
  have e : takeN es l now = 3 := by unfold takeN; rw [if_pos h, if_pos h2, if_pos h3]
  exact ⟨e, by unfold takeL; rw [e]; rfl⟩
theorem takeN_full {es : List Le} {l : Le} {now : Int} (h : (leOk es && leRight l && decide (0 ≤ now ∧ now ≤ 1000) && !decide (l.1 = l.2.1)) = true) (h2 : now < l.2.2.2) (h3 : heldL es l now = false) (h4 : keyIx es l < es.length ∨ es.length = 12) : takeN es l now = 4 ∧ takeL es l now = [] := by
  have e : takeN es l now = 4 := by unfold takeN; rw [if_pos h, if_pos h2, if_neg (by rw [h3]; simp), if_pos h4]
  exact ⟨e, by unfold takeL; rw [e]; rfl⟩
theorem takeN_fine {es : List Le} {l : Le} {now : Int} (h : (leOk es && leRight l && decide (0 ≤ now ∧ now ≤ 1000) && !decide (l.1 = l.2.1)) = true) (h2 : now < l.2.2.2) (h3 : heldL es l now = false) (h4 : ¬ (keyIx es l < es.length ∨ es.length = 12)) : takeN es l now = 0 ∧ takeL es l now = putL es l := by
  have e : takeN es l now = 0 := by unfold takeN; rw [if_pos h, if_pos h2, if_neg (by rw [h3]; simp), if_neg h4]
  exact ⟨e, by unfold takeL; rw [e]; rfl⟩

/-- The end of the lease l, put into es by the model: the greatest of those with its key. -/
def topT (es : List Le) (l : Le) : Int := (es.filter (fun x => leSame x l)).foldl (fun t x => max t x.2.2.2) l.2.2.2
def withT (l : Le) (t : Int) : Le := (l.1, l.2.1, l.2.2.1, t)
def putM (es : List Le) (l : Le) : List Le := putL es (withT l (topT es l))
theorem putL_key (es : List Le) (l : Le) (t : Int) : putL es (withT l t) = es.filter (fun x => leLess x l) ++ withT l t :: es.filter (fun x => leLess l x) := by
  have hs : leSame (withT l t) l = true := (leSame_eq _ _).2 ⟨rfl, rfl, rfl⟩
  have e1 : (fun x => leLess x (withT l t)) = (fun x => leLess x l) := by funext x; exact leLess_sameR hs
  have e2 : (fun x => leLess (withT l t) x) = (fun x => leLess l x) := by funext x; exact leLess_sameL hs
  unfold putL
  rw [e1, e2]
theorem topT_no {es : List Le} {l : Le} (h : ∀ x ∈ es, leSame x l = false) : topT es l = l.2.2.2 := by
  unfold topT
  rw [List.filter_eq_nil_iff.2 (fun x hx => by rw [h x hx]; simp)]
  rfl
theorem putM_no {es : List Le} {l : Le} (h : ∀ x ∈ es, leSame x l = false) : putM es l = putL es l := by
  unfold putM
  rw [topT_no h]
  rfl
theorem topT_ge (l : Le) : ∀ (es : List Le) (t : Int), t ≤ es.foldl (fun t x => max t x.2.2.2) t ∧ ∀ x ∈ es, x.2.2.2 ≤ es.foldl (fun t x => max t x.2.2.2) t
  | [], t => ⟨Int.le_refl _, fun x h => nomatch h⟩
  | y :: es, t => by
    have ih := topT_ge l es (max t y.2.2.2)
    refine ⟨?_, fun x hx => ?_⟩
    · have := ih.1
      simp only [List.foldl_cons]
      omega
    · simp only [List.foldl_cons]
      rcases List.mem_cons.1 hx with h | h
      · subst h; have := ih.1; omega
      · exact ih.2 x h
theorem topT_mem : ∀ (es : List Le) (t : Int), es.foldl (fun t x => max t x.2.2.2) t = t ∨ ∃ x ∈ es, es.foldl (fun t x => max t x.2.2.2) t = x.2.2.2
  | [], t => .inl rfl
  | y :: es, t => by
    simp only [List.foldl_cons]
    rcases topT_mem es (max t y.2.2.2) with h | ⟨x, hx, h⟩
    · by_cases h1 : t ≤ y.2.2.2
      · exact .inr ⟨y, by simp, by rw [h]; omega⟩
      · exact .inl (by rw [h]; omega)
    · exact .inr ⟨x, List.mem_cons_of_mem _ hx, h⟩
/-- The model's put keeps the book, whatever the order. -/
theorem Book.putM {D E : List Le} {l : Le} (h : Book D E) : Book (D ++ [l]) (putM E l) := by
  obtain ⟨g1, g2⟩ := topT_ge l (E.filter (fun x => leSame x l)) l.2.2.2
  have hsl : leSame (withT l (topT E l)) l = true := (leSame_eq _ _).2 ⟨rfl, rfl, rfl⟩
  have hup : ∀ d ∈ D, leSame d (withT l (topT E l)) = true → d.2.2.2 ≤ (withT l (topT E l)).2.2.2 := by
    intro d hd hs
    obtain ⟨x, hx, h1, h2⟩ := h.all d hd
    have h3 := g2 x (List.mem_filter.2 ⟨hx, leSame_trans h1 (leSame_trans hs hsl)⟩)
    show d.2.2.2 ≤ topT E l
    unfold topT
    omega
  have hp := h.put hup
  refine ⟨hp.srt, fun x hx => ?_, fun x hx => ?_⟩
  · rcases List.mem_append.1 (hp.sub x hx) with h1 | h1
    · exact List.mem_append.2 (.inl h1)
    · rw [List.mem_singleton] at h1
      rcases topT_mem (E.filter (fun x => leSame x l)) l.2.2.2 with h2 | ⟨y, hy, h2⟩
      · refine List.mem_append.2 (.inr ?_)
        rw [List.mem_singleton, h1]
        refine le_eq hsl ?_
        exact h2
      · refine List.mem_append.2 (.inl ?_)
        have hy2 := List.mem_filter.1 hy
        rw [h1, show withT l (topT E l) = y from le_eq (leSame_trans hsl (leSame_symm hy2.2)) h2]
        exact h.sub y hy2.1
  · rcases List.mem_append.1 hx with h1 | h1
    · exact hp.all x (List.mem_append.2 (.inl h1))
    · rw [List.mem_singleton] at h1
      subst h1
      exact ⟨_, putL_mem.2 (.inl rfl), hsl, g1⟩

/-- While the model puts l into es: after k of them out is laid, b says whether a place is kept for l, t is its end so far. -/
structure PutAt (es : List Le) (l : Le) (k : Nat) (out : List Le) (b : Bool) (t : Int) : Prop where
  o : out = if b = true then (es.take k).filter (fun x => leLess x l) ++ (0, 0, 0, 0) :: (es.take k).filter (fun x => leLess l x) else (es.take k).filter (fun x => leLess x l)
  m : b = false → (es.take k).filter (fun x => leLess l x) = []
  m2 : b = true → ∃ y ∈ es.take k, leLess l y = true
  t_ : t = topT (es.take k) l
theorem PutAt.start (es : List Le) (l : Le) : PutAt es l 0 [] false l.2.2.2 := ⟨by simp, by simp, by simp, by simp [topT]⟩
theorem filter_next {es : List Le} {k : Nat} (hk : k < es.length) (p : Le → Bool) : (es.take (k + 1)).filter p = (es.take k).filter p ++ (if p es[k] = true then [es[k]] else []) := filter_step hk
theorem PutAt.same {es : List Le} {l : Le} {k : Nat} {out : List Le} {b : Bool} {t : Int} (h : PutAt es l k out b t) (hk : k < es.length) (hs : leSame es[k] l = true) : PutAt es l (k + 1) out b (max t (es[k]).2.2.2) := by
  have e1 : (es.take (k + 1)).filter (fun x => leLess x l) = (es.take k).filter (fun x => leLess x l) := by rw [filter_next hk, if_neg (by rw [leSame_less hs]; simp), List.append_nil]
  have e2 : (es.take (k + 1)).filter (fun x => leLess l x) = (es.take k).filter (fun x => leLess l x) := by rw [filter_next hk, if_neg (by rw [leSame_less (leSame_symm hs)]; simp), List.append_nil]
  refine ⟨by rw [e1, e2]; exact h.o, fun hb => by rw [e2]; exact h.m hb, fun hb => ?_, ?_⟩
  · obtain ⟨y, hy, h2⟩ := h.m2 hb
    exact ⟨y, by rw [List.take_succ_eq_append_getElem hk]; exact List.mem_append.2 (.inl hy), h2⟩
  · rw [h.t_]
    unfold topT
    rw [filter_next hk, if_pos hs, List.foldl_append]
    rfl
theorem topT_next {es : List Le} {l : Le} {k : Nat} (hk : k < es.length) (hs : leSame es[k] l = false) : topT (es.take (k + 1)) l = topT (es.take k) l := by
  unfold topT
  rw [filter_next hk, if_neg (by rw [hs]; simp), List.append_nil]
theorem PutAt.more0 {es : List Le} {l : Le} {k : Nat} {out : List Le} {t : Int} (h : PutAt es l k out false t) (hk : k < es.length) (hl : leLess l es[k] = true) : PutAt es l (k + 1) ((out ++ [(0, 0, 0, 0)]) ++ [es[k]]) true t := by
  have e1 : (es.take (k + 1)).filter (fun x => leLess x l) = (es.take k).filter (fun x => leLess x l) := by rw [filter_next hk, if_neg (by rw [leLess_asym hl]; simp), List.append_nil]
  have e2 : (es.take (k + 1)).filter (fun x => leLess l x) = [es[k]] := by rw [filter_next hk, if_pos hl, h.m rfl, List.nil_append]
  refine ⟨?_, by simp, fun _ => ⟨es[k], by rw [List.take_succ_eq_append_getElem hk]; exact List.mem_append.2 (.inr (List.mem_singleton.2 rfl)), hl⟩, ?_⟩
  · rw [if_pos rfl, e1, e2, h.o, if_neg (by simp)]
    simp
  · rw [topT_next hk]
    · exact h.t_
    · cases hs : leSame es[k] l
      · rfl
      · rw [leSame_less (leSame_symm hs)] at hl; cases hl
theorem PutAt.more1 {es : List Le} {l : Le} {k : Nat} {out : List Le} {t : Int} (h : PutAt es l k out true t) (hk : k < es.length) (hsr : Srt es) (hs : leSame es[k] l = false) : PutAt es l (k + 1) (out ++ [es[k]]) true t := by
  obtain ⟨y, hy, h2⟩ := h.m2 rfl
  have hl : leLess l es[k] = true := by
    obtain ⟨j, hj, rfl⟩ := List.getElem_of_mem hy
    rw [List.length_take] at hj
    rw [List.getElem_take] at h2
    exact leLess_trans h2 (List.pairwise_iff_getElem.1 hsr j k (by omega) hk (by omega))
  have e1 : (es.take (k + 1)).filter (fun x => leLess x l) = (es.take k).filter (fun x => leLess x l) := by rw [filter_next hk, if_neg (by rw [leLess_asym hl]; simp), List.append_nil]
  have e2 : (es.take (k + 1)).filter (fun x => leLess l x) = (es.take k).filter (fun x => leLess l x) ++ [es[k]] := by rw [filter_next hk, if_pos hl]
  refine ⟨?_, by simp, fun _ => ⟨es[k], by rw [List.take_succ_eq_append_getElem hk]; exact List.mem_append.2 (.inr (List.mem_singleton.2 rfl)), hl⟩, by rw [topT_next hk hs]; exact h.t_⟩
  rw [if_pos rfl, e1, e2, h.o, if_pos rfl]
  simp
theorem PutAt.less {es : List Le} {l : Le} {k : Nat} {out : List Le} {t : Int} (h : PutAt es l k out false t) (hk : k < es.length) (hs : leSame es[k] l = false) (hn : leLess l es[k] = false) : PutAt es l (k + 1) (out ++ [es[k]]) false t := by
  have hl : leLess es[k] l = true := by
    rcases le_tri es[k] l with h3 | h3 | h3
    · exact h3
    · rw [h3] at hs; cases hs
    · rw [h3] at hn; cases hn
  have e1 : (es.take (k + 1)).filter (fun x => leLess x l) = (es.take k).filter (fun x => leLess x l) ++ [es[k]] := by rw [filter_next hk, if_pos hl]
  have e2 : (es.take (k + 1)).filter (fun x => leLess l x) = [] := by rw [filter_next hk, if_neg (by rw [hn]; simp), List.append_nil]; exact h.m rfl
  refine ⟨?_, fun _ => e2, by simp, by rw [topT_next hk hs]; exact h.t_⟩
  rw [if_neg (by simp), e1, h.o, if_neg (by simp)]
theorem PutAt.done0 {es : List Le} {l : Le} {out : List Le} {t : Int} (h : PutAt es l es.length out false t) : out ++ [withT l t] = Go.Proofs.Ytgpjjolgpppeeaa.putM es l := by
  have h1 := h.o
  have h2 := h.m rfl
  have h3 := h.t_
  rw [List.take_length] at h1 h2 h3
  rw [if_neg (by simp)] at h1
  unfold Go.Proofs.Ytgpjjolgpppeeaa.putM
  rw [putL_key, h2, h1, h3]
theorem PutAt.done1 {es : List Le} {l : Le} {out : List Le} {t : Int} (h : PutAt es l es.length out true t) : out = es.filter (fun x => leLess x l) ++ (0, 0, 0, 0) :: es.filter (fun x => leLess l x) ∧ Go.Proofs.Ytgpjjolgpppeeaa.putM es l = es.filter (fun x => leLess x l) ++ withT l t :: es.filter (fun x => leLess l x) := by
  have h1 := h.o
  have h3 := h.t_
  rw [List.take_length] at h1 h3
  rw [if_pos rfl] at h1
  refine ⟨h1, ?_⟩
  unfold Go.Proofs.Ytgpjjolgpppeeaa.putM
  rw [putL_key, h3]
end Go.Proofs.Ytgpjjolgpppeeaa

namespace Go.Proofs.Ytgpjjolgpppeeaa
open Go.RowKit P
set_option linter.unusedVariables false

theorem Halved.key {es : List Le} {l : Le} (hok : leOk es = true) (h : keyIx es l < es.length) : Halved es l (keyIx es l) (keyIx es l) := by
  have hs := keyIx_yes h
  refine ⟨Nat.le_refl _, by omega, fun t ht hlt => ?_, fun t ht hge => ?_⟩
  · have h1 := leLess_lt hok hlt h
    rw [leLess_sameR hs] at h1
    exact of_decide_eq_true h1
  · by_cases e : t = keyIx es l
    · subst e
      rw [(leSame_iff _ _).1 hs]
      omega
    · have h1 := leLess_lt hok (i := keyIx es l) (j := t) (by omega) ht
      rw [leLess_sameL hs] at h1
      have h2 := of_decide_eq_false (leLess_asym h1)
      omega
theorem putL_key_set {es : List Le} {l : Le} (hok : leOk es = true) (h : keyIx es l < es.length) : putL es l = es.set (keyIx es l) l := putL_set hok (Halved.key hok h) h (keyIx_yes h)
theorem keyIx_of_mem {es : List Le} {l x : Le} (hx : x ∈ es) (hs : leSame x l = true) : keyIx es l < es.length := List.findIdx_lt_length_of_exists ⟨x, hx, hs⟩

/-- Is there a lease with the key of l that is active? -/
def liveK (es : List Le) (l : Le) (now : Int) : Bool := decide (keyIx es l < es.length) && decide (now < (es.getD (keyIx es l) (0, 0, 0, 0)).2.2.2)
theorem liveK_exp {es : List Le} {l : Le} {now : Int} (hok : leOk es = true) : decide (keyIx (leExp es now) l < (leExp es now).length) = liveK es l now := by
  have hE : leExp es now = es.filter (fun x => decide (now < x.2.2.2)) := by unfold leExp; rw [if_pos hok]
  rw [Bool.eq_iff_iff, decide_eq_true_eq]
  unfold liveK
  rw [Bool.and_eq_true, decide_eq_true_eq, decide_eq_true_eq]
  constructor
  · intro h
    have h1 := keyIx_yes h
    have h2 := List.getElem_mem h
    have h3 := List.mem_filter.1 (by rw [← hE]; exact h2)
    have h4 := keyIx_of_mem h3.1 h1
    refine ⟨h4, ?_⟩
    rw [List.getD_eq_getElem?_getD, List.getElem?_eq_getElem h4, Option.getD_some]
    have e := (leOk_srt hok).same (List.getElem_mem h4) h3.1 (leSame_trans (keyIx_yes h4) (leSame_symm h1))
    rw [e]
    exact of_decide_eq_true h3.2
  · rintro ⟨h4, h5⟩
    rw [List.getD_eq_getElem?_getD, List.getElem?_eq_getElem h4, Option.getD_some] at h5
    refine keyIx_of_mem (x := es[keyIx es l]) ?_ (keyIx_yes h4)
    rw [hE]
    exact List.mem_filter.2 ⟨List.getElem_mem h4, decide_eq_true h5⟩

theorem leExp_ok {es : List Le} {now : Int} (hok : leOk es = true) : leOk (leExp es now) = true := by
  unfold leExp
  rw [if_pos hok]
  refine leOk_of ?_ (fun l hl => leOk_right hok l (List.mem_filter.1 hl).1) ((leOk_srt hok).filter _)
  have h1 := leOk_len hok
  have h2 := List.length_filter_le (fun l : Le => decide (now < l.2.2.2)) es
  omega

def renewN (es : List Le) (l : Le) (now : Int) : Int :=
  if (leOk es && leRight l && decide (0 ≤ now ∧ now ≤ 1000)) = true then (if now < l.2.2.2 then (if liveK es l now = true then 0 else 5) else 2) else 1
def renewL (es : List Le) (l : Le) (now : Int) : List Le := if renewN es l now = 0 then es.set (keyIx es l) l else []
theorem renewL_len {es : List Le} (l : Le) (now : Int) : (renewL es l now).length ≤ 1000000 := by
  unfold renewL
  split
  · rename_i h
    rw [List.length_set]
    unfold renewN at h
    split at h
    · rename_i h1
      simp only [Bool.and_eq_true] at h1
      have := leOk_len h1.1.1
      omega
    · cases h
  · simp
theorem renewN_form {es : List Le} {l : Le} {now : Int} (h : (leOk es && leRight l && decide (0 ≤ now ∧ now ≤ 1000)) = false) : renewN es l now = 1 ∧ renewL es l now = [] := by
  have e : renewN es l now = 1 := by unfold renewN; rw [if_neg (by rw [h]; simp)]
  exact ⟨e, by unfold renewL; rw [e]; rfl⟩
theorem renewN_clock {es : List Le} {l : Le} {now : Int} (h : (leOk es && leRight l && decide (0 ≤ now ∧ now ≤ 1000)) = true) (h2 : ¬ now < l.2.2.2) : renewN es l now = 2 ∧ renewL es l now = [] := by
  have e : renewN es l now = 2 := by unfold renewN; rw [if_pos h, if_neg h2]
  exact ⟨e, by unfold renewL; rw [e]; rfl⟩
theorem renewN_none {es : List Le} {l : Le} {now : Int} (h : (leOk es && leRight l && decide (0 ≤ now ∧ now ≤ 1000)) = true) (h2 : now < l.2.2.2) (h3 : liveK es l now = false) : renewN es l now = 5 ∧ renewL es l now = [] := by
  have e : renewN es l now = 5 := by unfold renewN; rw [if_pos h, if_pos h2, if_neg (by rw [h3]; simp)]
  exact ⟨e, by unfold renewL; rw [e]; rfl⟩
theorem renewN_fine {es : List Le} {l : Le} {now : Int} (h : (leOk es && leRight l && decide (0 ≤ now ∧ now ≤ 1000)) = true) (h2 : now < l.2.2.2) (h3 : liveK es l now = true) : renewN es l now = 0 ∧ renewL es l now = es.set (keyIx es l) l := by
  have e : renewN es l now = 0 := by unfold renewN; rw [if_pos h, if_pos h2, if_pos h3]
  exact ⟨e, by unfold renewL; rw [e]; rfl⟩
theorem liveK_key {es : List Le} {l : Le} {now : Int} (h : liveK es l now = true) : keyIx es l < es.length := by
  unfold liveK at h
  rw [Bool.and_eq_true] at h
  exact of_decide_eq_true h.1
end Go.Proofs.Ytgpjjolgpppeeaa
