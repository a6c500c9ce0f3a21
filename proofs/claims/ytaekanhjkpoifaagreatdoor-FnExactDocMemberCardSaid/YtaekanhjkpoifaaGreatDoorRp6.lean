/-
  Texts of one claim in one: S11, S14, P14, I11, I12, S12. Own work.
-/
import Derived.Test.YtaekanhjkpoifaaGreatDoorRp4
import Derived.Test.YtaekanhjkpoifaaGreatDoorRS10
import Derived.Test.YtaekanhjkpoifaaGreatDoorRp0
import Derived.Laws.CopyRow
import Derived.Deep.RegionHeld3

/-
 Chapter 7, LeaseAll in the model: contract. Own work.
-/
namespace Go.Proofs.YtaekanhjkpoifaaGreatDoor
open Go.RowKit P
set_option linter.unusedVariables false
set_option linter.unusedSimpArgs false
set_option maxRecDepth 100000

/-- The leases of a session. -/
def leAll (es : List Le) (a : Int) : List Le := if leOk es = true then es.filter (fun l => decide (l.2.2.1 = a)) else []

theorem filter_step {p : Le → Bool} {es : List Le} {k : Nat} (hk : k < es.length) : (es.take (k + 1)).filter p = (es.take k).filter p ++ (if p es[k] = true then [es[k]] else []) := by
 rw [List.take_succ_eq_append_getElem hk, List.filter_append]
 congr 1
 by_cases h : p es[k] = true
 ·rw [if_pos h, List.filter_cons_of_pos h]; rfl
 ·rw [if_neg h, List.filter_cons_of_neg h]; rfl
theorem ll_new (w : World) {l : Le} (h : leIn l) : Ll (w.alloc (.cells (leC l) 106)) (some ⟨w.heap.size, 0, none⟩) [l] := by
 intro k hk
 have hk0 : k = 0 := by simpa using hk
 subst hk0
 have hB := Blk.new w (leC l) 106
 refine ⟨w.heap.size, 0, (leC l).toList, rfl, hB.lt, rfl, fun j hj => ?_, Lay.lease.read (own_lease _ h)⟩
 rw [show 0 + (0 * 4 + j) = j by omega, hB.cell j]
 simp only [List.getElem_cons, Array.getElem_toList]
 rw [Array.getElem?_eq_getElem]

end Go.Proofs.YtaekanhjkpoifaaGreatDoor

/-
 Chapter 7, LeaseExpire in the model: contract. Own work.
-/
namespace Go.Proofs.YtaekanhjkpoifaaGreatDoor
open Go.RowKit P
set_option linter.unusedVariables false
set_option linter.unusedSimpArgs false
set_option maxRecDepth 100000

/-- The leases that are active. -/
def leExp (es : List Le) (a : Int) : List Le := if leOk es = true then es.filter (fun l => decide (a < l.2.2.2)) else []
theorem leExp_len (es : List Le) (a : Int) : (leExp es a).length ≤ 1000000 := by
 unfold leExp
 split
 ·rename_i h
  have h1 := leOk_len h
  have h2 := List.length_filter_le (fun l : Le => decide (a < l.2.2.2)) es
  omega
 ·simp

set_option maxHeartbeats 4000000 in
theorem specLeaseExpire_any (A : Option Addr) (es : List Le) (c : Nat) (a : Int) (w : World) (hl : es.length ≤ 1048576) (hA : Ll w A es) :
  Calls Tryz.prog 50 #[.slice A es.length c, .int .i64 a] w fun e w' => ∃ v, e = .returned v ∧ OwR w' w.heap.size v (leExp es a) ∧ Below w.heap.size w w' := by
 have hn9 : es.length ≤ 9223372036854775807 := by omega
 obtain ⟨z, hz⟩ : ∃ z, leOk es = z := ⟨_, rfl⟩
 have HZ := Lib.hid hz
 have hAe : leExp es a = if z = true then es.filter (fun l => decide (a < l.2.2.2)) else [] := by unfold leExp; rw [hz]
 rw [hAe]
 clear hz hAe
 have hown0 := OwR.empty w
 have hal := (Below.refl w.heap.size w).alloc (Nat.le_refl _) (.cells #[] 106)
 go_enter Tryz.func50, Tryz.ntmps50
 go_wp2
 go_loopw [5, 6] (fun out i wr => ∃ (k : Nat) (v : Value), k ≤ es.length ∧ i = .int .i64 k ∧ out = v ∧ (z = false → k = 0) ∧ OwR wr w.heap.size v ((es.take k).filter (fun l => decide (a < l.2.2.2))) ∧ Below w.heap.size w wr)
  (fun _ i _ => es.length - (intOf i).toNat)
 case atStart => exact ⟨0, _, Nat.zero_le _, rfl, rfl, fun _ => rfl, by simpa using hown0, hal⟩
 case round =>
  obtain ⟨k, v, hk, rfl, rfl, hz0, how, hb⟩ := hrel
  have HZ0 := Lib.hid hz0
  have HOW := Lib.hid how
  have HA := Lib.hid (hA.below hb)
  clear hz0 how
  go_wp2_with fail
  refine (specLeasesOk_any A es c _ hn9 (by exact HA.out)).mono ?_
  rintro e w1 ⟨rfl, hb1⟩
  rw [HZ.out]
  have hb9 := below_then hb hb1
  have HOW1 := Lib.hid (HOW.out.below hb1)
  cases z
  ·have hk0 := Lib.hid (HZ0.out rfl)
   go_wp2
   go_ret
   refine ⟨_, rfl, ?_, hb9⟩
   have h9 := HOW1.out
   rw [hk0.out] at h9
   simpa using h9
  by_cases hlt : k < es.length
  ·have hki : (k : Int) < (es.length : Int) := by omega
   obtain ⟨b, off, x, y, s, t, rfl, hbl, hek, k0, k1, k2, k3, hin⟩ := (hA.below hb9).at_ k hlt
   have hst := filter_step (p := fun l => decide (a < l.2.2.2)) hlt
   rw [hek] at hst
   simp only [decide_eq_true_eq] at hst
   by_cases hs : a < t
   ·rw [if_pos hs] at hst
    have HST := Lib.hid hst
    have hnew := ll_new w1 hin
    have how2 := HOW1.out.below ((Below.refl w1.heap.size w1).alloc (Nat.le_refl _) (.cells (leC (x, y, s, t)) 106))
    have hlen : ((es.take k).filter (fun l => decide (a < l.2.2.2))).length ≤ 999999 := by
     have h1 := List.length_filter_le (fun l : Le => decide (a < l.2.2.2)) (es.take k)
     have h2 := leOk_len HZ.out
     rw [List.length_take] at h1
     omega
    have hz1 := hb9.size
    clear hst hek
    generalize (es.take k).filter (fun l => decide (a < l.2.2.2)) = L at *
    go_wp2_with (at_builtin; go_must (refine wpList_app_le rfl _ _ rfl w.heap.size _ L [(x, y, s, t)] _ 1 1 rfl rfl rfl how2 hnew ?c1 ?c2 ?_))
    case c1 => simp; omega
    case c2 => simp; omega
    intro v4 w4 hown4 hg4 _
    have hb4 := (hb9.alloc hz1 (.cells (leC (x, y, s, t)) 106)).grown hg4 (by simp; omega) (fun x hx => (World.ownsRow.lt how2.row x hx).1)
    have H4 := Lib.hid hown4
    have HB4 := Lib.hid hb4
    clear hown4 hg4 hb4 hnew how2 k0 k1 k2 k3 hb hb1 hb9
    go_wp2
    go_roundw
    case rel => exact ⟨k + 1, _, by omega, by go_num, rfl, by simp, by rw [HST.out]; exact H4.out, HB4.out⟩
    case measure => simp [intOf]; omega
   ·rw [if_neg hs, List.append_nil] at hst
    have HST := Lib.hid hst
    have hse : ¬ a < t := hs
    have hse2 : t ≤ a := by omega
    clear hst hek hs
    go_wp2
    go_roundw
    case rel => exact ⟨k + 1, _, by omega, by go_num, rfl, by simp, by rw [HST.out]; exact HOW1.out, hb9⟩
    case measure => simp [intOf]; omega
  ·have e : k = es.length := by omega
   subst e
   go_wp2
   go_ret
   refine ⟨_, rfl, ?_, hb9⟩
   have h9 := HOW1.out
   rw [List.take_length] at h9
   simpa using h9
end Go.Proofs.YtaekanhjkpoifaaGreatDoor

/-
 Chapter 7, plain: what LeaseTake and LeaseRenew give; a lease put by the model. Own work.
 Chapter 7, plain: what LeaseRenew gives. Own work.
-/
namespace Go.Proofs.YtaekanhjkpoifaaGreatDoor
open Go.RowKit P
set_option linter.unusedVariables false

/-- Do two leases have a byte in common? -/
def meet (a b : Le) : Bool := decide (max a.1 b.1 < min a.2.1 b.2.1)
theorem meet_iff (a b : Le) : meet a b = decide (a.1 < b.2.1 ∧ b.1 < a.2.1 ∧ a.1 < a.2.1 ∧ b.1 < b.2.1) := by
 unfold meet
 rw [decide_eq_decide]
 omega
/-- Does o bar l from being taken? -/
def barsL (l o : Le) : Bool := decide (o.2.2.1 ≠ l.2.2.1) && meet o l
def heldL (es : List Le) (l : Le) (now : Int) : Bool := es.any (fun o => decide (now < o.2.2.2) && barsL l o)
theorem heldL_exp {es : List Le} {l : Le} {now : Int} (hok : leOk es = true) : (leExp es now).any (barsL l) = heldL es l now := by
 unfold leExp heldL
 rw [if_pos hok, List.any_filter]

def takeN (es : List Le) (l : Le) (now : Int) : Int :=
 if (leOk es && leRight l && decide (0 ≤ now ∧ now ≤ 1000) && !decide (l.1 = l.2.1)) = true then (if now < l.2.2.2 then (if heldL es l now = true then 3 else if keyIx es l < es.length ∨ es.length = 12 then 4 else 0) else 2) else 1
def takeL (es : List Le) (l : Le) (now : Int) : List Le := if takeN es l now = 0 then putL es l else []
/-- The end of the lease l, put into es by the model: the greatest of those with its key. -/
def topT (es : List Le) (l : Le) : Int := (es.filter (fun x => leSame x l)).foldl (fun t x => max t x.2.2.2) l.2.2.2
def withT (l : Le) (t : Int) : Le := (l.1, l.2.1, l.2.2.1, t)
def putM (es : List Le) (l : Le) : List Le := putL es (withT l (topT es l))
theorem topT_ge (l : Le) : ∀ (es : List Le) (t : Int), t ≤ es.foldl (fun t x => max t x.2.2.2) t ∧ ∀ x ∈ es, x.2.2.2 ≤ es.foldl (fun t x => max t x.2.2.2) t
 | [], t => ⟨Int.le_refl _, fun x h => nomatch h⟩
 | y :: es, t => by
  have ih := topT_ge l es (max t y.2.2.2)
  refine ⟨?_, fun x hx => ?_⟩
  ·have := ih.1
   simp only [List.foldl_cons]
   omega
  ·simp only [List.foldl_cons]
   rcases List.mem_cons.1 hx with h | h
   ·subst h; have := ih.1; omega
   ·exact ih.2 x h
theorem topT_mem : ∀ (es : List Le) (t : Int), es.foldl (fun t x => max t x.2.2.2) t = t ∨ ∃ x ∈ es, es.foldl (fun t x => max t x.2.2.2) t = x.2.2.2
 | [], t => .inl rfl
 | y :: es, t => by
  simp only [List.foldl_cons]
  rcases topT_mem es (max t y.2.2.2) with h | ⟨x, hx, h⟩
  ·by_cases h1 : t ≤ y.2.2.2
   ·exact .inr ⟨y, by simp, by rw [h]; omega⟩
   ·exact .inl (by rw [h]; omega)
  ·exact .inr ⟨x, List.mem_cons_of_mem _ hx, h⟩
/-- The model's put keeps the book, whatever the order. -/
theorem Book.putM {D E : List Le} {l : Le} (h : Book D E) : Book (D ++ [l]) (putM E l) := by
 obtain ⟨g1, g2⟩ := topT_ge l (E.filter (fun x => leSame x l)) l.2.2.2
 have hsl : leSame (withT l (topT E l)) l = true := (leSame_eq _ _).2 ⟨rfl, rfl, rfl⟩
 have hup : ∀ d ∈ D, leSame d (withT l (topT E l)) = true → d.2.2.2 ≤ (withT l (topT E l)).2.2.2 := by
  intro d hd hs
  obtain ⟨x, hx, h1, h2⟩ := h.all d hd
  have h3 := g2 x (List.mem_filter.2 ⟨hx, leSame_trans h1 (leSame_trans hs hsl)⟩)
  show d.2.2.2 ≤ topT E l
  unfold topT
  omega
 have hp := h.put hup
 refine ⟨hp.srt, fun x hx => ?_, fun x hx => ?_⟩
 ·rcases List.mem_append.1 (hp.sub x hx) with h1 | h1
  ·exact List.mem_append.2 (.inl h1)
  ·rw [List.mem_singleton] at h1
   rcases topT_mem (E.filter (fun x => leSame x l)) l.2.2.2 with h2 | ⟨y, hy, h2⟩
   ·refine List.mem_append.2 (.inr ?_)
    rw [List.mem_singleton, h1]
    refine le_eq hsl ?_
    exact h2
   ·refine List.mem_append.2 (.inl ?_)
    have hy2 := List.mem_filter.1 hy
    rw [h1, show withT l (topT E l) = y from le_eq (leSame_trans hsl (leSame_symm hy2.2)) h2]
    exact h.sub y hy2.1
 ·rcases List.mem_append.1 hx with h1 | h1
  ·exact hp.all x (List.mem_append.2 (.inl h1))
  ·rw [List.mem_singleton] at h1
   subst h1
   exact ⟨_, putL_mem.2 (.inl rfl), hsl, g1⟩

/-- While the model puts l into es: after k of them out is laid, b says whether a place is kept for l, t is its end so far. -/
structure PutAt (es : List Le) (l : Le) (k : Nat) (out : List Le) (b : Bool) (t : Int) : Prop where
 o : out = if b = true then (es.take k).filter (fun x => leLess x l) ++ (0, 0, 0, 0) :: (es.take k).filter (fun x => leLess l x) else (es.take k).filter (fun x => leLess x l)
 m : b = false → (es.take k).filter (fun x => leLess l x) = []
 m2 : b = true → ∃ y ∈ es.take k, leLess l y = true
 t_ : t = topT (es.take k) l
theorem PutAt.start (es : List Le) (l : Le) : PutAt es l 0 [] false l.2.2.2 := ⟨by simp, by simp, by simp, by simp [topT]⟩
theorem filter_next {es : List Le} {k : Nat} (hk : k < es.length) (p : Le → Bool) : (es.take (k + 1)).filter p = (es.take k).filter p ++ (if p es[k] = true then [es[k]] else []) := filter_step hk
theorem PutAt.same {es : List Le} {l : Le} {k : Nat} {out : List Le} {b : Bool} {t : Int} (h : PutAt es l k out b t) (hk : k < es.length) (hs : leSame es[k] l = true) : PutAt es l (k + 1) out b (max t (es[k]).2.2.2) := by
 have e1 : (es.take (k + 1)).filter (fun x => leLess x l) = (es.take k).filter (fun x => leLess x l) := by rw [filter_next hk, if_neg (by rw [leSame_less hs]; simp), List.append_nil]
 have e2 : (es.take (k + 1)).filter (fun x => leLess l x) = (es.take k).filter (fun x => leLess l x) := by rw [filter_next hk, if_neg (by rw [leSame_less (leSame_symm hs)]; simp), List.append_nil]
 refine ⟨by rw [e1, e2]; exact h.o, fun hb => by rw [e2]; exact h.m hb, fun hb => ?_, ?_⟩
 ·obtain ⟨y, hy, h2⟩ := h.m2 hb
  exact ⟨y, by rw [List.take_succ_eq_append_getElem hk]; exact List.mem_append.2 (.inl hy), h2⟩
 ·rw [h.t_]
  unfold topT
  rw [filter_next hk, if_pos hs, List.foldl_append]
  rfl
end Go.Proofs.YtaekanhjkpoifaaGreatDoor

namespace Go.Proofs.YtaekanhjkpoifaaGreatDoor
open Go.RowKit P
set_option linter.unusedVariables false

theorem Halved.key {es : List Le} {l : Le} (hok : leOk es = true) (h : keyIx es l < es.length) : Halved es l (keyIx es l) (keyIx es l) := by
 have hs := keyIx_yes h
 refine ⟨Nat.le_refl _, by omega, fun t ht hlt => ?_, fun t ht hge => ?_⟩
 ·have h1 := leLess_lt hok hlt h
  rw [leLess_sameR hs] at h1
  exact of_decide_eq_true h1
 ·by_cases e : t = keyIx es l
  ·subst e
   rw [(leSame_iff _ _).1 hs]
   omega
  ·have h1 := leLess_lt hok (i := keyIx es l) (j := t) (by omega) ht
   rw [leLess_sameL hs] at h1
   have h2 := of_decide_eq_false (leLess_asym h1)
   omega
/-- Is there a lease with the key of l that is active? -/
def liveK (es : List Le) (l : Le) (now : Int) : Bool := decide (keyIx es l < es.length) && decide (now < (es.getD (keyIx es l) (0, 0, 0, 0)).2.2.2)
def renewN (es : List Le) (l : Le) (now : Int) : Int :=
 if (leOk es && leRight l && decide (0 ≤ now ∧ now ≤ 1000)) = true then (if now < l.2.2.2 then (if liveK es l now = true then 0 else 5) else 2) else 1
def renewL (es : List Le) (l : Le) (now : Int) : List Le := if renewN es l now = 0 then es.set (keyIx es l) l else []
end Go.Proofs.YtaekanhjkpoifaaGreatDoor

/-
 Chapter 7, LeaseAll in the program: contract. Own work.
-/
namespace Go.Proofs.YtaekanhjkpoifaaGreatDoor
open Go.RowKit P
set_option linter.unusedVariables false
set_option linter.unusedSimpArgs false
set_option maxRecDepth 100000

/-- The row while leases are struck from it: what stays of the first j stands at the front, what comes is as it was. -/
structure Kept (a : Int) (es R : List Le) (i j : Nat) : Prop where
 lt : i < j
 le : j ≤ es.length
 ln : R.length = es.length
 fr : R.take i = (es.take j).filter (fun l => decide (l.2.2.1 = a))
 bk : ∀ t, j ≤ t → R[t]? = es[t]?
 in_ : ∀ l ∈ R, leIn l
theorem Kept.start {a : Int} {es : List Le} {k : Nat} (hk : k < es.length) (hn : es[k].2.2.1 ≠ a) (hall : ∀ j (h : j < k), es[j].2.2.1 = a) (hin : ∀ l ∈ es, leIn l) : Kept a es es k (k + 1) := by
 refine ⟨by omega, hk, rfl, ?_, fun _ _ => rfl, hin⟩
 rw [filter_step hk, decide_eq_false hn]
 rw [if_neg (by simp), List.append_nil]
 rw [List.filter_eq_self.2]
 intro l hl
 obtain ⟨j, hj, rfl⟩ := List.getElem_of_mem hl
 rw [List.length_take] at hj
 rw [List.getElem_take]
 exact decide_eq_true (hall j (by omega))
theorem Kept.skip {a : Int} {es R : List Le} {i j : Nat} (h : Kept a es R i j) (hj : j < es.length) (hn : es[j].2.2.1 ≠ a) : Kept a es R i (j + 1) := by
 refine ⟨by have := h.lt; omega, hj, h.ln, ?_, fun t ht => h.bk t (by omega), h.in_⟩
 rw [filter_step hj, decide_eq_false hn, if_neg (by simp), List.append_nil]
 exact h.fr
theorem Kept.keep {a : Int} {es R : List Le} {i j : Nat} (h : Kept a es R i j) (hj : j < es.length) {x y s t : Int} (he : es[j] = (x, y, s, t)) (hs : s = a) : Kept a es (R.set i (x, y, s, t)) (i + 1) (j + 1) := by
 have hij := h.lt
 have hln := h.ln
 have hi : i < R.length := by omega
 refine ⟨by omega, hj, by rw [List.length_set]; exact hln, ?_, fun u hu => ?_, fun l hl => ?_⟩
 ·rw [filter_step hj, he, decide_eq_true hs, if_pos rfl, ← h.fr]
  rw [List.take_succ_eq_append_getElem (by rw [List.length_set]; exact hi), List.getElem_set_self, List.take_set_of_le (Nat.le_refl _)]
 ·rw [List.getElem?_set_ne (by omega)]
  exact h.bk u (by omega)
 ·rcases List.mem_or_eq_of_mem_set hl with h1 | h1
  ·exact h.in_ l h1
  ·subst h1
   have h2 := h.bk j (Nat.le_refl _)
   rw [List.getElem?_eq_getElem hj, he] at h2
   exact h.in_ _ (List.mem_of_getElem? h2)
theorem Kept.at_ {a : Int} {es R : List Le} {i j : Nat} (h : Kept a es R i j) (hj : j < es.length) : R[j]'(by have := h.ln; omega) = es[j] := by
 have h2 := h.bk j (Nat.le_refl _)
 rw [List.getElem?_eq_getElem hj, List.getElem?_eq_getElem (by have := h.ln; omega)] at h2
 injection h2
end Go.Proofs.YtaekanhjkpoifaaGreatDoor

/-
 Chapter 7, slices.DeleteFunc on leases, LeaseAll in the program: contracts. Own work.
-/
namespace Go.Proofs.YtaekanhjkpoifaaGreatDoor
open Go.RowKit P
set_option linter.unusedVariables false
set_option linter.unusedSimpArgs false
set_option maxRecDepth 100000

/-- The size of a block of leases. -/
def SzB (w : World) (g N : Nat) : Prop := ∃ cur, Blk w g cur 106 ∧ cur.size = N
theorem SzB.below {w w' : World} {g N : Nat} (h : SzB w g N) (hb : Below w.heap.size w w') : SzB w' g N := by
 obtain ⟨cur, h1, h2⟩ := h
 exact ⟨cur, h1.below hb, h2⟩
theorem SzB.set {w : World} {g N : Nat} (h : SzB w g N) (i : Nat) (u : Value) : SzB (w.setCell ⟨g, i, none⟩ u) g N := by
 obtain ⟨cur, h1, h2⟩ := h
 exact ⟨_, h1.set i u, by simpa using h2⟩

/-- A front part of a row, as a slice of the call's own. -/
theorem own_of_row {w : World} {g cap i base : Nat} {R L : List Le} (h : RowL w g R) (hs : SzB w g (cap * 4)) (hb : base ≤ g) (hi : i ≤ R.length) (hL : R.take i = L) (hin : ∀ l ∈ R, leIn l) (hc : R.length ≤ cap) (hm : cap ≤ maxLen) :
  OwR w base (.slice (some ⟨g, 0, none⟩) i cap) L := by
 obtain ⟨cur, h1, h2⟩ := hs
 obtain ⟨cur', h3, h4, h5⟩ := h
 have e : cur' = cur := by
  unfold Blk at h1 h3
  rw [h1] at h3
  injection h3 with h3
  injection h3 with h3
  exact h3.symm
 subst e
 have hLl : L.length = i := by rw [← hL, List.length_take]; omega
 refine ⟨⟨by rw [leCl_flat], .inr ⟨g, cap, cur', by rw [hLl], hb, h1, by omega, hm, h2, ?_⟩⟩, fun l hl => hin l (by rw [← hL] at hl; exact List.mem_of_mem_take hl)⟩
 apply List.ext_getElem?
 intro j
 rw [List.getElem?_take]
 by_cases hj : j < L.length * 4
 ·rw [if_pos hj]
  have hk : j / 4 < L.length := by omega
  have hkR : j / 4 < R.length := by omega
  have hg := leCl_get L (j / 4) hk (j % 4) (by omega)
  rw [show j / 4 * 4 + j % 4 = j by omega] at hg
  rw [hg]
  have heq : L[j / 4] = R[j / 4] := by simp only [← hL, List.getElem_take]
  rw [heq]
  obtain ⟨c0, c1, c2, c3⟩ := h5 (j / 4) hkR
  simp only [Array.getElem?_toList]
  have h4 : j % 4 = 0 ∨ j % 4 = 1 ∨ j % 4 = 2 ∨ j % 4 = 3 := by omega
  rcases h4 with h4 | h4 | h4 | h4
  ·rw [h4]; rw [show cur'[j]? = cur'[j / 4 * 4]? by congr 1; omega, c0]; rfl
  ·rw [h4]; rw [show cur'[j]? = cur'[j / 4 * 4 + 1]? by congr 1; omega, c1]; rfl
  ·rw [h4]; rw [show cur'[j]? = cur'[j / 4 * 4 + 2]? by congr 1; omega, c2]; rfl
  ·rw [h4]; rw [show cur'[j]? = cur'[j / 4 * 4 + 3]? by congr 1; omega, c3]; rfl
 ·rw [if_neg hj]
  exact (List.getElem?_eq_none (by rw [leCl_flat]; omega)).symm

theorem slcLe_head (g n c i : Nat) (hi : i ≤ n) (hc : n ≤ c) (hc9 : c ≤ maxLen) : ∀ W, (Instr.slice 34 (.slice (some ⟨g, 0, none⟩) n c) none (some (.int .i64 (i : Int))) none).run Tryz.prog W = .ok (.slice (some ⟨g, 0, none⟩) i c) W := by
 intro W
 unfold maxLen at hc9
 have hz : ∀ W, (Go.sizeOf 106).run Tryz.prog W = .ok 4 W := fun W => by kernel_rfl
 have ht' : Tryz.prog.underlying 34 = some (.slice (Tryz.prog.elem 34)) := by simp [Program.elem, Tryz.underlying34]
 have he : Tryz.prog.elem 34 = 106 := by simp [Program.elem, Tryz.underlying34]
 rw [run_slice_h W 34 _ _ _ ht' .i64 _ (by omega) (by omega), he, hz]
 simp [Result.andThen, sliced, Addr.add]

theorem RowL.keep {w w' : World} {g : Nat} {es : List Le} (h : RowL w g es) (hb : w'.heap[g]? = w.heap[g]?) : RowL w' g es := by
 obtain ⟨cur, hc, r⟩ := h
 exact ⟨cur, hc.of_block hb, r⟩

end Go.Proofs.YtaekanhjkpoifaaGreatDoor

/-
 Chapter 7, LeaseDrop in the model: contracts. Own work.
-/
namespace Go.Proofs.YtaekanhjkpoifaaGreatDoor
open Go.RowKit P
set_option linter.unusedVariables false
set_option linter.unusedSimpArgs false
set_option maxRecDepth 100000

end Go.Proofs.YtaekanhjkpoifaaGreatDoor
