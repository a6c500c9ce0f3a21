/-
  Texts of one claim in one: C19, D11. Own work.
-/
import Derived.Test.YtaekanhjkpoifaaGreatDoorRC18
import Derived.Test.YtaekanhjkpoifaaGreatDoorRD08
import Derived.Test.YtaekanhjkpoifaaGreatDoorRp8

/-
 The laws' reading of marks on commits, members and documents: contracts. Own work.
-/
namespace Go.Proofs.YtaekanhjkpoifaaGreatDoor
open Go.RowKit P
set_option linter.unusedVariables false
set_option linter.unusedSimpArgs false
set_option maxRecDepth 100000

theorem markedEd_eq (es : List Ed) : ∀ k, markedEd k es = markedE k es := by
 induction es with
 | nil => intro k; rfl
 | cons c t ih => intro k; simp only [markedEd, markedE, mkEd, ih]
theorem markedC_get (es : List Cm) : ∀ (k j : Nat) (h : j < es.length), (markedC k es)[j]'(by rw [markedC_length]; exact h) = mkC (nC k (es.take j)) es[j] := by
 intro k j h
 have hs := markedC_snoc es k j h
 have h2 : markedC k (es.take (j + 1)) = (markedC k es).take (j + 1) := by
  clear hs h
  induction es generalizing k j with
  | nil => simp [markedC]
  | cons c t ih =>
   rw [List.take_succ_cons]
   simp only [markedC, List.take_succ_cons]
   cases j with
   | zero => simp [markedC]
   | succ j => rw [ih (k + 3 + c.2.2.2.length) j]
 have h3 : (markedC k (es.take (j + 1)))[j]? = some (mkC (nC k (es.take j)) es[j]) := by
  rw [hs, List.getElem?_append_right (by rw [markedC_length, List.length_take]; omega)]
  simp [markedC_length, List.length_take, show min j es.length = j by omega]
 rw [h2, List.getElem?_take, if_pos (by omega), List.getElem?_eq_getElem (by rw [markedC_length]; exact h)] at h3
 exact Option.some.inj h3
theorem markedM_get (es : List Mb) : ∀ (k j : Nat) (h : j < es.length), (markedM k es)[j]'(by rw [markedM_length]; exact h) = mkM (nM k (es.take j)) es[j] := by
 intro k j h
 have hs := markedM_snoc es k j h
 have h2 : markedM k (es.take (j + 1)) = (markedM k es).take (j + 1) := by
  clear hs h
  induction es generalizing k j with
  | nil => simp [markedM]
  | cons c t ih =>
   rw [List.take_succ_cons]
   simp only [markedM, List.take_succ_cons]
   cases j with
   | zero => simp [markedM]
   | succ j => rw [ih (nMb k c) j]
 have h3 : (markedM k (es.take (j + 1)))[j]? = some (mkM (nM k (es.take j)) es[j]) := by
  rw [hs, List.getElem?_append_right (by rw [markedM_length, List.length_take]; omega)]
  simp [markedM_length, List.length_take, show min j es.length = j by omega]
 rw [h2, List.getElem?_take, if_pos (by omega), List.getElem?_eq_getElem (by rw [markedM_length]; exact h)] at h3
 exact Option.some.inj h3

theorem nM_ge3 (es : List Mb) : ∀ (k : Nat), k + 3 * es.length ≤ nM k es := by
 induction es with
 | nil => intro k; exact Nat.le_refl _
 | cons c t ih =>
  intro k
  have h1 := ih (nMb k c)
  have h2 := nMb_eq k c
  simp only [nM, List.length_cons]
  omega

set_option maxHeartbeats 4000000 in
theorem heldCommitS_any (A : Option Addr) (es : List Cm) (c k : Nat) (w : World) (hk : nC k es ≤ 1900000) (hE : Cms w A (markedC k es)) :
  Calls Tryz.prog 54 #[.slice A es.length c, .int .i64 (k : Int)] w fun e w' => e = .returned (.int .i64 (nC k es : Int)) ∧ Below w.heap.size w w' := by
 have hlen9 : es.length ≤ 1900000 := by
  have h9 := hk
  unfold nC at h9
  omega
 go_enter Tryz.func54, Tryz.ntmps54
 go_wp2
 go_loopw [1, 5] (fun kk i wr => ∃ j : Nat, j ≤ es.length ∧ i = .int .i64 j ∧ kk = .int .i64 (nC k (es.take j) : Int) ∧ Below w.heap.size w wr) (fun _ i _ => es.length - (intOf i).toNat)
 case atStart => exact ⟨0, Nat.zero_le _, rfl, by simp [nC, tot, cputs], Below.refl _ _⟩
 case round =>
  obtain ⟨j, hj, rfl, rfl, hb⟩ := hrel
  by_cases hlt : j < es.length
  ·obtain ⟨b, off, s, a, m, P, p, ep, rfl, hbl, hek, k0, k1, k2, k3, hs, ha, hm, hpd, hdm, hBp⟩ := (hE.below hb).at_ j (by rw [markedC_length]; exact hlt)
   rw [markedC_get es k j hlt] at hek
   unfold mkC at hek
   simp only [Prod.mk.injEq] at hek
   obtain ⟨rfl, rfl, rfl, rfl⟩ := hek
   have hntk := nC_take k es j hlt
   have hnle := nC_le k es (j + 1)
   have HNT := Lib.hid hntk
   obtain ⟨q, hq⟩ : ∃ q, nC k (es.take j) = q := ⟨_, rfl⟩
   rw [hq] at k0 k1 k2 k3 hBp hntk ⊢
   rw [marks_length] at k3
   obtain ⟨n, hnn⟩ : ∃ n, es[j].2.2.2.length = n := ⟨_, rfl⟩
   rw [hnn] at k3 hBp hntk
   have HBP := Lib.hid hBp
   have HB := Lib.hid hb
   have hji : (j : Int) < (es.length : Int) := by omega
   have hqb : q + 3 ≤ 2000000 := by omega
   have hnb : n ≤ 2000000 := by omega
   have hw0 : IntKind.i64.wrap ((q : Int) + 1) = (q : Int) + 1 := by rw [IntWalk.i64_in _ ⟨by omega, by omega⟩]
   have hw1 : IntKind.i64.wrap ((q : Int) + 1 + 1) = (q : Int) + 2 := by rw [IntWalk.i64_in _ ⟨by omega, by omega⟩]; omega
   have hw2 : IntKind.i64.wrap ((q : Int) + 2 + 1) = ((q + 3 : Nat) : Int) := by rw [IntWalk.i64_in _ ⟨by omega, by omega⟩]; omega
   have hnx : q + 3 + n = nC k (es.take (j + 1)) := hntk.symm
   have HNX := Lib.hid hnx
   have hneg : ¬ ((nC k (es.take (j + 1)) : Nat) : Int) < 0 := by omega
   have e1 : ((q : Int) != (q : Int)) = false := by simp
   have e2 : ((q : Int) + 1 != (q : Int) + 1) = false := by simp
   have e3 : ((q : Int) + 2 != (q : Int) + 2) = false := by simp
   clear hBp hb hntk hnx hnn hq hs ha hm hpd hdm
   go_wp2_with fail
   refine (heldByteS_any P n ep (q + 3) _ hqb hnb HBP.out).mono ?_
   rintro e w1 ⟨rfl, rfl⟩
   rw [HNX.out]
   go_wp2
   go_roundw
   case rel => exact ⟨j + 1, by omega, by go_num, by first | rfl | go_num, HB.out⟩
   case measure => simp [intOf]; omega
  ·have e : j = es.length := by omega
   subst e
   rw [List.take_length]
   go_wp2
   go_ret
   exact ⟨rfl, hb⟩

set_option maxHeartbeats 4000000 in
theorem heldMemberS_any (A : Option Addr) (es : List Mb) (c k : Nat) (w : World) (hk : nM k es ≤ 390000) (hE : Mbs w A (markedM k es)) :
  Calls Tryz.prog 55 #[.slice A es.length c, .int .i64 (k : Int)] w fun e w' => e = .returned (.int .i64 (nM k es : Int)) ∧ Below w.heap.size w w' := by
 have hlen9 : es.length ≤ 390000 := by
  have h9 := nM_ge3 es k
  omega
 go_enter Tryz.func55, Tryz.ntmps55
 go_wp2
 go_loopw [1, 5] (fun kk i wr => ∃ j : Nat, j ≤ es.length ∧ i = .int .i64 j ∧ kk = .int .i64 (nM k (es.take j) : Int) ∧ Below w.heap.size w wr) (fun _ i _ => es.length - (intOf i).toNat)
 case atStart => exact ⟨0, Nat.zero_le _, rfl, by simp [nM], Below.refl _ _⟩
 case round =>
  obtain ⟨j, hj, rfl, rfl, hb⟩ := hrel
  by_cases hlt : j < es.length
  ·obtain ⟨b, off, s, f, t, U, u', cu, R, r', cr, rfl, hbl, hek, k0, k1, k2, k3, k4, hs, hf, ht, hcu, hcm, hdr, hdm, hU, hR⟩ := (hE.below hb).at_ j (by rw [markedM_length]; exact hlt)
   rw [markedM_get es k j hlt] at hek
   unfold mkM at hek
   simp only [Prod.mk.injEq] at hek
   obtain ⟨rfl, ⟨rfl, rfl⟩, rfl, rfl⟩ := hek
   have hntk := nM_snoc es k j hlt
   have hnle := nM_take_le es k (j + 1)
   have hmq := nMb_eq (nM k (es.take j)) es[j]
   obtain ⟨q, hq⟩ : ∃ q, nM k (es.take j) = q := ⟨_, rfl⟩
   rw [hq] at k0 k1 k2 k3 k4 hU hR hntk hmq ⊢
   rw [markedEd_len] at k3 k4
   rw [markedEd_eq] at hU hR
   unfold nMb at hntk hmq
   obtain ⟨u, hu⟩ : ∃ u, es[j].2.2.1 = u := ⟨_, rfl⟩
   obtain ⟨r, hr⟩ : ∃ r, es[j].2.2.2 = r := ⟨_, rfl⟩
   rw [hu] at k3 hU hR hntk hmq
   rw [hr] at k4 hR hntk hmq
   obtain ⟨n1, hn1⟩ : ∃ n, nEd (q + 3) u = n := ⟨_, rfl⟩
   have hn1v : n1 = q + 3 + 2 * u.length + tot (puts u) := hn1.symm
   rw [hn1] at hR hntk hmq
   have hn2v : nEd n1 r = n1 + 2 * r.length + tot (puts r) := rfl
   have HN1 := Lib.hid (show q + 3 + 2 * u.length + tot (puts u) = n1 from hn1)
   have HN2 := Lib.hid (show n1 + 2 * r.length + tot (puts r) = nM k (es.take (j + 1)) from hntk.symm)
   have HU := Lib.hid hU
   have HR := Lib.hid hR
   have HB := Lib.hid hb
   have hji : (j : Int) < (es.length : Int) := by omega
   have hqb : q + 3 ≤ 1500000 := by omega
   have hub : 2 * u.length + tot (puts u) ≤ 400000 := by omega
   have hrb : 2 * r.length + tot (puts r) ≤ 400000 := by omega
   have hnb : n1 ≤ 1500000 := by omega
   have hw0 : IntKind.i64.wrap ((q : Int) + 1) = (q : Int) + 1 := by rw [IntWalk.i64_in _ ⟨by omega, by omega⟩]
   have hw1 : IntKind.i64.wrap ((q : Int) + 1 + 1) = (q : Int) + 2 := by rw [IntWalk.i64_in _ ⟨by omega, by omega⟩]; omega
   have hw2 : IntKind.i64.wrap ((q : Int) + 2 + 1) = ((q + 3 : Nat) : Int) := by rw [IntWalk.i64_in _ ⟨by omega, by omega⟩]; omega
   have hneg1 : ¬ ((n1 : Nat) : Int) < 0 := by omega
   have hneg : ¬ ((nM k (es.take (j + 1)) : Nat) : Int) < 0 := by omega
   have e1 : ((q : Int) != (q : Int)) = false := by simp
   have e2 : ((q : Int) + 1 != (q : Int) + 1) = false := by simp
   have e3 : ((q : Int) + 2 != (q : Int) + 2) = false := by simp
   clear hU hR hb hntk hn1 hq hs hf ht hcu hcm hdr hdm hu hr hn1v hn2v hmq
   go_wp2_with fail
   refine (heldEditS_any U u cu (q + 3) _ hqb hub HU.out).mono ?_
   rintro e w1 ⟨rfl, hb1⟩
   rw [HN1.out]
   have k4 := (hb1.cell (p := ⟨b, off + j * 5 + 4, none⟩) hbl).trans k4
   have HR := Lib.hid (HR.out.below hb1)
   have HB := Lib.hid (below_then HB.out hb1)
   clear k0 k1 k2 k3 hb1
   go_wp2_with fail
   refine (heldEditS_any R r cr n1 _ hnb hrb HR.out).mono ?_
   rintro e w2 ⟨rfl, hb2⟩
   rw [HN2.out]
   have HB := Lib.hid (below_then HB.out hb2)
   clear hb2
   go_wp2
   go_roundw
   case rel => exact ⟨j + 1, by omega, by go_num, by first | rfl | go_num, HB.out⟩
   case measure => simp [intOf]; omega
  ·have e : j = es.length := by omega
   subst e
   rw [List.take_length]
   go_wp2
   go_ret
   exact ⟨rfl, hb⟩
end Go.Proofs.YtaekanhjkpoifaaGreatDoor

/-
 Chapter 10, a document's version and the text at it: the program's contracts. Own work.
-/
namespace Go.Proofs.YtaekanhjkpoifaaGreatDoor
open Go.RowKit P
set_option linter.unusedVariables false
set_option linter.unusedSimpArgs false
set_option maxRecDepth 100000

/-- Whether a document is valid and has a version. -/
def verIn (d : Dc) (v : Int) : Bool := decide (0 ≤ v) && decide (v ≤ (d.log.length : Int))
def verOk (d : Dc) (v : Int) : Bool := docOk d && verIn d v
/-- The text at a version. -/
def atT (d : Dc) (v : Int) : List UInt8 := if verOk d v = true then edsText d.start ((logE d.log).take v.toNat) else []
/-- Where a document's log lies, so that it can be cut. -/
def PlL (a : Da) : Prop := (a.l = none → a.cl = 0) ∧ ∀ x, a.l = some x → ∃ g, x = ⟨g, 0, none⟩
theorem OwD.plain {w : World} {base : Nat} {a : Da} {d : Dc} {fs ft fl fm fe : List Nat} (h : OwD w base a d fs ft fl fm fe) : PlL a := by
 obtain ⟨es, _, hrow, _, _⟩ := ow_one h.l
 rcases hrow.2 with ⟨hv, _⟩ | ⟨g, cap, cur, hv, _⟩
 ·simp only [Value.slice.injEq] at hv
  exact ⟨fun _ => hv.2.2, fun x hx => (by rw [hv.1] at hx; cases hx)⟩
 ·simp only [Value.slice.injEq] at hv
  exact ⟨fun h0 => (by rw [hv.1] at h0; cases h0), fun x hx => ⟨g, (by rw [hv.1] at hx; exact (Option.some.inj hx).symm)⟩⟩
theorem Cms.take {w : World} {A : Option Addr} {es : List Cm} (h : Cms w A es) (n : Nat) : Cms w A (es.take n) := by
 intro k hk
 rw [List.length_take] at hk
 obtain ⟨b, off, us, hA, hlt, hl, hc, hr⟩ := h k (by omega)
 exact ⟨b, off, us, hA, hlt, hl, hc, by rw [List.getElem_take]; exact hr⟩

/-- What a text at a version ends in. -/
def GivesAt (d : Dc) (v : Int) (w : World) (e : Ending) (w' : World) : Prop := ∃ u, e = .returned (.tuple #[u, .bool (verOk d v)]) ∧ Own w' w.heap.size u (atT d v) ∧ Below w.heap.size w w'
theorem GivesAt.no {d : Dc} {v : Int} {w w' : World} (h : verOk d v = false) (hb : Below w.heap.size w w') : GivesAt d v w (.returned (.tuple #[.slice none 0 0, .bool false])) w' :=
 ⟨.slice none 0 0, by rw [h], by unfold atT; rw [if_neg (by rw [h]; simp)]; exact Own.nil _ _, hb⟩
theorem GivesAt.yes {d : Dc} {v : Int} {w w' : World} {u : Value} (h : verOk d v = true) (ho : Own w' w.heap.size u (edsText d.start (logE (d.log.take v.toNat)))) (hb : Below w.heap.size w w') : GivesAt d v w (.returned (.tuple #[u, .bool true])) w' :=
 ⟨u, by rw [h], by unfold atT; rw [if_pos h]; have e : (logE d.log).take v.toNat = logE (d.log.take v.toNat) := (by unfold logE; rw [List.map_take]); rw [e]; exact ho, hb⟩

end Go.Proofs.YtaekanhjkpoifaaGreatDoor
