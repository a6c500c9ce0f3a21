/-
 Chapter 8, l08Copy, l08Top, StackPush in the model: contracts. Own work.
 Chapter 8, StackPush in the model: contract. Own work.
 Chapter 8, StackTurn in the model: contract. Own work.
-/
import Derived.Test.YtaekanhjkpoifaaGreatDoorRK01
import Derived.Test.YtaekanhjkpoifaaGreatDoorRC11
namespace Go.Proofs.YtaekanhjkpoifaaGreatDoor
open Go.RowKit P
set_option linter.unusedVariables false
set_option linter.unusedSimpArgs false
set_option maxRecDepth 100000

/-- A list that is read in the blocks fp, and stays as long as they do. -/
structure RdE (w : World) (base : Nat) (A : Option Addr) (es : List Ed) (fp : List Nat) : Prop where
 rd : ∀ W : World, (∀ k ∈ fp, W.heap[k]? = w.heap[k]?) → w.heap.size ≤ W.heap.size → Es W A es
 lo : ∀ k ∈ fp, base ≤ k ∧ k < w.heap.size
theorem RdE.es {w : World} {base : Nat} {A : Option Addr} {es : List Ed} {fp : List Nat} (h : RdE w base A es fp) : Es w A es := h.rd w (fun _ _ => rfl) (Nat.le_refl _)
theorem RdE.go {w w' : World} {base : Nat} {A : Option Addr} {es : List Ed} {fp : List Nat} (h : RdE w base A es fp) (hb : ∀ k ∈ fp, w'.heap[k]? = w.heap[k]?) (hs : w.heap.size ≤ w'.heap.size) : RdE w' base A es fp :=
 ⟨fun W hk hz => h.rd W (fun k hk2 => (hk k hk2).trans (hb k hk2)) (Nat.le_trans hs hz), fun k hk => ⟨(h.lo k hk).1, Nat.lt_of_lt_of_le (h.lo k hk).2 hs⟩⟩
theorem RdE.below {w w' : World} {base : Nat} {A : Option Addr} {es : List Ed} {fp : List Nat} (h : RdE w base A es fp) (b : Below w.heap.size w w') : RdE w' base A es fp := h.go (fun k hk => b.block k (h.lo k hk).2) b.size
theorem RdE.keeps {w w' : World} {base : Nat} {A : Option Addr} {es : List Ed} {fp fq : List Nat} (h : RdE w base A es fp) (hk : Keeps fq w w') (hd : ∀ k ∈ fp, k ∉ fq) : RdE w' base A es fp := h.go (fun k hk2 => hk.block k (h.lo k hk2).2 (hd k hk2)) hk.size
theorem RdE.mono {w : World} {base base' : Nat} {A : Option Addr} {es : List Ed} {fp : List Nat} (h : RdE w base A es fp) (hb : base' ≤ base) : RdE w base' A es fp := ⟨h.rd, fun k hk => ⟨Nat.le_trans hb (h.lo k hk).1, (h.lo k hk).2⟩⟩
theorem RdE.nil (w : World) (base : Nat) : RdE w base none [] [] := ⟨fun W _ _ k hk => by simp at hk, fun _ h => nomatch h⟩
def CopiesE (es : List Ed) (w : World) (e : Ending) (w' : World) : Prop := ∃ A' c' fp, e = .returned (.slice A' es.length c') ∧ OwE w' w.heap.size A' es c' fp ∧ Below w.heap.size w w'
set_option maxHeartbeats 8000000 in
theorem l08Copy_any (A : Option Addr) (es : List Ed) (c : Nat) (w : World) (hl : es.length ≤ 1000) (hp4 : ∀ e ∈ es, e.2.2.length ≤ 1000) (hE : Es w A es) :
  Calls Tryz.prog 28 #[.slice A es.length c] w (CopiesE es w) := by
 have hal := (Below.refl w.heap.size w).alloc (Nat.le_refl _) (.cells #[] 71)
 have H0 := Lib.hid (show OwE (w.alloc (.cells #[] 71)) w.heap.size (some ⟨w.heap.size, 0, none⟩) [] 0 [w.heap.size] from ⟨Lay.slice_empty _ _ w, by simp, fun k hk => by simp at hk; omega⟩)
 have HP4 := Lib.hid hp4
 clear hp4
 go_enter Tryz.func28, Tryz.ntmps28
 go_wp2
 go_loopw [3, 4] (fun o i wr => ∃ (k : Nat) (A' : Option Addr) (c' : Nat) (fp : List Nat), k ≤ es.length ∧ i = .int .i64 k ∧ o = .slice A' k c' ∧ Hid (OwE wr w.heap.size A' (es.take k) c' fp) ∧ Below w.heap.size w wr)
  (fun _ i _ => es.length - (intOf i).toNat)
 case atStart => exact ⟨0, _, 0, _, Nat.zero_le _, rfl, rfl, H0, hal⟩
 case round =>
  obtain ⟨k, A', c', fp, hk, rfl, rfl, HO, hb⟩ := hrel
  have HB := Lib.hid hb
  clear H0 hal
  by_cases hlt : k < es.length
  ·have hki0 : (0 : Int) ≤ (k : Int) := by omega
   have hki : (k : Int) < (es.length : Int) := by omega
   obtain ⟨b, off, a, m, P, p, ep, rfl, hbl, hek, k0, k1, k2, ha, hm, hpd, hdm, hBp⟩ := (hE.below hb).at_ k hlt
   have hp4 := HP4.out _ (List.getElem_mem hlt)
   rw [hek] at hp4
   have HNX := Lib.hid (show es.take (k + 1) = es.take k ++ [(a, m, p)] by rw [List.take_succ_eq_append_getElem hlt, hek])
   have HBP := Lib.hid hBp
   have hfr := HO.out.range
   clear hb hek hBp
   go_wp2_with fail
   refine (l08Edit_any a m P p ep _ (by omega) HBP.out).mono ?_
   rintro x w2 ⟨v3, rfl, hO2, hb2⟩
   obtain ⟨A3, c3, rfl, _, _, _⟩ := hO2.form
   have hfx := hO2.fp
   have hb5 : Below w2.heap.size w2 (w2.alloc (.cells #[.int .i64 a, .int .i64 m, .slice A3 p.length c3] 71)) := (Below.refl w2.heap.size w2).alloc (Nat.le_refl _) _
   have hO3 := (HO.out.below hb2).below hb5
   have hXE := Lay.edit.owBelow (own_edit ha hm hO2) hb5
   have hin1 := own_in HO.out.ow
   have hz2 := hb2.size
   have hz5 := hb5.size
   have hzw := HB.out.size
   have HB5 := Lib.hid (below_then (below_then HB.out hb2) hb5)
   have hlen : (es.take k).length = k := by rw [List.length_take]; omega
   have HLN := Lib.hid hlen
   have how9 : Lay.edits.ow (w2.alloc (.cells #[.int .i64 a, .int .i64 m, .slice A3 p.length c3] 71)) [.slice A' k c'] (es.take k) fp := by
    have h9 := hO3.ow
    rw [hlen] at h9
    exact h9
   have hlk : (es.take k).length ≤ 1000000 := by omega
   clear hO2 hb2 k0 k1 k2 hlen
   go_wp2_with (at_builtin; go_must (refine wpList_app_one rfl _ _ 29 rfl 71 Lay.edit _ 3 40 Tryz.underlying29 Tryz.infoEd rfl rfl (by decide) (by decide) (.slice A' k c') (es.take k) fp [.int .i64 a, .int .i64 m, .slice A3 p.length c3] (a, m, p) _ ⟨w2.heap.size, 0, none⟩ 1 rfl rfl how9 hO3.nd hXE hfx.1 wr.heap.size (fun k hk => (hfr k hk).2) hfx.2 cell_new3 hlk ?_))
   intro v6 w6 fp6 ho6 hn6 hs6 hg6
   rw [← HNX.out] at ho6
   obtain ⟨A6, c6, e6, _, _, _⟩ := Lay.edits.read ho6
   simp only [List.cons.injEq, and_true] at e6
   have hl1 : (es.take (k + 1)).length = k + 1 := by rw [List.length_take]; omega
   rw [hl1] at e6
   subst e6
   have hk6 := Keeps.of_grown hg6
   have HO6 := Lib.hid (show OwE w6 w.heap.size A6 (es.take (k + 1)) c6 fp6 from ⟨by rw [hl1]; exact ho6, hn6, fun q hq => by
    rcases hs6 q hq with h | h | h
    ·exact (hfr q h).1
    ·have := hfx.2 q (by simpa using h); omega
    ·(try simp at h); omega⟩)
   have HB6 := Lib.hid (HB5.out.trans (hk6.below (B := w.heap.size) HB5.out.size (fun q hq => (hfr q (hin1 q (by
    have h9 := HLN.out
    rw [h9]
    exact hq))).1)))
   clear ho6 hn6 hs6 hg6 hk6 hO3 hXE how9 hl1
   go_wp2
   go_roundw
   case rel => exact ⟨k + 1, _, _, _, by omega, by go_num, rfl, HO6, HB6.out⟩
   case measure => simp [intOf]; omega
  ·have e : k = es.length := by omega
   have hki : ¬ (k : Int) < (es.length : Int) := by omega
   subst e
   have h9 := HO.out
   rw [List.take_length] at h9
   have H9 := Lib.hid h9
   clear h9 HO hb
   go_wp2
   go_ret
   first
    | exact ⟨_, _, _, rfl, H9.out, HB.out⟩
    | exact ⟨⟨_, H9.out⟩, HB.out⟩
    | exact ⟨_, H9.out, HB.out⟩

/-- What l08Top gives. -/
def TopsM (es : List Ed) (x : Ed) (w : World) (e : Ending) (w' : World) : Prop := ∃ A c fp, e = .returned (.slice A (topE es x).length c) ∧ RdE w' w.heap.size A (topE es x) fp ∧ Below w.heap.size w w'

end Go.Proofs.YtaekanhjkpoifaaGreatDoor

namespace Go.Proofs.YtaekanhjkpoifaaGreatDoor
open Go.RowKit P
set_option linter.unusedVariables false
set_option linter.unusedSimpArgs false
set_option maxRecDepth 100000

/-- A stack whose first list is read in blocks that the call made, and whose second is empty. -/
def GivesRd (u : List Ed) (ok : Bool) (w : World) (e : Ending) (w' : World) : Prop := ∃ A c fp B d, e = .returned (.tuple #[.agg #[.slice A u.length c, .slice B 0 d], .bool ok]) ∧ RdE w' w.heap.size A u fp ∧ Below w.heap.size w w'

end Go.Proofs.YtaekanhjkpoifaaGreatDoor

namespace Go.Proofs.YtaekanhjkpoifaaGreatDoor
open Go.RowKit P
set_option linter.unusedVariables false
set_option linter.unusedSimpArgs false
set_option maxRecDepth 100000

/-- A list that is not empty begins its row. -/
def Row0 (A : Option Addr) (es : List Ed) (c : Nat) : Prop := 0 < es.length → ∃ g, A = some ⟨g, 0, none⟩ ∧ es.length ≤ c ∧ c ≤ maxLen
/-- A stack whose lists are read in blocks that the call made. -/
def GivesRd2 (u r : List Ed) (ok : Bool) (w : World) (e : Ending) (w' : World) : Prop := ∃ A c fp B d gp, e = .returned (.tuple #[.agg #[.slice A u.length c, .slice B r.length d], .bool ok]) ∧ RdE w' w.heap.size A u fp ∧ RdE w' w.heap.size B r gp ∧ Below w.heap.size w w'

end Go.Proofs.YtaekanhjkpoifaaGreatDoor
