/-
 Chapter 10, the edits since a version: contracts of the program and of the model. Own work.
-/
import Derived.Test.YtaekanhjkpoifaaGreatDoorRD12
import Derived.Test.YtaekanhjkpoifaaGreatDoorRK09
namespace Go.Proofs.YtaekanhjkpoifaaGreatDoor
open Go.RowKit P
set_option linter.unusedVariables false
set_option linter.unusedSimpArgs false
set_option maxRecDepth 100000

theorem Sl.dropN {α : Type} {n : Nat} {R : World → List Value → α → Prop} {w : World} {g : Nat} {l : List α} (h : Sl n R w (some ⟨g, 0, none⟩) l) (v : Nat) : Sl n R w (some ⟨g, v * n, none⟩) (l.drop v) := by
 intro k hk
 rw [List.length_drop] at hk
 obtain ⟨b, off, us, hA, hlt, hus, hc, hr⟩ := h (v + k) (by omega)
 cases hA
 refine ⟨g, v * n, us, rfl, hlt, hus, fun j hj => ?_, ?_⟩
 ·have h9 := hc j hj
  rw [Nat.zero_add, Nat.add_mul] at h9
  rw [← Nat.add_assoc]
  exact h9
 ·rw [List.getElem_drop]
  exact hr

/-- The edits since a version. -/
def sinceE (d : Dc) (v : Int) : List Ed := if verOk d v = true then (logE d.log).drop v.toNat else []
def GivesSi (d : Dc) (v : Int) (w : World) (e : Ending) (w' : World) : Prop := ∃ A c fp, e = .returned (.tuple #[.slice A (sinceE d v).length c, .bool (verOk d v)]) ∧ OwE w' w.heap.size A (sinceE d v) c fp ∧ Below w.heap.size w w'
theorem sinceE_no {d : Dc} {v : Int} (h : verOk d v = false) : sinceE d v = [] := by unfold sinceE; rw [if_neg (by rw [h]; simp)]
theorem sinceE_yes {d : Dc} {n : Nat} (h : verOk d (n : Int) = true) : sinceE d (n : Int) = (logE d.log).drop n := by unfold sinceE; rw [if_pos h, Int.toNat_natCast]
theorem GivesSi.no {d : Dc} {v : Int} {w w' : World} (h : verOk d v = false) (hb : Below w.heap.size w w') : GivesSi d v w (.returned (.tuple #[.slice none 0 0, .bool false])) w' :=
 ⟨none, 0, [], by rw [sinceE_no h, h]; rfl, by rw [sinceE_no h]; exact ⟨Lay.slice_nil _ _ _, List.nodup_nil, fun _ h => nomatch h⟩, hb⟩
theorem GivesSi.yes {d : Dc} {n : Nat} {w w' : World} {A : Option Addr} {c m : Nat} {fp : List Nat} (h : verOk d (n : Int) = true) (hm : m = ((logE d.log).drop n).length) (ho : OwE w' w.heap.size A ((logE d.log).drop n) c fp) (hb : Below w.heap.size w w') : GivesSi d (n : Int) w (.returned (.tuple #[.slice A m c, .bool true])) w' :=
 ⟨A, c, fp, by rw [sinceE_yes h, h, hm], by rw [sinceE_yes h]; exact ho, hb⟩

set_option maxHeartbeats 2000000 in
theorem copiedEdits_any (A : Option Addr) (es : List Ed) (c n : Nat) (w : World) (hn : n = es.length) (hl : es.length ≤ 100) (hp4 : ∀ e ∈ es, e.2.2.length ≤ 1000) (hE : Es w A es) :
  Calls Tryz.prog 36 #[.slice A n c] w fun e w' => ∃ A' c' fp, e = .returned (.slice A' es.length c') ∧ OwE w' w.heap.size A' es c' fp ∧ Below w.heap.size w w' := by
 subst hn
 go_enter Tryz.func36, Tryz.ntmps36
 go_wp2_with fail
 refine (newEditStack_any A es c _ hl hp4 hE).mono ?_
 rintro e w1 ⟨v, fp, rfl, how, hnd, hlo, hb⟩
 obtain ⟨A', c', e', _, _, _⟩ := Lay.edits.read how
 simp only [List.cons.injEq, and_true] at e'
 subst e'
 have HO := Lib.hid (show OwE w1 w.heap.size A' es c' fp from ⟨how, hnd, hlo⟩)
 have hf1 : ∀ W, (Instr.field 114 (.agg #[.slice A' es.length c']) 0).run Tryz.prog W = .ok (.agg #[.slice A' es.length c']) W := fun W => by kernel_rfl
 have hf2 : ∀ W, (Instr.field 112 (.agg #[.slice A' es.length c']) 0).run Tryz.prog W = .ok (.slice A' es.length c') W := fun W => by kernel_rfl
 clear how hnd hlo
 go_wp2
 go_ret
 exact ⟨A', c', fp, rfl, HO.out, hb⟩

end Go.Proofs.YtaekanhjkpoifaaGreatDoor
