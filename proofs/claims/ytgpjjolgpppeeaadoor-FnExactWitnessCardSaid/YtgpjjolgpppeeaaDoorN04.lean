/-
  Chapter 9, what makes a request valid, in the model: contracts. Own work.
-/
import Derived.Test.YtgpjjolgpppeeaaDoorP18
import Derived.Test.YtgpjjolgpppeeaaDoorOwn
import Derived.Test.YtgpjjolgpppeeaaDoorBlk
namespace Go.Proofs.YtgpjjolgpppeeaaDoor
open Go.RowKit P
set_option linter.unusedVariables false
set_option linter.unusedSimpArgs false

/-- The list of numbers that begins a block. -/
def IntsM (w : World) (b : Nat) (l : List Int) : Prop := b < w.heap.size ∧ ∀ j (h : j < l.length), w.cell? ⟨b, j, none⟩ = some (.int .i64 l[j])
theorem IntsM.of (w : World) (l : List Int) : IntsM (w.alloc (.cells (l.map (fun x => Value.int .i64 x)).toArray 3)) w.heap.size l := by
  refine ⟨by simp, fun j hj => ?_⟩
  have h := (Blk.new w (l.map (fun x => Value.int .i64 x)).toArray 3).cell j
  rw [h]
  simp [hj]
theorem IntsM.mono {w w' : World} {b : Nat} {l : List Int} (h : IntsM w b l) (hb : Below w.heap.size w w') : IntsM w' b l :=
  ⟨Nat.lt_of_lt_of_le h.1 hb.size, fun j hj => (hb.cell (p := ⟨b, j, none⟩) h.1).trans (h.2 j hj)⟩

theorem take_mem {l : List Int} {k : Int} {j : Nat} (h : j < l.length) (hne : l[j] ≠ k) (hm : k ∉ l.take j) : k ∉ l.take (j + 1) := by
  rw [List.take_succ_eq_append_getElem h, List.mem_append]
  rintro (h1 | h1)
  · exact hm h1
  · rw [List.mem_singleton] at h1
    exact hne h1.symm

set_option maxHeartbeats 800000 in
theorem l09Is_any (k : Int) (b : Nat) (l : List Int) (c : Nat) (w : World) (hl : l.length ≤ 1000) (hI : IntsM w b l) :
    Calls Tryd.prog 80 #[.int .i64 k, .slice (some ⟨b, 0, none⟩) l.length c] w fun e w' => e = .returned (.bool (decide (k ∈ l))) ∧ w' = w := by
  go_enter Tryd.func80, Tryd.ntmps80
  go_wp2
  go_loop [5] (fun i => ∃ j : Nat, j ≤ l.length ∧ i = .int .i64 j ∧ k ∉ l.take j) (fun i => l.length - (intOf i).toNat)
  case atStart => exact ⟨0, Nat.zero_le _, rfl, by simp⟩
  case round =>
    obtain ⟨j, hj, rfl, hm⟩ := hrel
    by_cases hlt : j < l.length
    · have hc := hI.2 j hlt
      have hbl := hI.1
      have hji : (j : Int) < (l.length : Int) := by omega
      have hmem : l[j] ∈ l := List.getElem_mem hlt
      generalize hx : l[j] = x at *
      have HX := Lib.hid hx
      have HM := Lib.hid hm
      have HMM := Lib.hid hmem
      clear hx hm hmem
      by_cases he : x = k
      · have hb : (x == k) = true := by simpa using he
        have HE := Lib.hid he
        clear he
        go_wp2
        go_ret
        exact ⟨ret_bool (decide_eq_true (by rw [← HE.out]; exact HMM.out)).symm, rfl⟩
      · have hb : (x == k) = false := by simpa using he
        have HE := Lib.hid he
        clear he
        go_wp2
        go_round
        case rel => exact ⟨j + 1, by omega, by go_num, take_mem hlt (by rw [HX.out]; exact HE.out) HM.out⟩
        case measure => simp [intOf]; omega
    · have e : j = l.length := by omega
      subst e
      rw [List.take_length] at hm
      have HM := Lib.hid hm
      clear hm
      go_wp2
      go_ret
      exact ⟨ret_bool (decide_eq_false HM.out).symm, rfl⟩

theorem is_C (k : Int) : decide (k ∈ [12, 13]) = rqC k := by
  unfold rqC; apply decide_eq_decide.2; simp
theorem is_B (k : Int) : (rqC k || decide (k ∈ [4, 5, 6, 10, 11, 14])) = rqB k := by
  unfold rqB; congr 1; apply decide_eq_decide.2; simp
theorem is_A (k : Int) : (rqB k || decide (k ∈ [3, 7, 8, 9])) = rqA k := by
  unfold rqA; congr 1; apply decide_eq_decide.2; simp
theorem is_F (k : Int) : decide (k ∈ [7, 8]) = rqF k := by
  unfold rqF; apply decide_eq_decide.2; simp
theorem is_X (k : Int) : (rqF k || decide (k ∈ [3, 5])) = rqX k := by
  unfold rqX; congr 1; apply decide_eq_decide.2; simp
theorem is_E (k : Int) : decide (k ∈ [3, 4, 5]) = rqEd k := by
  unfold rqEd; apply decide_eq_decide.2; simp

end Go.Proofs.YtgpjjolgpppeeaaDoor
