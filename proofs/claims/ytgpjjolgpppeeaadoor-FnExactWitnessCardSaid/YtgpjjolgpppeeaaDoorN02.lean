/-
  Chapter 9, the program's kinds of requests: contracts. Own work.
-/
import Derived.Test.YtgpjjolgpppeeaaDoorN01
namespace Go.Proofs.YtgpjjolgpppeeaaDoor
open Go.RowKit P
set_option linter.unusedVariables false
set_option linter.unusedSimpArgs false

set_option maxHeartbeats 800000 in
theorem numbers_any (n : Int) (w : World) : Calls Tryd.prog 138 #[.agg #[.int .i64 n]] w fun e w' => e = .returned (.int .i64 n) ∧ Below w.heap.size w w' := by
  go_enter Tryd.func138, Tryd.ntmps138
  go_wp2
  go_ret
  exact ⟨rfl, by (repeat (first | exact Below.refl _ _ | assumption | refine Below.setCell ?_ (by first | (simp; done) | (simp; omega) | omega) _ | refine Below.drew ?_ | refine below_drewN ?_ _ | refine Below.alloc ?_ (by first | (simp; done) | (simp; omega) | omega) _))⟩

/-- The values of the kinds: without text, with a text, with a text that is not empty. -/
def nkV (n : Int) : Value := .iface 130 (.agg #[.int .i64 n])
def pkV (n : Int) : Value := .iface 132 (.agg #[.int .i64 n])
def fkV (n : Int) : Value := .iface 133 (.agg #[.int .i64 n])
/-- How many numbers a kind uses. -/
def rqCnt (k : Int) : Int := if rqC k = true then 3 else if rqB k = true then 2 else if rqA k = true then 1 else 0
def kindV (k : Int) : Value := if k < 1 ∨ 16 < k then .nilIface else if k = 7 ∨ k = 8 then fkV 1 else if k = 3 then pkV 1 else if k = 5 then pkV 2 else nkV (rqCnt k)

set_option maxHeartbeats 800000 in
theorem kindOf_any (k : Int) (w : World) : Calls Tryd.prog 85 #[.int .i64 k] w fun e w' => e = .returned (kindV k) ∧ w' = w := by
  by_cases h : k < 1 ∨ 16 < k
  · have hk : kindV k = .nilIface := by unfold kindV; rw [if_pos h]
    rw [hk]
    clear hk
    have n1 : (k == 1) = false := by simp; omega
    have n2 : (k == 2) = false := by simp; omega
    have n3 : (k == 3) = false := by simp; omega
    have n4 : (k == 4) = false := by simp; omega
    have n5 : (k == 5) = false := by simp; omega
    have n6 : (k == 6) = false := by simp; omega
    have n7 : (k == 7) = false := by simp; omega
    have n8 : (k == 8) = false := by simp; omega
    have n9 : (k == 9) = false := by simp; omega
    have n10 : (k == 10) = false := by simp; omega
    have n11 : (k == 11) = false := by simp; omega
    have n12 : (k == 12) = false := by simp; omega
    have n13 : (k == 13) = false := by simp; omega
    have n14 : (k == 14) = false := by simp; omega
    have n15 : (k == 15) = false := by simp; omega
    have n16 : (k == 16) = false := by simp; omega
    clear h
    go_enter Tryd.func85, Tryd.ntmps85
    go_wp2
    go_ret
    exact ⟨rfl, rfl⟩
  · have h2 : k = 1 ∨ k = 2 ∨ k = 3 ∨ k = 4 ∨ k = 5 ∨ k = 6 ∨ k = 7 ∨ k = 8 ∨ k = 9 ∨ k = 10 ∨ k = 11 ∨ k = 12 ∨ k = 13 ∨ k = 14 ∨ k = 15 ∨ k = 16 := by omega
    clear h
    rcases h2 with rfl | rfl | rfl | rfl | rfl | rfl | rfl | rfl | rfl | rfl | rfl | rfl | rfl | rfl | rfl | rfl
    all_goals
      go_enter Tryd.func85, Tryd.ntmps85
      go_wp2
      go_ret
      exact ⟨rfl, rfl⟩

/-- Do the numbers from the j-th on fit a kind that uses n? -/
def useN (n : Int) : Int → List Int → Bool
  | _, [] => true
  | j, x :: l => isW x && (decide (j < n) || decide (x = 0)) && useN n (j + 1) l
theorem useN_nil (n j : Int) : useN n j [] = true := rfl
theorem useN_cons (n j x : Int) (l : List Int) : useN n j (x :: l) = (isW x && (decide (j < n) || decide (x = 0)) && useN n (j + 1) l) := rfl
/-- The list of numbers that begins a block. -/
def Ints (w : World) (b : Nat) (l : List Int) : Prop := b < w.heap.size ∧ ∀ j (h : j < l.length), w.cell? ⟨b, j, none⟩ = some (.int .i64 l[j])
theorem Ints.below {w w' : World} {b : Nat} {l : List Int} (h : Ints w b l) (hb : Below w.heap.size w w') : Ints w' b l :=
  ⟨Nat.lt_of_lt_of_le h.1 hb.size, fun j hj => (hb.cell (p := ⟨b, j, none⟩) h.1).trans (h.2 j hj)⟩

set_option maxHeartbeats 2000000 in
theorem usesNumbers_of (T : TypeId) (n : Int) (b : Nat) (l : List Int) (c : Nat) (w : World) (hl : l.length ≤ 1000)
    (hm : ∀ W, Sem.run Tryd.prog (method 258 T (.agg #[.int .i64 n]) "loop.example/g00677/impl.numbers") W = .ok (138, .agg #[.int .i64 n]) W)
    (hI : Ints w b l) :
    Calls Tryd.prog 87 #[.iface T (.agg #[.int .i64 n]), .slice (some ⟨b, 0, none⟩) l.length c] w fun e w' => e = .returned (.bool (useN n 0 l)) ∧ Below w.heap.size w w' := by
  go_enter Tryd.func87, Tryd.ntmps87
  go_wp2
  go_loopw [9] (fun i wr => ∃ k : Nat, k ≤ l.length ∧ i = .int .i64 k ∧ useN n 0 l = useN n k (l.drop k) ∧ Below w.heap.size w wr) (fun i _ => l.length - (intOf i).toNat)
  case atStart => exact ⟨0, Nat.zero_le _, rfl, rfl, Below.refl _ _⟩
  case round =>
    obtain ⟨k, hk, rfl, hu, hb⟩ := hrel
    by_cases hlt : k < l.length
    · have hc := (hI.below hb).2 k hlt
      have hbl := (hI.below hb).1
      have hd : l.drop k = l[k] :: l.drop (k + 1) := List.drop_eq_getElem_cons hlt
      rw [hd, useN_cons] at hu
      generalize hx : l[k] = x at *
      have HX := Lib.hid hx
      have HU := Lib.hid hu
      clear hx hu hd
      have hki : (k : Int) < (l.length : Int) := by omega
      go_wp2_with fail
      refine (fitsWord_any x _).mono ?_
      rintro e w1 ⟨rfl, rfl⟩
      cases hw : isW x
      · go_wp2
        go_ret
        exact ⟨ret_bool (by rw [HU.out, hw]; rfl), hb⟩
      · go_wp2_with fail
        refine (numbers_any n _).mono ?_
        rintro e w2 ⟨rfl, hb2⟩
        have hb2 := below_then hb hb2
        by_cases hj : (k : Int) < n
        · have hj2 : decide (n ≤ (k : Int)) = false := decide_eq_false (by omega)
          have HV : Hid (useN n 0 l = useN n ((k : Int) + 1) (l.drop (k + 1))) := Lib.hid (by rw [HU.out, hw, decide_eq_true hj]; simp)
          go_wp2
          go_roundw
          case rel => exact ⟨k + 1, by omega, by go_num, by rw [HV.out]; rfl, hb2⟩
          case measure => simp [intOf]; omega
        · by_cases hx0 : x = 0
          · have HV : Hid (useN n 0 l = useN n ((k : Int) + 1) (l.drop (k + 1))) := Lib.hid (by rw [HU.out, hw, hx0]; simp)
            subst hx0
            go_wp2
            go_roundw
            case rel => exact ⟨k + 1, by omega, by go_num, by rw [HV.out]; rfl, hb2⟩
            case measure => simp [intOf]; omega
          · have HV : Hid (useN n 0 l = false) := Lib.hid (by rw [HU.out, hw, decide_eq_false hj, decide_eq_false hx0]; rfl)
            have hxn : (x != 0) = true := by simpa using hx0
            go_wp2
            go_ret
            exact ⟨ret_bool HV.out.symm, hb2⟩
    · have e : k = l.length := by omega
      subst e
      rw [List.drop_length, useN_nil] at hu
      have HU := Lib.hid hu
      clear hu
      go_wp2
      go_ret
      exact ⟨ret_bool HU.out.symm, hb⟩
end Go.Proofs.YtgpjjolgpppeeaaDoor
