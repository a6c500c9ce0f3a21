/-
  Chapter 3, the program's validity of trees: contracts. Own work.
-/
import Derived.Test.YtfbcpiipekfapaaI03
import Derived.Test.YtfbcpiipekfapaaCat
import Derived.Test.YtfbcpiipekfapaaLvl
import Derived.Outline
namespace Go.Proofs.Ytfbcpiipekfapaa
open Go.RowKit P
set_option linter.unusedVariables false
set_option linter.unusedSimpArgs false

theorem fitsDigit_any (n : Int) (w : World) : Calls Try.prog 104 #[.int .i64 n] w fun e w' => e = .returned (.bool (decide (1 ≤ n) && decide (n ≤ 4))) ∧ w' = w := by
  go_enter Try.func104, Try.ntmps104
  go_wp2
  all_goals
    go_ret
    first | exact ⟨rfl, rfl⟩ | (refine ⟨ret_bool ?_, rfl⟩; simp; omega)

set_option maxHeartbeats 400000 in
theorem levelFormOk_any (A1 A2 : Option Addr) (l : Lv) (c1 c2 : Nat) (last : Bool) (w : World) (h1 : l.1.length ≤ 9223372036854775807) (h2 : l.2.length ≤ 9223372036854775807) :
    Calls Try.prog 67 #[.agg #[.slice A1 l.1.length c1, .slice A2 l.2.length c2], .bool last] w fun e w' => e = .returned (.bool (formB l last)) ∧ Below w.heap.size w w' := by
  obtain ⟨p, q⟩ := l
  have hq : formB (p, q) last = if p.length = 1 ∧ q.length = 0 then last else decide (1 ≤ p.length ∧ p.length ≤ 4) && decide (1 ≤ q.length ∧ q.length ≤ 4) := by
    unfold formB sing; simp
  have HQ := Lib.hid hq
  clear hq
  obtain ⟨m, hm⟩ : ∃ m, p.length = m := ⟨_, rfl⟩
  obtain ⟨n, hn⟩ : ∃ n, q.length = n := ⟨_, rfl⟩
  simp only at h1 h2 ⊢
  rw [hm] at h1 HQ ⊢
  rw [hn] at h2 HQ ⊢
  clear hm hn
  have hb0 := fun t => (Below.refl w.heap.size w).alloc (Nat.le_refl _) (.cells #[.slice A1 m c1, .slice A2 n c2] t)
  by_cases e1 : m = 1
  · by_cases e2 : n = 0
    · have g1 : ((m : Int) == 1) = true := by simp; omega
      have g2 : ((n : Int) == 0) = true := by simp; omega
      rw [if_pos ⟨e1, e2⟩] at HQ
      clear e1 e2
      go_enter Try.func67, Try.ntmps67
      go_wp2
      go_ret
      exact ⟨ret_bool HQ.out.symm, hb0 _⟩
    · have g1 : ((m : Int) == 1) = true := by simp; omega
      have g2 : ((n : Int) == 0) = false := by simp; omega
      rw [if_neg (by omega)] at HQ
      have g3 : (decide ((1 : Int) ≤ (m : Int)) && decide ((m : Int) ≤ 4)) = true := by simp; omega
      clear e1 e2
      go_enter Try.func67, Try.ntmps67
      go_wp2_with fail
      refine (fitsDigit_any m _).mono ?_
      rintro e w1 ⟨rfl, rfl⟩
      rw [g3]
      go_wp2_with fail
      refine (fitsDigit_any n _).mono ?_
      rintro e w1 ⟨rfl, rfl⟩
      go_wp2
      go_ret
      exact ⟨ret_bool (by rw [HQ.out, Bool.eq_iff_iff]; have := g3; simp only [Bool.and_eq_true, decide_eq_true_eq] at this ⊢; omega), hb0 _⟩
  · have g1 : ((m : Int) == 1) = false := by simp; omega
    rw [if_neg (by omega)] at HQ
    generalize hf : (decide ((1 : Int) ≤ (m : Int)) && decide ((m : Int) ≤ 4)) = f
    have HF := Lib.hid hf
    clear e1 hf
    cases f
    · go_enter Try.func67, Try.ntmps67
      go_wp2_with fail
      refine (fitsDigit_any m _).mono ?_
      rintro e w1 ⟨rfl, rfl⟩
      rw [HF.out]
      go_wp2
      go_ret
      exact ⟨ret_bool (by rw [HQ.out, Bool.eq_iff_iff]; have := HF.out; simp only [Bool.and_eq_true, decide_eq_true_eq, Bool.and_eq_false_iff, decide_eq_false_iff_not] at this ⊢; first | omega | (simp; omega)), hb0 _⟩
    · go_enter Try.func67, Try.ntmps67
      go_wp2_with fail
      refine (fitsDigit_any m _).mono ?_
      rintro e w1 ⟨rfl, rfl⟩
      rw [HF.out]
      go_wp2_with fail
      refine (fitsDigit_any n _).mono ?_
      rintro e w1 ⟨rfl, rfl⟩
      go_wp2
      go_ret
      exact ⟨ret_bool (by rw [HQ.out, Bool.eq_iff_iff]; have := HF.out; simp only [Bool.and_eq_true, decide_eq_true_eq, Bool.and_eq_false_iff, decide_eq_false_iff_not] at this ⊢; first | omega | (simp; omega)), hb0 _⟩

set_option maxHeartbeats 400000 in
theorem nodesOk_any (A : Option Addr) (l : List Str) (c : Nat) (d : Int) (w : World) (hl : l.length ≤ 9223372036854775807) (hA : Ss w A l) :
    Calls Try.prog 68 #[.slice A l.length c, .int .i64 d] w fun e w' => e = .returned (.bool (l.all fun s => shapeB s d)) ∧ w' = w := by
  go_enter Try.func68, Try.ntmps68
  go_wp2
  go_loop [9] (fun i => ∃ k : Nat, k ≤ l.length ∧ i = .int .i64 k ∧ Hid ((l.take k).all (fun s => shapeB s d) = true)) (fun i => l.length - (intOf i).toNat)
  case atStart => exact ⟨0, Nat.zero_le _, rfl, Lib.hid rfl⟩
  case round =>
    obtain ⟨k, hk, rfl, HT⟩ := hrel
    by_cases hlt : k < l.length
    · obtain ⟨b, off, rfl, hbl, hc, hcl⟩ := hA.at_ k hlt
      have hat : (l.take (k + 1)).all (fun s => shapeB s d) = ((l.take k).all (fun s => shapeB s d) && shapeB l[k] d) := by
        rw [List.take_succ_eq_append_getElem hlt, List.all_append]; simp
      have haf : shapeB l[k] d = false → l.all (fun s => shapeB s d) = false := fun h => by
        rw [List.all_eq_false]; exact ⟨_, List.getElem_mem hlt, by simp [h]⟩
      rw [HT.out, Bool.true_and] at hat
      generalize hE : l[k] = E at *
      generalize hB : shapeB E d = B at *
      have HB := Lib.hid hB
      have HAT := Lib.hid hat
      have HAF := Lib.hid haf
      clear hat haf hE hB
      have hk0 : (k : Int) < (l.length : Int) := by omega
      cases B
      · go_wp2_with fail
        refine (implShapeOk_any ⟨E.toArray⟩ d _).mono ?_
        rintro e w1 ⟨rfl, rfl⟩
        rw [HB.out]
        go_wp2
        go_ret
        exact ⟨ret_bool (HAF.out (by trivial)).symm, rfl⟩
      · go_wp2_with fail
        refine (implShapeOk_any ⟨E.toArray⟩ d _).mono ?_
        rintro e w1 ⟨rfl, rfl⟩
        rw [HB.out]
        go_wp2
        go_round
        case rel => exact ⟨k + 1, by omega, by go_num, HAT⟩
        case measure => simp [intOf]; omega
    · have e : k = l.length := by omega
      subst e
      rw [List.take_length] at HT
      go_wp2
      go_ret
      exact ⟨ret_bool HT.out.symm, rfl⟩
end Go.Proofs.Ytfbcpiipekfapaa
