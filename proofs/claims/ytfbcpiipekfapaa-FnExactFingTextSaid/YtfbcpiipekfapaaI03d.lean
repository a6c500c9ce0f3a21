/-
  Chapter 3, the program's FingLeaves and FingText: contracts. Own work.
-/
import Derived.Test.YtfbcpiipekfapaaI03c
import Derived.Test.YtfbcpiipekfapaaT03
import Derived.Outline
import Derived.Deep.RegionHeld3
namespace Go.Proofs.Ytfbcpiipekfapaa
open Go.RowKit P
set_option linter.unusedVariables false

set_option maxHeartbeats 400000 in
theorem implFingLeaves_any (A : Option Addr) (ls : List Lv) (c : Nat) (w : World) (hs : Small ls) (hA : Ls w A ls) :
    Calls Try.prog 19 #[.agg #[.slice A ls.length c]] w fun e w' => e = .returned (.int .i64 (leavesZ ls)) ∧ Below w.heap.size w w' := by
  have hb0 := (Below.refl w.heap.size w).alloc (Nat.le_refl _) (.cells #[.slice A ls.length c] 26)
  have hA0 := hA.below hb0
  generalize hq : fingB ls = q
  have hz : leavesZ ls = if q = true then (leaves ls : Int) else -1 := by unfold leavesZ; rw [hq]
  have HQ := Lib.hid hq
  have HZ := Lib.hid hz
  clear hq hz
  go_enter Try.func19, Try.ntmps19
  go_wp2_with fail
  refine (implFingOk_any A ls c _ hs (by exact hA0)).mono ?_
  rintro e w1 ⟨rfl, hb1⟩
  rw [HQ.out]
  have k1 : w1.cell? ⟨w.heap.size, 0, none⟩ = some (.slice A ls.length c) := (hb1.cell (p := ⟨w.heap.size, 0, none⟩) (by simp)).trans (by go_simp)
  have hA1 := hA0.below hb1
  have hb2 := below_then hb0 hb1
  clear hb1
  cases q
  · go_wp2
    go_ret
    exact ⟨ret_int (by rw [HZ.out]; rfl), hb2⟩
  · go_wp2_with fail
    refine (leafCount_any A ls c _ hs (by exact hA1)).mono ?_
    rintro e w2 ⟨rfl, hb3⟩
    have hb4 := below_then hb2 hb3
    go_wp2
    go_ret
    exact ⟨ret_int (by rw [HZ.out]; simp), hb4⟩


set_option maxHeartbeats 2000000 in
theorem implFingText_any (A : Option Addr) (ls : List Lv) (c : Nat) (w : World) (hs : Small ls) (hA : Ls w A ls) :
    Calls Try.prog 23 #[.agg #[.slice A ls.length c]] w fun e w' => e = .returned (.string ⟨(fingText ls).toArray⟩) ∧ Below w.heap.size w w' := by
  have hlen := hs.len
  generalize hq : fingB ls = q
  have hz : fingText ls = if q = true then levText ls else [] := by unfold fingText; rw [hq]
  have HQ := Lib.hid hq
  have HZ := Lib.hid hz
  clear hq hz
  have hb0 := (Below.refl w.heap.size w).alloc (Nat.le_refl _) (.cells #[.slice A ls.length c] 26)
  have hA0 := hA.below hb0
  go_enter Try.func23, Try.ntmps23
  go_wp2_with fail
  refine (implFingOk_any A ls c _ hs (by exact hA0)).mono ?_
  rintro e w1 ⟨rfl, hb1⟩
  rw [HQ.out]
  have k1 : w1.cell? ⟨w.heap.size, 0, none⟩ = some (.slice A ls.length c) := (hb1.cell (p := ⟨w.heap.size, 0, none⟩) (by simp)).trans (by go_simp)
  have hb2 := below_then hb0 hb1
  clear hb1
  cases q
  · go_wp2
    go_ret
    exact ⟨ret_str (str_of (by rw [HZ.out]; rfl)), hb2⟩
  · go_wp2
    go_loopw [3, 12] (fun s i wr => ∃ k : Nat, ∃ b : ByteArray, k ≤ ls.length ∧ i = .int .i64 k ∧ s = .string b ∧ Hid (b.data.toList = levText (ls.take k)) ∧ Below w.heap.size w wr) (fun _ i _ => ls.length - (intOf i).toNat)
    case atStart => exact ⟨0, ⟨#[]⟩, Nat.zero_le _, rfl, rfl, Lib.hid (by simp [levText]), hb2⟩
    case round =>
      obtain ⟨k, s, hk, rfl, rfl, HS, hb⟩ := hrel
      by_cases hlt : k < ls.length
      · obtain ⟨b, off, A1, c1, A2, c2, rfl, hbl, hc2, hc3, hd1, hd2, hd3, hd4, hS1, hS2⟩ := (hA.below hb).at_ k hlt
        have hfok := fingB_iff.1 HQ.out
        have hl4 := hfok.form.ls ls[k] (List.getElem_mem hlt)
        have hsl := (fok_small hfok).each ls[k] (List.getElem_mem hlt)
        have h1 := levText_take ls k hlt
        have h2 := levText_len ls k hfok
        have h3 := levText_len ls (k + 1) hfok
        rw [← HS.out] at h1 h2
        rw [h1] at h3
        have HT := Lib.hid h1
        clear h1 hfok
        generalize hL : ls[k] = L at *
        obtain ⟨p, q⟩ := L
        unfold lvText at h3 HT
        simp only at hc2 hc3 hd1 hd3 hS1 hS2 hsl h3 HT
        obtain ⟨_, a4, b4, _⟩ := hl4
        simp only at a4 b4
        clear hL hd2 hd4
        have hk0 : (k : Int) < (ls.length : Int) := by omega
        have hk1 : (0 : Int) ≤ (k : Int) := by omega
        have hal := (Below.refl wr.heap.size wr).alloc (Nat.le_refl _) (.cells #[.slice A1 p.length c1, .slice A2 q.length c2] 63)
        have hS1' := hS1.below hal
        have hS2' := hS2.below hal
        have hb3 := hb.alloc hb.size (.cells #[.slice A1 p.length c1, .slice A2 q.length c2] 63)
        have e32 : (⟨#[32]⟩ : ByteArray).data.toList = [32] := rfl
        have hP : ∃ X, Lib.join p [32] = X := ⟨_, rfl⟩
        have hQ : ∃ Y, Lib.join q [32] = Y := ⟨_, rfl⟩
        obtain ⟨X, hX⟩ := hP
        obtain ⟨Y, hY⟩ := hQ
        rw [hX, hY] at h3 HT
        simp only [List.length_append, List.length_cons, List.length_nil] at h3
        have hs9 : s.data.toList.length = s.size := by simp
        have hj1 := fun w' (hh : Ss w' A1 p) => join_any A1 p c1 ⟨#[32]⟩ w' hh (by omega) (by omega) (by rw [e32, hX]; omega)
        have hj2 := fun w' (hh : Ss w' A2 q) => join_any A2 q c2 ⟨#[32]⟩ w' hh (by omega) (by omega) (by rw [e32, hY]; omega)
        rw [e32, hX] at hj1
        rw [e32, hY] at hj2
        have HJ1 := Lib.hid hj1
        have HJ2 := Lib.hid hj2
        have z1 : ¬ 9223372036854775807 < 1 + X.length := by omega
        have z2 : ¬ 9223372036854775807 < 1 + X.length + 1 := by omega
        have z3 : ¬ 9223372036854775807 < 1 + X.length + 1 + Y.length := by omega
        have z4 : ¬ 9223372036854775807 < 1 + X.length + 1 + Y.length + 1 := by omega
        have z5 : ¬ 9223372036854775807 < s.size + (1 + X.length + 1 + Y.length + 1) := by omega
        clear e32 hX hY hs9 hj1 hj2 h2 h3
        have q0 : (wr.alloc (.cells #[.slice A1 p.length c1, .slice A2 q.length c2] 63)).cell? ⟨wr.heap.size, 0, none⟩ = some (.slice A1 p.length c1) := by go_simp
        have q1 : (wr.alloc (.cells #[.slice A1 p.length c1, .slice A2 q.length c2] 63)).cell? ⟨wr.heap.size, 1, none⟩ = some (.slice A2 q.length c2) := by go_simp
        have hzz : wr.heap.size < (wr.alloc (.cells #[.slice A1 p.length c1, .slice A2 q.length c2] 63)).heap.size := by simp
        go_wp2_with fail
        generalize wr.alloc (.cells #[.slice A1 p.length c1, .slice A2 q.length c2] 63) = W at *
        have g1 : 0 ≤ 1 + X.length := by omega
        go_region_held3 (fun V => V.cell? ⟨wr.heap.size, 0, none⟩ = some (.slice A1 p.length c1) ∧ V.cell? ⟨wr.heap.size, 1, none⟩ = some (.slice A2 q.length c2)) (exact ⟨(by first | exact q0 | exact r0 | exact t0), (by first | exact q1 | exact r1 | exact t1)⟩) (first
          | (go_at_call_of 58 (Value.slice A1 p.length c1); refine (HJ1.out _ (by exact hS1')).mono ?_; rintro e w5 ⟨rfl, hb5⟩; have hb5 : Below W.heap.size W w5 := ⟨hb5.os, hb5.tape, hb5.output, hb5.size, hb5.block⟩; have r0 := (hb5.cell (p := ⟨wr.heap.size, 0, none⟩) hzz).trans q0; have r1 := (hb5.cell (p := ⟨wr.heap.size, 1, none⟩) hzz).trans q1; have hT2 := hS2'.below hb5; have hb6 := below_then hb3 hb5; have hz5 := Nat.lt_of_lt_of_le hzz hb5.size)
          | (go_at_call_of 58 (Value.slice A2 q.length c2); refine (HJ2.out _ (by exact hT2)).mono ?_; rintro e w6 ⟨rfl, hb7⟩; have hb7 : Below w5.heap.size w5 w6 := ⟨hb7.os, hb7.tape, hb7.output, hb7.size, hb7.block⟩; have t0 := (hb7.cell (p := ⟨wr.heap.size, 0, none⟩) hz5).trans r0; have t1 := (hb7.cell (p := ⟨wr.heap.size, 1, none⟩) hz5).trans r1; have hb8 := below_then hb6 hb7))
        go_wp2
        go_roundw
        case rel => exact ⟨k + 1, _, by omega, by go_num, rfl, Lib.hid (by rw [HT.out]; simp [List.append_assoc]), ⟨hb8.os, hb8.tape, hb8.output, hb8.size, hb8.block⟩⟩
        case measure => simp [intOf]; omega
      · have e : k = ls.length := by omega
        subst e
        rw [List.take_length] at HS
        go_wp2
        go_ret
        exact ⟨ret_str (str_of (by rw [HS.out, HZ.out]; simp)), hb⟩
end Go.Proofs.Ytfbcpiipekfapaa
