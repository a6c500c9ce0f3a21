/-
  Chapter 3, the model's FingText and FingLeaves: contracts. Own work.
-/
import Derived.Test.YtfbcpiipekfapaaS03c
import Derived.Test.YtfbcpiipekfapaaT03
import Derived.Outline
import Derived.Deep.QuietTactic
import Derived.BigQuiet
namespace Go.Proofs.Ytfbcpiipekfapaa
open Go.RowKit P
set_option linter.unusedVariables false

set_option maxHeartbeats 400000 in
theorem l03Join_any (A : Option Addr) (l : List Str) (c : Nat) (gap : ByteArray) (w : World) (hl : l.length ≤ 2000000) (hs : l.flatten.length ≤ 2000000) (hg : gap.size ≤ 1000) (hA : Ss w A l) :
    Calls Try.prog 59 #[.slice A l.length c, .string gap] w fun e w' => e = .returned (.string ⟨(Lib.join l gap.data.toList).toArray⟩) ∧ w' = w := by
  go_enter Try.func59, Try.ntmps59
  go_wp2
  go_loop [5, 6] (fun s i => ∃ k : Nat, ∃ b : ByteArray, k ≤ l.length ∧ i = .int .i64 k ∧ s = .string b ∧ Hid (b.data.toList = Lib.join (l.take k) gap.data.toList)) (fun _ i => l.length - (intOf i).toNat)
  case atStart => exact ⟨0, ⟨#[]⟩, Nat.zero_le _, rfl, rfl, Lib.hid (by simp [join_nil])⟩
  case round =>
    obtain ⟨k, s, hk, rfl, rfl, HS⟩ := hrel
    by_cases hlt : k < l.length
    · obtain ⟨b, off, rfl, hbl, hc, hcl⟩ := hA.at_ k hlt
      have hj : Lib.join (l.take (k + 1)) gap.data.toList = if l.take k = [] then l[k] else Lib.join (l.take k) gap.data.toList ++ gap.data.toList ++ l[k] := by
        rw [List.take_succ_eq_append_getElem hlt, join_snoc]
      have HJ := Lib.hid hj
      have hss : s.size ≤ 2002000000 := by
        have h1 := join_len (l.take k) gap.data.toList
        have h2 : s.data.toList.length = s.size := by simp
        have h3 : gap.data.toList.length = gap.size := by simp
        have h4 : (l.take k).flatten.length ≤ l.flatten.length := by
          have : l.flatten = (l.take k).flatten ++ (l.drop k).flatten := by rw [← List.flatten_append, List.take_append_drop]
          rw [this, List.length_append]; omega
        have h5 : (l.take k).length * gap.size ≤ 2000000 * 1000 := Nat.mul_le_mul (by rw [List.length_take]; omega) hg
        rw [← HS.out, h2, h3] at h1
        omega
      have hml := mem_flat_len (List.getElem_mem hlt)
      clear hj
      generalize hE : l[k] = E at *
      clear hE hcl
      have hE9 : (⟨E.toArray⟩ : ByteArray).size = E.length := by show E.toArray.size = _; rw [List.size_toArray]
      have z1 : ¬ 9223372036854775807 < s.size + gap.size := by omega
      have z2 : ¬ 9223372036854775807 < s.size + gap.size + E.length := by omega
      have z3 : ¬ 9223372036854775807 < s.size + E.length := by omega
      have hk0 : (k : Int) < (l.length : Int) := by omega
      by_cases h0 : 0 < k
      · have hne : l.take k ≠ [] := by intro e; have := congrArg List.length e; rw [List.length_take, List.length_nil] at this; omega
        have HNE := Lib.hid hne
        clear hne
        go_wp2
        go_round
        case rel => exact ⟨k + 1, _, by omega, by go_num, rfl, Lib.hid (by rw [HJ.out, if_neg HNE.out, data_cat, data_cat, HS.out])⟩
        case measure => simp [intOf]; omega
      · have e : k = 0 := by omega
        subst e
        simp only [Nat.add_zero] at hc
        go_wp2
        go_round
        case rel => exact ⟨1, _, by omega, by go_num, rfl, Lib.hid (by rw [HJ.out, if_pos (by simp), data_cat, HS.out]; simp [join_nil])⟩
        case measure => simp [intOf]; omega
    · have e : k = l.length := by omega
      subst e
      rw [List.take_length] at HS
      go_wp2
      go_ret
      exact ⟨ret_str (str_of HS.out), rfl⟩

set_option maxHeartbeats 2000000 in
theorem specFingText_any (A : Option Addr) (ls : List Lv) (c : Nat) (w : World) (hs : Small ls) (hA : Ls w A ls) :
    Calls Try.prog 24 #[.agg #[.slice A ls.length c]] w fun e w' => e = .returned (.string ⟨(fingText ls).toArray⟩) ∧ Below w.heap.size w w' := by
  have hlen := hs.len
  generalize hq : fingB ls = q
  have hz : fingText ls = if q = true then levText ls else [] := by unfold fingText; rw [hq]
  have HQ := Lib.hid hq
  have HZ := Lib.hid hz
  clear hq hz
  have hb0 := (Below.refl w.heap.size w).alloc (Nat.le_refl _) (.cells #[.slice A ls.length c] 26)
  have hA0 := hA.below hb0
  go_enter Try.func24, Try.ntmps24
  go_wp2
  go_loopw [3, 4] (fun s i wr => ∃ k : Nat, ∃ b : ByteArray, k ≤ ls.length ∧ i = .int .i64 k ∧ s = .string b ∧ Hid (b.data.toList = levText (ls.take k)) ∧ Hid (q = false → k = 0) ∧ Below w.heap.size w wr ∧ wr.cell? ⟨w.heap.size, 0, none⟩ = some (.slice A ls.length c) ∧ w.heap.size < wr.heap.size) (fun _ i _ => ls.length - (intOf i).toNat)
  case atStart => exact ⟨0, ⟨#[]⟩, Nat.zero_le _, rfl, rfl, Lib.hid (by simp [levText]), Lib.hid (fun _ => rfl), hb0, by go_simp, by simp⟩
  case round =>
    obtain ⟨k, s, hk, rfl, rfl, HS, HK0, hb, hcr, hsz⟩ := hrel
    have hAr := hA.below hb
    go_wp2_with fail
    refine (specFingOk_any A ls c _ hs (by exact hAr)).mono ?_
    rintro e w1 ⟨rfl, hb1⟩
    rw [HQ.out]
    have hc1 := (hb1.cell (p := ⟨w.heap.size, 0, none⟩) hsz).trans hcr
    have hsz1 := Nat.lt_of_lt_of_le hsz hb1.size
    have hA1 := hAr.below hb1
    have hb2 := below_then hb hb1
    clear hb1 hcr hsz hAr hb
    cases q
    · have hk0 := HK0.out (by trivial)
      subst hk0
      go_wp2
      go_ret
      exact ⟨ret_str (str_of (by rw [HS.out, HZ.out]; rfl)), hb2⟩
    · by_cases hlt : k < ls.length
      · obtain ⟨b, off, A1, c1, A2, c2, rfl, hbl, hc2, hc3, hd1, hd2, hd3, hd4, hS1, hS2⟩ := hA1.at_ k hlt
        have hfok := fingB_iff.1 HQ.out
        have hl4 := hfok.form.ls ls[k] (List.getElem_mem hlt)
        have hsl := (fok_small hfok).each ls[k] (List.getElem_mem hlt)
        have h1 := levText_take ls k hlt
        have h2 := levText_len ls k hfok
        have h3 := levText_len ls (k + 1) hfok
        rw [← HS.out] at h1 h2
        rw [h1] at h3
        have HT := Lib.hid h1
        clear h1 hfok
        generalize hL : ls[k] = L at *
        obtain ⟨p, q⟩ := L
        unfold lvText at h3 HT
        simp only at hc2 hc3 hd1 hd3 hS1 hS2 hsl h3 HT
        obtain ⟨_, a4, b4, _⟩ := hl4
        simp only at a4 b4
        clear hL hd2 hd4
        have hk0 : (k : Int) < (ls.length : Int) := by omega
        have hk1 : (0 : Int) ≤ (k : Int) := by omega
        have hj1 := fun w' (hh : Ss w' A1 p) => l03Join_any A1 p c1 ⟨#[32]⟩ w' (by omega) (by omega) (by decide) hh
        have hj2 := fun w' (hh : Ss w' A2 q) => l03Join_any A2 q c2 ⟨#[32]⟩ w' (by omega) (by omega) (by decide) hh
        have e32 : (⟨#[32]⟩ : ByteArray).data.toList = [32] := rfl
        rw [e32] at hj1 hj2
        clear e32
        generalize hP : Lib.join p [32] = X at *
        generalize hQ : Lib.join q [32] = Y at *
        have hHX := Lib.hid hP
        have hHY := Lib.hid hQ
        simp only [List.length_append, List.length_cons, List.length_nil] at h3
        have hs9 : s.data.toList.length = s.size := by simp
        have z1 : ¬ 9223372036854775807 < s.size + 1 := by omega
        have z2 : ¬ 9223372036854775807 < s.size + 1 + X.length := by omega
        have z3 : ¬ 9223372036854775807 < s.size + 1 + X.length + 1 := by omega
        have z4 : ¬ 9223372036854775807 < s.size + 1 + X.length + 1 + Y.length := by omega
        have z5 : ¬ 9223372036854775807 < s.size + 1 + X.length + 1 + Y.length + 1 := by omega
        have HJ1 := Lib.hid hj1
        have HJ2 := Lib.hid hj2
        have k1 : w1.cell? ⟨b, off + k * 2, none⟩ = some (.slice A1 p.length c1) := hc2
        clear hP hQ hs9 hj1 hj2 h2 h3
        go_wp2_with fail
        go_quiet ((first | ((with_reducible refine Calls.quiet_of_same (HJ1.out _ ?_)); exact hS1) | ((with_reducible refine Calls.quiet_of_same (HJ2.out _ ?_)); exact hS2)))
        go_wp2
        go_roundw
        case rel => exact ⟨k + 1, _, by omega, by go_num, rfl, Lib.hid (by rw [HT.out]; simp [List.append_assoc]), Lib.hid (fun h => by simp at h), below_drewN hb2 _, hc1, hsz1⟩
        case measure => simp [intOf]; omega
      · have e : k = ls.length := by omega
        subst e
        rw [List.take_length] at HS
        go_wp2
        go_ret
        exact ⟨ret_str (str_of (by rw [HS.out, HZ.out]; simp)), hb2⟩

set_option maxHeartbeats 400000 in
theorem specFingLeaves_any (A : Option Addr) (ls : List Lv) (c : Nat) (w : World) (hs : Small ls) (hA : Ls w A ls) :
    Calls Try.prog 26 #[.agg #[.slice A ls.length c]] w fun e w' => e = .returned (.int .i64 (leavesZ ls)) ∧ Below w.heap.size w w' := by
  have hb0 := (Below.refl w.heap.size w).alloc (Nat.le_refl _) (.cells #[.slice A ls.length c] 26)
  have hA0 := hA.below hb0
  generalize hq : fingB ls = q
  have hz : leavesZ ls = if q = true then ((lv (fingText ls) : Nat) : Int) else -1 := by rw [leavesZ_eq, hq]
  have hl := fingText_len ls
  have HQ := Lib.hid hq
  have HZ := Lib.hid hz
  clear hq hz
  obtain ⟨T, hT⟩ : ∃ T, fingText ls = T := ⟨_, rfl⟩
  rw [hT] at hl HZ
  have HT := Lib.hid hT
  clear hT
  go_enter Try.func26, Try.ntmps26
  go_wp2_with fail
  refine (specFingOk_any A ls c _ hs (by exact hA0)).mono ?_
  rintro e w1 ⟨rfl, hb1⟩
  rw [HQ.out]
  have k1 : w1.cell? ⟨w.heap.size, 0, none⟩ = some (.slice A ls.length c) := (hb1.cell (p := ⟨w.heap.size, 0, none⟩) (by simp)).trans (by go_simp)
  have hA1 := hA0.below hb1
  have hb2 := below_then hb0 hb1
  clear hb1
  cases q
  · go_wp2
    go_ret
    exact ⟨ret_int (by rw [HZ.out]; rfl), hb2⟩
  · go_wp2_with fail
    refine (specFingText_any A ls c _ hs (by exact hA1)).mono ?_
    rintro e w2 ⟨rfl, hb3⟩
    rw [HT.out]
    have hb4 := below_then hb2 hb3
    go_wp2_with fail
    refine (l03Leaves_any ⟨T.toArray⟩ _ (by show T.toArray.size ≤ _; rw [List.size_toArray]; omega)).mono ?_
    rintro e w3 ⟨rfl, rfl⟩
    go_wp2
    go_ret
    exact ⟨ret_int (by rw [HZ.out]; simp), hb4⟩
end Go.Proofs.Ytfbcpiipekfapaa
