/-
  Chapter 3, the model's ShapeOk: contracts. Own work.
-/
import Derived.Test.YtfbcpiipekfapaaS03
namespace Go.Proofs.Ytfbcpiipekfapaa
open Go.RowKit P
set_option linter.unusedVariables false

theorem all_take {p : Str → Bool} {l : List Str} {k : Nat} (h : k < l.length) : (l.take (k + 1)).all p = ((l.take k).all p && p l[k]) := by
  rw [List.take_succ_eq_append_getElem h, List.all_append]; simp
theorem all_false {p : Str → Bool} {l : List Str} {k : Nat} (h : k < l.length) (hp : p l[k] = false) : l.all p = false := by
  rw [List.all_eq_false]
  exact ⟨_, List.getElem_mem h, by simp [hp]⟩

set_option maxHeartbeats 400000 in
theorem l03Shape_zero (s : ByteArray) (w : World) : Calls Try.prog 61 #[.string s, .int .i64 0] w fun e w' => e = .returned (.bool (nodeB s.data.toList 0)) ∧ Below w.heap.size w w' := by
  rw [nodeB_zero]
  go_enter Try.func61, Try.ntmps61
  go_wp2
  go_ret
  exact ⟨ret_bool (by rw [Lib.toList_data, Bool.eq_iff_iff]; simp), Below.refl _ _⟩

set_option maxHeartbeats 400000 in
theorem l03Shape_out (s : ByteArray) (d : Int) (w : World) (hs : s.size ≤ 1000) (h : d < 0 ∨ 10 < d) : Calls Try.prog 61 #[.string s, .int .i64 d] w fun e w' => e = .returned (.bool (nodeB s.data.toList d)) ∧ Below w.heap.size w w' := by
  have hq := nodeB_out (s := s.data.toList) h
  have hd0 : (d == 0) = false := by simp; omega
  have HQ := Lib.hid hq
  clear hq
  rcases h with h | h
  · go_enter Try.func61, Try.ntmps61
    go_wp2_with fail
    refine (l03Kids_any s _ hs).mono ?_
    rintro e w1 ⟨v, fp, rfl, how, _, _, hb⟩
    obtain ⟨A, c, rfl, hlc, hcm, hSs⟩ := strs_rd (Lay.strs.read how)
    clear how hSs
    go_wp2
    go_ret
    exact ⟨ret_bool HQ.out.symm, hb⟩
  · have h' : ¬ d < 0 := by omega
    go_enter Try.func61, Try.ntmps61
    go_wp2_with fail
    refine (l03Kids_any s _ hs).mono ?_
    rintro e w1 ⟨v, fp, rfl, how, _, _, hb⟩
    obtain ⟨A, c, rfl, hlc, hcm, hSs⟩ := strs_rd (Lay.strs.read how)
    clear how hSs
    go_wp2
    go_ret
    exact ⟨ret_bool HQ.out.symm, hb⟩

set_option maxHeartbeats 1000000 in
theorem l03Shape_succ (n : Nat) (hn : n + 1 ≤ 10) (ih : ∀ (s : ByteArray) (w : World), s.size ≤ 1000 → Calls Try.prog 61 #[.string s, .int .i64 (n : Int)] w fun e w' => e = .returned (.bool (nodeB s.data.toList (n : Int))) ∧ Below w.heap.size w w') (s : ByteArray) (w : World) (hs : s.size ≤ 1000) :
    Calls Try.prog 61 #[.string s, .int .i64 ((n + 1 : Nat) : Int)] w fun e w' => e = .returned (.bool (nodeB s.data.toList ((n + 1 : Nat) : Int))) ∧ Below w.heap.size w w' := by
  have hq := nodeB_kids (s := s.data.toList) hn
  have hkl := fun k (hk : k ∈ kids s.data.toList) => kid_len hk
  have hks := kids_len s.data.toList
  have hsz : s.data.toList.length = s.size := by simp
  generalize hK : kids s.data.toList = ks at *
  have HQ := Lib.hid hq
  have HK := Lib.hid hK
  have HKL := Lib.hid hkl
  have HSZ := Lib.hid hsz
  have hks' : ks.length ≤ 1000 := by omega
  clear hq hK hkl hks hsz
  obtain ⟨d, hd⟩ : ∃ d : Int, ((n + 1 : Nat) : Int) = d := ⟨_, rfl⟩
  have hdn : d = (n : Int) + 1 := by omega
  rw [hd] at HQ ⊢
  have HD := Lib.hid hdn
  have hd0 : (d == 0) = false := by simp; omega
  have hd1 : 0 ≤ d ∧ d ≤ 10 := by omega
  clear hdn hd
  go_enter Try.func61, Try.ntmps61
  go_wp2_with fail
  refine (l03Kids_any s _ hs).mono ?_
  rintro e w1 ⟨v, fp, rfl, how, _, _, hb⟩
  rw [HK.out] at how
  obtain ⟨A, c, rfl, hlc, hcm, hSs⟩ := strs_rd (Lay.strs.read how)
  have hSs' : Ss w1 A ks := hSs
  clear how hSs hcm
  by_cases h2 : 2 ≤ ks.length
  · by_cases h3 : ks.length ≤ 3
    · have hlen : decide (ks.length = 2 ∨ ks.length = 3) = true := by simp; omega
      rw [hlen, Bool.true_and] at HQ
      clear hlen
      have h2' : ¬ (ks.length : Int) < 2 := by omega
      have h3' : ¬ (3 : Int) < (ks.length : Int) := by omega
      go_wp2
      go_loopw [6] (fun i wr => ∃ k : Nat, k ≤ ks.length ∧ i = .int .i64 k ∧ Hid ((ks.take k).all (fun k => nodeB k (n : Int)) = true) ∧ Below w1.heap.size w1 wr) (fun i _ => ks.length - (intOf i).toNat)
      case atStart => exact ⟨0, Nat.zero_le _, rfl, Lib.hid rfl, Below.refl _ _⟩
      case round =>
        obtain ⟨k, hk, rfl, HT, hbr⟩ := hrel
        by_cases hlt : k < ks.length
        · obtain ⟨b, off, rfl, hbl, hc, hcl⟩ := (hSs'.below hbr).at_ k hlt
          have hmem := HKL.out ks[k] (List.getElem_mem hlt)
          have hat := all_take (p := fun k => nodeB k (n : Int)) hlt
          have haf := all_false (p := fun k => nodeB k (n : Int)) hlt
          rw [HT.out, Bool.true_and] at hat
          generalize hE : ks[k] = E at *
          have HM := Lib.hid hmem
          have HAT := Lib.hid hat
          have HAF := Lib.hid haf
          clear hmem hat haf hE
          have hk0 : (k : Int) < (ks.length : Int) := by omega
          have hdd : d - 1 = (n : Int) := by rw [HD.out]; omega
          have HDD := Lib.hid hdd
          clear hdd
          have ih' := fun w => ih ⟨E.toArray⟩ w (by show E.toArray.size ≤ 1000; rw [List.size_toArray]; exact Nat.le_trans HM.out (by rw [HSZ.out]; exact hs))
          rw [← HDD.out] at ih'
          have IH := Lib.hid ih'
          clear ih'
          generalize hB : nodeB E (n : Int) = B at *
          have HB := Lib.hid hB
          clear hB
          cases B
          · go_wp2_with fail
            refine (IH.out _).mono ?_
            rintro e w2 ⟨rfl, hb2⟩
            rw [HDD.out, HB.out]
            have hb3 := below_then hb (below_then hbr hb2)
            go_wp2
            go_ret
            exact ⟨ret_bool (by rw [HQ.out, HAF.out (by trivial)]), hb3⟩
          · go_wp2_with fail
            refine (IH.out _).mono ?_
            rintro e w2 ⟨rfl, hb2⟩
            rw [HDD.out, HB.out]
            have hb3 := below_then hbr hb2
            go_wp2
            go_roundw
            case rel => exact ⟨k + 1, by omega, by go_num, HAT, hb3⟩
            case measure => simp [intOf]; omega
        · have e : k = ks.length := by omega
          subst e
          rw [List.take_length] at HT
          have hb3 := below_then hb hbr
          go_wp2
          go_ret
          exact ⟨ret_bool (by rw [HQ.out, HT.out]), hb3⟩
    · have hlen : decide (ks.length = 2 ∨ ks.length = 3) = false := by simp; omega
      rw [hlen, Bool.false_and] at HQ
      clear hlen
      have h3' : (3 : Int) < (ks.length : Int) := by omega
      have h2' : ¬ (ks.length : Int) < 2 := by omega
      go_wp2
      go_ret
      exact ⟨ret_bool HQ.out.symm, hb⟩
  · have hlen : decide (ks.length = 2 ∨ ks.length = 3) = false := by simp; omega
    rw [hlen, Bool.false_and] at HQ
    clear hlen
    have h2' : (ks.length : Int) < 2 := by omega
    go_wp2
    go_ret
    exact ⟨ret_bool HQ.out.symm, hb⟩

theorem l03Shape_nat (n : Nat) (hn : n ≤ 10) : ∀ (s : ByteArray) (w : World), s.size ≤ 1000 → Calls Try.prog 61 #[.string s, .int .i64 (n : Int)] w fun e w' => e = .returned (.bool (nodeB s.data.toList (n : Int))) ∧ Below w.heap.size w w' := by
  induction n with
  | zero => intro s w _; exact l03Shape_zero s w
  | succ n ih => intro s w hs; exact l03Shape_succ n hn (ih (by omega)) s w hs
theorem l03Shape_any (s : ByteArray) (d : Int) (w : World) (hs : s.size ≤ 1000) : Calls Try.prog 61 #[.string s, .int .i64 d] w fun e w' => e = .returned (.bool (nodeB s.data.toList d)) ∧ Below w.heap.size w w' := by
  by_cases h : d < 0 ∨ 10 < d
  · exact l03Shape_out s d w hs h
  · obtain ⟨n, rfl⟩ : ∃ n : Nat, d = n := ⟨d.toNat, by omega⟩
    exact l03Shape_nat n (by omega) s w hs

set_option maxHeartbeats 400000 in
theorem specShapeOk_any (s : ByteArray) (d : Int) (w : World) (hs : s.size ≤ 1000000000) : Calls Try.prog 30 #[.string s, .int .i64 d] w fun e w' => e = .returned (.bool (shapeB s.data.toList d)) ∧ Below w.heap.size w w' := by
  have hq := shapeB_nodeB s.data.toList d
  have hsz : s.data.toList.length = s.size := by simp
  rw [hsz] at hq
  have HQ := Lib.hid hq
  have hl := lv_le s.data.toList
  clear hq
  generalize hL : lv s.data.toList = L at *
  have HL := Lib.hid hL
  have HSZ := Lib.hid hsz
  clear hL
  by_cases h1 : s.size ≤ 1000
  · have h1' : decide ((s.size : Int) ≤ 1000) = true := by simp; omega
    have h1'' : (s.size : Int) ≤ 1000 := by omega
    by_cases h2 : L ≤ 200
    · have h2' : decide ((L : Int) ≤ 200) = true := by simp; omega
      clear hsz
      go_enter Try.func30, Try.ntmps30
      go_wp2_with fail
      refine (l03Leaves_any s _ (by omega)).mono ?_
      rintro e w1 ⟨rfl, rfl⟩
      rw [HL.out]
      go_wp2_with fail
      refine (l03Shape_any s d _ (by omega)).mono ?_
      rintro e w1 ⟨rfl, hb⟩
      go_wp2
      go_ret
      exact ⟨ret_bool (by rw [HQ.out, decide_eq_true h1, decide_eq_true h2]; simp), hb⟩
    · have h2' : decide ((L : Int) ≤ 200) = false := by simp; omega
      clear hsz
      go_enter Try.func30, Try.ntmps30
      go_wp2_with fail
      refine (l03Leaves_any s _ (by omega)).mono ?_
      rintro e w1 ⟨rfl, rfl⟩
      rw [HL.out]
      go_wp2
      go_ret
      exact ⟨ret_bool (by rw [HQ.out, decide_eq_false h2]; simp), Below.refl _ _⟩
  · have h1' : decide ((s.size : Int) ≤ 1000) = false := by simp; omega
    clear hsz
    go_enter Try.func30, Try.ntmps30
    go_wp2
    go_ret
    exact ⟨ret_bool (by rw [HQ.out, decide_eq_false h1]; simp), Below.refl _ _⟩
end Go.Proofs.Ytfbcpiipekfapaa
