/-
  Chapter 3, the model's reading of nodes: contracts. Own work.
-/
import Derived.Test.YtfbcpiipekfapaaStr
import Derived.Outline
import Derived.Lib.Strings
namespace Go.Proofs.Ytfbcpiipekfapaa
open Go.RowKit P
set_option linter.unusedVariables false

theorem ch_yes {x c : UInt8} (h : x = c) : ((x.toNat : Int) == (c.toNat : Int)) = true := by rw [h]; simp
theorem ch_no {x c : UInt8} (h : ¬ x = c) : ((x.toNat : Int) == (c.toNat : Int)) = false := by
  rw [beq_eq_false_iff_ne]
  intro e
  exact h (UInt8.toNat_inj.1 (by omega))
theorem ch_ne_yes {x c : UInt8} (h : ¬ x = c) : ((x.toNat : Int) != (c.toNat : Int)) = true := by unfold bne; rw [ch_no h]; rfl
theorem ch_ne_no {x c : UInt8} (h : x = c) : ((x.toNat : Int) != (c.toNat : Int)) = false := by unfold bne; rw [ch_yes h]; rfl

theorem lv_take (l : Str) (k : Nat) (h : k < l.length) : lv (l.take (k + 1)) = lv (l.take k) + if l[k] = 120 then 1 else 0 := by
  rw [List.take_succ_eq_append_getElem h, lv_append]
  unfold lv
  rw [List.count_singleton]
  simp

set_option maxHeartbeats 400000 in
theorem l03Leaves_any (s : ByteArray) (w : World) (hs : s.size ≤ 1000000000000) :
    Calls Try.prog 57 #[.string s] w fun e w' => e = .returned (.int .i64 ((lv s.data.toList : Nat) : Int)) ∧ w' = w := by
  have hlen : s.data.toList.length = s.size := by simp
  go_enter Try.func57, Try.ntmps57
  go_wp2
  go_loop [3, 4] (fun n i => ∃ k : Nat, k ≤ s.size ∧ i = .int .i64 k ∧ n = .int .i64 ((lv (s.data.toList.take k) : Nat) : Int)) (fun _ i => s.size - (intOf i).toNat)
  case atStart => exact ⟨0, Nat.zero_le _, rfl, rfl⟩
  case round =>
    obtain ⟨k, hk, rfl, rfl⟩ := hrel
    by_cases hlt : k < s.size
    · have hsn := lv_take s.data.toList k (by simpa using hlt)
      have hle := lv_le (s.data.toList.take k)
      have hl2 : (s.data.toList.take k).length ≤ k := List.length_take_le _ _
      have hx : s.data.toList[k]'(by simpa using hlt) = s[k] := by simp; rfl
      rw [hx] at hsn
      have HS := Lib.hid hsn
      clear hsn hx
      by_cases hq : s[k] = 120
      · have hb : ((s[k].toNat : Int) == 120) = true := ch_yes hq
        have HQ := Lib.hid hq
        clear hq
        go_wp2
        go_round
        case rel => exact ⟨k + 1, by omega, by go_num, by rw [HS.out, if_pos HQ.out]; go_num⟩
        case measure => simp [intOf]; omega
      · have hb : ((s[k].toNat : Int) == 120) = false := ch_no hq
        have HQ := Lib.hid hq
        clear hq
        go_wp2
        go_round
        case rel => exact ⟨k + 1, by omega, by go_num, by rw [HS.out, if_neg HQ.out]; go_num⟩
        case measure => simp [intOf]; omega
    · go_wp2
      go_ret
      exact ⟨ret_int (by rw [List.take_of_length_le (by simp; omega)]), rfl⟩

set_option maxHeartbeats 400000 in
theorem l03Kids_bad (s : ByteArray) (w : World) (hs : s.size ≤ 1000) (h : s.size < 2 ∨ s.data.toList.getD 0 0 ≠ 40 ∨ s.data.toList.getD (s.data.toList.length - 1) 0 ≠ 41) :
    Calls Try.prog 95 #[.string s] w fun e w' => e = .returned (.slice none 0 0) ∧ w' = w := by
  by_cases h2 : 2 ≤ s.size
  · have h0' : 0 < s.size := by omega
    have h1' : s.size - 1 < s.size := by omega
    have e0 : s.data.toList.getD 0 0 = s[0] := by simp [List.getD, h0']; rfl
    have e1 : s.data.toList.getD (s.data.toList.length - 1) 0 = s[s.size - 1] := by simp [List.getD, h1']; rfl
    rw [e0, e1] at h
    have hcast : ((s.size : Int) - 1).toNat = s.size - 1 := by omega
    by_cases q0 : s[0] = 40
    · have q1 : ¬ s[s.size - 1] = 41 := by
        rcases h with h | h | h
        · omega
        · exact absurd q0 h
        · exact h
      have b0 : ((s[0].toNat : Int) != 40) = false := ch_ne_no q0
      have b1 : ((s[s.size - 1].toNat : Int) != 41) = true := ch_ne_yes q1
      clear h e0 e1 q0 q1
      go_enter Try.func95, Try.ntmps95
      go_wp2
      go_ret
      exact ⟨rfl, rfl⟩
    · have b0 : ((s[0].toNat : Int) != 40) = true := ch_ne_yes q0
      clear h e0 e1 q0
      go_enter Try.func95, Try.ntmps95
      go_wp2
      go_ret
      exact ⟨rfl, rfl⟩
  · have h2' : (s.size : Int) < 2 := by omega
    go_enter Try.func95, Try.ntmps95
    go_wp2
    go_ret
    exact ⟨rfl, rfl⟩

theorem ext_cut (s : ByteArray) (f b : Nat) : s.extract f b = ⟨((s.data.toList.take b).drop f).toArray⟩ := by
  have h := Lib.extract_data s f b
  rw [← List.drop_take] at h
  generalize s.extract f b = r at h ⊢
  obtain ⟨a⟩ := r
  simp only at h
  rw [← h]

/-- What the pieces so far lie as. -/
def KidsRel (s : ByteArray) (w : World) (out op fr i : Value) (wr : World) : Prop :=
  ∃ (v : Value) (js : List Str) (cur : Str) (k f : Nat) (fp : List Nat), out = v ∧ op = .int .i64 (bal cur) ∧ fr = .int .i64 f ∧ i = .int .i64 k ∧ Hid (Splits s.data.toList k f js cur) ∧ k + 1 ≤ s.size ∧ f ≤ k ∧ 1 ≤ f ∧ 0 ≤ bal cur ∧ bal cur ≤ k ∧ js.length ≤ k ∧
    Lay.strs.ow wr [v] js fp ∧ fp.Nodup ∧ (∀ x ∈ fp, w.heap.size ≤ x ∧ x < wr.heap.size) ∧ Below w.heap.size w wr

set_option maxHeartbeats 2000000 in
theorem l03Kids_good (s : ByteArray) (w : World) (hs : s.size ≤ 1000) (h2 : 2 ≤ s.size) (h0 : s.data.toList.getD 0 0 = 40) (h1 : s.data.toList.getD (s.data.toList.length - 1) 0 = 41) :
    Calls Try.prog 95 #[.string s] w (Gives1 Lay.strs (kids s.data.toList) w) := by
  have h0' : 0 < s.size := by omega
  have h1' : s.size - 1 < s.size := by omega
  have e0 : s.data.toList.getD 0 0 = s[0] := by simp [List.getD, h0']; rfl
  have e1 : s.data.toList.getD (s.data.toList.length - 1) 0 = s[s.size - 1] := by simp [List.getD, h1']; rfl
  have hcast : ((s.size : Int) - 1).toNat = s.size - 1 := by omega
  have b0 : ((s[0].toNat : Int) != 40) = false := ch_ne_no (e0.symm.trans h0)
  have b1 : ((s[s.size - 1].toNat : Int) != 41) = false := ch_ne_no (e1.symm.trans h1)
  have H0 := Lib.hid h0
  have H1 := Lib.hid h1
  clear e0 e1 h0 h1
  go_enter Try.func95, Try.ntmps95
  go_wp2
  clear b0 b1
  go_loopw [3, 4, 5, 6] (fun out op fr i wr => KidsRel s w out op fr i wr) (fun _ _ _ i _ => s.size - (intOf i).toNat)
  case atStart => 
    refine ⟨_, [], [], 1, 1, _, rfl, rfl, rfl, rfl, Lib.hid (Splits.start (by simpa using h2)), by omega, by omega, by omega, by decide, by decide, by simp, Lay.slice_empty _ _ _, by simp, by simp, ?_⟩
    (repeat (first | exact Below.refl _ _ | assumption | refine Below.setCell ?_ (by first | (simp; done) | (simp; omega) | omega) _ | refine Below.drew ?_ | refine below_drewN ?_ _ | refine Below.alloc ?_ (by first | (simp; done) | (simp; omega) | omega) _))
  case round =>
    obtain ⟨v, js, cur, k, f, fp, rfl, rfl, rfl, rfl, HS, hk1, hfk, hf1, hb0, hb9, hjs, how, hnd, hfp, hbel⟩ := hrel
    by_cases hend : k + 1 = s.size
    · have hdone := HS.out.done (by simpa using hend) H0.out H1.out
      have hki : ¬ (k : Int) < (s.size : Int) - 1 := by omega
      have HEND := Lib.hid hend
      have HD := Lib.hid hdone
      clear hend hdone
      by_cases hz : bal cur = 0
      · have hz2 : (bal cur != 0) = false := by rw [hz]; rfl
        have HZ := Lib.hid hz
        clear hz
        go_wp2
        go_ret
        rw [HD.out, if_pos HZ.out]
        exact ⟨_, fp, rfl, how, hnd, fun x hx => (hfp x hx).1, hbel⟩
      · have hz2 : (bal cur != 0) = true := by simpa using hz
        have HZ := Lib.hid hz
        clear hz
        go_wp2
        go_ret
        rw [HD.out, if_neg HZ.out]
        exact ⟨_, _, rfl, Lay.slice_nil _ _ _, by simp, by simp, hbel⟩
    · have hki : (k : Int) < (s.size : Int) - 1 := by omega
      have hk2 : k + 1 < s.size := by omega
      have hkl : k + 1 < s.data.toList.length := by simpa using hk2
      have hkk : k < s.size := by omega
      have hx : s.data.toList[k]'(by omega) = s[k] := by simp; rfl
      clear hend
      by_cases q40 : s[k] = 40
      · have b40 : ((s[k].toNat : Int) == 40) = true := ch_yes q40
        have hbal : bal (cur ++ [s.data.toList[k]'(by omega)]) = bal cur + 1 := by rw [hx, q40, bal_snoc, bal_open]
        have hnx := HS.out.goon hkl (by rw [hx]; exact .inl q40) (by omega)
        have HN := Lib.hid hnx
        have HB := Lib.hid hbal
        have hb1 : ¬ bal cur + 1 < 0 := by omega
        have hb2 : (bal cur + 1 == 0) = false := by simp; omega
        have hb3 : bal cur + 1 ≤ 2000 := by omega
        clear hx hnx hbal q40
        go_wp2
        go_roundw
        case rel => exact ⟨_, js, _, k + 1, f, fp, rfl, by rw [HB.out], rfl, by go_num, HN, by omega, by omega, hf1, by rw [HB.out]; omega, by rw [HB.out]; omega, by omega, how, hnd, hfp, hbel⟩
        case measure => simp [intOf]; omega
      · have b40 : ((s[k].toNat : Int) == 40) = false := ch_no q40
        by_cases q41 : s[k] = 41
        · have b41 : ((s[k].toNat : Int) == 41) = true := ch_yes q41
          have hbal : bal (cur ++ [s.data.toList[k]'(by omega)]) = bal cur - 1 := by rw [hx, q41, bal_snoc, bal_close]; omega
          have HB := Lib.hid hbal
          have hc : s.data.toList[k]'(by omega) = 40 ∨ s.data.toList[k]'(by omega) = 41 ∨ s.data.toList[k]'(by omega) = 120 := by rw [hx]; exact .inr (.inl q41)
          have HC := Lib.hid hc
          clear q40 hx hc hbal q41
          by_cases hneg : bal cur = 0
          · have hb1 : bal cur - 1 < 0 := by omega
            have hk0 := HS.out.below hkl (by rw [HB.out]; omega)
            have HK := Lib.hid hk0
            clear hk0 hneg
            go_wp2
            go_ret
            rw [HK.out]
            exact ⟨_, _, rfl, Lay.slice_nil _ _ _, by simp, by simp, hbel⟩
          · have hb1 : ¬ bal cur - 1 < 0 := by omega
            by_cases hone : bal cur = 1
            · have hb2 : (bal cur - 1 == 0) = true := by simp; omega
              have hcl := HS.out.close hkl HC.out (by rw [HB.out]; omega)
              have HN := Lib.hid hcl
              have HB1 := Lib.hid hone
              have hopen : bal cur - 1 = 0 := by omega
              have HO := Lib.hid hopen
              clear hcl hone hneg hopen
              have hpc := HS.out.next_cur hkl
              have hex : s.extract f (k + 1) = ⟨(cur ++ [s.data.toList[k]'(by omega)]).toArray⟩ := by rw [ext_cut, hpc]
              have hus : Lay.str.ow (wr.alloc (.cells #[.string (s.extract f (k + 1))] 9)) [.string (s.extract f (k + 1))] (cur ++ [s.data.toList[k]'(by omega)]) [] := ⟨by rw [hex], by rw [← hpc]; unfold maxLen; simp; omega, rfl⟩
              have how4 := Lay.strs.owBelow how ((Below.refl wr.heap.size wr).alloc (Nat.le_refl _) (.cells #[.string (s.extract f (k + 1))] 9))
              have hs2 := hbel.size
              have hjs6 : js.length ≤ 1000000 := by omega
              generalize hP : cur ++ [s.data.toList[k]'(by omega)] = P at *
              clear hpc hex hP
              go_wp2_with (at_builtin; go_must (refine wpList_app_one rfl _ _ 61 rfl 9 Lay.str (.string ⟨#[]⟩) 1 16 Try.underlying61 Try.infoStr rfl rfl (by decide) (by decide) _ js fp [.string (s.extract f (k + 1))] P [] ⟨wr.heap.size, 0, none⟩ 1 rfl rfl how4 hnd hus (by simp) wr.heap.size ?c1 (by simp) cell_new1 hjs6 ?_))
              case c1 => exact fun x hx => (hfp x hx).2
              intro v5 w5 fp5 how5 hn5 hf5 hg5
              have hb5 := (hbel.alloc hs2 (.cells #[.string (s.extract f (k + 1))] 9)).grown hg5 (by rw [alloc_size]; omega) (fun x hx => (hfp x (by obtain ⟨es, _, _, _, e⟩ := ow_one how4; rw [e, hx]; simp)).1)
              have hf5' : ∀ x ∈ fp5, w.heap.size ≤ x ∧ x < w5.heap.size := fun x hx => by
                refine ⟨?_, Lay.strs.lt how5 x hx⟩
                rcases hf5 x hx with h | h
                · exact (hfp x h).1
                · omega
              clear how how4 hus hg5 hf5 hfp hbel
              go_wp2
              go_roundw
              case rel => exact ⟨_, _, [], k + 1, k + 1, fp5, rfl, by rw [bal_nil, HO.out], by go_num, by go_num, HN, by omega, by omega, by omega, by decide, by rw [bal_nil]; omega, by simp; omega, how5, hn5, hf5', hb5⟩
              case measure => simp [intOf]; omega
            · have hb2 : (bal cur - 1 == 0) = false := by simp; omega
              have hgo := HS.out.goon hkl HC.out (by rw [HB.out]; omega)
              have HN := Lib.hid hgo
              clear hgo hone hneg
              go_wp2
              go_roundw
              case rel => exact ⟨_, js, _, k + 1, f, fp, rfl, by rw [HB.out], rfl, by go_num, HN, by omega, by omega, hf1, by rw [HB.out]; omega, by rw [HB.out]; omega, by omega, how, hnd, hfp, hbel⟩
              case measure => simp [intOf]; omega
        · have b41 : ((s[k].toNat : Int) == 41) = false := ch_no q41
          by_cases q120 : s[k] = 120
          · have b120 : ((s[k].toNat : Int) != 120) = false := ch_ne_no q120
            have hbal : bal (cur ++ [s.data.toList[k]'(by omega)]) = bal cur := by rw [hx, q120, bal_snoc, bal_leaf]; omega
            have HB := Lib.hid hbal
            have hc : s.data.toList[k]'(by omega) = 40 ∨ s.data.toList[k]'(by omega) = 41 ∨ s.data.toList[k]'(by omega) = 120 := by rw [hx]; exact .inr (.inr q120)
            have HC := Lib.hid hc
            clear q40 q41 hx hc hbal q120
            have hb1 : ¬ bal cur < 0 := by omega
            by_cases hone : bal cur = 0
            · have hb2 : (bal cur == 0) = true := by simp; omega
              have hcl := HS.out.close hkl HC.out (by rw [HB.out]; omega)
              have HN := Lib.hid hcl
              have HB1 := Lib.hid hone
              clear hcl hone
              have hpc := HS.out.next_cur hkl
              have hex : s.extract f (k + 1) = ⟨(cur ++ [s.data.toList[k]'(by omega)]).toArray⟩ := by rw [ext_cut, hpc]
              have hus : Lay.str.ow (wr.alloc (.cells #[.string (s.extract f (k + 1))] 9)) [.string (s.extract f (k + 1))] (cur ++ [s.data.toList[k]'(by omega)]) [] := ⟨by rw [hex], by rw [← hpc]; unfold maxLen; simp; omega, rfl⟩
              have how4 := Lay.strs.owBelow how ((Below.refl wr.heap.size wr).alloc (Nat.le_refl _) (.cells #[.string (s.extract f (k + 1))] 9))
              have hs2 := hbel.size
              have hjs6 : js.length ≤ 1000000 := by omega
              generalize hP : cur ++ [s.data.toList[k]'(by omega)] = P at *
              clear hpc hex hP
              go_wp2_with (at_builtin; go_must (refine wpList_app_one rfl _ _ 61 rfl 9 Lay.str (.string ⟨#[]⟩) 1 16 Try.underlying61 Try.infoStr rfl rfl (by decide) (by decide) _ js fp [.string (s.extract f (k + 1))] P [] ⟨wr.heap.size, 0, none⟩ 1 rfl rfl how4 hnd hus (by simp) wr.heap.size ?c1 (by simp) cell_new1 hjs6 ?_))
              case c1 => exact fun x hx => (hfp x hx).2
              intro v5 w5 fp5 how5 hn5 hf5 hg5
              have hb5 := (hbel.alloc hs2 (.cells #[.string (s.extract f (k + 1))] 9)).grown hg5 (by rw [alloc_size]; omega) (fun x hx => (hfp x (by obtain ⟨es, _, _, _, e⟩ := ow_one how4; rw [e, hx]; simp)).1)
              have hf5' : ∀ x ∈ fp5, w.heap.size ≤ x ∧ x < w5.heap.size := fun x hx => by
                refine ⟨?_, Lay.strs.lt how5 x hx⟩
                rcases hf5 x hx with h | h
                · exact (hfp x h).1
                · omega
              clear how how4 hus hg5 hf5 hfp hbel
              go_wp2
              go_roundw
              case rel => exact ⟨_, _, [], k + 1, k + 1, fp5, rfl, by rw [bal_nil, HB1.out], by go_num, by go_num, HN, by omega, by omega, by omega, by decide, by rw [bal_nil]; omega, by simp; omega, how5, hn5, hf5', hb5⟩
              case measure => simp [intOf]; omega
            · have hb2 : (bal cur == 0) = false := by simp; omega
              have hgo := HS.out.goon hkl HC.out (by rw [HB.out]; omega)
              have HN := Lib.hid hgo
              clear hgo hone
              go_wp2
              go_roundw
              case rel => exact ⟨_, js, _, k + 1, f, fp, rfl, by rw [HB.out], rfl, by go_num, HN, by omega, by omega, hf1, by rw [HB.out]; omega, by rw [HB.out]; omega, by omega, how, hnd, hfp, hbel⟩
              case measure => simp [intOf]; omega
          · have b120 : ((s[k].toNat : Int) != 120) = true := ch_ne_yes q120
            have hk0 := HS.out.bad hkl (by rw [hx]; exact fun h => h.elim q40 (fun h => h.elim q41 q120))
            have HK := Lib.hid hk0
            clear hk0 hx q40 q41 q120
            go_wp2
            go_ret
            rw [HK.out]
            exact ⟨_, _, rfl, Lay.slice_nil _ _ _, by simp, by simp, hbel⟩

theorem l03Kids_any (s : ByteArray) (w : World) (hs : s.size ≤ 1000) : Calls Try.prog 95 #[.string s] w (Gives1 Lay.strs (kids s.data.toList) w) := by
  by_cases h : s.size < 2 ∨ s.data.toList.getD 0 0 ≠ 40 ∨ s.data.toList.getD (s.data.toList.length - 1) 0 ≠ 41
  · refine (l03Kids_bad s w hs h).mono ?_
    rintro e w' ⟨rfl, rfl⟩
    rw [kids_bad (by rcases h with h | h | h; exact .inl (by simpa using h); exact .inr (.inl h); exact .inr (.inr h))]
    exact ⟨_, _, rfl, Lay.slice_nil _ _ _, by simp, by simp, Below.refl _ _⟩
  · rw [not_or, not_or] at h
    exact l03Kids_good s w hs (by omega) (Decidable.not_not.1 h.2.1) (Decidable.not_not.1 h.2.2)

end Go.Proofs.Ytfbcpiipekfapaa
