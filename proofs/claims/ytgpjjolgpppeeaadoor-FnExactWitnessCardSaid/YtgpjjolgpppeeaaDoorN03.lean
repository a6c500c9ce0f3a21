/-
  Chapter 9, what makes a request valid, in the program: contracts. Own work.
-/
import Derived.Test.YtgpjjolgpppeeaaDoorN02
import Derived.Test.YtgpjjolgpppeeaaDoorBlk
namespace Go.Proofs.YtgpjjolgpppeeaaDoor
open Go.RowKit P
set_option linter.unusedVariables false
set_option linter.unusedSimpArgs false

theorem ta_np (n : Int) (W : World) : Sem.run Tryd.prog (Instr.typeAssert (.iface 130 (.agg #[.int .i64 n])) 111 132 true) W = .ok (.tuple #[.agg #[.int .i64 0], .bool false]) W := by kernel_rfl
theorem ta_nf (n : Int) (W : World) : Sem.run Tryd.prog (Instr.typeAssert (.iface 130 (.agg #[.int .i64 n])) 111 133 true) W = .ok (.tuple #[.agg #[.int .i64 0], .bool false]) W := by kernel_rfl
theorem ta_pp (n : Int) (W : World) : Sem.run Tryd.prog (Instr.typeAssert (.iface 132 (.agg #[.int .i64 n])) 111 132 true) W = .ok (.tuple #[.agg #[.int .i64 n], .bool true]) W := by kernel_rfl
theorem ta_fp (n : Int) (W : World) : Sem.run Tryd.prog (Instr.typeAssert (.iface 133 (.agg #[.int .i64 n])) 111 132 true) W = .ok (.tuple #[.agg #[.int .i64 0], .bool false]) W := by kernel_rfl
theorem ta_ff (n : Int) (W : World) : Sem.run Tryd.prog (Instr.typeAssert (.iface 133 (.agg #[.int .i64 n])) 111 133 true) W = .ok (.tuple #[.agg #[.int .i64 n], .bool true]) W := by kernel_rfl

theorem beq_len (n : Nat) : (((n : Int) == 0) : Bool) = decide (n = 0) := by
  rw [Bool.eq_iff_iff, beq_iff_eq, decide_eq_true_eq]; omega
/-- What a text must be, by the kind's value. -/
def fitT (t : List UInt8) : Bool := isText t && decide (t.length ≤ 100)

set_option maxHeartbeats 2000000 in
theorem usesText_num (n : Int) (A : Option Addr) (t : List UInt8) (c : Nat) (w : World) (hl : t.length ≤ c) (hc9 : c ≤ 9223372036854775807) (hT : Tab w) (hA : Bs w A t) :
    Calls Tryd.prog 88 #[nkV n, .slice A t.length c] w fun e w' => e = .returned (.bool (decide (t.length = 0))) ∧ ∃ n, w' = w.drewN n := by
  have ta_np' := ta_np n
  have ta_nf' := ta_nf n
  have hz : decide ((t.length : Int) = 0) = decide (t.length = 0) := decide_eq_decide.2 (by omega)
  have HZ := Lib.hid hz
  clear hz
  by_cases h1 : t.length ≤ 100
  · have h2 : decide ((t.length : Int) ≤ 100) = true := decide_eq_true (by omega)
    generalize hq : isText t = q
    have HQ := Lib.hid hq
    clear hq
    unfold nkV
    go_enter Tryd.func88, Tryd.ntmps88
    go_wp2_with fail
    refine (textOk_any A t c _ hl hc9 (by exact hT) (by exact hA)).mono ?_
    rintro e w1 ⟨rfl, m, rfl⟩
    rw [HQ.out]
    go_wp2
    go_ret
    exact ⟨ret_bool (beq_len _), m, rfl⟩
  · have h2 : decide ((t.length : Int) ≤ 100) = false := decide_eq_false (by omega)
    unfold nkV
    go_enter Tryd.func88, Tryd.ntmps88
    go_wp2
    go_ret
    exact ⟨ret_bool (beq_len _), 0, rfl⟩

set_option maxHeartbeats 2000000 in
theorem usesText_put (n : Int) (A : Option Addr) (t : List UInt8) (c : Nat) (w : World) (hl : t.length ≤ c) (hc9 : c ≤ 9223372036854775807) (hT : Tab w) (hA : Bs w A t) :
    Calls Tryd.prog 88 #[pkV n, .slice A t.length c] w fun e w' => e = .returned (.bool (fitT t)) ∧ ∃ n, w' = w.drewN n := by
  have ta_pp' := ta_pp n
  by_cases h1 : t.length ≤ 100
  · have h2 : decide ((t.length : Int) ≤ 100) = true := decide_eq_true (by omega)
    have HF : Hid (fitT t = isText t) := Lib.hid (by unfold fitT; simp [h1])
    unfold pkV
    go_enter Tryd.func88, Tryd.ntmps88
    go_wp2_with fail
    refine (textOk_any A t c _ hl hc9 (by exact hT) (by exact hA)).mono ?_
    rintro e w1 ⟨rfl, m, rfl⟩
    go_wp2
    go_ret
    exact ⟨ret_bool HF.out.symm, m, rfl⟩
  · have h2 : decide ((t.length : Int) ≤ 100) = false := decide_eq_false (by omega)
    have HF : Hid (fitT t = false) := Lib.hid (by unfold fitT; simp [h1])
    unfold pkV
    go_enter Tryd.func88, Tryd.ntmps88
    go_wp2
    go_ret
    exact ⟨ret_bool HF.out.symm, 0, rfl⟩

set_option maxHeartbeats 2000000 in
theorem usesText_find (n : Int) (A : Option Addr) (t : List UInt8) (c : Nat) (w : World) (hl : t.length ≤ c) (hc9 : c ≤ 9223372036854775807) (hT : Tab w) (hA : Bs w A t) :
    Calls Tryd.prog 88 #[fkV n, .slice A t.length c] w fun e w' => e = .returned (.bool (fitT t && decide (0 < t.length))) ∧ ∃ n, w' = w.drewN n := by
  have ta_fp' := ta_fp n
  have ta_ff' := ta_ff n
  by_cases h1 : t.length ≤ 100
  · have h2 : decide ((t.length : Int) ≤ 100) = true := decide_eq_true (by omega)
    have HF : Hid (fitT t = isText t) := Lib.hid (by unfold fitT; simp [h1])
    generalize hq : isText t = q at *
    have HQ := Lib.hid hq
    clear hq
    unfold fkV
    go_enter Tryd.func88, Tryd.ntmps88
    go_wp2_with fail
    refine (textOk_any A t c _ hl hc9 (by exact hT) (by exact hA)).mono ?_
    rintro e w1 ⟨rfl, m, rfl⟩
    rw [HQ.out]
    cases q
    · go_wp2
      go_ret
      exact ⟨ret_bool (by rw [HF.out]; simp), m, rfl⟩
    · go_wp2
      go_ret
      exact ⟨ret_bool (by rw [HF.out]; simp), m, rfl⟩
  · have h2 : decide ((t.length : Int) ≤ 100) = false := decide_eq_false (by omega)
    have HF : Hid (fitT t = false) := Lib.hid (by unfold fitT; simp [h1])
    unfold fkV
    go_enter Tryd.func88, Tryd.ntmps88
    go_wp2
    go_ret
    exact ⟨ret_bool (by rw [HF.out]; rfl), 0, rfl⟩

/-- What the kind asks of the text. -/
def useT (k : Int) (t : List UInt8) : Bool := if k = 7 ∨ k = 8 then (fitT t && decide (0 < t.length)) else if k = 3 ∨ k = 5 then fitT t else decide (t.length = 0)
theorem isText_nil : isText [] = true := by decide +kernel
theorem useT_eq (k : Int) (t : List UInt8) : useT k t = (fitT t && rqTail k t.length) := by
  unfold useT rqTail rqX rqF
  by_cases h7 : k = 7 ∨ k = 8
  · rw [if_pos h7, decide_eq_true h7]; simp
  · rw [if_neg h7, decide_eq_false h7]
    by_cases h3 : k = 3 ∨ k = 5
    · rw [if_pos h3, decide_eq_true h3]; simp
    · rw [if_neg h3, decide_eq_false h3]
      simp only [Bool.or_self, Bool.false_or, Bool.not_false, Bool.true_or, Bool.and_true]
      by_cases h0 : t.length = 0
      · obtain rfl : t = [] := List.eq_nil_of_length_eq_zero h0
        simp [fitT, isText_nil]
      · rw [decide_eq_false h0, Bool.and_false]

theorem useN_eq (k a b c : Int) (h : ¬ (k < 1 ∨ 16 < k)) : useN (rqCnt k) 0 [a, b, c] = (isW a && isW b && isW c && rqNums k a b c) := by
  unfold useN useN useN useN rqNums rqCnt rqA rqB rqC
  have hC : ∀ q : Bool, (q && true) = q := fun q => by simp
  generalize isW a = x
  generalize isW b = y
  generalize isW c = z
  have h2 : k = 1 ∨ k = 2 ∨ k = 3 ∨ k = 4 ∨ k = 5 ∨ k = 6 ∨ k = 7 ∨ k = 8 ∨ k = 9 ∨ k = 10 ∨ k = 11 ∨ k = 12 ∨ k = 13 ∨ k = 14 ∨ k = 15 ∨ k = 16 := by omega
  clear h
  rcases h2 with rfl | rfl | rfl | rfl | rfl | rfl | rfl | rfl | rfl | rfl | rfl | rfl | rfl | rfl | rfl | rfl
  all_goals
    simp
    try (cases x <;> cases y <;> cases z <;> simp [Bool.and_assoc])

/-- The kinds with their values. -/
theorem kindV_cases (k : Int) : ((k < 1 ∨ 16 < k) ∧ kindV k = .nilIface) ∨ (¬ (k < 1 ∨ 16 < k) ∧ (kindV k = nkV (rqCnt k) ∧ ∀ t, useT k t = decide (t.length = 0)) ∨ (¬ (k < 1 ∨ 16 < k) ∧ (kindV k = pkV (rqCnt k)) ∧ ∀ t, useT k t = fitT t) ∨ (¬ (k < 1 ∨ 16 < k) ∧ (kindV k = fkV (rqCnt k)) ∧ ∀ t, useT k t = (fitT t && decide (0 < t.length)))) := by
  by_cases h : k < 1 ∨ 16 < k
  · exact .inl ⟨h, by unfold kindV; rw [if_pos h]⟩
  · right
    unfold kindV useT
    rw [if_neg h]
    by_cases h7 : k = 7 ∨ k = 8
    · right; right
      refine ⟨h, ?_, fun t => by rw [if_pos h7]⟩
      rw [if_pos h7]
      rcases h7 with rfl | rfl <;> rfl
    · by_cases h3 : k = 3
      · right; left
        subst h3
        exact ⟨h, rfl, fun t => rfl⟩
      · by_cases h5 : k = 5
        · right; left
          subst h5
          exact ⟨h, rfl, fun t => rfl⟩
        · left
          refine ⟨h, ?_, fun t => ?_⟩
          · rw [if_neg h7, if_neg h3, if_neg h5]
          · rw [if_neg h7, if_neg (by omega)]

theorem useN_bad {k a b c : Int} {t : List UInt8} (h : k < 1 ∨ 16 < k) (s : Int) : rqOk k s a b c t = false := by
  unfold rqOk rqHead
  rw [decide_eq_false (show ¬ (1 ≤ k ∧ k ≤ 16) by omega)]
  simp
theorem rqOk_use {k : Int} (s a b c : Int) (t : List UInt8) (h : ¬ (k < 1 ∨ 16 < k)) : rqOk k s a b c t = (decide (1 ≤ s ∧ s ≤ 8) && useN (rqCnt k) 0 [a, b, c] && useT k t) := by
  rw [useN_eq k a b c h, useT_eq]
  unfold rqOk rqHead fitT
  rw [decide_eq_true (show 1 ≤ k ∧ k ≤ 16 by omega)]
  generalize decide (1 ≤ s ∧ s ≤ 8) = x1
  generalize isW a = x2
  generalize isW b = x3
  generalize isW c = x4
  generalize isText t = x5
  generalize decide (t.length ≤ 100) = x6
  generalize rqNums k a b c = x7
  generalize rqTail k t.length = x8
  revert x1 x2 x3 x4 x5 x6 x7 x8
  decide

theorem nm_meth (n : Int) (W : World) : Sem.run Tryd.prog (method 258 130 (.agg #[.int .i64 n]) "loop.example/g00677/impl.numbers") W = .ok (138, .agg #[.int .i64 n]) W := by kernel_rfl
theorem pt_meth (n : Int) (W : World) : Sem.run Tryd.prog (method 258 132 (.agg #[.int .i64 n]) "loop.example/g00677/impl.numbers") W = .ok (138, .agg #[.int .i64 n]) W := by kernel_rfl
theorem fd_meth (n : Int) (W : World) : Sem.run Tryd.prog (method 258 133 (.agg #[.int .i64 n]) "loop.example/g00677/impl.numbers") W = .ok (138, .agg #[.int .i64 n]) W := by kernel_rfl

/-- The kind's value, whatever it is. -/
theorem kindV_form (k : Int) (h : ¬ (k < 1 ∨ 16 < k)) : ∃ T, kindV k = .iface T (.agg #[.int .i64 (rqCnt k)]) ∧
    (∀ (b : Nat) (l : List Int) (c : Nat) (w : World), l.length ≤ 1000 → Ints w b l → Calls Tryd.prog 87 #[.iface T (.agg #[.int .i64 (rqCnt k)]), .slice (some ⟨b, 0, none⟩) l.length c] w fun e w' => e = .returned (.bool (useN (rqCnt k) 0 l)) ∧ Below w.heap.size w w') ∧
    (∀ (A : Option Addr) (t : List UInt8) (c : Nat) (w : World), t.length ≤ c → c ≤ 9223372036854775807 → Tab w → Bs w A t → Calls Tryd.prog 88 #[.iface T (.agg #[.int .i64 (rqCnt k)]), .slice A t.length c] w fun e w' => e = .returned (.bool (useT k t)) ∧ ∃ n, w' = w.drewN n) := by
  rcases kindV_cases k with ⟨h', _⟩ | ⟨_, e, ht⟩ | ⟨_, e, ht⟩ | ⟨_, e, ht⟩
  · exact absurd h' h
  · exact ⟨_, e, fun b l c w hl hI => usesNumbers_of _ _ b l c w hl (fun W => nm_meth _ W) hI, fun A t c w h1 h2 h3 h4 => by rw [ht]; exact usesText_num _ A t c w h1 h2 h3 h4⟩
  · exact ⟨_, e, fun b l c w hl hI => usesNumbers_of _ _ b l c w hl (fun W => pt_meth _ W) hI, fun A t c w h1 h2 h3 h4 => by rw [ht]; exact usesText_put _ A t c w h1 h2 h3 h4⟩
  · exact ⟨_, e, fun b l c w hl hI => usesNumbers_of _ _ b l c w hl (fun W => fd_meth _ W) hI, fun A t c w h1 h2 h3 h4 => by rw [ht]; exact usesText_find _ A t c w h1 h2 h3 h4⟩

def rqC6 (k s a b c : Int) (A : Option Addr) (n d : Nat) : Array Value := #[.int .i64 k, .int .i64 s, .int .i64 a, .int .i64 b, .int .i64 c, .slice A n d]

set_option maxHeartbeats 4000000 in
theorem implReqOk_any (k s a b c : Int) (A : Option Addr) (t : List UInt8) (d : Nat) (w : World) (hl : t.length ≤ d) (hc9 : d ≤ 9223372036854775807) (hT : Tab w) (hA : Bs w A t) :
    Calls Tryd.prog 44 #[.agg #[.int .i64 k, .int .i64 s, .int .i64 a, .int .i64 b, .int .i64 c, .slice A t.length d]] w fun e w' => e = .returned (.bool (rqOk k s a b c t)) ∧ Below w.heap.size w w' := by
  have hal := (Below.refl w.heap.size w).alloc (Nat.le_refl _) (.cells #[.int .i64 k, .int .i64 s, .int .i64 a, .int .i64 b, .int .i64 c, .slice A t.length d] 29)
  have hT2 := Lib.hid (hT.below hal)
  have hA2 := Lib.hid (hA.below hal)
  have BX := Lib.hid (Blk.new w #[.int .i64 k, .int .i64 s, .int .i64 a, .int .i64 b, .int .i64 c, .slice A t.length d] 29)
  have HAL := Lib.hid hal
  clear hal
  by_cases h : k < 1 ∨ 16 < k
  · rw [useN_bad h]
    have hk : kindV k = .nilIface := by unfold kindV; rw [if_pos h]
    have HK := Lib.hid hk
    clear hk h
    go_enter Tryd.func44, Tryd.ntmps44
    go_wp2_with fail
    refine (kindOf_any k _).mono ?_
    rintro e w1 ⟨rfl, rfl⟩
    rw [HK.out]
    go_wp2
    go_ret
    exact ⟨rfl, HAL.out⟩
  · obtain ⟨T, hk, hN, hX⟩ := kindV_form k h
    have HR := Lib.hid (rqOk_use s a b c t h)
    have HK := Lib.hid hk
    have HN := Lib.hid hN
    have HX := Lib.hid hX
    clear hk hN hX h
    by_cases hs : 1 ≤ s ∧ s ≤ 8
    case neg =>
      rw [HR.out, decide_eq_false hs, Bool.false_and, Bool.false_and]
      go_enter Tryd.func44, Tryd.ntmps44
      go_wp2_with fail
      refine (kindOf_any k _).mono ?_
      rintro e w1 ⟨rfl, rfl⟩
      rw [HK.out]
      go_wp2_with fail
      refine (isSession_any s _).mono ?_
      rintro e w1 ⟨rfl, rfl⟩
      rw [decide_eq_false hs]
      go_wp2
      go_ret
      exact ⟨rfl, HAL.out⟩
    have HS := Lib.hid (decide_eq_true hs)
    have HRS : Hid (rqOk k s a b c t = (useN (rqCnt k) 0 [a, b, c] && useT k t)) := Lib.hid (by rw [HR.out, HS.out, Bool.true_and])
    rw [HRS.out]
    clear HR HRS hs
    obtain ⟨q, hq⟩ : ∃ q, useN (rqCnt k) 0 [a, b, c] = q := ⟨_, rfl⟩
    obtain ⟨r, hr⟩ : ∃ q, useT k t = q := ⟨_, rfl⟩
    rw [hq, hr]
    have HQ := Lib.hid hq
    have HRr := Lib.hid hr
    clear hq hr
    go_enter Tryd.func44, Tryd.ntmps44
    go_wp2_with fail
    refine (kindOf_any k _).mono ?_
    rintro e w1 ⟨rfl, rfl⟩
    rw [HK.out]
    go_wp2_with fail
    refine (isSession_any s _).mono ?_
    rintro e w1 ⟨rfl, rfl⟩
    rw [HS.out]
    go_wp2_with fail
    have BI := Lib.hid (Blk.new (w.alloc (.cells #[.int .i64 k, .int .i64 s, .int .i64 a, .int .i64 b, .int .i64 c, .slice A t.length d] 29)) #[.int .i64 a, .int .i64 b, .int .i64 c] 3)
    have hI : Ints ((w.alloc (.cells #[.int .i64 k, .int .i64 s, .int .i64 a, .int .i64 b, .int .i64 c, .slice A t.length d] 29)).alloc (.cells #[.int .i64 a, .int .i64 b, .int .i64 c] 3)) (w.heap.size + 1) [a, b, c] := by
      refine ⟨by simp, fun j hj => ?_⟩
      have h0 := BI.out.cell 0
      have h1 := BI.out.cell 1
      have h2 := BI.out.cell 2
      simp only [World.size_alloc] at h0 h1 h2
      match j, hj with
      | 0, _ => exact h0
      | 1, _ => exact h1
      | 2, _ => exact h2
    refine (HN.out (w.heap.size + 1) [a, b, c] 3 _ (by simp) (by exact hI)).mono ?_
    rintro e w2 ⟨rfl, hb2⟩
    rw [HQ.out]
    have hbs : Below (w.alloc (.cells #[.int .i64 k, .int .i64 s, .int .i64 a, .int .i64 b, .int .i64 c, .slice A t.length d] 29)).heap.size (w.alloc (.cells #[.int .i64 k, .int .i64 s, .int .i64 a, .int .i64 b, .int .i64 c, .slice A t.length d] 29)) w2 := below_then ((Below.refl _ _).alloc (Nat.le_refl _) _) hb2
    have HB2 := Lib.hid (below_then HAL.out hbs)
    have BX2 := BX.out.below hbs
    have hT3 := Lib.hid (hT2.out.below hbs)
    have hA3 := Lib.hid (hA2.out.below hbs)
    have x5 := BX2.cell 5
    clear hb2 hbs BX2 hI
    cases q
    · go_wp2
      go_ret
      exact ⟨rfl, HB2.out⟩
    · go_wp2_with fail
      refine (HX.out A t d _ hl hc9 (by exact hT3.out) (by exact hA3.out)).mono ?_
      rintro e w3 ⟨rfl, m, rfl⟩
      rw [HRr.out]
      go_wp2
      go_ret
      exact ⟨rfl, below_drewN HB2.out m⟩
end Go.Proofs.YtgpjjolgpppeeaaDoor
