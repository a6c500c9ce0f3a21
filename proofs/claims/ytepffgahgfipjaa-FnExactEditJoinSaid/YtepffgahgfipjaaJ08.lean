/-
  Chapter 5, small edits and EditJoin: contracts. Own work.
-/
import Derived.Test.YtepffgahgfipjaaI08
import Derived.Test.YtepffgahgfipjaaP08c
namespace Go.Proofs.Ytepffgahgfipjaa
open Go.RowKit P
set_option linter.unusedVariables false
set_option linter.unusedSimpArgs false
set_option maxRecDepth 100000

set_option maxHeartbeats 400000 in
theorem fitsText_e (n : Int) (z : Bool) (w : World) (hz : decide (0 ≤ n ∧ n ≤ 400) = z) : Calls Try.prog 21 #[.int .i64 n] w fun e w' => e = .returned (.bool z) ∧ w' = w := by
  subst hz
  by_cases h : 0 ≤ n
  · go_enter Try.func21, Try.ntmps21
    go_wp2
    go_ret
    exact ⟨ret_bool (by simp [h]), rfl⟩
  · have hd : decide (0 ≤ n) = false := by simpa using h
    have hf : decide (0 ≤ n ∧ n ≤ 400) = false := by simp; omega
    have HF := Lib.hid hf
    clear h hf
    go_enter Try.func21, Try.ntmps21
    go_wp2
    go_ret
    exact ⟨ret_bool HF.out.symm, rfl⟩

set_option maxHeartbeats 400000 in
theorem l02Small_e (n : Int) (z : Bool) (w : World) (hz : decide (0 ≤ n ∧ n ≤ 400) = z) : Calls Try.prog 20 #[.int .i64 n] w fun e w' => e = .returned (.bool z) ∧ w' = w := by
  subst hz
  by_cases h : 0 ≤ n
  · go_enter Try.func20, Try.ntmps20
    go_wp2
    go_ret
    exact ⟨ret_bool (by simp [h]), rfl⟩
  · have hd : decide (0 ≤ n) = false := by simpa using h
    have hf : decide (0 ≤ n ∧ n ≤ 400) = false := by simp; omega
    have HF := Lib.hid hf
    clear h hf
    go_enter Try.func20, Try.ntmps20
    go_wp2
    go_ret
    exact ⟨ret_bool HF.out.symm, rfl⟩

theorem edSmall_and (a m : Int) (p : List UInt8) : edSmall a m p = (decide (0 ≤ a ∧ a ≤ 400) && (decide (0 ≤ m ∧ m ≤ 400) && decide ((0 : Int) ≤ (p.length : Int) ∧ (p.length : Int) ≤ 400))) := by
  rw [Bool.eq_iff_iff, edSmall_iff]
  simp only [Bool.and_eq_true, decide_eq_true_eq]
  omega

set_option maxHeartbeats 2000000 in
theorem isSmall_any (a m : Int) (A : Option Addr) (p : List UInt8) (c : Nat) (w : World) (hp9 : p.length ≤ 9223372036854775807) :
    Calls Try.prog 14 #[.agg #[.int .i64 a, .int .i64 m, .slice A p.length c]] w fun e w' => e = .returned (.bool (edSmall a m p)) ∧ Below w.heap.size w w' := by
  rw [edSmall_and]
  have hal := (Below.refl w.heap.size w).alloc (Nat.le_refl _) (.cells #[.int .i64 a, .int .i64 m, .slice A p.length c] 26)
  obtain ⟨z1, h1⟩ : ∃ z, decide (0 ≤ a ∧ a ≤ 400) = z := ⟨_, rfl⟩
  obtain ⟨z2, h2⟩ : ∃ z, decide (0 ≤ m ∧ m ≤ 400) = z := ⟨_, rfl⟩
  obtain ⟨z3, h3⟩ : ∃ z, decide ((0 : Int) ≤ (p.length : Int) ∧ (p.length : Int) ≤ 400) = z := ⟨_, rfl⟩
  rw [h1, h2, h3]
  have H1 := Lib.hid h1
  have H2 := Lib.hid h2
  have H3 := Lib.hid h3
  clear h1 h2 h3
  go_enter Try.func14, Try.ntmps14
  go_wp2_with fail
  refine (fitsText_e a z1 _ H1.out).mono ?_
  rintro e w1 ⟨rfl, rfl⟩
  cases z1
  · go_wp2
    go_ret
    exact ⟨rfl, hal⟩
  go_wp2_with fail
  refine (fitsText_e m z2 _ H2.out).mono ?_
  rintro e w1 ⟨rfl, rfl⟩
  cases z2
  · go_wp2
    go_ret
    exact ⟨rfl, hal⟩
  go_wp2_with fail
  refine (fitsText_e (p.length : Int) z3 _ H3.out).mono ?_
  rintro e w1 ⟨rfl, rfl⟩
  go_wp2
  go_ret
  exact ⟨rfl, hal⟩

set_option maxHeartbeats 2000000 in
theorem l05Small_any (a m : Int) (A : Option Addr) (p : List UInt8) (c : Nat) (w : World) (hp9 : p.length ≤ 9223372036854775807) :
    Calls Try.prog 12 #[.agg #[.int .i64 a, .int .i64 m, .slice A p.length c]] w fun e w' => e = .returned (.bool (edSmall a m p)) ∧ Below w.heap.size w w' := by
  rw [edSmall_and]
  have hal := (Below.refl w.heap.size w).alloc (Nat.le_refl _) (.cells #[.int .i64 a, .int .i64 m, .slice A p.length c] 26)
  obtain ⟨z1, h1⟩ : ∃ z, decide (0 ≤ a ∧ a ≤ 400) = z := ⟨_, rfl⟩
  obtain ⟨z2, h2⟩ : ∃ z, decide (0 ≤ m ∧ m ≤ 400) = z := ⟨_, rfl⟩
  have h3 : decide ((0 : Int) ≤ (p.length : Int) ∧ (p.length : Int) ≤ 400) = decide ((p.length : Int) ≤ 400) := by rw [Bool.eq_iff_iff]; simp
  rw [h1, h2, h3]
  have H1 := Lib.hid h1
  have H2 := Lib.hid h2
  clear h1 h2 h3
  go_enter Try.func12, Try.ntmps12
  go_wp2_with fail
  refine (l02Small_e a z1 _ H1.out).mono ?_
  rintro e w1 ⟨rfl, rfl⟩
  cases z1
  · go_wp2
    go_ret
    exact ⟨rfl, hal⟩
  go_wp2_with fail
  refine (l02Small_e m z2 _ H2.out).mono ?_
  rintro e w1 ⟨rfl, rfl⟩
  cases z2
  · go_wp2
    go_ret
    exact ⟨rfl, hal⟩
  go_wp2
  go_ret
  exact ⟨rfl, hal⟩

set_option maxHeartbeats 8000000 in
theorem specEditJoin_any (a m : Int) (A : Option Addr) (p : List UInt8) (c : Nat) (b n : Int) (B : Option Addr) (q : List UInt8) (d : Nat) (w : World) (hpc : p.length ≤ c) (hc9 : c ≤ 9223372036854775807) (hqd : q.length ≤ d) (hd9 : d ≤ 9223372036854775807) (hPl : Pl A c) (hA : Bs w A p) (hB : Bs w B q) :
    Calls Try.prog 5 #[.agg #[.int .i64 a, .int .i64 m, .slice A p.length c], .agg #[.int .i64 b, .int .i64 n, .slice B q.length d]] w (MakesEd (joinA a m p b n q) (joinM a m p b n q) (joinP a m p b n q) (joinOk a m p b n q) w) := by
  have hal := (((Below.refl w.heap.size w).alloc (Nat.le_refl _) (.cells #[.int .i64 a, .int .i64 m, .slice A p.length c] 26)).alloc (by simp) (.cells #[.int .i64 b, .int .i64 n, .slice B q.length d] 26)).alloc (by simp; omega) (.cells #[.int .i64 0, .int .i64 0, .slice none 0 0] 26)
  have bA := ((EBox.new w a m A p.length c).below ((Below.refl _ _).alloc (Nat.le_refl _) (.cells #[.int .i64 b, .int .i64 n, .slice B q.length d] 26))).below ((Below.refl _ _).alloc (Nat.le_refl _) (.cells #[.int .i64 0, .int .i64 0, .slice none 0 0] 26))
  have bB := (EBox.new (w.alloc (.cells #[.int .i64 a, .int .i64 m, .slice A p.length c] 26)) b n B q.length d).below ((Below.refl _ _).alloc (Nat.le_refl _) (.cells #[.int .i64 0, .int .i64 0, .slice none 0 0] 26))
  have bR := EBox.new ((w.alloc (.cells #[.int .i64 a, .int .i64 m, .slice A p.length c] 26)).alloc (.cells #[.int .i64 b, .int .i64 n, .slice B q.length d] 26)) 0 0 none 0 0
  simp only [World.size_alloc] at bB bR
  obtain ⟨z1, h1⟩ : ∃ z, edSmall a m p = z := ⟨_, rfl⟩
  obtain ⟨z2, h2⟩ : ∃ z, edSmall b n q = z := ⟨_, rfl⟩
  obtain ⟨ra, hra⟩ : ∃ z, joinA a m p b n q = z := ⟨_, rfl⟩
  obtain ⟨rm, hrm⟩ : ∃ z, joinM a m p b n q = z := ⟨_, rfl⟩
  obtain ⟨R, hR⟩ : ∃ z, joinP a m p b n q = z := ⟨_, rfl⟩
  obtain ⟨ok, hok⟩ : ∃ z, joinOk a m p b n q = z := ⟨_, rfl⟩
  have hno : ok = false → ra = 0 ∧ rm = 0 ∧ R = [] ∧ ok = false := fun h => by
    rw [h] at hok
    refine ⟨?_, ?_, ?_, h⟩
    · rw [← hra]; unfold joinA; rw [hok]; rfl
    · rw [← hrm]; unfold joinM; rw [hok]; rfl
    · rw [← hR]; unfold joinP; rw [hok]; rfl
  have hyes : ok = true → ra = a ∧ rm = m ∧ R = joinPut a p b n q := fun h => by
    rw [h] at hok
    refine ⟨?_, ?_, ?_⟩
    · rw [← hra]; unfold joinA; rw [hok]; rfl
    · rw [← hrm]; unfold joinM; rw [hok]; rfl
    · rw [← hR]; unfold joinP; rw [hok]; rfl
  have hoq : ok = (z1 && (z2 && (decide (a ≤ b) && (decide (b + n ≤ a + p.length) && decide ((joinPut a p b n q).length ≤ 400))))) := by rw [← hok, ← h1, ← h2]; rfl
  have F1 : z1 = false → ra = 0 ∧ rm = 0 ∧ R = [] ∧ ok = false := fun h => hno (by rw [hoq, h]; rfl)
  have F2 : z2 = false → ra = 0 ∧ rm = 0 ∧ R = [] ∧ ok = false := fun h => hno (by rw [hoq, h]; simp)
  have F3 : b < a → ra = 0 ∧ rm = 0 ∧ R = [] ∧ ok = false := fun h => hno (by rw [hoq, decide_eq_false (show ¬ a ≤ b by omega)]; simp)
  have F4 : a + p.length < b + n → ra = 0 ∧ rm = 0 ∧ R = [] ∧ ok = false := fun h => hno (by rw [hoq, decide_eq_false (show ¬ b + n ≤ a + p.length by omega)]; simp)
  have F5 : 400 < (joinPut a p b n q).length → ra = 0 ∧ rm = 0 ∧ R = [] ∧ ok = false := fun h => hno (by rw [hoq, decide_eq_false (show ¬ (joinPut a p b n q).length ≤ 400 by omega)]; simp)
  have F6 : z1 = true → z2 = true → a ≤ b → b + n ≤ a + p.length → (joinPut a p b n q).length ≤ 400 → ok = true := fun g1 g2 g3 g4 g5 => by rw [hoq, g1, g2, decide_eq_true g3, decide_eq_true g4, decide_eq_true g5]; rfl
  have hl : z1 = true → z2 = true → a ≤ b → b + n ≤ a + p.length → ((joinPut a p b n q).length : Int) = p.length - n + q.length := fun g1 g2 g3 g4 => joinPut_len (h1.trans g1) (h2.trans g2) g3 g4
  have hs1 : z1 = true → 0 ≤ a ∧ a ≤ 400 ∧ 0 ≤ m ∧ m ≤ 400 ∧ p.length ≤ 400 := fun g => (edSmall_iff a m p).1 (h1.trans g)
  have hs2 : z2 = true → 0 ≤ b ∧ b ≤ 400 ∧ 0 ≤ n ∧ n ≤ 400 ∧ q.length ≤ 400 := fun g => (edSmall_iff b n q).1 (h2.trans g)
  have hp9 : p.length ≤ 9223372036854775807 := by omega
  have hq9 : q.length ≤ 9223372036854775807 := by omega
  have H1 := Lib.hid h1
  have H2 := Lib.hid h2
  have G1 := Lib.hid F1
  have G2 := Lib.hid F2
  have G3 := Lib.hid F3
  have G4 := Lib.hid F4
  have G5 := Lib.hid F5
  have G6 := Lib.hid F6
  have HY := Lib.hid hyes
  have HL := Lib.hid hl
  have S1 := Lib.hid hs1
  have S2 := Lib.hid hs2
  rw [hra, hrm, hR, hok]
  clear h1 h2 hra hrm hR hok hno hyes hoq F1 F2 F3 F4 F5 F6 hl hs1 hs2
  go_enter Try.func5, Try.ntmps5
  go_wp2_with fail
  generalize ((w.alloc (.cells #[.int .i64 a, .int .i64 m, .slice A p.length c] 26)).alloc (.cells #[.int .i64 b, .int .i64 n, .slice B q.length d] 26)).alloc (.cells #[.int .i64 0, .int .i64 0, .slice none 0 0] 26) = W1 at *
  refine (l05Small_any a m A p c _ hp9).mono ?_
  rintro e w2 ⟨rfl, hb2⟩
  rw [H1.out]
  have bA := bA.below hb2
  have bB := bB.below hb2
  have bR := bR.below hb2
  have hb2 := below_then hal hb2
  clear hal
  have a0 := bA.c0
  have a1 := bA.c1
  have a2 := bA.c2
  have b0 := bB.c0
  have b1 := bB.c1
  have b2 := bB.c2
  cases z1
  · have r0 := bR.c0
    have r1 := bR.c1
    have r2 := bR.c2
    have f0 := bR.blk.frozen 0
    have f1 := bR.blk.frozen 1
    have f2 := bR.blk.frozen 2
    obtain ⟨e1, e2, e3, e4⟩ := G1.out rfl
    go_wp2
    refine bodyPost_ret (v := .tuple #[.agg #[.int .i64 0, .int .i64 0, .slice none 0 0], .bool false]) (by simp [results, Try.results5, go_sem, r0, r1, r2]) rfl ⟨.slice none 0 0, by rw [e1, e2, e4], by rw [e3]; exact Own.nil _ _, ?_⟩
    (repeat (first | exact Below.refl _ _ | assumption | refine Below.setCell ?_ (by first | (simp; done) | (simp; omega) | omega) _ | refine Below.drew ?_ | refine below_drewN ?_ _ | refine Below.alloc ?_ (by first | (simp; done) | (simp; omega) | omega) _))
  go_wp2_with fail
  refine (l05Small_any b n B q d _ hq9).mono ?_
  rintro e w3 ⟨rfl, hb3⟩
  rw [H2.out]
  have bA := bA.below hb3
  have bB := bB.below hb3
  have bR := bR.below hb3
  have hb3 := below_then hb2 hb3
  clear hb2 a0 a1 a2 b0 b1 b2
  have a0 := bA.c0
  have a1 := bA.c1
  have a2 := bA.c2
  have b0 := bB.c0
  have b1 := bB.c1
  have b2 := bB.c2
  cases z2
  · have r0 := bR.c0
    have r1 := bR.c1
    have r2 := bR.c2
    have f0 := bR.blk.frozen 0
    have f1 := bR.blk.frozen 1
    have f2 := bR.blk.frozen 2
    obtain ⟨e1, e2, e3, e4⟩ := G2.out rfl
    go_wp2
    refine bodyPost_ret (v := .tuple #[.agg #[.int .i64 0, .int .i64 0, .slice none 0 0], .bool false]) (by simp [results, Try.results5, go_sem, r0, r1, r2]) rfl ⟨.slice none 0 0, by rw [e1, e2, e4], by rw [e3]; exact Own.nil _ _, ?_⟩
    (repeat (first | exact Below.refl _ _ | assumption | refine Below.setCell ?_ (by first | (simp; done) | (simp; omega) | omega) _ | refine Below.drew ?_ | refine below_drewN ?_ _ | refine Below.alloc ?_ (by first | (simp; done) | (simp; omega) | omega) _))
  have s1 := S1.out (by trivial)
  have s2 := S2.out (by trivial)
  by_cases hba : b < a
  · have r0 := bR.c0
    have r1 := bR.c1
    have r2 := bR.c2
    have f0 := bR.blk.frozen 0
    have f1 := bR.blk.frozen 1
    have f2 := bR.blk.frozen 2
    obtain ⟨e1, e2, e3, e4⟩ := G3.out hba
    go_wp2
    refine bodyPost_ret (v := .tuple #[.agg #[.int .i64 0, .int .i64 0, .slice none 0 0], .bool false]) (by simp [results, Try.results5, go_sem, r0, r1, r2]) rfl ⟨.slice none 0 0, by rw [e1, e2, e4], by rw [e3]; exact Own.nil _ _, ?_⟩
    (repeat (first | exact Below.refl _ _ | assumption | refine Below.setCell ?_ (by first | (simp; done) | (simp; omega) | omega) _ | refine Below.drew ?_ | refine below_drewN ?_ _ | refine Below.alloc ?_ (by first | (simp; done) | (simp; omega) | omega) _))
  by_cases hov : a + p.length < b + n
  · have r0 := bR.c0
    have r1 := bR.c1
    have r2 := bR.c2
    have f0 := bR.blk.frozen 0
    have f1 := bR.blk.frozen 1
    have f2 := bR.blk.frozen 2
    obtain ⟨e1, e2, e3, e4⟩ := G4.out hov
    go_wp2
    refine bodyPost_ret (v := .tuple #[.agg #[.int .i64 0, .int .i64 0, .slice none 0 0], .bool false]) (by simp [results, Try.results5, go_sem, r0, r1, r2]) rfl ⟨.slice none 0 0, by rw [e1, e2, e4], by rw [e3]; exact Own.nil _ _, ?_⟩
    (repeat (first | exact Below.refl _ _ | assumption | refine Below.setCell ?_ (by first | (simp; done) | (simp; omega) | omega) _ | refine Below.drew ?_ | refine below_drewN ?_ _ | refine Below.alloc ?_ (by first | (simp; done) | (simp; omega) | omega) _))
  have hab : a ≤ b := by omega
  have hov2 : b + n ≤ a + p.length := by omega
  have hlen := HL.out (by trivial) (by trivial) hab hov2
  obtain ⟨k1, hk1⟩ : ∃ k : Nat, b - a = (k : Int) := ⟨(b - a).toNat, by omega⟩
  obtain ⟨k2, hk2⟩ : ∃ k : Nat, b - a + n = (k : Int) := ⟨(b - a + n).toNat, by omega⟩
  obtain ⟨T, hT⟩ : ∃ T, joinPut a p b n q = T := ⟨_, rfl⟩
  have hT1 : p.take k1 ++ (q ++ p.drop k2) = T := by
    rw [← hT]; unfold joinPut; rw [show (b - a).toNat = k1 by omega, show (b - a + n).toNat = k2 by omega]
  rw [hT] at hlen
  have hF5 : 400 < T.length → ra = 0 ∧ rm = 0 ∧ R = [] ∧ ok = false := fun h => G5.out (by rw [hT]; exact h)
  have hF6 : T.length ≤ 400 → ra = a ∧ rm = m ∧ R = T ∧ ok = true := fun h => by
    have h9 := G6.out (by trivial) (by trivial) hab hov2 (by rw [hT]; exact h)
    obtain ⟨x1, x2, x3⟩ := HY.out h9
    exact ⟨x1, x2, x3.trans hT, h9⟩
  have hlen1 : k1 = (p.take k1).length := by rw [List.length_take]; omega
  have hlen2 : p.length - k2 = (p.drop k2).length := by rw [List.length_drop]
  have hsl1 : ∀ W, (Instr.slice 22 (.slice A p.length c) none (some (.int .i64 (b - a))) none).run Try.prog W = .ok (.slice A k1 c) W := fun W => by
    rw [hk1]
    exact slc_head A p.length c k1 hPl.1 hPl.2 (by omega) W
  obtain ⟨A2, hsl2', hB2, _, _⟩ := slc_tail A p.length c k2 w3 p hPl.1 hPl.2 rfl (by omega) hpc hc9 (hA.below hb3)
  have hsl2 : ∀ W, (Instr.slice 22 (.slice A p.length c) (some (.int .i64 (b - a + n))) none none).run Try.prog W = .ok (.slice A2 (p.length - k2) (c - k2)) W := fun W => by
    rw [hk2]
    exact hsl2' W
  have hB1 := (hA.below hb3).head9 k1 (by omega)
  obtain ⟨X, hX⟩ : ∃ X, p.take k1 = X := ⟨_, rfl⟩
  obtain ⟨Y, hY⟩ : ∃ Y, p.drop k2 = Y := ⟨_, rfl⟩
  rw [hX] at hB1 hlen1 hT1
  rw [hY] at hB2 hlen2 hT1
  have hX4 : X.length ≤ 400 := by omega
  have hY4 : Y.length ≤ 400 := by omega
  have hT8 : T.length ≤ 800 := by omega
  have HT1 := Lib.hid hT1
  have HB1 := Lib.hid hB1
  have HB2 := Lib.hid hB2
  have HQQ := Lib.hid (hB.below hb3)
  have HL1 := Lib.hid hlen1
  have HL2 := Lib.hid hlen2
  have HF5 := Lib.hid hF5
  have HF6 := Lib.hid hF6
  have hwr1 : IntKind.i64.wrap (b - a) = b - a := IntWalk.i64_in _ ⟨by omega, by omega⟩
  have hwr2 : IntKind.i64.wrap (b - a + n) = b - a + n := IntWalk.i64_in _ ⟨by omega, by omega⟩
  have hown0 : Own (w3.alloc (.cells #[] 5)) w3.heap.size (.slice (some ⟨w3.heap.size, 0, none⟩) 0 0) [] := World.ownsRow_made w3 #[] 0 (Nat.le_refl _) (by unfold maxLen; omega) rfl
  have HO0 := Lib.hid hown0
  have HAL := Lib.hid ((Below.refl w3.heap.size w3).alloc (Nat.le_refl _) (.cells #[] 5))
  have HA := Lib.hid bA
  have HBB := Lib.hid bB
  have HRR := Lib.hid bR
  have hltR := bR.lt
  clear hlen hk1 hk2 hT hT1 hF5 hF6 hlen1 hlen2 hsl2' hB1 hB2 hX hY hown0 bA bB bR G1 G2 G3 G4 G5 G6 HY HL S1 S2
  go_wp2_with fail
  go_region_held3 (fun V => V.cell? ⟨w.heap.size, 0, none⟩ = some (.int .i64 a) ∧ V.cell? ⟨w.heap.size, 2, none⟩ = some (.slice A p.length c) ∧ V.cell? ⟨w.heap.size + 1, 0, none⟩ = some (.int .i64 b) ∧ V.cell? ⟨w.heap.size + 1, 1, none⟩ = some (.int .i64 n) ∧ V.cell? ⟨w.heap.size + 1, 2, none⟩ = some (.slice B q.length d))
    (first | exact ⟨a0, a2, b0, b1, b2⟩ | exact ⟨(HA.out.below HAL.out).c0, (HA.out.below HAL.out).c2, (HBB.out.below HAL.out).c0, (HBB.out.below HAL.out).c1, (HBB.out.below HAL.out).c2⟩ | exact ⟨(HA.out.below HW7.out).c0, (HA.out.below HW7.out).c2, (HBB.out.below HW7.out).c0, (HBB.out.below HW7.out).c1, (HBB.out.below HW7.out).c2⟩ | exact ⟨(HA.out.below HW8.out).c0, (HA.out.below HW8.out).c2, (HBB.out.below HW8.out).c0, (HBB.out.below HW8.out).c1, (HBB.out.below HW8.out).c2⟩ | exact ⟨(HA.out.below HW9.out).c0, (HA.out.below HW9.out).c2, (HBB.out.below HW9.out).c0, (HBB.out.below HW9.out).c1, (HBB.out.below HW9.out).c2⟩) (first
    | (refine step_app_bytes9 rfl (.tmp 43) (.tmp 47) rfl w3.heap.size (.slice (some ⟨w3.heap.size, 0, none⟩) 0 0) [] X A k1 c rfl rfl HL1.out (by exact HO0.out) (by have h9 := HB1.out.below HAL.out; exact h9) (by simp; omega) (by simp) ?_; intro v7 w7 hown7 hg7 _; have hg7 : (w3.alloc (.cells #[] 5)).grownBy w7 (Value.slice (some ⟨w3.heap.size, 0, none⟩) 0 0).ownBlock := ⟨hg7.os, hg7.tape, hg7.output, hg7.size, hg7.block⟩; have h7 := HAL.out.grown hg7 (by simp) (fun j hj => (World.ownsRow.lt HO0.out j hj).1); have HW7 := Lib.hid h7; have HO7 := Lib.hid hown7; have hz7 := h7.size; clear hown7 hg7 h7)
    | (refine step_app_bytes9 rfl (.tmp 48) (.tmp 50) rfl w3.heap.size _ _ q B q.length d rfl rfl rfl (by exact HO7.out) (by have h9 := HQQ.out.below HW7.out; exact h9) (by simp; omega) hz7 ?_; intro v8 w8 hown8 hg8 _; have hg8 : w7.grownBy w8 v7.ownBlock := ⟨hg8.os, hg8.tape, hg8.output, hg8.size, hg8.block⟩; have h8 := HW7.out.grown hg8 hz7 (fun j hj => (World.ownsRow.lt HO7.out j hj).1); have HW8 := Lib.hid h8; have HO8 := Lib.hid hown8; have hz8 := h8.size; clear hown8 hg8 h8)
    | (refine step_app_bytes9 rfl (.tmp 51) (.tmp 58) rfl w3.heap.size _ _ Y A2 (p.length - k2) (c - k2) rfl rfl HL2.out (by exact HO8.out) (by have h9 := HB2.out.below HW8.out; exact h9) (by simp; omega) hz8 ?_; intro v9 w9 hown9 hg9 _; have hg9 : w8.grownBy w9 v8.ownBlock := ⟨hg9.os, hg9.tape, hg9.output, hg9.size, hg9.block⟩; have h9 := HW8.out.grown hg9 hz8 (fun j hj => (World.ownsRow.lt HO8.out j hj).1); have HW9 := Lib.hid h9; have HO9 := Lib.hid hown9; clear hown9 hg9 h9))
  have hown9 := HO9.out
  rw [show [] ++ X ++ q ++ Y = T by rw [← HT1.out]; simp] at hown9
  have hsz3 := hb3.size
  have hb9 := below_then hb3 HW9.out
  have bA := HA.out.below HW9.out
  have bR := HRR.out.below HW9.out
  obtain ⟨A9, c9, rfl, _, _, _⟩ := hown9.form
  clear HO9 a0 a1 a2 b0 b1 b2
  by_cases hbig : 400 < T.length
  · obtain ⟨e1, e2, e3, e4⟩ := HF5.out hbig
    have hbig' : (400 : Int) < (T.length : Int) := by omega
    have r0 := bR.c0
    have r1 := bR.c1
    have r2 := bR.c2
    have f0 := bR.blk.frozen 0
    have f1 := bR.blk.frozen 1
    have f2 := bR.blk.frozen 2
    go_wp2
    refine bodyPost_ret (v := .tuple #[.agg #[.int .i64 0, .int .i64 0, .slice none 0 0], .bool false]) (by simp [results, Try.results5, go_sem, r0, r1, r2]) rfl ⟨.slice none 0 0, by rw [e1, e2, e4], by rw [e3]; exact Own.nil _ _, ?_⟩
    (repeat (first | exact Below.refl _ _ | assumption | refine Below.setCell ?_ (by first | (simp; done) | (simp; omega) | omega) _ | refine Below.drew ?_ | refine below_drewN ?_ _ | refine Below.alloc ?_ (by first | (simp; done) | (simp; omega) | omega) _))
  · obtain ⟨e1, e2, e3, e4⟩ := HF6.out (by omega)
    have hbig' : ¬ (400 : Int) < (T.length : Int) := by omega
    have a0 := bA.c0
    have a1 := bA.c1
    have r0 := bR.c0
    have r1 := bR.c1
    have r2 := bR.c2
    have f0 := bR.blk.frozen 0
    have f1 := bR.blk.frozen 1
    have f2 := bR.blk.frozen 2
    have hlt := bR.lt
    have E1 := Lib.hid e1
    have E2 := Lib.hid e2
    have E3 := Lib.hid e3
    have E4 := Lib.hid e4
    clear e1 e2 e3 e4
    go_wp2
    refine bodyPost_ret (v := .tuple #[.agg #[.int .i64 a, .int .i64 m, .slice A9 T.length c9], .bool true]) (by simp [results, Try.results5, go_sem, r0, r1, r2]) rfl ⟨.slice A9 T.length c9, by rw [E1.out, E2.out, E4.out], ?_, ?_⟩
    · rw [E3.out]
      have h9 : ∀ (W : World) (i : Nat) (u : Value), Own W w3.heap.size (.slice A9 T.length c9) T → Own (W.setCell ⟨w.heap.size + 1 + 1, i, none⟩ u) w3.heap.size (.slice A9 T.length c9) T := fun W i u h => h.setBelow (by simpa using hltR) u
      exact (h9 _ _ _ (h9 _ _ _ (h9 _ _ _ hown9))).mono hsz3
    · (repeat (first | exact Below.refl _ _ | assumption | refine Below.setCell ?_ (by first | (simp; done) | (simp; omega) | omega) _ | refine Below.drew ?_ | refine below_drewN ?_ _ | refine Below.alloc ?_ (by first | (simp; done) | (simp; omega) | omega) _))
end Go.Proofs.Ytepffgahgfipjaa
