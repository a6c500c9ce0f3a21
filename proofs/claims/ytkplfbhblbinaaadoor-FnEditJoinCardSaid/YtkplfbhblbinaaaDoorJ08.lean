/-
  Chapter 5, small edits and EditJoin: contracts. Own work.
  Chapter 5, EditJoin of the program: contract. Own work.
-/
import Derived.Test.YtkplfbhblbinaaaDoorI08
import Derived.Test.YtkplfbhblbinaaaDoorJ07
import Derived.Test.YtkplfbhblbinaaaDoorP08c
namespace Go.Proofs.YtkplfbhblbinaaaDoor
open Go.RowKit P
set_option linter.unusedVariables false
set_option linter.unusedSimpArgs false
set_option maxRecDepth 100000

set_option maxHeartbeats 8000000 in
theorem specEditJoin_any (a m : Int) (A : Option Addr) (p : List UInt8) (c : Nat) (b n : Int) (B : Option Addr) (q : List UInt8) (d : Nat) (w : World) (hpc : p.length ≤ c) (hc9 : c ≤ 9223372036854775807) (hqd : q.length ≤ d) (hd9 : d ≤ 9223372036854775807) (hPl : Pl A c) (hA : Bs w A p) (hB : Bs w B q) :
    Calls Tryd.prog 26 #[.agg #[.int .i64 a, .int .i64 m, .slice A p.length c], .agg #[.int .i64 b, .int .i64 n, .slice B q.length d]] w (MakesEd (joinA a m p b n q) (joinM a m p b n q) (joinP a m p b n q) (joinOk a m p b n q) w) := by
  have hal := (((Below.refl w.heap.size w).alloc (Nat.le_refl _) (.cells #[.int .i64 a, .int .i64 m, .slice A p.length c] 25)).alloc (by simp) (.cells #[.int .i64 b, .int .i64 n, .slice B q.length d] 25)).alloc (by simp; omega) (.cells #[.int .i64 0, .int .i64 0, .slice none 0 0] 25)
  have bA := ((EBox.new w a m A p.length c).below ((Below.refl _ _).alloc (Nat.le_refl _) (.cells #[.int .i64 b, .int .i64 n, .slice B q.length d] 25))).below ((Below.refl _ _).alloc (Nat.le_refl _) (.cells #[.int .i64 0, .int .i64 0, .slice none 0 0] 25))
  have bB := (EBox.new (w.alloc (.cells #[.int .i64 a, .int .i64 m, .slice A p.length c] 25)) b n B q.length d).below ((Below.refl _ _).alloc (Nat.le_refl _) (.cells #[.int .i64 0, .int .i64 0, .slice none 0 0] 25))
  have bR := EBox.new ((w.alloc (.cells #[.int .i64 a, .int .i64 m, .slice A p.length c] 25)).alloc (.cells #[.int .i64 b, .int .i64 n, .slice B q.length d] 25)) 0 0 none 0 0
  simp only [World.size_alloc] at bB bR
  obtain ⟨z1, h1⟩ : ∃ z, edSmall a m p = z := ⟨_, rfl⟩
  obtain ⟨z2, h2⟩ : ∃ z, edSmall b n q = z := ⟨_, rfl⟩
  obtain ⟨ra, hra⟩ : ∃ z, joinA a m p b n q = z := ⟨_, rfl⟩
  obtain ⟨rm, hrm⟩ : ∃ z, joinM a m p b n q = z := ⟨_, rfl⟩
  obtain ⟨R, hR⟩ : ∃ z, joinP a m p b n q = z := ⟨_, rfl⟩
  obtain ⟨ok, hok⟩ : ∃ z, joinOk a m p b n q = z := ⟨_, rfl⟩
  have hno : ok = false → ra = 0 ∧ rm = 0 ∧ R = [] ∧ ok = false := fun h => by
    rw [h] at hok
    refine ⟨?_, ?_, ?_, h⟩
    · rw [← hra]; unfold joinA; rw [hok]; rfl
    · rw [← hrm]; unfold joinM; rw [hok]; rfl
    · rw [← hR]; unfold joinP; rw [hok]; rfl
  have hyes : ok = true → ra = a ∧ rm = m ∧ R = joinPut a p b n q := fun h => by
    rw [h] at hok
    refine ⟨?_, ?_, ?_⟩
    · rw [← hra]; unfold joinA; rw [hok]; rfl
    · rw [← hrm]; unfold joinM; rw [hok]; rfl
    · rw [← hR]; unfold joinP; rw [hok]; rfl
  have hoq : ok = (z1 && (z2 && (decide (a ≤ b) && (decide (b + n ≤ a + p.length) && decide ((joinPut a p b n q).length ≤ 400))))) := by rw [← hok, ← h1, ← h2]; rfl
  have F1 : z1 = false → ra = 0 ∧ rm = 0 ∧ R = [] ∧ ok = false := fun h => hno (by rw [hoq, h]; rfl)
  have F2 : z2 = false → ra = 0 ∧ rm = 0 ∧ R = [] ∧ ok = false := fun h => hno (by rw [hoq, h]; simp)
  have F3 : b < a → ra = 0 ∧ rm = 0 ∧ R = [] ∧ ok = false := fun h => hno (by rw [hoq, decide_eq_false (show ¬ a ≤ b by omega)]; simp)
  have F4 : a + p.length < b + n → ra = 0 ∧ rm = 0 ∧ R = [] ∧ ok = false := fun h => hno (by rw [hoq, decide_eq_false (show ¬ b + n ≤ a + p.length by omega)]; simp)
  have F5 : 400 < (joinPut a p b n q).length → ra = 0 ∧ rm = 0 ∧ R = [] ∧ ok = false := fun h => hno (by rw [hoq, decide_eq_false (show ¬ (joinPut a p b n q).length ≤ 400 by omega)]; simp)
  have F6 : z1 = true → z2 = true → a ≤ b → b + n ≤ a + p.length → (joinPut a p b n q).length ≤ 400 → ok = true := fun g1 g2 g3 g4 g5 => by rw [hoq, g1, g2, decide_eq_true g3, decide_eq_true g4, decide_eq_true g5]; rfl
  have hl : z1 = true → z2 = true → a ≤ b → b + n ≤ a + p.length → ((joinPut a p b n q).length : Int) = p.length - n + q.length := fun g1 g2 g3 g4 => joinPut_len (h1.trans g1) (h2.trans g2) g3 g4
  have hs1 : z1 = true → 0 ≤ a ∧ a ≤ 400 ∧ 0 ≤ m ∧ m ≤ 400 ∧ p.length ≤ 400 := fun g => (edSmall_iff a m p).1 (h1.trans g)
  have hs2 : z2 = true → 0 ≤ b ∧ b ≤ 400 ∧ 0 ≤ n ∧ n ≤ 400 ∧ q.length ≤ 400 := fun g => (edSmall_iff b n q).1 (h2.trans g)
  have hp9 : p.length ≤ 9223372036854775807 := by omega
  have hq9 : q.length ≤ 9223372036854775807 := by omega
  have H1 := Lib.hid h1
  have H2 := Lib.hid h2
  have G1 := Lib.hid F1
  have G2 := Lib.hid F2
  have G3 := Lib.hid F3
  have G4 := Lib.hid F4
  have G5 := Lib.hid F5
  have G6 := Lib.hid F6
  have HY := Lib.hid hyes
  have HL := Lib.hid hl
  have S1 := Lib.hid hs1
  have S2 := Lib.hid hs2
  rw [hra, hrm, hR, hok]
  clear h1 h2 hra hrm hR hok hno hyes hoq F1 F2 F3 F4 F5 F6 hl hs1 hs2
  go_enter Tryd.func26, Tryd.ntmps26
  go_wp2_with fail
  generalize ((w.alloc (.cells #[.int .i64 a, .int .i64 m, .slice A p.length c] 25)).alloc (.cells #[.int .i64 b, .int .i64 n, .slice B q.length d] 25)).alloc (.cells #[.int .i64 0, .int .i64 0, .slice none 0 0] 25) = W1 at *
  refine (l05Small_any a m A p c _ hp9).mono ?_
  rintro e w2 ⟨rfl, hb2⟩
  rw [H1.out]
  have bA := bA.below hb2
  have bB := bB.below hb2
  have bR := bR.below hb2
  have hb2 := below_then hal hb2
  clear hal
  have a0 := bA.c0
  have a1 := bA.c1
  have a2 := bA.c2
  have b0 := bB.c0
  have b1 := bB.c1
  have b2 := bB.c2
  cases z1
  · have r0 := bR.c0
    have r1 := bR.c1
    have r2 := bR.c2
    have f0 := bR.blk.frozen 0
    have f1 := bR.blk.frozen 1
    have f2 := bR.blk.frozen 2
    obtain ⟨e1, e2, e3, e4⟩ := G1.out rfl
    go_wp2
    refine bodyPost_ret (v := .tuple #[.agg #[.int .i64 0, .int .i64 0, .slice none 0 0], .bool false]) (by simp [results, Tryd.results26, go_sem, r0, r1, r2]) rfl ⟨.slice none 0 0, by rw [e1, e2, e4], by rw [e3]; exact Own.nil _ _, ?_⟩
    (repeat (first | exact Below.refl _ _ | assumption | refine Below.setCell ?_ (by first | (simp; done) | (simp; omega) | omega) _ | refine Below.drew ?_ | refine below_drewN ?_ _ | refine Below.alloc ?_ (by first | (simp; done) | (simp; omega) | omega) _))
  go_wp2_with fail
  refine (l05Small_any b n B q d _ hq9).mono ?_
  rintro e w3 ⟨rfl, hb3⟩
  rw [H2.out]
  have bA := bA.below hb3
  have bB := bB.below hb3
  have bR := bR.below hb3
  have hb3 := below_then hb2 hb3
  clear hb2 a0 a1 a2 b0 b1 b2
  have a0 := bA.c0
  have a1 := bA.c1
  have a2 := bA.c2
  have b0 := bB.c0
  have b1 := bB.c1
  have b2 := bB.c2
  cases z2
  · have r0 := bR.c0
    have r1 := bR.c1
    have r2 := bR.c2
    have f0 := bR.blk.frozen 0
    have f1 := bR.blk.frozen 1
    have f2 := bR.blk.frozen 2
    obtain ⟨e1, e2, e3, e4⟩ := G2.out rfl
    go_wp2
    refine bodyPost_ret (v := .tuple #[.agg #[.int .i64 0, .int .i64 0, .slice none 0 0], .bool false]) (by simp [results, Tryd.results26, go_sem, r0, r1, r2]) rfl ⟨.slice none 0 0, by rw [e1, e2, e4], by rw [e3]; exact Own.nil _ _, ?_⟩
    (repeat (first | exact Below.refl _ _ | assumption | refine Below.setCell ?_ (by first | (simp; done) | (simp; omega) | omega) _ | refine Below.drew ?_ | refine below_drewN ?_ _ | refine Below.alloc ?_ (by first | (simp; done) | (simp; omega) | omega) _))
  have s1 := S1.out (by trivial)
  have s2 := S2.out (by trivial)
  by_cases hba : b < a
  · have r0 := bR.c0
    have r1 := bR.c1
    have r2 := bR.c2
    have f0 := bR.blk.frozen 0
    have f1 := bR.blk.frozen 1
    have f2 := bR.blk.frozen 2
    obtain ⟨e1, e2, e3, e4⟩ := G3.out hba
    go_wp2
    refine bodyPost_ret (v := .tuple #[.agg #[.int .i64 0, .int .i64 0, .slice none 0 0], .bool false]) (by simp [results, Tryd.results26, go_sem, r0, r1, r2]) rfl ⟨.slice none 0 0, by rw [e1, e2, e4], by rw [e3]; exact Own.nil _ _, ?_⟩
    (repeat (first | exact Below.refl _ _ | assumption | refine Below.setCell ?_ (by first | (simp; done) | (simp; omega) | omega) _ | refine Below.drew ?_ | refine below_drewN ?_ _ | refine Below.alloc ?_ (by first | (simp; done) | (simp; omega) | omega) _))
  by_cases hov : a + p.length < b + n
  · have r0 := bR.c0
    have r1 := bR.c1
    have r2 := bR.c2
    have f0 := bR.blk.frozen 0
    have f1 := bR.blk.frozen 1
    have f2 := bR.blk.frozen 2
    obtain ⟨e1, e2, e3, e4⟩ := G4.out hov
    go_wp2
    refine bodyPost_ret (v := .tuple #[.agg #[.int .i64 0, .int .i64 0, .slice none 0 0], .bool false]) (by simp [results, Tryd.results26, go_sem, r0, r1, r2]) rfl ⟨.slice none 0 0, by rw [e1, e2, e4], by rw [e3]; exact Own.nil _ _, ?_⟩
    (repeat (first | exact Below.refl _ _ | assumption | refine Below.setCell ?_ (by first | (simp; done) | (simp; omega) | omega) _ | refine Below.drew ?_ | refine below_drewN ?_ _ | refine Below.alloc ?_ (by first | (simp; done) | (simp; omega) | omega) _))
  have hab : a ≤ b := by omega
  have hov2 : b + n ≤ a + p.length := by omega
  have hlen := HL.out (by trivial) (by trivial) hab hov2
  obtain ⟨k1, hk1⟩ : ∃ k : Nat, b - a = (k : Int) := ⟨(b - a).toNat, by omega⟩
  obtain ⟨k2, hk2⟩ : ∃ k : Nat, b - a + n = (k : Int) := ⟨(b - a + n).toNat, by omega⟩
  obtain ⟨T, hT⟩ : ∃ T, joinPut a p b n q = T := ⟨_, rfl⟩
  have hT1 : p.take k1 ++ (q ++ p.drop k2) = T := by
    rw [← hT]; unfold joinPut; rw [show (b - a).toNat = k1 by omega, show (b - a + n).toNat = k2 by omega]
  rw [hT] at hlen
  have hF5 : 400 < T.length → ra = 0 ∧ rm = 0 ∧ R = [] ∧ ok = false := fun h => G5.out (by rw [hT]; exact h)
  have hF6 : T.length ≤ 400 → ra = a ∧ rm = m ∧ R = T ∧ ok = true := fun h => by
    have h9 := G6.out (by trivial) (by trivial) hab hov2 (by rw [hT]; exact h)
    obtain ⟨x1, x2, x3⟩ := HY.out h9
    exact ⟨x1, x2, x3.trans hT, h9⟩
  have hlen1 : k1 = (p.take k1).length := by rw [List.length_take]; omega
  have hlen2 : p.length - k2 = (p.drop k2).length := by rw [List.length_drop]
  have hsl1 : ∀ W, (Instr.slice 22 (.slice A p.length c) none (some (.int .i64 (b - a))) none).run Tryd.prog W = .ok (.slice A k1 c) W := fun W => by
    rw [hk1]
    exact slc_head A p.length c k1 hPl.1 hPl.2 (by omega) W
  obtain ⟨A2, hsl2', hB2, _, _⟩ := slc_tail A p.length c k2 w3 p hPl.1 hPl.2 rfl (by omega) hpc hc9 (hA.below hb3)
  have hsl2 : ∀ W, (Instr.slice 22 (.slice A p.length c) (some (.int .i64 (b - a + n))) none none).run Tryd.prog W = .ok (.slice A2 (p.length - k2) (c - k2)) W := fun W => by
    rw [hk2]
    exact hsl2' W
  have hB1 := (hA.below hb3).head9 k1 (by omega)
  obtain ⟨X, hX⟩ : ∃ X, p.take k1 = X := ⟨_, rfl⟩
  obtain ⟨Y, hY⟩ : ∃ Y, p.drop k2 = Y := ⟨_, rfl⟩
  rw [hX] at hB1 hlen1 hT1
  rw [hY] at hB2 hlen2 hT1
  have hX4 : X.length ≤ 400 := by omega
  have hY4 : Y.length ≤ 400 := by omega
  have hT8 : T.length ≤ 800 := by omega
  have HT1 := Lib.hid hT1
  have HB1 := Lib.hid hB1
  have HB2 := Lib.hid hB2
  have HQQ := Lib.hid (hB.below hb3)
  have HL1 := Lib.hid hlen1
  have HL2 := Lib.hid hlen2
  have HF5 := Lib.hid hF5
  have HF6 := Lib.hid hF6
  have hwr1 : IntKind.i64.wrap (b - a) = b - a := IntWalk.i64_in _ ⟨by omega, by omega⟩
  have hwr2 : IntKind.i64.wrap (b - a + n) = b - a + n := IntWalk.i64_in _ ⟨by omega, by omega⟩
  have hown0 : Own (w3.alloc (.cells #[] 5)) w3.heap.size (.slice (some ⟨w3.heap.size, 0, none⟩) 0 0) [] := World.ownsRow_made w3 #[] 0 (Nat.le_refl _) (by unfold maxLen; omega) rfl
  have HO0 := Lib.hid hown0
  have HAL := Lib.hid ((Below.refl w3.heap.size w3).alloc (Nat.le_refl _) (.cells #[] 5))
  have HA := Lib.hid bA
  have HBB := Lib.hid bB
  have HRR := Lib.hid bR
  have hltR := bR.lt
  clear hlen hk1 hk2 hT hT1 hF5 hF6 hlen1 hlen2 hsl2' hB1 hB2 hX hY hown0 bA bB bR G1 G2 G3 G4 G5 G6 HY HL S1 S2
  go_wp2_with fail
  go_region_held3 (fun V => V.cell? ⟨w.heap.size, 0, none⟩ = some (.int .i64 a) ∧ V.cell? ⟨w.heap.size, 2, none⟩ = some (.slice A p.length c) ∧ V.cell? ⟨w.heap.size + 1, 0, none⟩ = some (.int .i64 b) ∧ V.cell? ⟨w.heap.size + 1, 1, none⟩ = some (.int .i64 n) ∧ V.cell? ⟨w.heap.size + 1, 2, none⟩ = some (.slice B q.length d))
    (first | exact ⟨a0, a2, b0, b1, b2⟩ | exact ⟨(HA.out.below HAL.out).c0, (HA.out.below HAL.out).c2, (HBB.out.below HAL.out).c0, (HBB.out.below HAL.out).c1, (HBB.out.below HAL.out).c2⟩ | exact ⟨(HA.out.below HW7.out).c0, (HA.out.below HW7.out).c2, (HBB.out.below HW7.out).c0, (HBB.out.below HW7.out).c1, (HBB.out.below HW7.out).c2⟩ | exact ⟨(HA.out.below HW8.out).c0, (HA.out.below HW8.out).c2, (HBB.out.below HW8.out).c0, (HBB.out.below HW8.out).c1, (HBB.out.below HW8.out).c2⟩ | exact ⟨(HA.out.below HW9.out).c0, (HA.out.below HW9.out).c2, (HBB.out.below HW9.out).c0, (HBB.out.below HW9.out).c1, (HBB.out.below HW9.out).c2⟩) (first
    | (refine step_app_bytes9 rfl (.tmp 43) (.tmp 47) rfl w3.heap.size (.slice (some ⟨w3.heap.size, 0, none⟩) 0 0) [] X A k1 c rfl rfl HL1.out (by exact HO0.out) (by have h9 := HB1.out.below HAL.out; exact h9) (by simp; omega) (by simp) ?_; intro v7 w7 hown7 hg7 _; have hg7 : (w3.alloc (.cells #[] 5)).grownBy w7 (Value.slice (some ⟨w3.heap.size, 0, none⟩) 0 0).ownBlock := ⟨hg7.os, hg7.tape, hg7.output, hg7.size, hg7.block⟩; have h7 := HAL.out.grown hg7 (by simp) (fun j hj => (World.ownsRow.lt HO0.out j hj).1); have HW7 := Lib.hid h7; have HO7 := Lib.hid hown7; have hz7 := h7.size; clear hown7 hg7 h7)
    | (refine step_app_bytes9 rfl (.tmp 48) (.tmp 50) rfl w3.heap.size _ _ q B q.length d rfl rfl rfl (by exact HO7.out) (by have h9 := HQQ.out.below HW7.out; exact h9) (by simp; omega) hz7 ?_; intro v8 w8 hown8 hg8 _; have hg8 : w7.grownBy w8 v7.ownBlock := ⟨hg8.os, hg8.tape, hg8.output, hg8.size, hg8.block⟩; have h8 := HW7.out.grown hg8 hz7 (fun j hj => (World.ownsRow.lt HO7.out j hj).1); have HW8 := Lib.hid h8; have HO8 := Lib.hid hown8; have hz8 := h8.size; clear hown8 hg8 h8)
    | (refine step_app_bytes9 rfl (.tmp 51) (.tmp 58) rfl w3.heap.size _ _ Y A2 (p.length - k2) (c - k2) rfl rfl HL2.out (by exact HO8.out) (by have h9 := HB2.out.below HW8.out; exact h9) (by simp; omega) hz8 ?_; intro v9 w9 hown9 hg9 _; have hg9 : w8.grownBy w9 v8.ownBlock := ⟨hg9.os, hg9.tape, hg9.output, hg9.size, hg9.block⟩; have h9 := HW8.out.grown hg9 hz8 (fun j hj => (World.ownsRow.lt HO8.out j hj).1); have HW9 := Lib.hid h9; have HO9 := Lib.hid hown9; clear hown9 hg9 h9))
  have hown9 := HO9.out
  rw [show [] ++ X ++ q ++ Y = T by rw [← HT1.out]; simp] at hown9
  have hsz3 := hb3.size
  have hb9 := below_then hb3 HW9.out
  have bA := HA.out.below HW9.out
  have bR := HRR.out.below HW9.out
  obtain ⟨A9, c9, rfl, _, _, _⟩ := hown9.form
  clear HO9 a0 a1 a2 b0 b1 b2
  by_cases hbig : 400 < T.length
  · obtain ⟨e1, e2, e3, e4⟩ := HF5.out hbig
    have hbig' : (400 : Int) < (T.length : Int) := by omega
    have r0 := bR.c0
    have r1 := bR.c1
    have r2 := bR.c2
    have f0 := bR.blk.frozen 0
    have f1 := bR.blk.frozen 1
    have f2 := bR.blk.frozen 2
    go_wp2
    refine bodyPost_ret (v := .tuple #[.agg #[.int .i64 0, .int .i64 0, .slice none 0 0], .bool false]) (by simp [results, Tryd.results26, go_sem, r0, r1, r2]) rfl ⟨.slice none 0 0, by rw [e1, e2, e4], by rw [e3]; exact Own.nil _ _, ?_⟩
    (repeat (first | exact Below.refl _ _ | assumption | refine Below.setCell ?_ (by first | (simp; done) | (simp; omega) | omega) _ | refine Below.drew ?_ | refine below_drewN ?_ _ | refine Below.alloc ?_ (by first | (simp; done) | (simp; omega) | omega) _))
  · obtain ⟨e1, e2, e3, e4⟩ := HF6.out (by omega)
    have hbig' : ¬ (400 : Int) < (T.length : Int) := by omega
    have a0 := bA.c0
    have a1 := bA.c1
    have r0 := bR.c0
    have r1 := bR.c1
    have r2 := bR.c2
    have f0 := bR.blk.frozen 0
    have f1 := bR.blk.frozen 1
    have f2 := bR.blk.frozen 2
    have hlt := bR.lt
    have E1 := Lib.hid e1
    have E2 := Lib.hid e2
    have E3 := Lib.hid e3
    have E4 := Lib.hid e4
    clear e1 e2 e3 e4
    go_wp2
    refine bodyPost_ret (v := .tuple #[.agg #[.int .i64 a, .int .i64 m, .slice A9 T.length c9], .bool true]) (by simp [results, Tryd.results26, go_sem, r0, r1, r2]) rfl ⟨.slice A9 T.length c9, by rw [E1.out, E2.out, E4.out], ?_, ?_⟩
    · rw [E3.out]
      have h9 : ∀ (W : World) (i : Nat) (u : Value), Own W w3.heap.size (.slice A9 T.length c9) T → Own (W.setCell ⟨w.heap.size + 1 + 1, i, none⟩ u) w3.heap.size (.slice A9 T.length c9) T := fun W i u h => h.setBelow (by simpa using hltR) u
      exact (h9 _ _ _ (h9 _ _ _ (h9 _ _ _ hown9))).mono hsz3
    · (repeat (first | exact Below.refl _ _ | assumption | refine Below.setCell ?_ (by first | (simp; done) | (simp; omega) | omega) _ | refine Below.drew ?_ | refine below_drewN ?_ _ | refine Below.alloc ?_ (by first | (simp; done) | (simp; omega) | omega) _))
end Go.Proofs.YtkplfbhblbinaaaDoor

namespace Go.Proofs.YtkplfbhblbinaaaDoor
open Go.RowKit P
set_option linter.unusedVariables false
set_option linter.unusedSimpArgs false
set_option maxRecDepth 100000

set_option maxHeartbeats 8000000 in
theorem implEditJoin_any (a m : Int) (A : Option Addr) (p : List UInt8) (c : Nat) (b n : Int) (B : Option Addr) (q : List UInt8) (d : Nat) (w : World) (hpc : p.length ≤ c) (hc9 : c ≤ 9223372036854775807) (hqd : q.length ≤ d) (hd9 : d ≤ 9223372036854775807) (hPl : Pl A c) (hA : Bs w A p) (hB : Bs w B q) :
    Calls Tryd.prog 27 #[.agg #[.int .i64 a, .int .i64 m, .slice A p.length c], .agg #[.int .i64 b, .int .i64 n, .slice B q.length d]] w (MakesEd (joinA a m p b n q) (joinM a m p b n q) (joinP a m p b n q) (joinOk a m p b n q) w) := by
  have hal := (((Below.refl w.heap.size w).alloc (Nat.le_refl _) (.cells #[.int .i64 a, .int .i64 m, .slice A p.length c] 25)).alloc (by simp) (.cells #[.int .i64 b, .int .i64 n, .slice B q.length d] 25)).alloc (by simp; omega) (.cells #[.int .i64 0, .int .i64 0, .slice none 0 0] 25)
  have bA := ((EBox.new w a m A p.length c).below ((Below.refl _ _).alloc (Nat.le_refl _) (.cells #[.int .i64 b, .int .i64 n, .slice B q.length d] 25))).below ((Below.refl _ _).alloc (Nat.le_refl _) (.cells #[.int .i64 0, .int .i64 0, .slice none 0 0] 25))
  have bB := (EBox.new (w.alloc (.cells #[.int .i64 a, .int .i64 m, .slice A p.length c] 25)) b n B q.length d).below ((Below.refl _ _).alloc (Nat.le_refl _) (.cells #[.int .i64 0, .int .i64 0, .slice none 0 0] 25))
  have bR := EBox.new ((w.alloc (.cells #[.int .i64 a, .int .i64 m, .slice A p.length c] 25)).alloc (.cells #[.int .i64 b, .int .i64 n, .slice B q.length d] 25)) 0 0 none 0 0
  simp only [World.size_alloc] at bB bR
  obtain ⟨z1, h1⟩ : ∃ z, edSmall a m p = z := ⟨_, rfl⟩
  obtain ⟨z2, h2⟩ : ∃ z, edSmall b n q = z := ⟨_, rfl⟩
  obtain ⟨ra, hra⟩ : ∃ z, joinA a m p b n q = z := ⟨_, rfl⟩
  obtain ⟨rm, hrm⟩ : ∃ z, joinM a m p b n q = z := ⟨_, rfl⟩
  obtain ⟨R, hR⟩ : ∃ z, joinP a m p b n q = z := ⟨_, rfl⟩
  obtain ⟨ok, hok⟩ : ∃ z, joinOk a m p b n q = z := ⟨_, rfl⟩
  have hno : ok = false → ra = 0 ∧ rm = 0 ∧ R = [] ∧ ok = false := fun h => by
    rw [h] at hok
    refine ⟨?_, ?_, ?_, h⟩
    · rw [← hra]; unfold joinA; rw [hok]; rfl
    · rw [← hrm]; unfold joinM; rw [hok]; rfl
    · rw [← hR]; unfold joinP; rw [hok]; rfl
  have hyes : ok = true → ra = a ∧ rm = m ∧ R = joinPut a p b n q := fun h => by
    rw [h] at hok
    refine ⟨?_, ?_, ?_⟩
    · rw [← hra]; unfold joinA; rw [hok]; rfl
    · rw [← hrm]; unfold joinM; rw [hok]; rfl
    · rw [← hR]; unfold joinP; rw [hok]; rfl
  have hoq : ok = (z1 && (z2 && (decide (a ≤ b) && (decide (b + n ≤ a + p.length) && decide ((joinPut a p b n q).length ≤ 400))))) := by rw [← hok, ← h1, ← h2]; rfl
  have F1 : z1 = false → ra = 0 ∧ rm = 0 ∧ R = [] ∧ ok = false := fun h => hno (by rw [hoq, h]; rfl)
  have F2 : z2 = false → ra = 0 ∧ rm = 0 ∧ R = [] ∧ ok = false := fun h => hno (by rw [hoq, h]; simp)
  have F3 : b < a → ra = 0 ∧ rm = 0 ∧ R = [] ∧ ok = false := fun h => hno (by rw [hoq, decide_eq_false (show ¬ a ≤ b by omega)]; simp)
  have F4 : a + p.length < b + n → ra = 0 ∧ rm = 0 ∧ R = [] ∧ ok = false := fun h => hno (by rw [hoq, decide_eq_false (show ¬ b + n ≤ a + p.length by omega)]; simp)
  have F5 : 400 < (joinPut a p b n q).length → ra = 0 ∧ rm = 0 ∧ R = [] ∧ ok = false := fun h => hno (by rw [hoq, decide_eq_false (show ¬ (joinPut a p b n q).length ≤ 400 by omega)]; simp)
  have F6 : z1 = true → z2 = true → a ≤ b → b + n ≤ a + p.length → (joinPut a p b n q).length ≤ 400 → ok = true := fun g1 g2 g3 g4 g5 => by rw [hoq, g1, g2, decide_eq_true g3, decide_eq_true g4, decide_eq_true g5]; rfl
  have hl : z1 = true → z2 = true → a ≤ b → b + n ≤ a + p.length → ((joinPut a p b n q).length : Int) = p.length - n + q.length := fun g1 g2 g3 g4 => joinPut_len (h1.trans g1) (h2.trans g2) g3 g4
  have hs1 : z1 = true → 0 ≤ a ∧ a ≤ 400 ∧ 0 ≤ m ∧ m ≤ 400 ∧ p.length ≤ 400 := fun g => (edSmall_iff a m p).1 (h1.trans g)
  have hs2 : z2 = true → 0 ≤ b ∧ b ≤ 400 ∧ 0 ≤ n ∧ n ≤ 400 ∧ q.length ≤ 400 := fun g => (edSmall_iff b n q).1 (h2.trans g)
  have hp9 : p.length ≤ 9223372036854775807 := by omega
  have hq9 : q.length ≤ 9223372036854775807 := by omega
  have H1 := Lib.hid h1
  have H2 := Lib.hid h2
  have G1 := Lib.hid F1
  have G2 := Lib.hid F2
  have G3 := Lib.hid F3
  have G4 := Lib.hid F4
  have G5 := Lib.hid F5
  have G6 := Lib.hid F6
  have HY := Lib.hid hyes
  have HL := Lib.hid hl
  have S1 := Lib.hid hs1
  have S2 := Lib.hid hs2
  rw [hra, hrm, hR, hok]
  clear h1 h2 hra hrm hR hok hno hyes hoq F1 F2 F3 F4 F5 F6 hl hs1 hs2
  go_enter Tryd.func27, Tryd.ntmps27
  go_wp2_with fail
  generalize ((w.alloc (.cells #[.int .i64 a, .int .i64 m, .slice A p.length c] 25)).alloc (.cells #[.int .i64 b, .int .i64 n, .slice B q.length d] 25)).alloc (.cells #[.int .i64 0, .int .i64 0, .slice none 0 0] 25) = W1 at *
  have a0 := bA.c0
  have a1 := bA.c1
  have a2 := bA.c2
  have b0 := bB.c0
  have b1 := bB.c1
  have b2 := bB.c2
  have HA := Lib.hid bA
  have HBB := Lib.hid bB
  have HRR := Lib.hid bR
  have HAL := Lib.hid hal
  clear bA bB bR hal
  cases z1
  · refine wp_region_held_drew (S := (fun V => V.cell? ⟨w.heap.size, 0, none⟩ = some (.int .i64 a) ∧ V.cell? ⟨w.heap.size, 1, none⟩ = some (.int .i64 m) ∧ V.cell? ⟨w.heap.size, 2, none⟩ = some (.slice A p.length c) ∧ V.cell? ⟨w.heap.size + 1, 0, none⟩ = some (.int .i64 b) ∧ V.cell? ⟨w.heap.size + 1, 1, none⟩ = some (.int .i64 n) ∧ V.cell? ⟨w.heap.size + 1, 2, none⟩ = some (.slice B q.length d))) (by kernel_rfl) (by exact ⟨a0, a1, a2, b0, b1, b2⟩) (fun hHeld => ?_)
    refine wpAnyH_take (i := 0) (oi := ?_) (v := ?_) ?_ ?_ ?_ ?_ ?_ ?_ (by exact hHeld) ?_
    rotate_left 2
    · (simp only [List.getElem?_toArray, List.getElem?_cons_zero]; try rfl)
    · kernel_rfl
    · kernel_rfl
    · kernel_rfl
    · exact fun _ _ _ h => h
    · refine Or.inl ⟨by rfl, ?_⟩
      (intro V hSV; (try dsimp only at hSV); obtain ⟨q0, q1, q2, q3, q4, q5⟩ := hSV; go_simp; try with_reducible rfl)
    (try simp only [Act.put, List.setIfInBounds_toArray, List.set_cons_zero, List.set_cons_succ])
    refine wpAnyH_ready (rs := [1]) (by kernel_rfl) (by simp) ?_
    refine AllReadyH.cons rfl (fun K hK => ?_) AllReadyH.nil
    go_simp
    refine (isSmall_any a m A p c _ hp9).mono ?_
    rintro e w2 ⟨rfl, hb2⟩
    rw [H1.out]
    have hb2 : Below W1.heap.size W1 w2 := ⟨hb2.os, hb2.tape, hb2.output, hb2.size, hb2.block⟩
    have HW2 := Lib.hid hb2
    clear hb2
    go_wp2_with fail
    refine hK.out _ _ (by exact ⟨(HA.out.below HW2.out).c0, (HA.out.below HW2.out).c1, (HA.out.below HW2.out).c2, (HBB.out.below HW2.out).c0, (HBB.out.below HW2.out).c1, (HBB.out.below HW2.out).c2⟩) (fun hHeld => ?_)
    clear hK K
    (try simp only [Act.put, List.setIfInBounds_toArray, List.set_cons_zero, List.set_cons_succ])
    refine wpAnyH_take (i := 2) (oi := ?_) (v := ?_) ?_ ?_ ?_ ?_ ?_ ?_ (by exact hHeld) ?_
    rotate_left 2
    · (simp only [List.getElem?_toArray, List.getElem?_cons_zero, List.getElem?_cons_succ]; try rfl)
    · kernel_rfl
    · kernel_rfl
    · kernel_rfl
    · exact fun _ _ _ h => h
    · refine Or.inl ⟨by rfl, ?_⟩
      (intro V hSV; (try dsimp only at hSV); obtain ⟨q0, q1, q2, q3, q4, q5⟩ := hSV; go_simp; try with_reducible rfl)
    (try simp only [Act.put, List.setIfInBounds_toArray, List.set_cons_zero, List.set_cons_succ])
    refine wpAnyH_take (i := 3) (oi := ?_) (v := ?_) ?_ ?_ ?_ ?_ ?_ ?_ (by exact hHeld) ?_
    rotate_left 2
    · (simp only [List.getElem?_toArray, List.getElem?_cons_zero, List.getElem?_cons_succ]; try rfl)
    · kernel_rfl
    · kernel_rfl
    · kernel_rfl
    · exact fun _ _ _ h => h
    · refine Or.inl ⟨by rfl, ?_⟩
      (intro V hSV; (try dsimp only at hSV); obtain ⟨q0, q1, q2, q3, q4, q5⟩ := hSV; go_simp; try with_reducible rfl)
    (try simp only [Act.put, List.setIfInBounds_toArray, List.set_cons_zero, List.set_cons_succ])
    refine wpAnyH_take (i := 4) (oi := ?_) (v := undef) ?_ ?_ ?_ ?_ ?_ ?_ (by exact hHeld) ?_
    rotate_left 1
    · (simp only [List.getElem?_toArray, List.getElem?_cons_zero, List.getElem?_cons_succ]; try rfl)
    · kernel_rfl
    · kernel_rfl
    · kernel_rfl
    · exact fun _ _ _ h => h
    · refine Or.inr ?_
      exact ⟨by rfl, rfl⟩
    (try simp only [Act.put, List.setIfInBounds_toArray, List.set_cons_zero, List.set_cons_succ])
    refine wpAnyH_take (i := 5) (oi := ?_) (v := undef) ?_ ?_ ?_ ?_ ?_ ?_ (by exact hHeld) ?_
    rotate_left 1
    · (simp only [List.getElem?_toArray, List.getElem?_cons_zero, List.getElem?_cons_succ]; try rfl)
    · kernel_rfl
    · kernel_rfl
    · kernel_rfl
    · exact fun _ _ _ h => h
    · refine Or.inr ?_
      exact ⟨by rfl, rfl⟩
    (try simp only [Act.put, List.setIfInBounds_toArray, List.set_cons_zero, List.set_cons_succ])
    refine wpAnyH_take (i := 6) (oi := ?_) (v := undef) ?_ ?_ ?_ ?_ ?_ ?_ (by exact hHeld) ?_
    rotate_left 1
    · (simp only [List.getElem?_toArray, List.getElem?_cons_zero, List.getElem?_cons_succ]; try rfl)
    · kernel_rfl
    · kernel_rfl
    · kernel_rfl
    · exact fun _ _ _ h => h
    · refine Or.inr ?_
      exact ⟨by rfl, rfl⟩
    (try simp only [Act.put, List.setIfInBounds_toArray, List.set_cons_zero, List.set_cons_succ])
    refine wpAnyH_take (i := 7) (oi := ?_) (v := ?_) ?_ ?_ ?_ ?_ ?_ ?_ (by exact hHeld) ?_
    rotate_left 2
    · (simp only [List.getElem?_toArray, List.getElem?_cons_zero, List.getElem?_cons_succ]; try rfl)
    · kernel_rfl
    · kernel_rfl
    · kernel_rfl
    · exact fun _ _ _ h => h
    · refine Or.inl ⟨by rfl, ?_⟩
      (intro V hSV; (try dsimp only at hSV); obtain ⟨q0, q1, q2, q3, q4, q5⟩ := hSV; go_simp; try with_reducible rfl)
    (try simp only [Act.put, List.setIfInBounds_toArray, List.set_cons_zero, List.set_cons_succ])
    refine wpAnyH_take (i := 8) (oi := ?_) (v := ?_) ?_ ?_ ?_ ?_ ?_ ?_ (by exact hHeld) ?_
    rotate_left 2
    · (simp only [List.getElem?_toArray, List.getElem?_cons_zero, List.getElem?_cons_succ]; try rfl)
    · kernel_rfl
    · kernel_rfl
    · kernel_rfl
    · exact fun _ _ _ h => h
    · refine Or.inl ⟨by rfl, ?_⟩
      (intro V hSV; (try dsimp only at hSV); obtain ⟨q0, q1, q2, q3, q4, q5⟩ := hSV; go_simp; try with_reducible rfl)
    (try simp only [Act.put, List.setIfInBounds_toArray, List.set_cons_zero, List.set_cons_succ])
    refine wpAnyH_take (i := 9) (oi := ?_) (v := undef) ?_ ?_ ?_ ?_ ?_ ?_ (by exact hHeld) ?_
    rotate_left 1
    · (simp only [List.getElem?_toArray, List.getElem?_cons_zero, List.getElem?_cons_succ]; try rfl)
    · kernel_rfl
    · kernel_rfl
    · kernel_rfl
    · exact fun _ _ _ h => h
    · refine Or.inr ?_
      exact ⟨by rfl, rfl⟩
    (try simp only [Act.put, List.setIfInBounds_toArray, List.set_cons_zero, List.set_cons_succ])
    refine wpAnyH_take (i := 10) (oi := ?_) (v := undef) ?_ ?_ ?_ ?_ ?_ ?_ (by exact hHeld) ?_
    rotate_left 1
    · (simp only [List.getElem?_toArray, List.getElem?_cons_zero, List.getElem?_cons_succ]; try rfl)
    · kernel_rfl
    · kernel_rfl
    · kernel_rfl
    · exact fun _ _ _ h => h
    · refine Or.inr ?_
      exact ⟨by rfl, rfl⟩
    (try simp only [Act.put, List.setIfInBounds_toArray, List.set_cons_zero, List.set_cons_succ])
    refine wpAnyH_take (i := 11) (oi := ?_) (v := undef) ?_ ?_ ?_ ?_ ?_ ?_ (by exact hHeld) ?_
    rotate_left 1
    · (simp only [List.getElem?_toArray, List.getElem?_cons_zero, List.getElem?_cons_succ]; try rfl)
    · kernel_rfl
    · kernel_rfl
    · kernel_rfl
    · exact fun _ _ _ h => h
    · refine Or.inr ?_
      exact ⟨by rfl, rfl⟩
    (try simp only [Act.put, List.setIfInBounds_toArray, List.set_cons_zero, List.set_cons_succ])
    refine wpAnyH_take (i := 12) (oi := ?_) (v := undef) ?_ ?_ ?_ ?_ ?_ ?_ (by exact hHeld) ?_
    rotate_left 1
    · (simp only [List.getElem?_toArray, List.getElem?_cons_zero, List.getElem?_cons_succ]; try rfl)
    · kernel_rfl
    · kernel_rfl
    · kernel_rfl
    · exact fun _ _ _ h => h
    · refine Or.inr ?_
      exact ⟨by rfl, rfl⟩
    (try simp only [Act.put, List.setIfInBounds_toArray, List.set_cons_zero, List.set_cons_succ])
    refine wpAnyH_take (i := 13) (oi := ?_) (v := undef) ?_ ?_ ?_ ?_ ?_ ?_ (by exact hHeld) ?_
    rotate_left 1
    · (simp only [List.getElem?_toArray, List.getElem?_cons_zero, List.getElem?_cons_succ]; try rfl)
    · kernel_rfl
    · kernel_rfl
    · kernel_rfl
    · exact fun _ _ _ h => h
    · refine Or.inr ?_
      exact ⟨by rfl, rfl⟩
    (try simp only [Act.put, List.setIfInBounds_toArray, List.set_cons_zero, List.set_cons_succ])
    refine wpAnyH_take (i := 14) (oi := ?_) (v := ?_) ?_ ?_ ?_ ?_ ?_ ?_ (by exact hHeld) ?_
    rotate_left 2
    · (simp only [List.getElem?_toArray, List.getElem?_cons_zero, List.getElem?_cons_succ]; try rfl)
    · kernel_rfl
    · kernel_rfl
    · kernel_rfl
    · exact fun _ _ _ h => h
    · refine Or.inl ⟨by rfl, ?_⟩
      (intro V hSV; (try dsimp only at hSV); obtain ⟨q0, q1, q2, q3, q4, q5⟩ := hSV; go_simp; try with_reducible rfl)
    (try simp only [Act.put, List.setIfInBounds_toArray, List.set_cons_zero, List.set_cons_succ])
    refine wpAnyH_take (i := 15) (oi := ?_) (v := ?_) ?_ ?_ ?_ ?_ ?_ ?_ (by exact hHeld) ?_
    rotate_left 2
    · (simp only [List.getElem?_toArray, List.getElem?_cons_zero, List.getElem?_cons_succ]; try rfl)
    · kernel_rfl
    · kernel_rfl
    · kernel_rfl
    · exact fun _ _ _ h => h
    · refine Or.inl ⟨by rfl, ?_⟩
      (intro V hSV; (try dsimp only at hSV); obtain ⟨q0, q1, q2, q3, q4, q5⟩ := hSV; go_simp; try with_reducible rfl)
    (try simp only [Act.put, List.setIfInBounds_toArray, List.set_cons_zero, List.set_cons_succ])
    refine wpAnyH_take (i := 16) (oi := ?_) (v := undef) ?_ ?_ ?_ ?_ ?_ ?_ (by exact hHeld) ?_
    rotate_left 1
    · (simp only [List.getElem?_toArray, List.getElem?_cons_zero, List.getElem?_cons_succ]; try rfl)
    · kernel_rfl
    · kernel_rfl
    · kernel_rfl
    · exact fun _ _ _ h => h
    · refine Or.inr ?_
      exact ⟨by rfl, rfl⟩
    (try simp only [Act.put, List.setIfInBounds_toArray, List.set_cons_zero, List.set_cons_succ])
    refine wpAnyH_take (i := 17) (oi := ?_) (v := undef) ?_ ?_ ?_ ?_ ?_ ?_ (by exact hHeld) ?_
    rotate_left 1
    · (simp only [List.getElem?_toArray, List.getElem?_cons_zero, List.getElem?_cons_succ]; try rfl)
    · kernel_rfl
    · kernel_rfl
    · kernel_rfl
    · exact fun _ _ _ h => h
    · refine Or.inr ?_
      exact ⟨by rfl, rfl⟩
    (try simp only [Act.put, List.setIfInBounds_toArray, List.set_cons_zero, List.set_cons_succ])
    refine wpAnyH_take (i := 18) (oi := ?_) (v := undef) ?_ ?_ ?_ ?_ ?_ ?_ (by exact hHeld) ?_
    rotate_left 1
    · (simp only [List.getElem?_toArray, List.getElem?_cons_zero, List.getElem?_cons_succ]; try rfl)
    · kernel_rfl
    · kernel_rfl
    · kernel_rfl
    · exact fun _ _ _ h => h
    · refine Or.inr ?_
      exact ⟨by rfl, rfl⟩
    (try simp only [Act.put, List.setIfInBounds_toArray, List.set_cons_zero, List.set_cons_succ])
    refine wpAnyH_take (i := 19) (oi := ?_) (v := undef) ?_ ?_ ?_ ?_ ?_ ?_ (by exact hHeld) ?_
    rotate_left 1
    · (simp only [List.getElem?_toArray, List.getElem?_cons_zero, List.getElem?_cons_succ]; try rfl)
    · kernel_rfl
    · kernel_rfl
    · kernel_rfl
    · exact fun _ _ _ h => h
    · refine Or.inr ?_
      exact ⟨by rfl, rfl⟩
    (try simp only [Act.put, List.setIfInBounds_toArray, List.set_cons_zero, List.set_cons_succ])
    refine wpAnyH_take (i := 20) (oi := ?_) (v := undef) ?_ ?_ ?_ ?_ ?_ ?_ (by exact hHeld) ?_
    rotate_left 1
    · (simp only [List.getElem?_toArray, List.getElem?_cons_zero, List.getElem?_cons_succ]; try rfl)
    · kernel_rfl
    · kernel_rfl
    · kernel_rfl
    · exact fun _ _ _ h => h
    · refine Or.inr ?_
      exact ⟨by rfl, rfl⟩
    (try simp only [Act.put, List.setIfInBounds_toArray, List.set_cons_zero, List.set_cons_succ])
    refine wpAnyH_take (i := 21) (oi := ?_) (v := undef) ?_ ?_ ?_ ?_ ?_ ?_ (by exact hHeld) ?_
    rotate_left 1
    · (simp only [List.getElem?_toArray, List.getElem?_cons_zero, List.getElem?_cons_succ]; try rfl)
    · kernel_rfl
    · kernel_rfl
    · kernel_rfl
    · exact fun _ _ _ h => h
    · refine Or.inr ?_
      exact ⟨by rfl, rfl⟩
    (try simp only [Act.put, List.setIfInBounds_toArray, List.set_cons_zero, List.set_cons_succ])
    refine wpAnyH_take (i := 22) (oi := ?_) (v := undef) ?_ ?_ ?_ ?_ ?_ ?_ (by exact hHeld) ?_
    rotate_left 1
    · (simp only [List.getElem?_toArray, List.getElem?_cons_zero, List.getElem?_cons_succ]; try rfl)
    · kernel_rfl
    · kernel_rfl
    · kernel_rfl
    · exact fun _ _ _ h => h
    · refine Or.inr ?_
      exact ⟨by rfl, rfl⟩
    (try simp only [Act.put, List.setIfInBounds_toArray, List.set_cons_zero, List.set_cons_succ])
    refine wpAnyH_take (i := 23) (oi := ?_) (v := undef) ?_ ?_ ?_ ?_ ?_ ?_ (by exact hHeld) ?_
    rotate_left 1
    · (simp only [List.getElem?_toArray, List.getElem?_cons_zero, List.getElem?_cons_succ]; try rfl)
    · kernel_rfl
    · kernel_rfl
    · kernel_rfl
    · exact fun _ _ _ h => h
    · refine Or.inr ?_
      exact ⟨by rfl, rfl⟩
    (try simp only [Act.put, List.setIfInBounds_toArray, List.set_cons_zero, List.set_cons_succ])
    refine wpAnyH_take (i := 24) (oi := ?_) (v := undef) ?_ ?_ ?_ ?_ ?_ ?_ (by exact hHeld) ?_
    rotate_left 1
    · (simp only [List.getElem?_toArray, List.getElem?_cons_zero, List.getElem?_cons_succ]; try rfl)
    · kernel_rfl
    · kernel_rfl
    · kernel_rfl
    · exact fun _ _ _ h => h
    · refine Or.inr ?_
      exact ⟨by rfl, rfl⟩
    (try simp only [Act.put, List.setIfInBounds_toArray, List.set_cons_zero, List.set_cons_succ])
    refine wpAnyH_take (i := 25) (oi := ?_) (v := ?_) ?_ ?_ ?_ ?_ ?_ ?_ (by exact hHeld) ?_
    rotate_left 2
    · (simp only [List.getElem?_toArray, List.getElem?_cons_zero, List.getElem?_cons_succ]; try rfl)
    · kernel_rfl
    · kernel_rfl
    · kernel_rfl
    · exact fun _ _ _ h => h
    · refine Or.inl ⟨by rfl, ?_⟩
      (intro V hSV; (try dsimp only at hSV); obtain ⟨q0, q1, q2, q3, q4, q5⟩ := hSV; go_simp; try with_reducible rfl)
    (try simp only [Act.put, List.setIfInBounds_toArray, List.set_cons_zero, List.set_cons_succ])
    refine wpAnyH_done (by kernel_rfl) ?_ _
    have bR := HRR.out.below HW2.out
    have hb9 := below_then HAL.out HW2.out
    have r0 := bR.c0
    have r1 := bR.c1
    have r2 := bR.c2
    have f0 := bR.blk.frozen 0
    have f1 := bR.blk.frozen 1
    have f2 := bR.blk.frozen 2
    have hlt := bR.lt
    obtain ⟨e1, e2, e3, e4⟩ := G1.out (by trivial)
    go_wp2
    refine bodyPost_ret (v := .tuple #[.agg #[.int .i64 0, .int .i64 0, .slice none 0 0], .bool false]) (by simp [results, Tryd.results27, go_sem, r0, r1, r2]) rfl ⟨.slice none 0 0, by rw [e1, e2, e4], by rw [e3]; exact Own.nil _ _, ?_⟩
    (repeat (first | exact Below.refl _ _ | assumption | refine Below.setCell ?_ (by first | (simp; done) | (simp; omega) | omega) _ | refine Below.drew ?_ | refine below_drewN ?_ _ | refine Below.alloc ?_ (by first | (simp; done) | (simp; omega) | omega) _))
  cases z2
  · refine wp_region_held_drew (S := (fun V => V.cell? ⟨w.heap.size, 0, none⟩ = some (.int .i64 a) ∧ V.cell? ⟨w.heap.size, 1, none⟩ = some (.int .i64 m) ∧ V.cell? ⟨w.heap.size, 2, none⟩ = some (.slice A p.length c) ∧ V.cell? ⟨w.heap.size + 1, 0, none⟩ = some (.int .i64 b) ∧ V.cell? ⟨w.heap.size + 1, 1, none⟩ = some (.int .i64 n) ∧ V.cell? ⟨w.heap.size + 1, 2, none⟩ = some (.slice B q.length d))) (by kernel_rfl) (by exact ⟨a0, a1, a2, b0, b1, b2⟩) (fun hHeld => ?_)
    refine wpAnyH_take (i := 0) (oi := ?_) (v := ?_) ?_ ?_ ?_ ?_ ?_ ?_ (by exact hHeld) ?_
    rotate_left 2
    · (simp only [List.getElem?_toArray, List.getElem?_cons_zero]; try rfl)
    · kernel_rfl
    · kernel_rfl
    · kernel_rfl
    · exact fun _ _ _ h => h
    · refine Or.inl ⟨by rfl, ?_⟩
      (intro V hSV; (try dsimp only at hSV); obtain ⟨q0, q1, q2, q3, q4, q5⟩ := hSV; go_simp; try with_reducible rfl)
    (try simp only [Act.put, List.setIfInBounds_toArray, List.set_cons_zero, List.set_cons_succ])
    refine wpAnyH_ready (rs := [1]) (by kernel_rfl) (by simp) ?_
    refine AllReadyH.cons rfl (fun K hK => ?_) AllReadyH.nil
    go_simp
    refine (isSmall_any a m A p c _ hp9).mono ?_
    rintro e w2 ⟨rfl, hb2⟩
    rw [H1.out]
    have hb2 : Below W1.heap.size W1 w2 := ⟨hb2.os, hb2.tape, hb2.output, hb2.size, hb2.block⟩
    have HW2 := Lib.hid hb2
    clear hb2
    go_wp2_with fail
    refine hK.out _ _ (by exact ⟨(HA.out.below HW2.out).c0, (HA.out.below HW2.out).c1, (HA.out.below HW2.out).c2, (HBB.out.below HW2.out).c0, (HBB.out.below HW2.out).c1, (HBB.out.below HW2.out).c2⟩) (fun hHeld => ?_)
    clear hK K
    (try simp only [Act.put, List.setIfInBounds_toArray, List.set_cons_zero, List.set_cons_succ])
    refine wpAnyH_take (i := 2) (oi := ?_) (v := ?_) ?_ ?_ ?_ ?_ ?_ ?_ (by exact hHeld) ?_
    rotate_left 2
    · (simp only [List.getElem?_toArray, List.getElem?_cons_zero, List.getElem?_cons_succ]; try rfl)
    · kernel_rfl
    · kernel_rfl
    · kernel_rfl
    · exact fun _ _ _ h => h
    · refine Or.inl ⟨by rfl, ?_⟩
      (intro V hSV; (try dsimp only at hSV); obtain ⟨q0, q1, q2, q3, q4, q5⟩ := hSV; go_simp; try with_reducible rfl)
    (try simp only [Act.put, List.setIfInBounds_toArray, List.set_cons_zero, List.set_cons_succ])
    refine wpAnyH_take (i := 3) (oi := ?_) (v := ?_) ?_ ?_ ?_ ?_ ?_ ?_ (by exact hHeld) ?_
    rotate_left 2
    · (simp only [List.getElem?_toArray, List.getElem?_cons_zero, List.getElem?_cons_succ]; try rfl)
    · kernel_rfl
    · kernel_rfl
    · kernel_rfl
    · exact fun _ _ _ h => h
    · refine Or.inl ⟨by rfl, ?_⟩
      (intro V hSV; (try dsimp only at hSV); obtain ⟨q0, q1, q2, q3, q4, q5⟩ := hSV; go_simp; try with_reducible rfl)
    (try simp only [Act.put, List.setIfInBounds_toArray, List.set_cons_zero, List.set_cons_succ])
    refine wpAnyH_take (i := 4) (oi := ?_) (v := ?_) ?_ ?_ ?_ ?_ ?_ ?_ (by exact hHeld) ?_
    rotate_left 2
    · (simp only [List.getElem?_toArray, List.getElem?_cons_zero, List.getElem?_cons_succ]; try rfl)
    · kernel_rfl
    · kernel_rfl
    · kernel_rfl
    · exact fun _ _ _ h => h
    · refine Or.inl ⟨by rfl, ?_⟩
      (intro V hSV; (try dsimp only at hSV); obtain ⟨q0, q1, q2, q3, q4, q5⟩ := hSV; go_simp; try with_reducible rfl)
    (try simp only [Act.put, List.setIfInBounds_toArray, List.set_cons_zero, List.set_cons_succ])
    refine wpAnyH_ready (rs := [5]) (by kernel_rfl) (by simp) ?_
    refine AllReadyH.cons rfl (fun K hK => ?_) AllReadyH.nil
    go_simp
    refine (isSmall_any b n B q d _ hq9).mono ?_
    rintro e w3 ⟨rfl, hb3⟩
    rw [H2.out]
    have hb3 : Below w2.heap.size w2 w3 := ⟨hb3.os, hb3.tape, hb3.output, hb3.size, hb3.block⟩
    have HW3 := Lib.hid (below_then HW2.out hb3)
    clear hb3
    go_wp2_with fail
    refine hK.out _ _ (by exact ⟨(HA.out.below HW3.out).c0, (HA.out.below HW3.out).c1, (HA.out.below HW3.out).c2, (HBB.out.below HW3.out).c0, (HBB.out.below HW3.out).c1, (HBB.out.below HW3.out).c2⟩) (fun hHeld => ?_)
    clear hK K
    (try simp only [Act.put, List.setIfInBounds_toArray, List.set_cons_zero, List.set_cons_succ])
    refine wpAnyH_take (i := 6) (oi := ?_) (v := ?_) ?_ ?_ ?_ ?_ ?_ ?_ (by exact hHeld) ?_
    rotate_left 2
    · (simp only [List.getElem?_toArray, List.getElem?_cons_zero, List.getElem?_cons_succ]; try rfl)
    · kernel_rfl
    · kernel_rfl
    · kernel_rfl
    · exact fun _ _ _ h => h
    · refine Or.inl ⟨by rfl, ?_⟩
      (intro V hSV; (try dsimp only at hSV); obtain ⟨q0, q1, q2, q3, q4, q5⟩ := hSV; go_simp; try with_reducible rfl)
    (try simp only [Act.put, List.setIfInBounds_toArray, List.set_cons_zero, List.set_cons_succ])
    refine wpAnyH_take (i := 7) (oi := ?_) (v := ?_) ?_ ?_ ?_ ?_ ?_ ?_ (by exact hHeld) ?_
    rotate_left 2
    · (simp only [List.getElem?_toArray, List.getElem?_cons_zero, List.getElem?_cons_succ]; try rfl)
    · kernel_rfl
    · kernel_rfl
    · kernel_rfl
    · exact fun _ _ _ h => h
    · refine Or.inl ⟨by rfl, ?_⟩
      (intro V hSV; (try dsimp only at hSV); obtain ⟨q0, q1, q2, q3, q4, q5⟩ := hSV; go_simp; try with_reducible rfl)
    (try simp only [Act.put, List.setIfInBounds_toArray, List.set_cons_zero, List.set_cons_succ])
    refine wpAnyH_take (i := 8) (oi := ?_) (v := ?_) ?_ ?_ ?_ ?_ ?_ ?_ (by exact hHeld) ?_
    rotate_left 2
    · (simp only [List.getElem?_toArray, List.getElem?_cons_zero, List.getElem?_cons_succ]; try rfl)
    · kernel_rfl
    · kernel_rfl
    · kernel_rfl
    · exact fun _ _ _ h => h
    · refine Or.inl ⟨by rfl, ?_⟩
      (intro V hSV; (try dsimp only at hSV); obtain ⟨q0, q1, q2, q3, q4, q5⟩ := hSV; go_simp; try with_reducible rfl)
    (try simp only [Act.put, List.setIfInBounds_toArray, List.set_cons_zero, List.set_cons_succ])
    refine wpAnyH_take (i := 9) (oi := ?_) (v := undef) ?_ ?_ ?_ ?_ ?_ ?_ (by exact hHeld) ?_
    rotate_left 1
    · (simp only [List.getElem?_toArray, List.getElem?_cons_zero, List.getElem?_cons_succ]; try rfl)
    · kernel_rfl
    · kernel_rfl
    · kernel_rfl
    · exact fun _ _ _ h => h
    · refine Or.inr ?_
      exact ⟨by rfl, rfl⟩
    (try simp only [Act.put, List.setIfInBounds_toArray, List.set_cons_zero, List.set_cons_succ])
    refine wpAnyH_take (i := 10) (oi := ?_) (v := undef) ?_ ?_ ?_ ?_ ?_ ?_ (by exact hHeld) ?_
    rotate_left 1
    · (simp only [List.getElem?_toArray, List.getElem?_cons_zero, List.getElem?_cons_succ]; try rfl)
    · kernel_rfl
    · kernel_rfl
    · kernel_rfl
    · exact fun _ _ _ h => h
    · refine Or.inr ?_
      exact ⟨by rfl, rfl⟩
    (try simp only [Act.put, List.setIfInBounds_toArray, List.set_cons_zero, List.set_cons_succ])
    refine wpAnyH_take (i := 11) (oi := ?_) (v := undef) ?_ ?_ ?_ ?_ ?_ ?_ (by exact hHeld) ?_
    rotate_left 1
    · (simp only [List.getElem?_toArray, List.getElem?_cons_zero, List.getElem?_cons_succ]; try rfl)
    · kernel_rfl
    · kernel_rfl
    · kernel_rfl
    · exact fun _ _ _ h => h
    · refine Or.inr ?_
      exact ⟨by rfl, rfl⟩
    (try simp only [Act.put, List.setIfInBounds_toArray, List.set_cons_zero, List.set_cons_succ])
    refine wpAnyH_take (i := 12) (oi := ?_) (v := undef) ?_ ?_ ?_ ?_ ?_ ?_ (by exact hHeld) ?_
    rotate_left 1
    · (simp only [List.getElem?_toArray, List.getElem?_cons_zero, List.getElem?_cons_succ]; try rfl)
    · kernel_rfl
    · kernel_rfl
    · kernel_rfl
    · exact fun _ _ _ h => h
    · refine Or.inr ?_
      exact ⟨by rfl, rfl⟩
    (try simp only [Act.put, List.setIfInBounds_toArray, List.set_cons_zero, List.set_cons_succ])
    refine wpAnyH_take (i := 13) (oi := ?_) (v := undef) ?_ ?_ ?_ ?_ ?_ ?_ (by exact hHeld) ?_
    rotate_left 1
    · (simp only [List.getElem?_toArray, List.getElem?_cons_zero, List.getElem?_cons_succ]; try rfl)
    · kernel_rfl
    · kernel_rfl
    · kernel_rfl
    · exact fun _ _ _ h => h
    · refine Or.inr ?_
      exact ⟨by rfl, rfl⟩
    (try simp only [Act.put, List.setIfInBounds_toArray, List.set_cons_zero, List.set_cons_succ])
    refine wpAnyH_take (i := 14) (oi := ?_) (v := ?_) ?_ ?_ ?_ ?_ ?_ ?_ (by exact hHeld) ?_
    rotate_left 2
    · (simp only [List.getElem?_toArray, List.getElem?_cons_zero, List.getElem?_cons_succ]; try rfl)
    · kernel_rfl
    · kernel_rfl
    · kernel_rfl
    · exact fun _ _ _ h => h
    · refine Or.inl ⟨by rfl, ?_⟩
      (intro V hSV; (try dsimp only at hSV); obtain ⟨q0, q1, q2, q3, q4, q5⟩ := hSV; go_simp; try with_reducible rfl)
    (try simp only [Act.put, List.setIfInBounds_toArray, List.set_cons_zero, List.set_cons_succ])
    refine wpAnyH_take (i := 15) (oi := ?_) (v := ?_) ?_ ?_ ?_ ?_ ?_ ?_ (by exact hHeld) ?_
    rotate_left 2
    · (simp only [List.getElem?_toArray, List.getElem?_cons_zero, List.getElem?_cons_succ]; try rfl)
    · kernel_rfl
    · kernel_rfl
    · kernel_rfl
    · exact fun _ _ _ h => h
    · refine Or.inl ⟨by rfl, ?_⟩
      (intro V hSV; (try dsimp only at hSV); obtain ⟨q0, q1, q2, q3, q4, q5⟩ := hSV; go_simp; try with_reducible rfl)
    (try simp only [Act.put, List.setIfInBounds_toArray, List.set_cons_zero, List.set_cons_succ])
    refine wpAnyH_take (i := 16) (oi := ?_) (v := undef) ?_ ?_ ?_ ?_ ?_ ?_ (by exact hHeld) ?_
    rotate_left 1
    · (simp only [List.getElem?_toArray, List.getElem?_cons_zero, List.getElem?_cons_succ]; try rfl)
    · kernel_rfl
    · kernel_rfl
    · kernel_rfl
    · exact fun _ _ _ h => h
    · refine Or.inr ?_
      exact ⟨by rfl, rfl⟩
    (try simp only [Act.put, List.setIfInBounds_toArray, List.set_cons_zero, List.set_cons_succ])
    refine wpAnyH_take (i := 17) (oi := ?_) (v := undef) ?_ ?_ ?_ ?_ ?_ ?_ (by exact hHeld) ?_
    rotate_left 1
    · (simp only [List.getElem?_toArray, List.getElem?_cons_zero, List.getElem?_cons_succ]; try rfl)
    · kernel_rfl
    · kernel_rfl
    · kernel_rfl
    · exact fun _ _ _ h => h
    · refine Or.inr ?_
      exact ⟨by rfl, rfl⟩
    (try simp only [Act.put, List.setIfInBounds_toArray, List.set_cons_zero, List.set_cons_succ])
    refine wpAnyH_take (i := 18) (oi := ?_) (v := undef) ?_ ?_ ?_ ?_ ?_ ?_ (by exact hHeld) ?_
    rotate_left 1
    · (simp only [List.getElem?_toArray, List.getElem?_cons_zero, List.getElem?_cons_succ]; try rfl)
    · kernel_rfl
    · kernel_rfl
    · kernel_rfl
    · exact fun _ _ _ h => h
    · refine Or.inr ?_
      exact ⟨by rfl, rfl⟩
    (try simp only [Act.put, List.setIfInBounds_toArray, List.set_cons_zero, List.set_cons_succ])
    refine wpAnyH_take (i := 19) (oi := ?_) (v := undef) ?_ ?_ ?_ ?_ ?_ ?_ (by exact hHeld) ?_
    rotate_left 1
    · (simp only [List.getElem?_toArray, List.getElem?_cons_zero, List.getElem?_cons_succ]; try rfl)
    · kernel_rfl
    · kernel_rfl
    · kernel_rfl
    · exact fun _ _ _ h => h
    · refine Or.inr ?_
      exact ⟨by rfl, rfl⟩
    (try simp only [Act.put, List.setIfInBounds_toArray, List.set_cons_zero, List.set_cons_succ])
    refine wpAnyH_take (i := 20) (oi := ?_) (v := undef) ?_ ?_ ?_ ?_ ?_ ?_ (by exact hHeld) ?_
    rotate_left 1
    · (simp only [List.getElem?_toArray, List.getElem?_cons_zero, List.getElem?_cons_succ]; try rfl)
    · kernel_rfl
    · kernel_rfl
    · kernel_rfl
    · exact fun _ _ _ h => h
    · refine Or.inr ?_
      exact ⟨by rfl, rfl⟩
    (try simp only [Act.put, List.setIfInBounds_toArray, List.set_cons_zero, List.set_cons_succ])
    refine wpAnyH_take (i := 21) (oi := ?_) (v := undef) ?_ ?_ ?_ ?_ ?_ ?_ (by exact hHeld) ?_
    rotate_left 1
    · (simp only [List.getElem?_toArray, List.getElem?_cons_zero, List.getElem?_cons_succ]; try rfl)
    · kernel_rfl
    · kernel_rfl
    · kernel_rfl
    · exact fun _ _ _ h => h
    · refine Or.inr ?_
      exact ⟨by rfl, rfl⟩
    (try simp only [Act.put, List.setIfInBounds_toArray, List.set_cons_zero, List.set_cons_succ])
    refine wpAnyH_take (i := 22) (oi := ?_) (v := undef) ?_ ?_ ?_ ?_ ?_ ?_ (by exact hHeld) ?_
    rotate_left 1
    · (simp only [List.getElem?_toArray, List.getElem?_cons_zero, List.getElem?_cons_succ]; try rfl)
    · kernel_rfl
    · kernel_rfl
    · kernel_rfl
    · exact fun _ _ _ h => h
    · refine Or.inr ?_
      exact ⟨by rfl, rfl⟩
    (try simp only [Act.put, List.setIfInBounds_toArray, List.set_cons_zero, List.set_cons_succ])
    refine wpAnyH_take (i := 23) (oi := ?_) (v := undef) ?_ ?_ ?_ ?_ ?_ ?_ (by exact hHeld) ?_
    rotate_left 1
    · (simp only [List.getElem?_toArray, List.getElem?_cons_zero, List.getElem?_cons_succ]; try rfl)
    · kernel_rfl
    · kernel_rfl
    · kernel_rfl
    · exact fun _ _ _ h => h
    · refine Or.inr ?_
      exact ⟨by rfl, rfl⟩
    (try simp only [Act.put, List.setIfInBounds_toArray, List.set_cons_zero, List.set_cons_succ])
    refine wpAnyH_take (i := 24) (oi := ?_) (v := undef) ?_ ?_ ?_ ?_ ?_ ?_ (by exact hHeld) ?_
    rotate_left 1
    · (simp only [List.getElem?_toArray, List.getElem?_cons_zero, List.getElem?_cons_succ]; try rfl)
    · kernel_rfl
    · kernel_rfl
    · kernel_rfl
    · exact fun _ _ _ h => h
    · refine Or.inr ?_
      exact ⟨by rfl, rfl⟩
    (try simp only [Act.put, List.setIfInBounds_toArray, List.set_cons_zero, List.set_cons_succ])
    refine wpAnyH_take (i := 25) (oi := ?_) (v := ?_) ?_ ?_ ?_ ?_ ?_ ?_ (by exact hHeld) ?_
    rotate_left 2
    · (simp only [List.getElem?_toArray, List.getElem?_cons_zero, List.getElem?_cons_succ]; try rfl)
    · kernel_rfl
    · kernel_rfl
    · kernel_rfl
    · exact fun _ _ _ h => h
    · refine Or.inl ⟨by rfl, ?_⟩
      (intro V hSV; (try dsimp only at hSV); obtain ⟨q0, q1, q2, q3, q4, q5⟩ := hSV; go_simp; try with_reducible rfl)
    (try simp only [Act.put, List.setIfInBounds_toArray, List.set_cons_zero, List.set_cons_succ])
    refine wpAnyH_done (by kernel_rfl) ?_ _
    have bR := HRR.out.below HW3.out
    have hb9 := below_then HAL.out HW3.out
    have r0 := bR.c0
    have r1 := bR.c1
    have r2 := bR.c2
    have f0 := bR.blk.frozen 0
    have f1 := bR.blk.frozen 1
    have f2 := bR.blk.frozen 2
    have hlt := bR.lt
    obtain ⟨e1, e2, e3, e4⟩ := G2.out (by trivial)
    go_wp2
    refine bodyPost_ret (v := .tuple #[.agg #[.int .i64 0, .int .i64 0, .slice none 0 0], .bool false]) (by simp [results, Tryd.results27, go_sem, r0, r1, r2]) rfl ⟨.slice none 0 0, by rw [e1, e2, e4], by rw [e3]; exact Own.nil _ _, ?_⟩
    (repeat (first | exact Below.refl _ _ | assumption | refine Below.setCell ?_ (by first | (simp; done) | (simp; omega) | omega) _ | refine Below.drew ?_ | refine below_drewN ?_ _ | refine Below.alloc ?_ (by first | (simp; done) | (simp; omega) | omega) _))
  have s1 := S1.out (by trivial)
  have s2 := S2.out (by trivial)
  have hwrb : IntKind.i64.wrap (b + n) = b + n := IntWalk.i64_in _ ⟨by omega, by omega⟩
  have hwr0 : IntKind.i64.wrap (a + p.length) = a + p.length := IntWalk.i64_in _ ⟨by omega, by omega⟩
  by_cases hba : b < a
  · refine wp_region_held_drew (S := (fun V => V.cell? ⟨w.heap.size, 0, none⟩ = some (.int .i64 a) ∧ V.cell? ⟨w.heap.size, 1, none⟩ = some (.int .i64 m) ∧ V.cell? ⟨w.heap.size, 2, none⟩ = some (.slice A p.length c) ∧ V.cell? ⟨w.heap.size + 1, 0, none⟩ = some (.int .i64 b) ∧ V.cell? ⟨w.heap.size + 1, 1, none⟩ = some (.int .i64 n) ∧ V.cell? ⟨w.heap.size + 1, 2, none⟩ = some (.slice B q.length d))) (by kernel_rfl) (by exact ⟨a0, a1, a2, b0, b1, b2⟩) (fun hHeld => ?_)
    refine wpAnyH_take (i := 0) (oi := ?_) (v := ?_) ?_ ?_ ?_ ?_ ?_ ?_ (by exact hHeld) ?_
    rotate_left 2
    · (simp only [List.getElem?_toArray, List.getElem?_cons_zero]; try rfl)
    · kernel_rfl
    · kernel_rfl
    · kernel_rfl
    · exact fun _ _ _ h => h
    · refine Or.inl ⟨by rfl, ?_⟩
      (intro V hSV; (try dsimp only at hSV); obtain ⟨q0, q1, q2, q3, q4, q5⟩ := hSV; go_simp; try with_reducible rfl)
    (try simp only [Act.put, List.setIfInBounds_toArray, List.set_cons_zero, List.set_cons_succ])
    refine wpAnyH_ready (rs := [1]) (by kernel_rfl) (by simp) ?_
    refine AllReadyH.cons rfl (fun K hK => ?_) AllReadyH.nil
    go_simp
    refine (isSmall_any a m A p c _ hp9).mono ?_
    rintro e w2 ⟨rfl, hb2⟩
    rw [H1.out]
    have hb2 : Below W1.heap.size W1 w2 := ⟨hb2.os, hb2.tape, hb2.output, hb2.size, hb2.block⟩
    have HW2 := Lib.hid hb2
    clear hb2
    go_wp2_with fail
    refine hK.out _ _ (by exact ⟨(HA.out.below HW2.out).c0, (HA.out.below HW2.out).c1, (HA.out.below HW2.out).c2, (HBB.out.below HW2.out).c0, (HBB.out.below HW2.out).c1, (HBB.out.below HW2.out).c2⟩) (fun hHeld => ?_)
    clear hK K
    (try simp only [Act.put, List.setIfInBounds_toArray, List.set_cons_zero, List.set_cons_succ])
    refine wpAnyH_take (i := 2) (oi := ?_) (v := ?_) ?_ ?_ ?_ ?_ ?_ ?_ (by exact hHeld) ?_
    rotate_left 2
    · (simp only [List.getElem?_toArray, List.getElem?_cons_zero, List.getElem?_cons_succ]; try rfl)
    · kernel_rfl
    · kernel_rfl
    · kernel_rfl
    · exact fun _ _ _ h => h
    · refine Or.inl ⟨by rfl, ?_⟩
      (intro V hSV; (try dsimp only at hSV); obtain ⟨q0, q1, q2, q3, q4, q5⟩ := hSV; go_simp; try with_reducible rfl)
    (try simp only [Act.put, List.setIfInBounds_toArray, List.set_cons_zero, List.set_cons_succ])
    refine wpAnyH_take (i := 3) (oi := ?_) (v := ?_) ?_ ?_ ?_ ?_ ?_ ?_ (by exact hHeld) ?_
    rotate_left 2
    · (simp only [List.getElem?_toArray, List.getElem?_cons_zero, List.getElem?_cons_succ]; try rfl)
    · kernel_rfl
    · kernel_rfl
    · kernel_rfl
    · exact fun _ _ _ h => h
    · refine Or.inl ⟨by rfl, ?_⟩
      (intro V hSV; (try dsimp only at hSV); obtain ⟨q0, q1, q2, q3, q4, q5⟩ := hSV; go_simp; try with_reducible rfl)
    (try simp only [Act.put, List.setIfInBounds_toArray, List.set_cons_zero, List.set_cons_succ])
    refine wpAnyH_take (i := 4) (oi := ?_) (v := ?_) ?_ ?_ ?_ ?_ ?_ ?_ (by exact hHeld) ?_
    rotate_left 2
    · (simp only [List.getElem?_toArray, List.getElem?_cons_zero, List.getElem?_cons_succ]; try rfl)
    · kernel_rfl
    · kernel_rfl
    · kernel_rfl
    · exact fun _ _ _ h => h
    · refine Or.inl ⟨by rfl, ?_⟩
      (intro V hSV; (try dsimp only at hSV); obtain ⟨q0, q1, q2, q3, q4, q5⟩ := hSV; go_simp; try with_reducible rfl)
    (try simp only [Act.put, List.setIfInBounds_toArray, List.set_cons_zero, List.set_cons_succ])
    refine wpAnyH_ready (rs := [5]) (by kernel_rfl) (by simp) ?_
    refine AllReadyH.cons rfl (fun K hK => ?_) AllReadyH.nil
    go_simp
    refine (isSmall_any b n B q d _ hq9).mono ?_
    rintro e w3 ⟨rfl, hb3⟩
    rw [H2.out]
    have hb3 : Below w2.heap.size w2 w3 := ⟨hb3.os, hb3.tape, hb3.output, hb3.size, hb3.block⟩
    have HW3 := Lib.hid (below_then HW2.out hb3)
    clear hb3
    go_wp2_with fail
    refine hK.out _ _ (by exact ⟨(HA.out.below HW3.out).c0, (HA.out.below HW3.out).c1, (HA.out.below HW3.out).c2, (HBB.out.below HW3.out).c0, (HBB.out.below HW3.out).c1, (HBB.out.below HW3.out).c2⟩) (fun hHeld => ?_)
    clear hK K
    (try simp only [Act.put, List.setIfInBounds_toArray, List.set_cons_zero, List.set_cons_succ])
    refine wpAnyH_take (i := 6) (oi := ?_) (v := ?_) ?_ ?_ ?_ ?_ ?_ ?_ (by exact hHeld) ?_
    rotate_left 2
    · (simp only [List.getElem?_toArray, List.getElem?_cons_zero, List.getElem?_cons_succ]; try rfl)
    · kernel_rfl
    · kernel_rfl
    · kernel_rfl
    · exact fun _ _ _ h => h
    · refine Or.inl ⟨by rfl, ?_⟩
      (intro V hSV; (try dsimp only at hSV); obtain ⟨q0, q1, q2, q3, q4, q5⟩ := hSV; go_simp; try with_reducible rfl)
    (try simp only [Act.put, List.setIfInBounds_toArray, List.set_cons_zero, List.set_cons_succ])
    refine wpAnyH_take (i := 7) (oi := ?_) (v := ?_) ?_ ?_ ?_ ?_ ?_ ?_ (by exact hHeld) ?_
    rotate_left 2
    · (simp only [List.getElem?_toArray, List.getElem?_cons_zero, List.getElem?_cons_succ]; try rfl)
    · kernel_rfl
    · kernel_rfl
    · kernel_rfl
    · exact fun _ _ _ h => h
    · refine Or.inl ⟨by rfl, ?_⟩
      (intro V hSV; (try dsimp only at hSV); obtain ⟨q0, q1, q2, q3, q4, q5⟩ := hSV; go_simp; try with_reducible rfl)
    (try simp only [Act.put, List.setIfInBounds_toArray, List.set_cons_zero, List.set_cons_succ])
    refine wpAnyH_take (i := 8) (oi := ?_) (v := ?_) ?_ ?_ ?_ ?_ ?_ ?_ (by exact hHeld) ?_
    rotate_left 2
    · (simp only [List.getElem?_toArray, List.getElem?_cons_zero, List.getElem?_cons_succ]; try rfl)
    · kernel_rfl
    · kernel_rfl
    · kernel_rfl
    · exact fun _ _ _ h => h
    · refine Or.inl ⟨by rfl, ?_⟩
      (intro V hSV; (try dsimp only at hSV); obtain ⟨q0, q1, q2, q3, q4, q5⟩ := hSV; go_simp; try with_reducible rfl)
    (try simp only [Act.put, List.setIfInBounds_toArray, List.set_cons_zero, List.set_cons_succ])
    refine wpAnyH_take (i := 9) (oi := ?_) (v := ?_) ?_ ?_ ?_ ?_ ?_ ?_ (by exact hHeld) ?_
    rotate_left 2
    · (simp only [List.getElem?_toArray, List.getElem?_cons_zero, List.getElem?_cons_succ]; try rfl)
    · kernel_rfl
    · kernel_rfl
    · kernel_rfl
    · exact fun _ _ _ h => h
    · refine Or.inl ⟨by rfl, ?_⟩
      (intro V hSV; (try dsimp only at hSV); obtain ⟨q0, q1, q2, q3, q4, q5⟩ := hSV; go_simp; try with_reducible rfl)
    (try simp only [Act.put, List.setIfInBounds_toArray, List.set_cons_zero, List.set_cons_succ])
    refine wpAnyH_take (i := 10) (oi := ?_) (v := ?_) ?_ ?_ ?_ ?_ ?_ ?_ (by exact hHeld) ?_
    rotate_left 2
    · (simp only [List.getElem?_toArray, List.getElem?_cons_zero, List.getElem?_cons_succ]; try rfl)
    · kernel_rfl
    · kernel_rfl
    · kernel_rfl
    · exact fun _ _ _ h => h
    · refine Or.inl ⟨by rfl, ?_⟩
      (intro V hSV; (try dsimp only at hSV); obtain ⟨q0, q1, q2, q3, q4, q5⟩ := hSV; go_simp; try with_reducible rfl)
    (try simp only [Act.put, List.setIfInBounds_toArray, List.set_cons_zero, List.set_cons_succ])
    refine wpAnyH_take (i := 11) (oi := ?_) (v := ?_) ?_ ?_ ?_ ?_ ?_ ?_ (by exact hHeld) ?_
    rotate_left 2
    · (simp only [List.getElem?_toArray, List.getElem?_cons_zero, List.getElem?_cons_succ]; try rfl)
    · kernel_rfl
    · kernel_rfl
    · kernel_rfl
    · exact fun _ _ _ h => h
    · refine Or.inl ⟨by rfl, ?_⟩
      (intro V hSV; (try dsimp only at hSV); obtain ⟨q0, q1, q2, q3, q4, q5⟩ := hSV; go_simp; try with_reducible rfl)
    (try simp only [Act.put, List.setIfInBounds_toArray, List.set_cons_zero, List.set_cons_succ])
    refine wpAnyH_take (i := 12) (oi := ?_) (v := ?_) ?_ ?_ ?_ ?_ ?_ ?_ (by exact hHeld) ?_
    rotate_left 2
    · (simp only [List.getElem?_toArray, List.getElem?_cons_zero, List.getElem?_cons_succ]; try rfl)
    · kernel_rfl
    · kernel_rfl
    · kernel_rfl
    · exact fun _ _ _ h => h
    · refine Or.inl ⟨by rfl, ?_⟩
      (intro V hSV; (try dsimp only at hSV); obtain ⟨q0, q1, q2, q3, q4, q5⟩ := hSV; go_simp; try with_reducible rfl)
    (try simp only [Act.put, List.setIfInBounds_toArray, List.set_cons_zero, List.set_cons_succ])
    refine wpAnyH_take (i := 13) (oi := ?_) (v := ?_) ?_ ?_ ?_ ?_ ?_ ?_ (by exact hHeld) ?_
    rotate_left 2
    · (simp only [List.getElem?_toArray, List.getElem?_cons_zero, List.getElem?_cons_succ]; try rfl)
    · kernel_rfl
    · kernel_rfl
    · kernel_rfl
    · exact fun _ _ _ h => h
    · refine Or.inl ⟨by rfl, ?_⟩
      (intro V hSV; (try dsimp only at hSV); obtain ⟨q0, q1, q2, q3, q4, q5⟩ := hSV; go_simp; try with_reducible rfl)
    (try simp only [Act.put, List.setIfInBounds_toArray, List.set_cons_zero, List.set_cons_succ])
    refine wpAnyH_take (i := 14) (oi := ?_) (v := ?_) ?_ ?_ ?_ ?_ ?_ ?_ (by exact hHeld) ?_
    rotate_left 2
    · (simp only [List.getElem?_toArray, List.getElem?_cons_zero, List.getElem?_cons_succ]; try rfl)
    · kernel_rfl
    · kernel_rfl
    · kernel_rfl
    · exact fun _ _ _ h => h
    · refine Or.inl ⟨by rfl, ?_⟩
      (intro V hSV; (try dsimp only at hSV); obtain ⟨q0, q1, q2, q3, q4, q5⟩ := hSV; go_simp; try with_reducible rfl)
    (try simp only [Act.put, List.setIfInBounds_toArray, List.set_cons_zero, List.set_cons_succ])
    refine wpAnyH_take (i := 15) (oi := ?_) (v := ?_) ?_ ?_ ?_ ?_ ?_ ?_ (by exact hHeld) ?_
    rotate_left 2
    · (simp only [List.getElem?_toArray, List.getElem?_cons_zero, List.getElem?_cons_succ]; try rfl)
    · kernel_rfl
    · kernel_rfl
    · kernel_rfl
    · exact fun _ _ _ h => h
    · refine Or.inl ⟨by rfl, ?_⟩
      (intro V hSV; (try dsimp only at hSV); obtain ⟨q0, q1, q2, q3, q4, q5⟩ := hSV; go_simp; try with_reducible rfl)
    (try simp only [Act.put, List.setIfInBounds_toArray, List.set_cons_zero, List.set_cons_succ])
    refine wpAnyH_take (i := 16) (oi := ?_) (v := undef) ?_ ?_ ?_ ?_ ?_ ?_ (by exact hHeld) ?_
    rotate_left 1
    · (simp only [List.getElem?_toArray, List.getElem?_cons_zero, List.getElem?_cons_succ]; try rfl)
    · kernel_rfl
    · kernel_rfl
    · kernel_rfl
    · exact fun _ _ _ h => h
    · refine Or.inr ?_
      exact ⟨by rfl, rfl⟩
    (try simp only [Act.put, List.setIfInBounds_toArray, List.set_cons_zero, List.set_cons_succ])
    refine wpAnyH_take (i := 17) (oi := ?_) (v := undef) ?_ ?_ ?_ ?_ ?_ ?_ (by exact hHeld) ?_
    rotate_left 1
    · (simp only [List.getElem?_toArray, List.getElem?_cons_zero, List.getElem?_cons_succ]; try rfl)
    · kernel_rfl
    · kernel_rfl
    · kernel_rfl
    · exact fun _ _ _ h => h
    · refine Or.inr ?_
      exact ⟨by rfl, rfl⟩
    (try simp only [Act.put, List.setIfInBounds_toArray, List.set_cons_zero, List.set_cons_succ])
    refine wpAnyH_take (i := 18) (oi := ?_) (v := undef) ?_ ?_ ?_ ?_ ?_ ?_ (by exact hHeld) ?_
    rotate_left 1
    · (simp only [List.getElem?_toArray, List.getElem?_cons_zero, List.getElem?_cons_succ]; try rfl)
    · kernel_rfl
    · kernel_rfl
    · kernel_rfl
    · exact fun _ _ _ h => h
    · refine Or.inr ?_
      exact ⟨by rfl, rfl⟩
    (try simp only [Act.put, List.setIfInBounds_toArray, List.set_cons_zero, List.set_cons_succ])
    refine wpAnyH_take (i := 19) (oi := ?_) (v := undef) ?_ ?_ ?_ ?_ ?_ ?_ (by exact hHeld) ?_
    rotate_left 1
    · (simp only [List.getElem?_toArray, List.getElem?_cons_zero, List.getElem?_cons_succ]; try rfl)
    · kernel_rfl
    · kernel_rfl
    · kernel_rfl
    · exact fun _ _ _ h => h
    · refine Or.inr ?_
      exact ⟨by rfl, rfl⟩
    (try simp only [Act.put, List.setIfInBounds_toArray, List.set_cons_zero, List.set_cons_succ])
    refine wpAnyH_take (i := 20) (oi := ?_) (v := undef) ?_ ?_ ?_ ?_ ?_ ?_ (by exact hHeld) ?_
    rotate_left 1
    · (simp only [List.getElem?_toArray, List.getElem?_cons_zero, List.getElem?_cons_succ]; try rfl)
    · kernel_rfl
    · kernel_rfl
    · kernel_rfl
    · exact fun _ _ _ h => h
    · refine Or.inr ?_
      exact ⟨by rfl, rfl⟩
    (try simp only [Act.put, List.setIfInBounds_toArray, List.set_cons_zero, List.set_cons_succ])
    refine wpAnyH_take (i := 21) (oi := ?_) (v := undef) ?_ ?_ ?_ ?_ ?_ ?_ (by exact hHeld) ?_
    rotate_left 1
    · (simp only [List.getElem?_toArray, List.getElem?_cons_zero, List.getElem?_cons_succ]; try rfl)
    · kernel_rfl
    · kernel_rfl
    · kernel_rfl
    · exact fun _ _ _ h => h
    · refine Or.inr ?_
      exact ⟨by rfl, rfl⟩
    (try simp only [Act.put, List.setIfInBounds_toArray, List.set_cons_zero, List.set_cons_succ])
    refine wpAnyH_take (i := 22) (oi := ?_) (v := undef) ?_ ?_ ?_ ?_ ?_ ?_ (by exact hHeld) ?_
    rotate_left 1
    · (simp only [List.getElem?_toArray, List.getElem?_cons_zero, List.getElem?_cons_succ]; try rfl)
    · kernel_rfl
    · kernel_rfl
    · kernel_rfl
    · exact fun _ _ _ h => h
    · refine Or.inr ?_
      exact ⟨by rfl, rfl⟩
    (try simp only [Act.put, List.setIfInBounds_toArray, List.set_cons_zero, List.set_cons_succ])
    refine wpAnyH_take (i := 23) (oi := ?_) (v := undef) ?_ ?_ ?_ ?_ ?_ ?_ (by exact hHeld) ?_
    rotate_left 1
    · (simp only [List.getElem?_toArray, List.getElem?_cons_zero, List.getElem?_cons_succ]; try rfl)
    · kernel_rfl
    · kernel_rfl
    · kernel_rfl
    · exact fun _ _ _ h => h
    · refine Or.inr ?_
      exact ⟨by rfl, rfl⟩
    (try simp only [Act.put, List.setIfInBounds_toArray, List.set_cons_zero, List.set_cons_succ])
    refine wpAnyH_take (i := 24) (oi := ?_) (v := undef) ?_ ?_ ?_ ?_ ?_ ?_ (by exact hHeld) ?_
    rotate_left 1
    · (simp only [List.getElem?_toArray, List.getElem?_cons_zero, List.getElem?_cons_succ]; try rfl)
    · kernel_rfl
    · kernel_rfl
    · kernel_rfl
    · exact fun _ _ _ h => h
    · refine Or.inr ?_
      exact ⟨by rfl, rfl⟩
    (try simp only [Act.put, List.setIfInBounds_toArray, List.set_cons_zero, List.set_cons_succ])
    refine wpAnyH_take (i := 25) (oi := ?_) (v := ?_) ?_ ?_ ?_ ?_ ?_ ?_ (by exact hHeld) ?_
    rotate_left 2
    · (simp only [List.getElem?_toArray, List.getElem?_cons_zero, List.getElem?_cons_succ]; try rfl)
    · kernel_rfl
    · kernel_rfl
    · kernel_rfl
    · exact fun _ _ _ h => h
    · refine Or.inl ⟨by rfl, ?_⟩
      (intro V hSV; (try dsimp only at hSV); obtain ⟨q0, q1, q2, q3, q4, q5⟩ := hSV; go_simp; try with_reducible rfl)
    (try simp only [Act.put, List.setIfInBounds_toArray, List.set_cons_zero, List.set_cons_succ])
    refine wpAnyH_done (by kernel_rfl) ?_ _
    have bR := HRR.out.below HW3.out
    have hb9 := below_then HAL.out HW3.out
    have r0 := bR.c0
    have r1 := bR.c1
    have r2 := bR.c2
    have f0 := bR.blk.frozen 0
    have f1 := bR.blk.frozen 1
    have f2 := bR.blk.frozen 2
    have hlt := bR.lt
    obtain ⟨e1, e2, e3, e4⟩ := G3.out hba
    go_wp2
    refine bodyPost_ret (v := .tuple #[.agg #[.int .i64 0, .int .i64 0, .slice none 0 0], .bool false]) (by simp [results, Tryd.results27, go_sem, r0, r1, r2]) rfl ⟨.slice none 0 0, by rw [e1, e2, e4], by rw [e3]; exact Own.nil _ _, ?_⟩
    (repeat (first | exact Below.refl _ _ | assumption | refine Below.setCell ?_ (by first | (simp; done) | (simp; omega) | omega) _ | refine Below.drew ?_ | refine below_drewN ?_ _ | refine Below.alloc ?_ (by first | (simp; done) | (simp; omega) | omega) _))
  have hbd : decide (b < a) = false := decide_eq_false hba
  refine wp_region_held_drew (S := (fun V => V.cell? ⟨w.heap.size, 0, none⟩ = some (.int .i64 a) ∧ V.cell? ⟨w.heap.size, 1, none⟩ = some (.int .i64 m) ∧ V.cell? ⟨w.heap.size, 2, none⟩ = some (.slice A p.length c) ∧ V.cell? ⟨w.heap.size + 1, 0, none⟩ = some (.int .i64 b) ∧ V.cell? ⟨w.heap.size + 1, 1, none⟩ = some (.int .i64 n) ∧ V.cell? ⟨w.heap.size + 1, 2, none⟩ = some (.slice B q.length d))) (by kernel_rfl) (by exact ⟨a0, a1, a2, b0, b1, b2⟩) (fun hHeld => ?_)
  refine wpAnyH_take (i := 0) (oi := ?_) (v := ?_) ?_ ?_ ?_ ?_ ?_ ?_ (by exact hHeld) ?_
  rotate_left 2
  · (simp only [List.getElem?_toArray, List.getElem?_cons_zero]; try rfl)
  · kernel_rfl
  · kernel_rfl
  · kernel_rfl
  · exact fun _ _ _ h => h
  · refine Or.inl ⟨by rfl, ?_⟩
    (intro V hSV; (try dsimp only at hSV); obtain ⟨q0, q1, q2, q3, q4, q5⟩ := hSV; go_simp; try with_reducible rfl)
  (try simp only [Act.put, List.setIfInBounds_toArray, List.set_cons_zero, List.set_cons_succ])
  refine wpAnyH_ready (rs := [1]) (by kernel_rfl) (by simp) ?_
  refine AllReadyH.cons rfl (fun K hK => ?_) AllReadyH.nil
  go_simp
  refine (isSmall_any a m A p c _ hp9).mono ?_
  rintro e w2 ⟨rfl, hb2⟩
  rw [H1.out]
  have hb2 : Below W1.heap.size W1 w2 := ⟨hb2.os, hb2.tape, hb2.output, hb2.size, hb2.block⟩
  have HW2 := Lib.hid hb2
  clear hb2
  go_wp2_with fail
  refine hK.out _ _ (by exact ⟨(HA.out.below HW2.out).c0, (HA.out.below HW2.out).c1, (HA.out.below HW2.out).c2, (HBB.out.below HW2.out).c0, (HBB.out.below HW2.out).c1, (HBB.out.below HW2.out).c2⟩) (fun hHeld => ?_)
  clear hK K
  (try simp only [Act.put, List.setIfInBounds_toArray, List.set_cons_zero, List.set_cons_succ])
  refine wpAnyH_take (i := 2) (oi := ?_) (v := ?_) ?_ ?_ ?_ ?_ ?_ ?_ (by exact hHeld) ?_
  rotate_left 2
  · (simp only [List.getElem?_toArray, List.getElem?_cons_zero, List.getElem?_cons_succ]; try rfl)
  · kernel_rfl
  · kernel_rfl
  · kernel_rfl
  · exact fun _ _ _ h => h
  · refine Or.inl ⟨by rfl, ?_⟩
    (intro V hSV; (try dsimp only at hSV); obtain ⟨q0, q1, q2, q3, q4, q5⟩ := hSV; go_simp; try with_reducible rfl)
  (try simp only [Act.put, List.setIfInBounds_toArray, List.set_cons_zero, List.set_cons_succ])
  refine wpAnyH_take (i := 3) (oi := ?_) (v := ?_) ?_ ?_ ?_ ?_ ?_ ?_ (by exact hHeld) ?_
  rotate_left 2
  · (simp only [List.getElem?_toArray, List.getElem?_cons_zero, List.getElem?_cons_succ]; try rfl)
  · kernel_rfl
  · kernel_rfl
  · kernel_rfl
  · exact fun _ _ _ h => h
  · refine Or.inl ⟨by rfl, ?_⟩
    (intro V hSV; (try dsimp only at hSV); obtain ⟨q0, q1, q2, q3, q4, q5⟩ := hSV; go_simp; try with_reducible rfl)
  (try simp only [Act.put, List.setIfInBounds_toArray, List.set_cons_zero, List.set_cons_succ])
  refine wpAnyH_take (i := 4) (oi := ?_) (v := ?_) ?_ ?_ ?_ ?_ ?_ ?_ (by exact hHeld) ?_
  rotate_left 2
  · (simp only [List.getElem?_toArray, List.getElem?_cons_zero, List.getElem?_cons_succ]; try rfl)
  · kernel_rfl
  · kernel_rfl
  · kernel_rfl
  · exact fun _ _ _ h => h
  · refine Or.inl ⟨by rfl, ?_⟩
    (intro V hSV; (try dsimp only at hSV); obtain ⟨q0, q1, q2, q3, q4, q5⟩ := hSV; go_simp; try with_reducible rfl)
  (try simp only [Act.put, List.setIfInBounds_toArray, List.set_cons_zero, List.set_cons_succ])
  refine wpAnyH_ready (rs := [5]) (by kernel_rfl) (by simp) ?_
  refine AllReadyH.cons rfl (fun K hK => ?_) AllReadyH.nil
  go_simp
  refine (isSmall_any b n B q d _ hq9).mono ?_
  rintro e w3 ⟨rfl, hb3⟩
  rw [H2.out]
  have hb3 : Below w2.heap.size w2 w3 := ⟨hb3.os, hb3.tape, hb3.output, hb3.size, hb3.block⟩
  have HW3 := Lib.hid (below_then HW2.out hb3)
  clear hb3
  go_wp2_with fail
  refine hK.out _ _ (by exact ⟨(HA.out.below HW3.out).c0, (HA.out.below HW3.out).c1, (HA.out.below HW3.out).c2, (HBB.out.below HW3.out).c0, (HBB.out.below HW3.out).c1, (HBB.out.below HW3.out).c2⟩) (fun hHeld => ?_)
  clear hK K
  (try simp only [Act.put, List.setIfInBounds_toArray, List.set_cons_zero, List.set_cons_succ])
  refine wpAnyH_take (i := 6) (oi := ?_) (v := ?_) ?_ ?_ ?_ ?_ ?_ ?_ (by exact hHeld) ?_
  rotate_left 2
  · (simp only [List.getElem?_toArray, List.getElem?_cons_zero, List.getElem?_cons_succ]; try rfl)
  · kernel_rfl
  · kernel_rfl
  · kernel_rfl
  · exact fun _ _ _ h => h
  · refine Or.inl ⟨by rfl, ?_⟩
    (intro V hSV; (try dsimp only at hSV); obtain ⟨q0, q1, q2, q3, q4, q5⟩ := hSV; go_simp; try with_reducible rfl)
  (try simp only [Act.put, List.setIfInBounds_toArray, List.set_cons_zero, List.set_cons_succ])
  refine wpAnyH_take (i := 7) (oi := ?_) (v := ?_) ?_ ?_ ?_ ?_ ?_ ?_ (by exact hHeld) ?_
  rotate_left 2
  · (simp only [List.getElem?_toArray, List.getElem?_cons_zero, List.getElem?_cons_succ]; try rfl)
  · kernel_rfl
  · kernel_rfl
  · kernel_rfl
  · exact fun _ _ _ h => h
  · refine Or.inl ⟨by rfl, ?_⟩
    (intro V hSV; (try dsimp only at hSV); obtain ⟨q0, q1, q2, q3, q4, q5⟩ := hSV; go_simp; try with_reducible rfl)
  (try simp only [Act.put, List.setIfInBounds_toArray, List.set_cons_zero, List.set_cons_succ])
  refine wpAnyH_take (i := 8) (oi := ?_) (v := ?_) ?_ ?_ ?_ ?_ ?_ ?_ (by exact hHeld) ?_
  rotate_left 2
  · (simp only [List.getElem?_toArray, List.getElem?_cons_zero, List.getElem?_cons_succ]; try rfl)
  · kernel_rfl
  · kernel_rfl
  · kernel_rfl
  · exact fun _ _ _ h => h
  · refine Or.inl ⟨by rfl, ?_⟩
    (intro V hSV; (try dsimp only at hSV); obtain ⟨q0, q1, q2, q3, q4, q5⟩ := hSV; go_simp; try with_reducible rfl)
  (try simp only [Act.put, List.setIfInBounds_toArray, List.set_cons_zero, List.set_cons_succ])
  refine wpAnyH_take (i := 9) (oi := ?_) (v := ?_) ?_ ?_ ?_ ?_ ?_ ?_ (by exact hHeld) ?_
  rotate_left 2
  · (simp only [List.getElem?_toArray, List.getElem?_cons_zero, List.getElem?_cons_succ]; try rfl)
  · kernel_rfl
  · kernel_rfl
  · kernel_rfl
  · exact fun _ _ _ h => h
  · refine Or.inl ⟨by rfl, ?_⟩
    (intro V hSV; (try dsimp only at hSV); obtain ⟨q0, q1, q2, q3, q4, q5⟩ := hSV; go_simp; try with_reducible rfl)
  (try simp only [Act.put, List.setIfInBounds_toArray, List.set_cons_zero, List.set_cons_succ])
  refine wpAnyH_take (i := 10) (oi := ?_) (v := ?_) ?_ ?_ ?_ ?_ ?_ ?_ (by exact hHeld) ?_
  rotate_left 2
  · (simp only [List.getElem?_toArray, List.getElem?_cons_zero, List.getElem?_cons_succ]; try rfl)
  · kernel_rfl
  · kernel_rfl
  · kernel_rfl
  · exact fun _ _ _ h => h
  · refine Or.inl ⟨by rfl, ?_⟩
    (intro V hSV; (try dsimp only at hSV); obtain ⟨q0, q1, q2, q3, q4, q5⟩ := hSV; go_simp; try with_reducible rfl)
  (try simp only [Act.put, List.setIfInBounds_toArray, List.set_cons_zero, List.set_cons_succ])
  refine wpAnyH_take (i := 11) (oi := ?_) (v := ?_) ?_ ?_ ?_ ?_ ?_ ?_ (by exact hHeld) ?_
  rotate_left 2
  · (simp only [List.getElem?_toArray, List.getElem?_cons_zero, List.getElem?_cons_succ]; try rfl)
  · kernel_rfl
  · kernel_rfl
  · kernel_rfl
  · exact fun _ _ _ h => h
  · refine Or.inl ⟨by rfl, ?_⟩
    (intro V hSV; (try dsimp only at hSV); obtain ⟨q0, q1, q2, q3, q4, q5⟩ := hSV; go_simp; try with_reducible rfl)
  (try simp only [Act.put, List.setIfInBounds_toArray, List.set_cons_zero, List.set_cons_succ])
  refine wpAnyH_take (i := 12) (oi := ?_) (v := ?_) ?_ ?_ ?_ ?_ ?_ ?_ (by exact hHeld) ?_
  rotate_left 2
  · (simp only [List.getElem?_toArray, List.getElem?_cons_zero, List.getElem?_cons_succ]; try rfl)
  · kernel_rfl
  · kernel_rfl
  · kernel_rfl
  · exact fun _ _ _ h => h
  · refine Or.inl ⟨by rfl, ?_⟩
    (intro V hSV; (try dsimp only at hSV); obtain ⟨q0, q1, q2, q3, q4, q5⟩ := hSV; go_simp; try with_reducible rfl)
  (try simp only [Act.put, List.setIfInBounds_toArray, List.set_cons_zero, List.set_cons_succ])
  refine wpAnyH_take (i := 13) (oi := ?_) (v := ?_) ?_ ?_ ?_ ?_ ?_ ?_ (by exact hHeld) ?_
  rotate_left 2
  · (simp only [List.getElem?_toArray, List.getElem?_cons_zero, List.getElem?_cons_succ]; try rfl)
  · kernel_rfl
  · kernel_rfl
  · kernel_rfl
  · exact fun _ _ _ h => h
  · refine Or.inl ⟨by rfl, ?_⟩
    (intro V hSV; (try dsimp only at hSV); obtain ⟨q0, q1, q2, q3, q4, q5⟩ := hSV; go_simp; try with_reducible rfl)
  (try simp only [Act.put, List.setIfInBounds_toArray, List.set_cons_zero, List.set_cons_succ])
  (try simp only [hbd])
  refine wpAnyH_take (i := 14) (oi := ?_) (v := ?_) ?_ ?_ ?_ ?_ ?_ ?_ (by exact hHeld) ?_
  rotate_left 2
  · (simp only [List.getElem?_toArray, List.getElem?_cons_zero, List.getElem?_cons_succ]; try rfl)
  · kernel_rfl
  · kernel_rfl
  · kernel_rfl
  · exact fun _ _ _ h => h
  · refine Or.inl ⟨by rfl, ?_⟩
    (intro V hSV; (try dsimp only at hSV); obtain ⟨q0, q1, q2, q3, q4, q5⟩ := hSV; go_simp; try with_reducible rfl)
  (try simp only [Act.put, List.setIfInBounds_toArray, List.set_cons_zero, List.set_cons_succ])
  refine wpAnyH_take (i := 15) (oi := ?_) (v := ?_) ?_ ?_ ?_ ?_ ?_ ?_ (by exact hHeld) ?_
  rotate_left 2
  · (simp only [List.getElem?_toArray, List.getElem?_cons_zero, List.getElem?_cons_succ]; try rfl)
  · kernel_rfl
  · kernel_rfl
  · kernel_rfl
  · exact fun _ _ _ h => h
  · refine Or.inl ⟨by rfl, ?_⟩
    (intro V hSV; (try dsimp only at hSV); obtain ⟨q0, q1, q2, q3, q4, q5⟩ := hSV; go_simp; try with_reducible rfl)
  (try simp only [Act.put, List.setIfInBounds_toArray, List.set_cons_zero, List.set_cons_succ])
  refine wpAnyH_take (i := 16) (oi := ?_) (v := ?_) ?_ ?_ ?_ ?_ ?_ ?_ (by exact hHeld) ?_
  rotate_left 2
  · (simp only [List.getElem?_toArray, List.getElem?_cons_zero, List.getElem?_cons_succ]; try rfl)
  · kernel_rfl
  · kernel_rfl
  · kernel_rfl
  · exact fun _ _ _ h => h
  · refine Or.inl ⟨by rfl, ?_⟩
    (intro V hSV; (try dsimp only at hSV); obtain ⟨q0, q1, q2, q3, q4, q5⟩ := hSV; go_simp; try with_reducible rfl)
  (try simp only [Act.put, List.setIfInBounds_toArray, List.set_cons_zero, List.set_cons_succ])
  refine wpAnyH_take (i := 18) (oi := ?_) (v := ?_) ?_ ?_ ?_ ?_ ?_ ?_ (by exact hHeld) ?_
  rotate_left 2
  · (simp only [List.getElem?_toArray, List.getElem?_cons_zero, List.getElem?_cons_succ]; try rfl)
  · kernel_rfl
  · kernel_rfl
  · kernel_rfl
  · exact fun _ _ _ h => h
  · refine Or.inl ⟨by rfl, ?_⟩
    (intro V hSV; (try dsimp only at hSV); obtain ⟨q0, q1, q2, q3, q4, q5⟩ := hSV; go_simp; try with_reducible rfl)
  (try simp only [Act.put, List.setIfInBounds_toArray, List.set_cons_zero, List.set_cons_succ])
  refine wpAnyH_take (i := 19) (oi := ?_) (v := ?_) ?_ ?_ ?_ ?_ ?_ ?_ (by exact hHeld) ?_
  rotate_left 2
  · (simp only [List.getElem?_toArray, List.getElem?_cons_zero, List.getElem?_cons_succ]; try rfl)
  · kernel_rfl
  · kernel_rfl
  · kernel_rfl
  · exact fun _ _ _ h => h
  · refine Or.inl ⟨by rfl, ?_⟩
    (intro V hSV; (try dsimp only at hSV); obtain ⟨q0, q1, q2, q3, q4, q5⟩ := hSV; go_simp; try with_reducible rfl)
  (try simp only [Act.put, List.setIfInBounds_toArray, List.set_cons_zero, List.set_cons_succ])
  refine wpAnyH_take (i := 20) (oi := ?_) (v := ?_) ?_ ?_ ?_ ?_ ?_ ?_ (by exact hHeld) ?_
  rotate_left 2
  · (simp only [List.getElem?_toArray, List.getElem?_cons_zero, List.getElem?_cons_succ]; try rfl)
  · kernel_rfl
  · kernel_rfl
  · kernel_rfl
  · exact fun _ _ _ h => h
  · refine Or.inl ⟨by rfl, ?_⟩
    (intro V hSV; (try dsimp only at hSV); obtain ⟨q0, q1, q2, q3, q4, q5⟩ := hSV; go_simp; try with_reducible rfl)
  (try simp only [Act.put, List.setIfInBounds_toArray, List.set_cons_zero, List.set_cons_succ])
  refine wpAnyH_take (i := 21) (oi := ?_) (v := ?_) ?_ ?_ ?_ ?_ ?_ ?_ (by exact hHeld) ?_
  rotate_left 2
  · (simp only [List.getElem?_toArray, List.getElem?_cons_zero, List.getElem?_cons_succ]; try rfl)
  · kernel_rfl
  · kernel_rfl
  · kernel_rfl
  · exact fun _ _ _ h => h
  · refine Or.inl ⟨by rfl, ?_⟩
    (intro V hSV; (try dsimp only at hSV); obtain ⟨q0, q1, q2, q3, q4, q5⟩ := hSV; go_simp; try with_reducible rfl)
  (try simp only [Act.put, List.setIfInBounds_toArray, List.set_cons_zero, List.set_cons_succ])
  refine wpAnyH_take (i := 22) (oi := ?_) (v := ?_) ?_ ?_ ?_ ?_ ?_ ?_ (by exact hHeld) ?_
  rotate_left 2
  · (simp only [List.getElem?_toArray, List.getElem?_cons_zero, List.getElem?_cons_succ]; try rfl)
  · kernel_rfl
  · kernel_rfl
  · kernel_rfl
  · exact fun _ _ _ h => h
  · refine Or.inl ⟨by rfl, ?_⟩
    (intro V hSV; (try dsimp only at hSV); obtain ⟨q0, q1, q2, q3, q4, q5⟩ := hSV; go_simp; try with_reducible rfl)
  (try simp only [Act.put, List.setIfInBounds_toArray, List.set_cons_zero, List.set_cons_succ])
  refine wpAnyH_take (i := 23) (oi := ?_) (v := ?_) ?_ ?_ ?_ ?_ ?_ ?_ (by exact hHeld) ?_
  rotate_left 2
  · (simp only [List.getElem?_toArray, List.getElem?_cons_zero, List.getElem?_cons_succ]; try rfl)
  · kernel_rfl
  · kernel_rfl
  · kernel_rfl
  · exact fun _ _ _ h => h
  · refine Or.inl ⟨by rfl, ?_⟩
    (intro V hSV; (try dsimp only at hSV); obtain ⟨q0, q1, q2, q3, q4, q5⟩ := hSV; go_simp; try with_reducible rfl)
  (try simp only [Act.put, List.setIfInBounds_toArray, List.set_cons_zero, List.set_cons_succ])
  refine wpAnyH_ready (rs := [17]) (by kernel_rfl) (by simp) ?_
  refine AllReadyH.cons rfl (fun K hK => ?_) AllReadyH.nil
  go_simp
  refine (edEnd_any b n (b + n) B q.length d _ hwrb).mono ?_
  rintro e w4 ⟨rfl, hb4⟩
  have hb4 : Below w3.heap.size w3 w4 := ⟨hb4.os, hb4.tape, hb4.output, hb4.size, hb4.block⟩
  have HW4 := Lib.hid (below_then HW3.out hb4)
  clear hb4
  go_wp2_with fail
  refine hK.out _ _ (by exact ⟨(HA.out.below HW4.out).c0, (HA.out.below HW4.out).c1, (HA.out.below HW4.out).c2, (HBB.out.below HW4.out).c0, (HBB.out.below HW4.out).c1, (HBB.out.below HW4.out).c2⟩) (fun hHeld => ?_)
  clear hK K
  (try simp only [Act.put, List.setIfInBounds_toArray, List.set_cons_zero, List.set_cons_succ])
  refine wpAnyH_take (i := 24) (oi := ?_) (v := ?_) ?_ ?_ ?_ ?_ ?_ ?_ (by exact hHeld) ?_
  rotate_left 2
  · (simp only [List.getElem?_toArray, List.getElem?_cons_zero, List.getElem?_cons_succ]; try rfl)
  · kernel_rfl
  · kernel_rfl
  · kernel_rfl
  · exact fun _ _ _ h => h
  · refine Or.inl ⟨by rfl, ?_⟩
    (intro V hSV; (try dsimp only at hSV); obtain ⟨q0, q1, q2, q3, q4, q5⟩ := hSV; go_simp; try with_reducible rfl)
  (try simp only [Act.put, List.setIfInBounds_toArray, List.set_cons_zero, List.set_cons_succ])
  refine wpAnyH_take (i := 25) (oi := ?_) (v := ?_) ?_ ?_ ?_ ?_ ?_ ?_ (by exact hHeld) ?_
  rotate_left 2
  · (simp only [List.getElem?_toArray, List.getElem?_cons_zero, List.getElem?_cons_succ]; try rfl)
  · kernel_rfl
  · kernel_rfl
  · kernel_rfl
  · exact fun _ _ _ h => h
  · refine Or.inl ⟨by rfl, ?_⟩
    (intro V hSV; (try dsimp only at hSV); obtain ⟨q0, q1, q2, q3, q4, q5⟩ := hSV; go_simp; try with_reducible rfl)
  (try simp only [Act.put, List.setIfInBounds_toArray, List.set_cons_zero, List.set_cons_succ])
  refine wpAnyH_done (by kernel_rfl) ?_ _
  by_cases hov : a + p.length < b + n
  · have bR := HRR.out.below HW4.out
    have hb9 := below_then HAL.out HW4.out
    have r0 := bR.c0
    have r1 := bR.c1
    have r2 := bR.c2
    have f0 := bR.blk.frozen 0
    have f1 := bR.blk.frozen 1
    have f2 := bR.blk.frozen 2
    have hlt := bR.lt
    obtain ⟨e1, e2, e3, e4⟩ := G4.out hov
    go_wp2
    refine bodyPost_ret (v := .tuple #[.agg #[.int .i64 0, .int .i64 0, .slice none 0 0], .bool false]) (by simp [results, Tryd.results27, go_sem, r0, r1, r2]) rfl ⟨.slice none 0 0, by rw [e1, e2, e4], by rw [e3]; exact Own.nil _ _, ?_⟩
    (repeat (first | exact Below.refl _ _ | assumption | refine Below.setCell ?_ (by first | (simp; done) | (simp; omega) | omega) _ | refine Below.drew ?_ | refine below_drewN ?_ _ | refine Below.alloc ?_ (by first | (simp; done) | (simp; omega) | omega) _))
  have hab : a ≤ b := by omega
  have hov2 : b + n ≤ a + p.length := by omega
  have hlen := HL.out (by trivial) (by trivial) hab hov2
  obtain ⟨T, hT⟩ : ∃ T, joinPut a p b n q = T := ⟨_, rfl⟩
  rw [hT] at hlen
  have hTe : edText p (b - a) n q = T := by rw [← hT]; rfl
  have hF5 : 400 < T.length → ra = 0 ∧ rm = 0 ∧ R = [] ∧ ok = false := fun h => G5.out (by rw [hT]; exact h)
  have hF6 : T.length ≤ 400 → ra = a ∧ rm = m ∧ R = T ∧ ok = true := fun h => by
    have h9 := G6.out (by trivial) (by trivial) hab hov2 (by rw [hT]; exact h)
    obtain ⟨x1, x2, x3⟩ := HY.out h9
    exact ⟨x1, x2, x3.trans hT, h9⟩
  have hsm : edSmall a m T = decide (T.length ≤ 400) := by
    rw [Bool.eq_iff_iff, edSmall_iff]
    simp only [decide_eq_true_eq]
    omega
  have hwr1 : IntKind.i64.wrap (b - a) = b - a := IntWalk.i64_in _ ⟨by omega, by omega⟩
  have HTE := Lib.hid hTe
  have HSM := Lib.hid hsm
  have HF5 := Lib.hid hF5
  have HF6 := Lib.hid hF6
  have hT8 : T.length ≤ 800 := by omega
  clear hlen hT hTe hsm hF5 hF6 G1 G2 G3 G4 G5 G6 HY HL S1 S2
  have bA := HA.out.below HW4.out
  have bB := HBB.out.below HW4.out
  have bR := HRR.out.below HW4.out
  have hb4 := below_then HAL.out HW4.out
  have hzw := hb4.size
  have a0 := bA.c0
  have a1 := bA.c1
  have a2 := bA.c2
  have b0 := bB.c0
  have b1 := bB.c1
  have b2 := bB.c2
  have HA4 := Lib.hid (hA.below hb4)
  have HB4 := Lib.hid (hB.below hb4)
  clear hHeld HA HBB HRR HAL HW2 HW3 HW4
  have H4 := Lib.hid hb4
  have BA4 := Lib.hid bA
  have BR4 := Lib.hid bR
  clear bA bB bR hb4
  go_wp2_with fail
  have H5 := Lib.hid (H4.out.alloc hzw (.cells #[.int .i64 (b - a), .int .i64 n, .slice B q.length d] 25))
  have PE := Lib.hid (EBox.new w4 (b - a) n B q.length d)
  have PA := Lib.hid (BA4.out.below ((Below.refl _ _).alloc (Nat.le_refl _) (.cells #[.int .i64 (b - a), .int .i64 n, .slice B q.length d] 25)))
  have PR := Lib.hid (BR4.out.below ((Below.refl _ _).alloc (Nat.le_refl _) (.cells #[.int .i64 (b - a), .int .i64 n, .slice B q.length d] 25)))
  have QA := Lib.hid (hA.below H5.out)
  have QB := Lib.hid (hB.below H5.out)
  clear HA4 HB4 H4 BA4 BR4 a0 a1 a2 b0 b1 b2
  generalize w4.alloc (.cells #[.int .i64 (b - a), .int .i64 n, .slice B q.length d] 25) = W5 at *
  have a0 := PA.out.c0
  have a1 := PA.out.c1
  have a2 := PA.out.c2
  have b0 := PE.out.c0
  have b1 := PE.out.c1
  have b2 := PE.out.c2
  have HW0 : Hid (Below W5.heap.size W5 W5.drew) := Lib.hid (Below.refl W5.heap.size W5).drew
  refine wp_region_noPanic ?_
  refine wp_region_held_drew (S := (fun V => V.cell? ⟨w.heap.size, 0, none⟩ = some (.int .i64 a) ∧ V.cell? ⟨w.heap.size, 1, none⟩ = some (.int .i64 m) ∧ V.cell? ⟨w.heap.size, 2, none⟩ = some (.slice A p.length c) ∧ V.cell? ⟨w4.heap.size, 0, none⟩ = some (.int .i64 (b - a)) ∧ V.cell? ⟨w4.heap.size, 1, none⟩ = some (.int .i64 n) ∧ V.cell? ⟨w4.heap.size, 2, none⟩ = some (.slice B q.length d))) (by kernel_rfl) (by exact ⟨a0, a1, a2, b0, b1, b2⟩) (fun hHeld => ?_)
  clear a0 a1 a2 b0 b1 b2
  refine wpAnyH_take (i := 0) (oi := ?_) (v := ?_) ?_ ?_ ?_ ?_ ?_ ?_ (by exact hHeld) ?_
  rotate_left 2
  · (simp only [List.getElem?_toArray, List.getElem?_cons_zero]; try rfl)
  · kernel_rfl
  · kernel_rfl
  · kernel_rfl
  · exact fun _ _ _ h => h
  · refine Or.inl ⟨by rfl, ?_⟩
    (intro V hSV; (try dsimp only at hSV); obtain ⟨q0, q1, q2, q3, q4, q5⟩ := hSV; go_simp; try with_reducible rfl)
  (try simp only [Act.put, List.setIfInBounds_toArray, List.set_cons_zero, List.set_cons_succ])
  refine wpAnyH_take (i := 1) (oi := ?_) (v := ?_) ?_ ?_ ?_ ?_ ?_ ?_ (by exact hHeld) ?_
  rotate_left 2
  · (simp only [List.getElem?_toArray, List.getElem?_cons_zero, List.getElem?_cons_succ]; try rfl)
  · kernel_rfl
  · kernel_rfl
  · kernel_rfl
  · exact fun _ _ _ h => h
  · refine Or.inl ⟨by rfl, ?_⟩
    (intro V hSV; (try dsimp only at hSV); obtain ⟨q0, q1, q2, q3, q4, q5⟩ := hSV; go_simp; try with_reducible rfl)
  (try simp only [Act.put, List.setIfInBounds_toArray, List.set_cons_zero, List.set_cons_succ])
  refine wpAnyH_take (i := 2) (oi := ?_) (v := ?_) ?_ ?_ ?_ ?_ ?_ ?_ (by exact hHeld) ?_
  rotate_left 2
  · (simp only [List.getElem?_toArray, List.getElem?_cons_zero, List.getElem?_cons_succ]; try rfl)
  · kernel_rfl
  · kernel_rfl
  · kernel_rfl
  · exact fun _ _ _ h => h
  · refine Or.inl ⟨by rfl, ?_⟩
    (intro V hSV; (try dsimp only at hSV); obtain ⟨q0, q1, q2, q3, q4, q5⟩ := hSV; go_simp; try with_reducible rfl)
  (try simp only [Act.put, List.setIfInBounds_toArray, List.set_cons_zero, List.set_cons_succ])
  refine wpAnyH_take (i := 3) (oi := ?_) (v := ?_) ?_ ?_ ?_ ?_ ?_ ?_ (by exact hHeld) ?_
  rotate_left 2
  · (simp only [List.getElem?_toArray, List.getElem?_cons_zero, List.getElem?_cons_succ]; try rfl)
  · kernel_rfl
  · kernel_rfl
  · kernel_rfl
  · exact fun _ _ _ h => h
  · refine Or.inl ⟨by rfl, ?_⟩
    (intro V hSV; (try dsimp only at hSV); obtain ⟨q0, q1, q2, q3, q4, q5⟩ := hSV; go_simp; try with_reducible rfl)
  (try simp only [Act.put, List.setIfInBounds_toArray, List.set_cons_zero, List.set_cons_succ])
  refine wpAnyH_take (i := 4) (oi := ?_) (v := ?_) ?_ ?_ ?_ ?_ ?_ ?_ (by exact hHeld) ?_
  rotate_left 2
  · (simp only [List.getElem?_toArray, List.getElem?_cons_zero, List.getElem?_cons_succ]; try rfl)
  · kernel_rfl
  · kernel_rfl
  · kernel_rfl
  · exact fun _ _ _ h => h
  · refine Or.inl ⟨by rfl, ?_⟩
    (intro V hSV; (try dsimp only at hSV); obtain ⟨q0, q1, q2, q3, q4, q5⟩ := hSV; go_simp; try with_reducible rfl)
  (try simp only [Act.put, List.setIfInBounds_toArray, List.set_cons_zero, List.set_cons_succ])
  refine wpAnyH_take (i := 5) (oi := ?_) (v := ?_) ?_ ?_ ?_ ?_ ?_ ?_ (by exact hHeld) ?_
  rotate_left 2
  · (simp only [List.getElem?_toArray, List.getElem?_cons_zero, List.getElem?_cons_succ]; try rfl)
  · kernel_rfl
  · kernel_rfl
  · kernel_rfl
  · exact fun _ _ _ h => h
  · refine Or.inl ⟨by rfl, ?_⟩
    (intro V hSV; (try dsimp only at hSV); obtain ⟨q0, q1, q2, q3, q4, q5⟩ := hSV; go_simp; try with_reducible rfl)
  (try simp only [Act.put, List.setIfInBounds_toArray, List.set_cons_zero, List.set_cons_succ])
  refine wpAnyH_take (i := 6) (oi := ?_) (v := ?_) ?_ ?_ ?_ ?_ ?_ ?_ (by exact hHeld) ?_
  rotate_left 2
  · (simp only [List.getElem?_toArray, List.getElem?_cons_zero, List.getElem?_cons_succ]; try rfl)
  · kernel_rfl
  · kernel_rfl
  · kernel_rfl
  · exact fun _ _ _ h => h
  · refine Or.inl ⟨by rfl, ?_⟩
    (intro V hSV; (try dsimp only at hSV); obtain ⟨q0, q1, q2, q3, q4, q5⟩ := hSV; go_simp; try with_reducible rfl)
  (try simp only [Act.put, List.setIfInBounds_toArray, List.set_cons_zero, List.set_cons_succ])
  refine wpAnyH_ready (rs := [7, 9]) (by kernel_rfl) (by simp) ?_
  refine AllReadyH.cons (o := ?_) ?_ (fun K hK => ?_) ?_
  rotate_left 1
  · (simp only [List.getElem?_toArray, List.getElem?_cons_zero, List.getElem?_cons_succ]; try rfl)
  · go_simp
    refine (edAfter_any A p c (b - a) n B q d _ hpc hc9 hqd hPl (by exact QA.out.below HW0.out) (by exact QB.out.below HW0.out) (by omega) (by omega) (by omega) (by omega) (by omega)).mono ?_
    rintro e y1 ⟨v, rfl, hown, hb⟩
    rw [HTE.out] at hown
    obtain ⟨oA, oc, rfl, _, _, _⟩ := hown.form
    have z0 := (World.size_drew W5)
    have zY := (HW0.out).size
    have HY1 := Lib.hid (below_then HW0.out hb)
    have O0 := Lib.hid hown
    have OO := Lib.hid (hown.mono (base' := W5.heap.size) zY)
    have hb' := Lib.hid hb
    clear hown hb
    go_wp2_with fail
    refine hK.out _ _ (by exact ⟨(PA.out.below HY1.out).c0, (PA.out.below HY1.out).c1, (PA.out.below HY1.out).c2, (PE.out.below HY1.out).c0, (PE.out.below HY1.out).c1, (PE.out.below HY1.out).c2⟩) (fun hHeld => ?_)
    clear hK K
    (try simp only [Act.put, List.setIfInBounds_toArray, List.set_cons_zero, List.set_cons_succ])
    refine wpAnyH_take (i := 8) (oi := ?_) (v := ?_) ?_ ?_ ?_ ?_ ?_ ?_ (by exact hHeld) ?_
    rotate_left 2
    · (simp only [List.getElem?_toArray, List.getElem?_cons_zero, List.getElem?_cons_succ]; try rfl)
    · kernel_rfl
    · kernel_rfl
    · kernel_rfl
    · exact fun _ _ _ h => h
    · refine Or.inl ⟨by rfl, ?_⟩
      (intro V hSV; (try dsimp only at hSV); obtain ⟨q0, q1, q2, q3, q4, q5⟩ := hSV; go_simp; try with_reducible rfl)
    (try simp only [Act.put, List.setIfInBounds_toArray, List.set_cons_zero, List.set_cons_succ])
    refine wpAnyH_ready (rs := [9]) (by kernel_rfl) (by simp) ?_
    refine AllReadyH.cons (o := ?_) ?_ (fun K hK => ?_) AllReadyH.nil
    rotate_left 1
    · (simp only [List.getElem?_toArray, List.getElem?_cons_zero, List.getElem?_cons_succ]; try rfl)
    have HY2 := Lib.hid (HY1.out.alloc HY1.out.size (.cells #[.int .i64 0, .int .i64 0, .slice none 0 0] 25))
    go_simp
    refine hK.out _ _ (by exact ⟨(PA.out.below HY2.out).c0, (PA.out.below HY2.out).c1, (PA.out.below HY2.out).c2, (PE.out.below HY2.out).c0, (PE.out.below HY2.out).c1, (PE.out.below HY2.out).c2⟩) (fun hHeld => ?_)
    clear hK K
    (try simp only [Act.put, List.setIfInBounds_toArray, List.set_cons_zero, List.set_cons_succ])
    refine wpAnyH_ready (rs := [10]) (by kernel_rfl) (by simp) ?_
    refine AllReadyH.cons (o := ?_) ?_ (fun K hK => ?_) AllReadyH.nil
    rotate_left 1
    · (simp only [List.getElem?_toArray, List.getElem?_cons_zero, List.getElem?_cons_succ]; try rfl)
    have HY3 := Lib.hid (HY1.out.alloc HY1.out.size (.cells #[.int .i64 a, .int .i64 m, .slice oA T.length oc] 25))
    go_simp
    refine hK.out _ _ (by exact ⟨(PA.out.below HY3.out).c0, (PA.out.below HY3.out).c1, (PA.out.below HY3.out).c2, (PE.out.below HY3.out).c0, (PE.out.below HY3.out).c1, (PE.out.below HY3.out).c2⟩) (fun hHeld => ?_)
    clear hK K
    (try simp only [Act.put, List.setIfInBounds_toArray, List.set_cons_zero, List.set_cons_succ])
    refine wpAnyH_done (by kernel_rfl) ?_ _
    refine NoPanic.normal ?_
    have KX := Lib.hid (EBox.new y1 a m oA T.length oc)
    have KR := Lib.hid (PR.out.below HY3.out)
    have KB := Lib.hid (below_then H5.out HY3.out)
    have KO := Lib.hid (OO.out.below ((Below.refl _ _).alloc (Nat.le_refl _) (.cells #[.int .i64 a, .int .i64 m, .slice oA T.length oc] 25)))
    clear HY1 HY2 HY3 OO hb'
    generalize y1.heap.size = ob at *
    generalize y1.alloc (.cells #[.int .i64 a, .int .i64 m, .slice oA T.length oc] 25) = Wc at *
    have x0 := KX.out.c0
    have x1 := KX.out.c1
    have x2 := KX.out.c2
    have zR := PR.out.lt
    have zw5 := H5.out.size
    clear HW0 hHeld
    go_wp2_with fail
    refine (isSmall_any a m oA T oc _ (by omega)).mono ?_
    rintro e w7 ⟨rfl, hb7⟩
    have bR := KR.out.below hb7
    have hb9 := below_then KB.out hb7
    have hown7 := KO.out.below hb7
    have x0 := (KX.out.below hb7).c0
    have x1 := (KX.out.below hb7).c1
    have x2 := (KX.out.below hb7).c2
    have r0 := bR.c0
    have r1 := bR.c1
    have r2 := bR.c2
    have f0 := bR.blk.frozen 0
    have f1 := bR.blk.frozen 1
    have f2 := bR.blk.frozen 2
    have hlt := bR.lt
    by_cases hbig : 400 < T.length
    · rw [HSM.out, decide_eq_false (show ¬ T.length ≤ 400 by omega)]
      obtain ⟨e1, e2, e3, e4⟩ := HF5.out hbig
      clear x0 x1 x2
      go_wp2
      refine bodyPost_ret (v := .tuple #[.agg #[.int .i64 0, .int .i64 0, .slice none 0 0], .bool false]) (by simp [results, Tryd.results27, go_sem, r0, r1, r2]) rfl ⟨.slice none 0 0, by rw [e1, e2, e4], by rw [e3]; exact Own.nil _ _, ?_⟩
      (repeat (first | exact Below.refl _ _ | assumption | refine Below.setCell ?_ (by first | (simp; done) | (simp; omega) | omega) _ | refine Below.drew ?_ | refine below_drewN ?_ _ | refine Below.alloc ?_ (by first | (simp; done) | (simp; omega) | omega) _))
    · rw [HSM.out, decide_eq_true (show T.length ≤ 400 by omega)]
      have E9 := Lib.hid (HF6.out (by omega))
      go_wp2
      obtain ⟨e1, e2, e3, e4⟩ := E9.out
      refine bodyPost_ret (v := .tuple #[.agg #[.int .i64 a, .int .i64 m, .slice oA T.length oc], .bool true]) (by simp [results, Tryd.results27, go_sem, r0, r1, r2]) rfl ⟨.slice oA T.length oc, by rw [e1, e2, e4], ?_, ?_⟩
      · rw [e3]
        have h9 : ∀ (W : World) (i : Nat) (u : Value), Own W W5.heap.size (.slice oA T.length oc) T → Own (W.setCell ⟨w.heap.size + 1 + 1, i, none⟩ u) W5.heap.size (.slice oA T.length oc) T := fun W i u h => h.setBelow (by simpa using zR) u
        exact (h9 _ _ _ (h9 _ _ _ (h9 _ _ _ hown7))).mono zw5
      · (repeat (first | exact Below.refl _ _ | assumption | refine Below.setCell ?_ (by first | (simp; done) | (simp; omega) | omega) _ | refine Below.drew ?_ | refine below_drewN ?_ _ | refine Below.alloc ?_ (by first | (simp; done) | (simp; omega) | omega) _))
  refine AllReadyH.cons (o := ?_) ?_ (fun K hK => ?_) AllReadyH.nil
  rotate_left 1
  · (simp only [List.getElem?_toArray, List.getElem?_cons_zero, List.getElem?_cons_succ]; try rfl)
  have HY1 := Lib.hid (HW0.out.alloc HW0.out.size (.cells #[.int .i64 0, .int .i64 0, .slice none 0 0] 25))
  have BX := Lib.hid (EBox.new W5.drew 0 0 none 0 0)
  go_simp
  refine hK.out _ _ (by exact ⟨(PA.out.below HY1.out).c0, (PA.out.below HY1.out).c1, (PA.out.below HY1.out).c2, (PE.out.below HY1.out).c0, (PE.out.below HY1.out).c1, (PE.out.below HY1.out).c2⟩) (fun hHeld => ?_)
  clear hK K
  (try simp only [Act.put, List.setIfInBounds_toArray, List.set_cons_zero, List.set_cons_succ])
  refine wpAnyH_ready (rs := [7]) (by kernel_rfl) (by simp) ?_
  refine AllReadyH.cons (o := ?_) ?_ (fun K hK => ?_) AllReadyH.nil
  rotate_left 1
  · (simp only [List.getElem?_toArray, List.getElem?_cons_zero, List.getElem?_cons_succ]; try rfl)
  go_simp
  refine (edAfter_any A p c (b - a) n B q d _ hpc hc9 hqd hPl (by exact QA.out.below HY1.out) (by exact QB.out.below HY1.out) (by omega) (by omega) (by omega) (by omega) (by omega)).mono ?_
  rintro e y2 ⟨v, rfl, hown, hb⟩
  rw [HTE.out] at hown
  obtain ⟨oA, oc, rfl, _, _, _⟩ := hown.form
  have z0 := (World.size_drew W5)
  have zY := (HY1.out).size
  have HY2 := Lib.hid (below_then HY1.out hb)
  have O0 := Lib.hid hown
  have OO := Lib.hid (hown.mono (base' := W5.heap.size) zY)
  have hb' := Lib.hid hb
  clear hown hb
  go_wp2_with fail
  have BX2 := Lib.hid (BX.out.below hb'.out)
  refine hK.out _ _ (by exact ⟨(PA.out.below HY2.out).c0, (PA.out.below HY2.out).c1, (PA.out.below HY2.out).c2, (PE.out.below HY2.out).c0, (PE.out.below HY2.out).c1, (PE.out.below HY2.out).c2⟩) (fun hHeld => ?_)
  clear hK K
  (try simp only [Act.put, List.setIfInBounds_toArray, List.set_cons_zero, List.set_cons_succ])
  refine wpAnyH_take (i := 8) (oi := ?_) (v := ?_) ?_ ?_ ?_ ?_ ?_ ?_ (by exact hHeld) ?_
  rotate_left 2
  · (simp only [List.getElem?_toArray, List.getElem?_cons_zero, List.getElem?_cons_succ]; try rfl)
  · kernel_rfl
  · kernel_rfl
  · kernel_rfl
  · exact fun _ _ _ h => h
  · refine Or.inl ⟨by rfl, ?_⟩
    (intro V hSV; (try dsimp only at hSV); obtain ⟨q0, q1, q2, q3, q4, q5⟩ := hSV; go_simp; try with_reducible rfl)
  (try simp only [Act.put, List.setIfInBounds_toArray, List.set_cons_zero, List.set_cons_succ])
  refine wpAnyH_ready (rs := [10]) (by kernel_rfl) (by simp) ?_
  refine AllReadyH.cons (o := ?_) ?_ (fun K hK => ?_) AllReadyH.nil
  rotate_left 1
  · (simp only [List.getElem?_toArray, List.getElem?_cons_zero, List.getElem?_cons_succ]; try rfl)
  have BX3 := BX2.out
  rw [World.size_drew] at BX3
  have n1 : w.heap.size ≠ W5.heap.size := Nat.ne_of_lt PA.out.lt
  have n2 : w4.heap.size ≠ W5.heap.size := Nat.ne_of_lt PE.out.lt
  have n3 : w.heap.size + 1 + 1 ≠ W5.heap.size := Nat.ne_of_lt PR.out.lt
  have PA2 : EBox (((y2.setCell ⟨W5.heap.size, 0, none⟩ (.int .i64 a)).setCell ⟨W5.heap.size, 1, none⟩ (.int .i64 m)).setCell ⟨W5.heap.size, 2, none⟩ (.slice oA T.length oc)) w.heap.size a m A p.length c := ⟨(((PA.out.below HY2.out).blk.setOther (a := ⟨W5.heap.size, 0, none⟩) (n1) (.int .i64 a)).setOther (a := ⟨W5.heap.size, 1, none⟩) (n1) (.int .i64 m)).setOther (a := ⟨W5.heap.size, 2, none⟩) (n1) (.slice oA T.length oc)⟩
  have PE2 : EBox (((y2.setCell ⟨W5.heap.size, 0, none⟩ (.int .i64 a)).setCell ⟨W5.heap.size, 1, none⟩ (.int .i64 m)).setCell ⟨W5.heap.size, 2, none⟩ (.slice oA T.length oc)) w4.heap.size (b - a) n B q.length d := ⟨(((PE.out.below HY2.out).blk.setOther (a := ⟨W5.heap.size, 0, none⟩) (n2) (.int .i64 a)).setOther (a := ⟨W5.heap.size, 1, none⟩) (n2) (.int .i64 m)).setOther (a := ⟨W5.heap.size, 2, none⟩) (n2) (.slice oA T.length oc)⟩
  have KR := Lib.hid (show EBox (((y2.setCell ⟨W5.heap.size, 0, none⟩ (.int .i64 a)).setCell ⟨W5.heap.size, 1, none⟩ (.int .i64 m)).setCell ⟨W5.heap.size, 2, none⟩ (.slice oA T.length oc)) (w.heap.size + 1 + 1) 0 0 none 0 0 from ⟨(((PR.out.below HY2.out).blk.setOther (a := ⟨W5.heap.size, 0, none⟩) (n3) (.int .i64 a)).setOther (a := ⟨W5.heap.size, 1, none⟩) (n3) (.int .i64 m)).setOther (a := ⟨W5.heap.size, 2, none⟩) (n3) (.slice oA T.length oc)⟩)
  have KX := Lib.hid (show EBox (((y2.setCell ⟨W5.heap.size, 0, none⟩ (.int .i64 a)).setCell ⟨W5.heap.size, 1, none⟩ (.int .i64 m)).setCell ⟨W5.heap.size, 2, none⟩ (.slice oA T.length oc)) W5.heap.size a m oA T.length oc from ⟨by simpa using ((BX3.blk.set 0 (.int .i64 a)).set 1 (.int .i64 m)).set 2 (.slice oA T.length oc)⟩)
  have hb9 := below_then H5.out HY2.out
  have zh := H5.out.size
  have KB : Below w.heap.size w (((y2.setCell ⟨W5.heap.size, 0, none⟩ (.int .i64 a)).setCell ⟨W5.heap.size, 1, none⟩ (.int .i64 m)).setCell ⟨W5.heap.size, 2, none⟩ (.slice oA T.length oc)) := by (repeat (first | exact Below.refl _ _ | assumption | refine Below.setCell ?_ (by first | (simp; done) | (simp; omega) | omega) _ | refine Below.drew ?_ | refine below_drewN ?_ _ | refine Below.alloc ?_ (by first | (simp; done) | (simp; omega) | omega) _))
  have KB := Lib.hid KB
  have KO : Own (((y2.setCell ⟨W5.heap.size, 0, none⟩ (.int .i64 a)).setCell ⟨W5.heap.size, 1, none⟩ (.int .i64 m)).setCell ⟨W5.heap.size, 2, none⟩ (.slice oA T.length oc)) W5.heap.size (.slice oA T.length oc) T := by
    have h9 : ∀ (W : World) (i : Nat) (u : Value), Own W (W5.drew.alloc (.cells #[.int .i64 0, .int .i64 0, .slice none 0 0] 25)).heap.size (.slice oA T.length oc) T → Own (W.setCell ⟨W5.heap.size, i, none⟩ u) (W5.drew.alloc (.cells #[.int .i64 0, .int .i64 0, .slice none 0 0] 25)).heap.size (.slice oA T.length oc) T := fun W i u h => h.setBelow (by simp) u
    exact (h9 _ _ _ (h9 _ _ _ (h9 _ _ _ O0.out))).mono (by simp)
  have KO := Lib.hid KO
  have KA := Lib.hid PA2
  have KE := Lib.hid PE2
  have g0 := BX3.c0
  have g1 := BX3.c1
  have g2 := BX3.c2
  have f0 := BX3.blk.frozen 0
  have f1 := BX3.blk.frozen 1
  have f2 := BX3.blk.frozen 2
  clear PA2 PE2 hb9 n1 n2 n3
  go_simp
  clear g0 g1 g2 f0 f1 f2 BX3
  refine hK.out _ _ (by exact ⟨KA.out.c0, KA.out.c1, KA.out.c2, KE.out.c0, KE.out.c1, KE.out.c2⟩) (fun hHeld => ?_)
  clear hK K
  (try simp only [Act.put, List.setIfInBounds_toArray, List.set_cons_zero, List.set_cons_succ])
  refine wpAnyH_done (by kernel_rfl) ?_ _
  refine NoPanic.normal ?_
  clear HY1 HY2 OO O0 BX BX2 hb' KA KE
  generalize ((y2.setCell ⟨W5.heap.size, 0, none⟩ (.int .i64 a)).setCell ⟨W5.heap.size, 1, none⟩ (.int .i64 m)).setCell ⟨W5.heap.size, 2, none⟩ (.slice oA T.length oc) = Wc at *
  have x0 := KX.out.c0
  have x1 := KX.out.c1
  have x2 := KX.out.c2
  have zR := PR.out.lt
  have zw5 := H5.out.size
  clear HW0 hHeld
  go_wp2_with fail
  refine (isSmall_any a m oA T oc _ (by omega)).mono ?_
  rintro e w7 ⟨rfl, hb7⟩
  have bR := KR.out.below hb7
  have hb9 := below_then KB.out hb7
  have hown7 := KO.out.below hb7
  have x0 := (KX.out.below hb7).c0
  have x1 := (KX.out.below hb7).c1
  have x2 := (KX.out.below hb7).c2
  have r0 := bR.c0
  have r1 := bR.c1
  have r2 := bR.c2
  have f0 := bR.blk.frozen 0
  have f1 := bR.blk.frozen 1
  have f2 := bR.blk.frozen 2
  have hlt := bR.lt
  by_cases hbig : 400 < T.length
  · rw [HSM.out, decide_eq_false (show ¬ T.length ≤ 400 by omega)]
    obtain ⟨e1, e2, e3, e4⟩ := HF5.out hbig
    clear x0 x1 x2
    go_wp2
    refine bodyPost_ret (v := .tuple #[.agg #[.int .i64 0, .int .i64 0, .slice none 0 0], .bool false]) (by simp [results, Tryd.results27, go_sem, r0, r1, r2]) rfl ⟨.slice none 0 0, by rw [e1, e2, e4], by rw [e3]; exact Own.nil _ _, ?_⟩
    (repeat (first | exact Below.refl _ _ | assumption | refine Below.setCell ?_ (by first | (simp; done) | (simp; omega) | omega) _ | refine Below.drew ?_ | refine below_drewN ?_ _ | refine Below.alloc ?_ (by first | (simp; done) | (simp; omega) | omega) _))
  · rw [HSM.out, decide_eq_true (show T.length ≤ 400 by omega)]
    have E9 := Lib.hid (HF6.out (by omega))
    go_wp2
    obtain ⟨e1, e2, e3, e4⟩ := E9.out
    refine bodyPost_ret (v := .tuple #[.agg #[.int .i64 a, .int .i64 m, .slice oA T.length oc], .bool true]) (by simp [results, Tryd.results27, go_sem, r0, r1, r2]) rfl ⟨.slice oA T.length oc, by rw [e1, e2, e4], ?_, ?_⟩
    · rw [e3]
      have h9 : ∀ (W : World) (i : Nat) (u : Value), Own W W5.heap.size (.slice oA T.length oc) T → Own (W.setCell ⟨w.heap.size + 1 + 1, i, none⟩ u) W5.heap.size (.slice oA T.length oc) T := fun W i u h => h.setBelow (by simpa using zR) u
      exact (h9 _ _ _ (h9 _ _ _ (h9 _ _ _ hown7))).mono zw5
    · (repeat (first | exact Below.refl _ _ | assumption | refine Below.setCell ?_ (by first | (simp; done) | (simp; omega) | omega) _ | refine Below.drew ?_ | refine below_drewN ?_ _ | refine Below.alloc ?_ (by first | (simp; done) | (simp; omega) | omega) _))
end Go.Proofs.YtkplfbhblbinaaaDoor
