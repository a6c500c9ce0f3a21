/-
  Chapter 5, the program's whereOk, EditDo and EditBack: contracts. Own work.
-/
import Derived.Test.YtepffgahgfipjaaDoorI08b
namespace Go.Proofs.YtepffgahgfipjaaDoor
open Go.RowKit P
set_option linter.unusedVariables false
set_option linter.unusedSimpArgs false
set_option maxRecDepth 100000

set_option maxHeartbeats 4000000 in
theorem whereDo_any (A : Option Addr) (l : List UInt8) (c : Nat) (a m : Int) (Ap : Option Addr) (p : List UInt8) (cp : Nat) (w : World) (hl : l.length ≤ c) (hc9 : c ≤ 9223372036854775807) (hpc : p.length ≤ cp) (hcp9 : cp ≤ 9223372036854775807) (hm9 : m ≤ 9223372036854775807) (hPl : Pl A c) (hT : Tab w) (hA : Bs w A l) (hP : Bs w Ap p) :
    Calls Tryd.prog 68 #[.slice A l.length c, .agg #[.int .i64 a, .int .i64 m, .slice Ap p.length cp], .func (.func 69) #[.agg #[.int .i64 a, .int .i64 m, .slice Ap p.length cp]] #[]] w (MakesE (edDo l a m p) (edOk l a m p) w) := by
  obtain ⟨q, hq⟩ : ∃ q, edOk l a m p = q := ⟨_, rfl⟩
  obtain ⟨T, hT'⟩ : ∃ T, edDo l a m p = T := ⟨_, rfl⟩
  have hal := (Below.refl w.heap.size w).alloc (Nat.le_refl _) (.cells #[.int .i64 a, .int .i64 m, .slice Ap p.length cp] 25)
  have HQ := Lib.hid hq
  have HT := Lib.hid hT'
  rw [hT', hq]
  clear hq hT'
  go_enter Tryd.func68, Tryd.ntmps68
  go_wp2_with fail
  generalize w.alloc (.cells #[.int .i64 a, .int .i64 m, .slice Ap p.length cp] 25) = W1 at *
  refine (implEditOk_any A l c a m Ap p cp _ hl hc9 hpc hcp9 hm9 (by exact hT.below hal) (by exact hA.below hal) (by exact hP.below hal)).mono ?_
  rintro e w2 ⟨rfl, hb2⟩
  rw [HQ.out]
  have hb2 := below_then hal hb2
  clear hal
  cases q
  · have hT0 : T = [] := by
      rw [← HT.out]; unfold edDo; rw [HQ.out]; rfl
    go_wp2
    go_ret2
    exact ⟨.slice none 0 0, rfl, by rw [hT0]; exact Own.nil _ _, hb2⟩
  have hr := edOk_range HQ.out
  have hT1 : edText l a m p = T := by rw [← HT.out]; unfold edDo; rw [HQ.out]; rfl
  have HT1 := Lib.hid hT1
  clear hT1
  go_wp2_with fail
  refine (edAfter_any A l c a m Ap p cp _ hl hc9 hpc hPl (by exact hA.below hb2) (by exact hP.below hb2) (by omega) (by omega) (by omega) (by omega) (by omega)).mono ?_
  rintro e w3 ⟨v3, rfl, hown3, hb3⟩
  rw [HT1.out] at hown3
  have hown3 := hown3.mono (base' := w.heap.size) hb2.size
  have hb3 := below_then hb2 hb3
  go_wp2
  go_ret2
  exact ⟨v3, rfl, hown3, hb3⟩

set_option maxHeartbeats 4000000 in
theorem implEditDo_any (A : Option Addr) (l : List UInt8) (c : Nat) (a m : Int) (Ap : Option Addr) (p : List UInt8) (cp : Nat) (w : World) (hl : l.length ≤ c) (hc9 : c ≤ 9223372036854775807) (hpc : p.length ≤ cp) (hcp9 : cp ≤ 9223372036854775807) (hm9 : m ≤ 9223372036854775807) (hPl : Pl A c) (hT : Tab w) (hA : Bs w A l) (hP : Bs w Ap p) :
    Calls Tryd.prog 20 #[.slice A l.length c, .agg #[.int .i64 a, .int .i64 m, .slice Ap p.length cp]] w (MakesE (edDo l a m p) (edOk l a m p) w) := by
  obtain ⟨q, hq⟩ : ∃ q, edOk l a m p = q := ⟨_, rfl⟩
  obtain ⟨T, hT'⟩ : ∃ T, edDo l a m p = T := ⟨_, rfl⟩
  have hal := (Below.refl w.heap.size w).alloc (Nat.le_refl _) (.cells #[.int .i64 a, .int .i64 m, .slice Ap p.length cp] 25)
  have HQ := Lib.hid hq
  have HT := Lib.hid hT'
  rw [hT', hq]
  clear hq hT'
  go_enter Tryd.func20, Tryd.ntmps20
  go_wp2_with fail
  generalize w.alloc (.cells #[.int .i64 a, .int .i64 m, .slice Ap p.length cp] 25) = W1 at *
  refine (whereDo_any A l c a m Ap p cp _ hl hc9 hpc hcp9 hm9 hPl (by exact hT.below hal) (by exact hA.below hal) (by exact hP.below hal)).mono ?_
  rintro e w3 ⟨v3, rfl, hown3, hb3⟩
  rw [HQ.out]
  rw [HT.out] at hown3
  have hown3 := hown3.mono (base' := w.heap.size) hal.size
  have hb3 := below_then hal hb3
  go_wp2
  go_ret2
  exact ⟨v3, rfl, hown3, hb3⟩

set_option maxHeartbeats 4000000 in
theorem whereBack_any (A : Option Addr) (l : List UInt8) (c : Nat) (a m : Int) (Ap : Option Addr) (p : List UInt8) (cp : Nat) (w : World) (hl : l.length ≤ c) (hc9 : c ≤ 9223372036854775807) (hpc : p.length ≤ cp) (hcp9 : cp ≤ 9223372036854775807) (hm9 : m ≤ 9223372036854775807) (hPl : Pl A c) (hT : Tab w) (hA : Bs w A l) (hP : Bs w Ap p) :
    Calls Tryd.prog 65 #[.slice A l.length c, .agg #[.int .i64 a, .int .i64 m, .slice Ap p.length cp], .func (.func 66) #[.agg #[.int .i64 a, .int .i64 m, .slice Ap p.length cp]] #[]] w (MakesEd (backA l a m p) (backM l a m p) (backP l a m p) (edOk l a m p) w) := by
  obtain ⟨q, hq⟩ : ∃ q, edOk l a m p = q := ⟨_, rfl⟩
  obtain ⟨ra, hra⟩ : ∃ q, backA l a m p = q := ⟨_, rfl⟩
  obtain ⟨rm, hrm⟩ : ∃ q, backM l a m p = q := ⟨_, rfl⟩
  obtain ⟨T, hT'⟩ : ∃ T, backP l a m p = T := ⟨_, rfl⟩
  have hal := ((Below.refl w.heap.size w).alloc (Nat.le_refl _) (.cells #[.int .i64 a, .int .i64 m, .slice Ap p.length cp] 25)).alloc (by simp) (.cells #[.int .i64 0, .int .i64 0, .slice none 0 0] 25)
  have bE := (EBox.new w a m Ap p.length cp).below ((Below.refl _ _).alloc (Nat.le_refl _) (.cells #[.int .i64 0, .int .i64 0, .slice none 0 0] 25))
  have bR := EBox.new (w.alloc (.cells #[.int .i64 a, .int .i64 m, .slice Ap p.length cp] 25)) 0 0 none 0 0
  rw [World.size_alloc] at bR
  have HQ := Lib.hid hq
  have HRA := Lib.hid hra
  have HRM := Lib.hid hrm
  have HT := Lib.hid hT'
  rw [hT', hq, hra, hrm]
  clear hq hT' hra hrm
  go_enter Tryd.func65, Tryd.ntmps65
  go_wp2_with fail
  generalize (w.alloc (.cells #[.int .i64 a, .int .i64 m, .slice Ap p.length cp] 25)).alloc (.cells #[.int .i64 0, .int .i64 0, .slice none 0 0] 25) = W1 at *
  refine (implEditOk_any A l c a m Ap p cp _ hl hc9 hpc hcp9 hm9 (by exact hT.below hal) (by exact hA.below hal) (by exact hP.below hal)).mono ?_
  rintro e w2 ⟨rfl, hb2⟩
  rw [HQ.out]
  have bE := bE.below hb2
  have bR := bR.below hb2
  have hb2 := below_then hal hb2
  clear hal
  cases q
  · have e1 : ra = 0 := by rw [← HRA.out]; unfold backA; rw [HQ.out]; rfl
    have e2 : rm = 0 := by rw [← HRM.out]; unfold backM; rw [HQ.out]; rfl
    have e3 : T = [] := by rw [← HT.out]; unfold backP; rw [HQ.out]; rfl
    have hb2' := hb2.alloc hb2.size (.cells #[.int .i64 0, .int .i64 0, .slice none 0 0] 25)
    have bR := bR.below ((Below.refl _ _).alloc (Nat.le_refl _) (.cells #[.int .i64 0, .int .i64 0, .slice none 0 0] 25))
    have r0 := bR.c0
    have r1 := bR.c1
    have r2 := bR.c2
    have f0 := bR.blk.frozen 0
    have f1 := bR.blk.frozen 1
    have f2 := bR.blk.frozen 2
    go_wp2
    refine bodyPost_ret (v := .tuple #[.agg #[.int .i64 0, .int .i64 0, .slice none 0 0], .bool false]) (by simp [results, Tryd.results65, go_sem, r0, r1, r2]) rfl ⟨.slice none 0 0, by rw [e1, e2], by rw [e3]; exact Own.nil _ _, ?_⟩
    (repeat (first | exact Below.refl _ _ | assumption | refine Below.setCell ?_ (by first | (simp; done) | (simp; omega) | omega) _ | refine Below.drew ?_ | refine below_drewN ?_ _ | refine Below.alloc ?_ (by first | (simp; done) | (simp; omega) | omega) _))
  have hr := edOk_range HQ.out
  have e1 : ra = a := by rw [← HRA.out]; unfold backA; rw [HQ.out]; rfl
  have e2 : rm = (p.length : Int) := by rw [← HRM.out]; unfold backM; rw [HQ.out]; rfl
  have e3 : edCut l a m = T := by rw [← HT.out]; unfold backP; rw [HQ.out]; rfl
  have HE1 := Lib.hid e1
  have HE2 := Lib.hid e2
  have HE3 := Lib.hid e3
  clear e1 e2 e3
  have hlt0 := bR.lt
  have hz0 := hb2.size
  go_wp2_with fail
  refine (edBack_any A l c a m Ap p cp _ hl hc9 hpc hPl (by exact hA.below hb2) (by exact hP.below hb2) (by omega) (by omega) (by omega) (by omega) (by omega)).mono ?_
  rintro e w3 ⟨v3, rfl, hown3, hb3⟩
  rw [HE3.out] at hown3
  have bR := bR.below hb3
  have hb3 := below_then hb2 hb3
  obtain ⟨A3, c3, rfl, _, _, _⟩ := hown3.form
  have r0 := bR.c0
  have r1 := bR.c1
  have r2 := bR.c2
  have f0 := bR.blk.frozen 0
  have f1 := bR.blk.frozen 1
  have f2 := bR.blk.frozen 2
  have hlt := bR.lt
  go_wp2
  refine bodyPost_ret (v := .tuple #[.agg #[.int .i64 a, .int .i64 p.length, .slice A3 T.length c3], .bool true]) (by simp [results, Tryd.results65, go_sem, r0, r1, r2]) rfl ⟨.slice A3 T.length c3, by rw [HE1.out, HE2.out], ?_, ?_⟩
  · have h9 : ∀ (W : World) (i : Nat) (u : Value), Own W w2.heap.size (.slice A3 T.length c3) T → Own (W.setCell ⟨w.heap.size + 1, i, none⟩ u) w2.heap.size (.slice A3 T.length c3) T := fun W i u h => h.setBelow (by simpa using hlt0) u
    exact (h9 _ _ _ (h9 _ _ _ (h9 _ _ _ hown3))).mono hz0
  · (repeat (first | exact Below.refl _ _ | assumption | refine Below.setCell ?_ (by first | (simp; done) | (simp; omega) | omega) _ | refine Below.drew ?_ | refine below_drewN ?_ _ | refine Below.alloc ?_ (by first | (simp; done) | (simp; omega) | omega) _))

set_option maxHeartbeats 4000000 in
theorem implEditBack_any (A : Option Addr) (l : List UInt8) (c : Nat) (a m : Int) (Ap : Option Addr) (p : List UInt8) (cp : Nat) (w : World) (hl : l.length ≤ c) (hc9 : c ≤ 9223372036854775807) (hpc : p.length ≤ cp) (hcp9 : cp ≤ 9223372036854775807) (hm9 : m ≤ 9223372036854775807) (hPl : Pl A c) (hT : Tab w) (hA : Bs w A l) (hP : Bs w Ap p) :
    Calls Tryd.prog 17 #[.slice A l.length c, .agg #[.int .i64 a, .int .i64 m, .slice Ap p.length cp]] w (MakesEd (backA l a m p) (backM l a m p) (backP l a m p) (edOk l a m p) w) := by
  obtain ⟨q, hq⟩ : ∃ q, edOk l a m p = q := ⟨_, rfl⟩
  obtain ⟨ra, hra⟩ : ∃ q, backA l a m p = q := ⟨_, rfl⟩
  obtain ⟨rm, hrm⟩ : ∃ q, backM l a m p = q := ⟨_, rfl⟩
  obtain ⟨T, hT'⟩ : ∃ T, backP l a m p = T := ⟨_, rfl⟩
  have hal := ((Below.refl w.heap.size w).alloc (Nat.le_refl _) (.cells #[.int .i64 a, .int .i64 m, .slice Ap p.length cp] 25)).alloc (by simp) (.cells #[.int .i64 0, .int .i64 0, .slice none 0 0] 25)
  have bE := (EBox.new w a m Ap p.length cp).below ((Below.refl _ _).alloc (Nat.le_refl _) (.cells #[.int .i64 0, .int .i64 0, .slice none 0 0] 25))
  have bR := EBox.new (w.alloc (.cells #[.int .i64 a, .int .i64 m, .slice Ap p.length cp] 25)) 0 0 none 0 0
  rw [World.size_alloc] at bR
  have HQ := Lib.hid hq
  have HRA := Lib.hid hra
  have HRM := Lib.hid hrm
  have HT := Lib.hid hT'
  rw [hT', hq, hra, hrm]
  clear hq hT' hra hrm
  go_enter Tryd.func17, Tryd.ntmps17
  go_wp2_with fail
  generalize (w.alloc (.cells #[.int .i64 a, .int .i64 m, .slice Ap p.length cp] 25)).alloc (.cells #[.int .i64 0, .int .i64 0, .slice none 0 0] 25) = W1 at *
  refine (whereBack_any A l c a m Ap p cp _ hl hc9 hpc hcp9 hm9 hPl (by exact hT.below hal) (by exact hA.below hal) (by exact hP.below hal)).mono ?_
  rintro e w3 ⟨v3, rfl, hown3, hb3⟩
  rw [HQ.out, HRA.out, HRM.out]
  rw [HT.out] at hown3
  have hlt0 := bR.lt
  have hz0 := hal.size
  have bR := bR.below hb3
  have hb3 := below_then hal hb3
  obtain ⟨A3, c3, rfl, _, _, _⟩ := hown3.form
  have r0 := bR.c0
  have r1 := bR.c1
  have r2 := bR.c2
  have f0 := bR.blk.frozen 0
  have f1 := bR.blk.frozen 1
  have f2 := bR.blk.frozen 2
  have hlt := bR.lt
  go_wp2
  refine bodyPost_ret (v := .tuple #[.agg #[.int .i64 ra, .int .i64 rm, .slice A3 T.length c3], .bool q]) (by simp [results, Tryd.results17, go_sem, r0, r1, r2]) rfl ⟨.slice A3 T.length c3, rfl, ?_, ?_⟩
  · have h9 : ∀ (W : World) (i : Nat) (u : Value), Own W W1.heap.size (.slice A3 T.length c3) T → Own (W.setCell ⟨w.heap.size + 1, i, none⟩ u) W1.heap.size (.slice A3 T.length c3) T := fun W i u h => h.setBelow (by simpa using hlt0) u
    exact (h9 _ _ _ (h9 _ _ _ (h9 _ _ _ hown3))).mono hz0
  · (repeat (first | exact Below.refl _ _ | assumption | refine Below.setCell ?_ (by first | (simp; done) | (simp; omega) | omega) _ | refine Below.drew ?_ | refine below_drewN ?_ _ | refine Below.alloc ?_ (by first | (simp; done) | (simp; omega) | omega) _))
end Go.Proofs.YtepffgahgfipjaaDoor
