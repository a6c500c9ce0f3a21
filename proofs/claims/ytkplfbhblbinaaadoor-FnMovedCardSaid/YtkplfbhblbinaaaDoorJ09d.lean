/-
  Chapter 6, edits moved: contracts of the model and of the program. Own work.
  Chapter 6, the program's EditMove: contract. Own work.
-/
import Derived.Test.YtkplfbhblbinaaaDoorJ09
import Derived.Test.YtkplfbhblbinaaaDoorCl
import Derived.Test.YtkplfbhblbinaaaDoorS08
import Derived.Deep.RegionHeld3
namespace Go.Proofs.YtkplfbhblbinaaaDoor
open Go.RowKit P
set_option linter.unusedVariables false
set_option linter.unusedSimpArgs false
set_option maxRecDepth 100000

theorem moveP_len (a m : Int) (p : List UInt8) (b n : Int) (q : List UInt8) : (moveP a m p b n q).length ≤ 400 := by
  unfold moveP
  split
  · rename_i h
    unfold moveOk at h
    rw [Bool.and_eq_true, edSmall_iff] at h
    omega
  · exact Nat.zero_le _
theorem move_no {a m : Int} {p : List UInt8} {b n : Int} {q : List UInt8} (h : moveOk a m p b n q = false) : moveA a m p b n q = 0 ∧ moveM a m p b n q = 0 ∧ moveP a m p b n q = [] := by
  unfold moveA moveM moveP; rw [h]; exact ⟨rfl, rfl, rfl⟩
theorem moveP_yes {a m : Int} {p : List UInt8} {b n : Int} {q : List UInt8} (h : moveOk a m p b n q = true) : moveP a m p b n q = p := by unfold moveP; rw [h]; rfl

set_option maxHeartbeats 8000000 in
theorem specEditMove_any (a m : Int) (A : Option Addr) (p : List UInt8) (c : Nat) (b n : Int) (B : Option Addr) (q : List UInt8) (d : Nat) (w : World) (hp9 : p.length ≤ 9223372036854775807) (hq9 : q.length ≤ 9223372036854775807) (hA : Bs w A p) :
    Calls Tryd.prog 36 #[.agg #[.int .i64 a, .int .i64 m, .slice A p.length c], .agg #[.int .i64 b, .int .i64 n, .slice B q.length d]] w (MakesEd (moveA a m p b n q) (moveM a m p b n q) (moveP a m p b n q) (moveOk a m p b n q) w) := by
  have hal := (((Below.refl w.heap.size w).alloc (Nat.le_refl _) (.cells #[.int .i64 a, .int .i64 m, .slice A p.length c] 25)).alloc (by simp) (.cells #[.int .i64 b, .int .i64 n, .slice B q.length d] 25)).alloc (by simp; omega) (.cells #[.int .i64 0, .int .i64 0, .slice none 0 0] 25)
  have bA := ((EBox.new w a m A p.length c).below ((Below.refl _ _).alloc (Nat.le_refl _) (.cells #[.int .i64 b, .int .i64 n, .slice B q.length d] 25))).below ((Below.refl _ _).alloc (Nat.le_refl _) (.cells #[.int .i64 0, .int .i64 0, .slice none 0 0] 25))
  have bB := (EBox.new (w.alloc (.cells #[.int .i64 a, .int .i64 m, .slice A p.length c] 25)) b n B q.length d).below ((Below.refl _ _).alloc (Nat.le_refl _) (.cells #[.int .i64 0, .int .i64 0, .slice none 0 0] 25))
  have bR := EBox.new ((w.alloc (.cells #[.int .i64 a, .int .i64 m, .slice A p.length c] 25)).alloc (.cells #[.int .i64 b, .int .i64 n, .slice B q.length d] 25)) 0 0 none 0 0
  simp only [World.size_alloc] at bB bR
  obtain ⟨z1, h1⟩ : ∃ z, edSmall a m p = z := ⟨_, rfl⟩
  obtain ⟨z2, h2⟩ : ∃ z, edSmall b n q = z := ⟨_, rfl⟩
  obtain ⟨ra, hra⟩ : ∃ z, moveA a m p b n q = z := ⟨_, rfl⟩
  obtain ⟨rm, hrm⟩ : ∃ z, moveM a m p b n q = z := ⟨_, rfl⟩
  obtain ⟨R, hR⟩ : ∃ z, moveP a m p b n q = z := ⟨_, rfl⟩
  obtain ⟨ok, hok⟩ : ∃ z, moveOk a m p b n q = z := ⟨_, rfl⟩
  have hoq : ok = (z1 && z2) := by rw [← hok, ← h1, ← h2]; rfl
  have hno : (z1 && z2) = false → ra = 0 ∧ rm = 0 ∧ R = [] ∧ ok = false := fun h => by
    have h9 := move_no (hok.trans (hoq.trans h))
    rw [← hra, ← hrm, ← hR, hoq, h]
    exact ⟨h9.1, h9.2.1, h9.2.2, rfl⟩
  have hyes : (z1 && z2) = true → spanI a (a + m) b n q = ra ∧ spanJ a (a + m) b n q = ra + rm ∧ R = p ∧ ok = true := fun h => by
    have h9 := moveOk_span (hok.trans (hoq.trans h))
    rw [← hra, ← hrm, ← hR, hoq, h, ← h9.2.2, ← h9.2.1]
    exact ⟨rfl, by omega, moveP_yes (hok.trans (hoq.trans h)), rfl⟩
  have hbd : (z1 && z2) = true → 0 ≤ ra ∧ ra ≤ 1200 ∧ 0 ≤ rm ∧ rm ≤ 1600 := fun h => by
    rw [Bool.and_eq_true] at h
    have s := (edSmall_iff a m p).1 (h1.trans h.1)
    have s2 := (edSmall_iff b n q).1 (h2.trans h.2)
    have hk : moveOk a m p b n q = true := by unfold moveOk; rw [h1, h2, h.1, h.2]; rfl
    have h3 := spI_bd (i := a) (a := b) (m := n) (n := q.length) (by omega) (by omega) (by omega) (by omega)
    have h4 := spJ_bd (i := a) (j := a + m) (a := b) (m := n) (n := q.length) (by omega) (by omega) (by omega) (by omega) (by omega)
    rw [← hra, ← hrm]
    unfold moveA moveM
    rw [hk, if_pos rfl, if_pos rfl]
    omega
  have hs1 : z1 = true → 0 ≤ a ∧ a ≤ 400 ∧ 0 ≤ m ∧ m ≤ 400 ∧ p.length ≤ 400 := fun g => (edSmall_iff a m p).1 (h1.trans g)
  have H1 := Lib.hid h1
  have H2 := Lib.hid h2
  have HN := Lib.hid hno
  have HY := Lib.hid hyes
  have S1 := Lib.hid hs1
  have HBD := Lib.hid hbd
  rw [hra, hrm, hR, hok]
  clear h1 h2 hra hrm hR hok hno hyes hoq hs1 hbd
  go_enter Tryd.func36, Tryd.ntmps36
  go_wp2_with fail
  generalize ((w.alloc (.cells #[.int .i64 a, .int .i64 m, .slice A p.length c] 25)).alloc (.cells #[.int .i64 b, .int .i64 n, .slice B q.length d] 25)).alloc (.cells #[.int .i64 0, .int .i64 0, .slice none 0 0] 25) = W1 at *
  refine (l05Small_any a m A p c _ hp9).mono ?_
  rintro e w2 ⟨rfl, hb2⟩
  rw [H1.out]
  have bA := bA.below hb2
  have bB := bB.below hb2
  have bR := bR.below hb2
  have hb2 := below_then hal hb2
  clear hal
  have a0 := bA.c0
  have a1 := bA.c1
  have a2 := bA.c2
  have b0 := bB.c0
  have b1 := bB.c1
  have b2 := bB.c2
  cases z1
  · have r0 := bR.c0
    have r1 := bR.c1
    have r2 := bR.c2
    have f0 := bR.blk.frozen 0
    have f1 := bR.blk.frozen 1
    have f2 := bR.blk.frozen 2
    obtain ⟨e1, e2, e3, e4⟩ := HN.out rfl
    go_wp2
    refine bodyPost_ret (v := .tuple #[.agg #[.int .i64 0, .int .i64 0, .slice none 0 0], .bool false]) (by simp [results, Tryd.results36, go_sem, r0, r1, r2]) rfl ⟨.slice none 0 0, by rw [e1, e2, e4], by rw [e3]; exact Own.nil _ _, ?_⟩
    (repeat (first | exact Below.refl _ _ | assumption | refine Below.setCell ?_ (by first | (simp; done) | (simp; omega) | omega) _ | refine Below.drew ?_ | refine below_drewN ?_ _ | refine Below.alloc ?_ (by first | (simp; done) | (simp; omega) | omega) _))
  go_wp2_with fail
  refine (l05Small_any b n B q d _ hq9).mono ?_
  rintro e w3 ⟨rfl, hb3⟩
  rw [H2.out]
  have bA := bA.below hb3
  have bB := bB.below hb3
  have bR := bR.below hb3
  have hb3 := below_then hb2 hb3
  clear hb2 a0 a1 a2 b0 b1 b2
  have a0 := bA.c0
  have a1 := bA.c1
  have a2 := bA.c2
  have b0 := bB.c0
  have b1 := bB.c1
  have b2 := bB.c2
  cases z2
  · have r0 := bR.c0
    have r1 := bR.c1
    have r2 := bR.c2
    have f0 := bR.blk.frozen 0
    have f1 := bR.blk.frozen 1
    have f2 := bR.blk.frozen 2
    obtain ⟨e1, e2, e3, e4⟩ := HN.out rfl
    go_wp2
    refine bodyPost_ret (v := .tuple #[.agg #[.int .i64 0, .int .i64 0, .slice none 0 0], .bool false]) (by simp [results, Tryd.results36, go_sem, r0, r1, r2]) rfl ⟨.slice none 0 0, by rw [e1, e2, e4], by rw [e3]; exact Own.nil _ _, ?_⟩
    (repeat (first | exact Below.refl _ _ | assumption | refine Below.setCell ?_ (by first | (simp; done) | (simp; omega) | omega) _ | refine Below.drew ?_ | refine below_drewN ?_ _ | refine Below.alloc ?_ (by first | (simp; done) | (simp; omega) | omega) _))
  have s1 := S1.out (by trivial)
  obtain ⟨e1, e2, e3, e4⟩ := HY.out (by trivial)
  have hbd := HBD.out (by trivial)
  have hwr : IntKind.i64.wrap (a + m) = a + m := IntWalk.i64_in _ ⟨by omega, by omega⟩
  have hwr2 : IntKind.i64.wrap (ra + rm - ra) = rm := by rw [show ra + rm - ra = rm by omega]; exact IntWalk.i64_in _ ⟨by omega, by omega⟩
  have E1 := Lib.hid e1
  have E2 := Lib.hid e2
  subst e3
  subst e4
  clear e1 e2 HN HY S1 HBD
  go_wp2_with fail
  refine (specSpanMove_any a (a + m) b n B q d _ hq9).mono ?_
  rintro e w4 ⟨rfl, hb4⟩
  rw [E1.out, E2.out]
  have bA := bA.below hb4
  have bR := bR.below hb4
  have hltw := bR.lt
  have hb4 := below_then hb3 hb4
  have hA4 := hA.below hb4
  clear hb3 a0 a1 a2 b0 b1 b2 bB
  have a2 := bA.c2
  have hown0 : Own (w4.alloc (.cells #[] 5)) w4.heap.size (.slice (some ⟨w4.heap.size, 0, none⟩) 0 0) [] := World.ownsRow_made w4 #[] 0 (Nat.le_refl _) (by unfold maxLen; omega) rfl
  have hal := (Below.refl w4.heap.size w4).alloc (Nat.le_refl _) (.cells #[] 5)
  have hA0 := hA4.below hal
  have bA0 := bA.below hal
  have c2 := bA0.c2
  go_wp2_with (at_builtin; go_must (refine wpList_app_bytes rfl _ _ rfl w4.heap.size _ [] R A R.length c rfl rfl rfl hown0 hA0 ?c1 ?c2 ?_))
  case c1 => simp; omega
  case c2 => simp
  intro v5 w5 hown5 hg5 _
  have hb5 := hal.grown hg5 (by simp) (fun x hx => (World.ownsRow.lt hown0 x hx).1)
  obtain ⟨A5, c5, rfl, _, _, _⟩ := hown5.form
  have bR := bR.below hb5
  have hlt := bR.lt
  have hb9 := below_then hb4 hb5
  have hz := hb4.size
  have r0 := bR.c0
  have r1 := bR.c1
  have r2 := bR.c2
  have f0 := bR.blk.frozen 0
  have f1 := bR.blk.frozen 1
  have f2 := bR.blk.frozen 2
  have hown9 : Own w5 w4.heap.size (.slice A5 R.length c5) R := hown5
  have HO := Lib.hid hown9
  go_wp2
  refine bodyPost_ret (v := .tuple #[.agg #[.int .i64 ra, .int .i64 rm, .slice A5 R.length c5], .bool true]) (by simp [results, Tryd.results36, go_sem, r0, r1, r2]) rfl ⟨.slice A5 R.length c5, rfl, ?_, ?_⟩
  · have h9 : ∀ (W : World) (i : Nat) (u : Value), Own W w4.heap.size (.slice A5 R.length c5) R → Own (W.setCell ⟨w.heap.size + 1 + 1, i, none⟩ u) w4.heap.size (.slice A5 R.length c5) R := fun W i u h => h.setBelow (by simpa using hltw) u
    exact (h9 _ _ _ (h9 _ _ _ (h9 _ _ _ HO.out))).mono hz
  · (repeat (first | exact Below.refl _ _ | assumption | refine Below.setCell ?_ (by first | (simp; done) | (simp; omega) | omega) _ | refine Below.drew ?_ | refine below_drewN ?_ _ | refine Below.alloc ?_ (by first | (simp; done) | (simp; omega) | omega) _))
end Go.Proofs.YtkplfbhblbinaaaDoor

namespace Go.Proofs.YtkplfbhblbinaaaDoor
open Go.RowKit P
set_option linter.unusedVariables false
set_option linter.unusedSimpArgs false
set_option maxRecDepth 100000

set_option maxHeartbeats 8000000 in
theorem implEditMove_any (a m : Int) (A : Option Addr) (p : List UInt8) (c : Nat) (b n : Int) (B : Option Addr) (q : List UInt8) (d : Nat) (w : World) (hp9 : p.length ≤ 9223372036854775807) (hq9 : q.length ≤ 9223372036854775807) (hA : Bs w A p) :
    Calls Tryd.prog 35 #[.agg #[.int .i64 a, .int .i64 m, .slice A p.length c], .agg #[.int .i64 b, .int .i64 n, .slice B q.length d]] w (MakesEd (moveA a m p b n q) (moveM a m p b n q) (moveP a m p b n q) (moveOk a m p b n q) w) := by
  have hal := (((Below.refl w.heap.size w).alloc (Nat.le_refl _) (.cells #[.int .i64 a, .int .i64 m, .slice A p.length c] 25)).alloc (by simp) (.cells #[.int .i64 b, .int .i64 n, .slice B q.length d] 25)).alloc (by simp; omega) (.cells #[.int .i64 0, .int .i64 0, .slice none 0 0] 25)
  have bA := ((EBox.new w a m A p.length c).below ((Below.refl _ _).alloc (Nat.le_refl _) (.cells #[.int .i64 b, .int .i64 n, .slice B q.length d] 25))).below ((Below.refl _ _).alloc (Nat.le_refl _) (.cells #[.int .i64 0, .int .i64 0, .slice none 0 0] 25))
  have bB := (EBox.new (w.alloc (.cells #[.int .i64 a, .int .i64 m, .slice A p.length c] 25)) b n B q.length d).below ((Below.refl _ _).alloc (Nat.le_refl _) (.cells #[.int .i64 0, .int .i64 0, .slice none 0 0] 25))
  have bR := EBox.new ((w.alloc (.cells #[.int .i64 a, .int .i64 m, .slice A p.length c] 25)).alloc (.cells #[.int .i64 b, .int .i64 n, .slice B q.length d] 25)) 0 0 none 0 0
  simp only [World.size_alloc] at bB bR
  obtain ⟨z1, h1⟩ : ∃ z, edSmall a m p = z := ⟨_, rfl⟩
  obtain ⟨z2, h2⟩ : ∃ z, edSmall b n q = z := ⟨_, rfl⟩
  obtain ⟨ra, hra⟩ : ∃ z, moveA a m p b n q = z := ⟨_, rfl⟩
  obtain ⟨rm, hrm⟩ : ∃ z, moveM a m p b n q = z := ⟨_, rfl⟩
  obtain ⟨R, hR⟩ : ∃ z, moveP a m p b n q = z := ⟨_, rfl⟩
  obtain ⟨ok, hok⟩ : ∃ z, moveOk a m p b n q = z := ⟨_, rfl⟩
  have hoq : ok = (z1 && z2) := by rw [← hok, ← h1, ← h2]; rfl
  have hno : (z1 && z2) = false → ra = 0 ∧ rm = 0 ∧ R = [] ∧ ok = false := fun h => by
    have h9 := move_no (hok.trans (hoq.trans h))
    rw [← hra, ← hrm, ← hR, hoq, h]
    exact ⟨h9.1, h9.2.1, h9.2.2, rfl⟩
  have hyes : (z1 && z2) = true → spanI a (a + m) b n q = ra ∧ spanJ a (a + m) b n q = ra + rm ∧ R = p ∧ ok = true := fun h => by
    have h9 := moveOk_span (hok.trans (hoq.trans h))
    rw [← hra, ← hrm, ← hR, hoq, h, ← h9.2.2, ← h9.2.1]
    exact ⟨rfl, by omega, moveP_yes (hok.trans (hoq.trans h)), rfl⟩
  have hbd : (z1 && z2) = true → 0 ≤ ra ∧ ra ≤ 1200 ∧ 0 ≤ rm ∧ rm ≤ 1600 := fun h => by
    rw [Bool.and_eq_true] at h
    have s := (edSmall_iff a m p).1 (h1.trans h.1)
    have s2 := (edSmall_iff b n q).1 (h2.trans h.2)
    have hk : moveOk a m p b n q = true := by unfold moveOk; rw [h1, h2, h.1, h.2]; rfl
    have h3 := spI_bd (i := a) (a := b) (m := n) (n := q.length) (by omega) (by omega) (by omega) (by omega)
    have h4 := spJ_bd (i := a) (j := a + m) (a := b) (m := n) (n := q.length) (by omega) (by omega) (by omega) (by omega) (by omega)
    rw [← hra, ← hrm]
    unfold moveA moveM
    rw [hk, if_pos rfl, if_pos rfl]
    omega
  have hs1 : z1 = true → 0 ≤ a ∧ a ≤ 400 ∧ 0 ≤ m ∧ m ≤ 400 ∧ p.length ≤ 400 := fun g => (edSmall_iff a m p).1 (h1.trans g)
  have H1 := Lib.hid h1
  have H2 := Lib.hid h2
  have HN := Lib.hid hno
  have HY := Lib.hid hyes
  have S1 := Lib.hid hs1
  have HBD := Lib.hid hbd
  rw [hra, hrm, hR, hok]
  clear h1 h2 hra hrm hR hok hno hyes hoq hs1 hbd
  go_enter Tryd.func35, Tryd.ntmps35
  go_wp2_with fail
  generalize ((w.alloc (.cells #[.int .i64 a, .int .i64 m, .slice A p.length c] 25)).alloc (.cells #[.int .i64 b, .int .i64 n, .slice B q.length d] 25)).alloc (.cells #[.int .i64 0, .int .i64 0, .slice none 0 0] 25) = W1 at *
  refine (isSmall_any a m A p c _ hp9).mono ?_
  rintro e w2 ⟨rfl, hb2⟩
  rw [H1.out]
  have bA := bA.below hb2
  have bB := bB.below hb2
  have bR := bR.below hb2
  have hb2 := below_then hal hb2
  clear hal
  have a0 := bA.c0
  have a1 := bA.c1
  have a2 := bA.c2
  have b0 := bB.c0
  have b1 := bB.c1
  have b2 := bB.c2
  cases z1
  · have r0 := bR.c0
    have r1 := bR.c1
    have r2 := bR.c2
    have f0 := bR.blk.frozen 0
    have f1 := bR.blk.frozen 1
    have f2 := bR.blk.frozen 2
    obtain ⟨e1, e2, e3, e4⟩ := HN.out rfl
    go_wp2
    refine bodyPost_ret (v := .tuple #[.agg #[.int .i64 0, .int .i64 0, .slice none 0 0], .bool false]) (by simp [results, Tryd.results35, go_sem, r0, r1, r2]) rfl ⟨.slice none 0 0, by rw [e1, e2, e4], by rw [e3]; exact Own.nil _ _, ?_⟩
    (repeat (first | exact Below.refl _ _ | assumption | refine Below.setCell ?_ (by first | (simp; done) | (simp; omega) | omega) _ | refine Below.drew ?_ | refine below_drewN ?_ _ | refine Below.alloc ?_ (by first | (simp; done) | (simp; omega) | omega) _))
  go_wp2_with fail
  refine (isSmall_any b n B q d _ hq9).mono ?_
  rintro e w3 ⟨rfl, hb3⟩
  rw [H2.out]
  have bA := bA.below hb3
  have bB := bB.below hb3
  have bR := bR.below hb3
  have hb3 := below_then hb2 hb3
  clear hb2 a0 a1 a2 b0 b1 b2
  have a0 := bA.c0
  have a1 := bA.c1
  have a2 := bA.c2
  have b0 := bB.c0
  have b1 := bB.c1
  have b2 := bB.c2
  cases z2
  · have r0 := bR.c0
    have r1 := bR.c1
    have r2 := bR.c2
    have f0 := bR.blk.frozen 0
    have f1 := bR.blk.frozen 1
    have f2 := bR.blk.frozen 2
    obtain ⟨e1, e2, e3, e4⟩ := HN.out rfl
    go_wp2
    refine bodyPost_ret (v := .tuple #[.agg #[.int .i64 0, .int .i64 0, .slice none 0 0], .bool false]) (by simp [results, Tryd.results35, go_sem, r0, r1, r2]) rfl ⟨.slice none 0 0, by rw [e1, e2, e4], by rw [e3]; exact Own.nil _ _, ?_⟩
    (repeat (first | exact Below.refl _ _ | assumption | refine Below.setCell ?_ (by first | (simp; done) | (simp; omega) | omega) _ | refine Below.drew ?_ | refine below_drewN ?_ _ | refine Below.alloc ?_ (by first | (simp; done) | (simp; omega) | omega) _))
  have s1 := S1.out (by trivial)
  obtain ⟨e1, e2, e3, e4⟩ := HY.out (by trivial)
  have hbd := HBD.out (by trivial)
  have hwr : IntKind.i64.wrap (a + m) = a + m := IntWalk.i64_in _ ⟨by omega, by omega⟩
  have HWR := Lib.hid hwr
  have hwr2 : IntKind.i64.wrap (ra + rm - ra) = rm := by rw [show ra + rm - ra = rm by omega]; exact IntWalk.i64_in _ ⟨by omega, by omega⟩
  have E1 := Lib.hid e1
  have E2 := Lib.hid e2
  subst e3
  subst e4
  clear e1 e2 HN HY S1 HBD
  have HA := Lib.hid bA
  have HBB := Lib.hid bB
  have HRR := Lib.hid bR
  have HAL := Lib.hid hb3
  clear bA bB bR hb3
  go_wp2_with fail
  refine wp_region_held_drew (S := (fun V => V.cell? ⟨w.heap.size, 0, none⟩ = some (.int .i64 a) ∧ V.cell? ⟨w.heap.size, 1, none⟩ = some (.int .i64 m) ∧ V.cell? ⟨w.heap.size, 2, none⟩ = some (.slice A R.length c) ∧ V.cell? ⟨w.heap.size + 1, 0, none⟩ = some (.int .i64 b) ∧ V.cell? ⟨w.heap.size + 1, 1, none⟩ = some (.int .i64 n) ∧ V.cell? ⟨w.heap.size + 1, 2, none⟩ = some (.slice B q.length d))) (by kernel_rfl) (by exact ⟨a0, a1, a2, b0, b1, b2⟩) (fun hHeld => ?_)
  clear a0 a1 a2 b0 b1 b2
  refine wpAnyH_take (i := 0) (oi := ?_) (v := ?_) ?_ ?_ ?_ ?_ ?_ ?_ (by exact hHeld) ?_
  rotate_left 2
  · (simp only [List.getElem?_toArray, List.getElem?_cons_zero]; try rfl)
  · kernel_rfl
  · kernel_rfl
  · kernel_rfl
  · exact fun _ _ _ h => h
  · refine Or.inl ⟨by rfl, ?_⟩
    (intro V hSV; (try dsimp only at hSV); obtain ⟨q0, q1, q2, q3, q4, q5⟩ := hSV; go_simp; try with_reducible rfl)
  (try simp only [Act.put, List.setIfInBounds_toArray, List.set_cons_zero, List.set_cons_succ])
  refine wpAnyH_take (i := 1) (oi := ?_) (v := ?_) ?_ ?_ ?_ ?_ ?_ ?_ (by exact hHeld) ?_
  rotate_left 2
  · (simp only [List.getElem?_toArray, List.getElem?_cons_zero, List.getElem?_cons_succ]; try rfl)
  · kernel_rfl
  · kernel_rfl
  · kernel_rfl
  · exact fun _ _ _ h => h
  · refine Or.inl ⟨by rfl, ?_⟩
    (intro V hSV; (try dsimp only at hSV); obtain ⟨q0, q1, q2, q3, q4, q5⟩ := hSV; go_simp; try with_reducible rfl)
  (try simp only [Act.put, List.setIfInBounds_toArray, List.set_cons_zero, List.set_cons_succ])
  refine wpAnyH_take (i := 2) (oi := ?_) (v := ?_) ?_ ?_ ?_ ?_ ?_ ?_ (by exact hHeld) ?_
  rotate_left 2
  · (simp only [List.getElem?_toArray, List.getElem?_cons_zero, List.getElem?_cons_succ]; try rfl)
  · kernel_rfl
  · kernel_rfl
  · kernel_rfl
  · exact fun _ _ _ h => h
  · refine Or.inl ⟨by rfl, ?_⟩
    (intro V hSV; (try dsimp only at hSV); obtain ⟨q0, q1, q2, q3, q4, q5⟩ := hSV; go_simp; try with_reducible rfl)
  (try simp only [Act.put, List.setIfInBounds_toArray, List.set_cons_zero, List.set_cons_succ])
  refine wpAnyH_take (i := 4) (oi := ?_) (v := ?_) ?_ ?_ ?_ ?_ ?_ ?_ (by exact hHeld) ?_
  rotate_left 2
  · (simp only [List.getElem?_toArray, List.getElem?_cons_zero, List.getElem?_cons_succ]; try rfl)
  · kernel_rfl
  · kernel_rfl
  · kernel_rfl
  · exact fun _ _ _ h => h
  · refine Or.inl ⟨by rfl, ?_⟩
    (intro V hSV; (try dsimp only at hSV); obtain ⟨q0, q1, q2, q3, q4, q5⟩ := hSV; go_simp; try with_reducible rfl)
  (try simp only [Act.put, List.setIfInBounds_toArray, List.set_cons_zero, List.set_cons_succ])
  refine wpAnyH_ready (rs := [3]) (by kernel_rfl) (by simp) ?_
  refine AllReadyH.cons rfl (fun K hK => ?_) AllReadyH.nil
  go_simp
  refine (edEnd_any a m (a + m) A R.length c _ HWR.out).mono ?_
  rintro e w4 ⟨rfl, hb⟩
  have hb : Below w3.heap.size w3 w4 := ⟨hb.os, hb.tape, hb.output, hb.size, hb.block⟩
  have HB4 := Lib.hid hb
  clear hb
  go_wp2_with fail
  refine hK.out _ _ (by exact ⟨(HA.out.below HB4.out).c0, (HA.out.below HB4.out).c1, (HA.out.below HB4.out).c2, (HBB.out.below HB4.out).c0, (HBB.out.below HB4.out).c1, (HBB.out.below HB4.out).c2⟩) (fun hHeld => ?_)
  clear hK K
  (try simp only [Act.put, List.setIfInBounds_toArray, List.set_cons_zero, List.set_cons_succ])
  refine wpAnyH_ready (rs := [5]) (by kernel_rfl) (by simp) ?_
  refine AllReadyH.cons rfl (fun K hK => ?_) AllReadyH.nil
  go_simp
  refine (implSpanMove_any a (a + m) b n B q d _ hq9).mono ?_
  rintro e w5 ⟨rfl, hb⟩
  rw [E1.out, E2.out]
  have hb : Below w4.heap.size w4 w5 := ⟨hb.os, hb.tape, hb.output, hb.size, hb.block⟩
  have HB5 := Lib.hid (below_then HB4.out hb)
  clear hb
  go_wp2_with fail
  refine hK.out _ _ (by exact ⟨(HA.out.below HB5.out).c0, (HA.out.below HB5.out).c1, (HA.out.below HB5.out).c2, (HBB.out.below HB5.out).c0, (HBB.out.below HB5.out).c1, (HBB.out.below HB5.out).c2⟩) (fun hHeld => ?_)
  clear hK K
  (try simp only [Act.put, List.setIfInBounds_toArray, List.set_cons_zero, List.set_cons_succ])
  refine wpAnyH_take (i := 6) (oi := ?_) (v := ?_) ?_ ?_ ?_ ?_ ?_ ?_ (by exact hHeld) ?_
  rotate_left 2
  · (simp only [List.getElem?_toArray, List.getElem?_cons_zero, List.getElem?_cons_succ]; try rfl)
  · kernel_rfl
  · kernel_rfl
  · kernel_rfl
  · exact fun _ _ _ h => h
  · refine Or.inl ⟨by rfl, ?_⟩
    (intro V hSV; (try dsimp only at hSV); obtain ⟨q0, q1, q2, q3, q4, q5⟩ := hSV; go_simp; try with_reducible rfl)
  (try simp only [Act.put, List.setIfInBounds_toArray, List.set_cons_zero, List.set_cons_succ])
  refine wpAnyH_take (i := 7) (oi := ?_) (v := ?_) ?_ ?_ ?_ ?_ ?_ ?_ (by exact hHeld) ?_
  rotate_left 2
  · (simp only [List.getElem?_toArray, List.getElem?_cons_zero, List.getElem?_cons_succ]; try rfl)
  · kernel_rfl
  · kernel_rfl
  · kernel_rfl
  · exact fun _ _ _ h => h
  · refine Or.inl ⟨by rfl, ?_⟩
    (intro V hSV; (try dsimp only at hSV); obtain ⟨q0, q1, q2, q3, q4, q5⟩ := hSV; go_simp; try with_reducible rfl)
  (try simp only [Act.put, List.setIfInBounds_toArray, List.set_cons_zero, List.set_cons_succ])
  refine wpAnyH_take (i := 8) (oi := ?_) (v := ?_) ?_ ?_ ?_ ?_ ?_ ?_ (by exact hHeld) ?_
  rotate_left 2
  · (simp only [List.getElem?_toArray, List.getElem?_cons_zero, List.getElem?_cons_succ]; try rfl)
  · kernel_rfl
  · kernel_rfl
  · kernel_rfl
  · exact fun _ _ _ h => h
  · refine Or.inl ⟨by rfl, ?_⟩
    (intro V hSV; (try dsimp only at hSV); obtain ⟨q0, q1, q2, q3, q4, q5⟩ := hSV; go_simp; try with_reducible rfl)
  (try simp only [Act.put, List.setIfInBounds_toArray, List.set_cons_zero, List.set_cons_succ])
  refine wpAnyH_take (i := 9) (oi := ?_) (v := ?_) ?_ ?_ ?_ ?_ ?_ ?_ (by exact hHeld) ?_
  rotate_left 2
  · (simp only [List.getElem?_toArray, List.getElem?_cons_zero, List.getElem?_cons_succ]; try rfl)
  · kernel_rfl
  · kernel_rfl
  · kernel_rfl
  · exact fun _ _ _ h => h
  · refine Or.inl ⟨by rfl, ?_⟩
    (intro V hSV; (try dsimp only at hSV); obtain ⟨q0, q1, q2, q3, q4, q5⟩ := hSV; go_simp; try with_reducible rfl)
  (try simp only [Act.put, List.setIfInBounds_toArray, List.set_cons_zero, List.set_cons_succ])
  refine wpAnyH_take (i := 10) (oi := ?_) (v := ?_) ?_ ?_ ?_ ?_ ?_ ?_ (by exact hHeld) ?_
  rotate_left 2
  · (simp only [List.getElem?_toArray, List.getElem?_cons_zero, List.getElem?_cons_succ]; try rfl)
  · kernel_rfl
  · kernel_rfl
  · kernel_rfl
  · exact fun _ _ _ h => h
  · refine Or.inl ⟨by rfl, ?_⟩
    (intro V hSV; (try dsimp only at hSV); obtain ⟨q0, q1, q2, q3, q4, q5⟩ := hSV; go_simp; try with_reducible rfl)
  (try simp only [Act.put, List.setIfInBounds_toArray, List.set_cons_zero, List.set_cons_succ])
  refine wpAnyH_done (by kernel_rfl) ?_ _
  have bA := HA.out.below HB5.out
  have bR := HRR.out.below HB5.out
  have hltw := bR.lt
  have hb4 := below_then HAL.out HB5.out
  have hA4 := hA.below hb4
  have a2 := bA.c2
  clear HA HBB HRR HAL HB4 HB5
  go_wp2_with fail
  refine (bytesClone_opt A R R.length c _ rfl (by omega) (by exact hA4)).mono ?_
  rintro e w6 ⟨v5, rfl, hown5, hb5⟩
  obtain ⟨A5, c5, rfl, _, _, _⟩ := hown5.form
  have bR := bR.below hb5
  have hlt := bR.lt
  have hb9 := below_then hb4 hb5
  have hz := hb4.size
  have r0 := bR.c0
  have r1 := bR.c1
  have r2 := bR.c2
  have f0 := bR.blk.frozen 0
  have f1 := bR.blk.frozen 1
  have f2 := bR.blk.frozen 2
  have HO := Lib.hid hown5
  clear hown5
  go_wp2
  refine bodyPost_ret (v := .tuple #[.agg #[.int .i64 ra, .int .i64 rm, .slice A5 R.length c5], .bool true]) (by simp [results, Tryd.results35, go_sem, r0, r1, r2]) rfl ⟨.slice A5 R.length c5, rfl, ?_, ?_⟩
  · have h9 : ∀ (W : World) (i : Nat) (u : Value), Own W w5.heap.size (.slice A5 R.length c5) R → Own (W.setCell ⟨w.heap.size + 1 + 1, i, none⟩ u) w5.heap.size (.slice A5 R.length c5) R := fun W i u h => h.setBelow (by simpa using hltw) u
    exact (h9 _ _ _ (h9 _ _ _ (h9 _ _ _ HO.out))).mono hz
  · (repeat (first | exact Below.refl _ _ | assumption | refine Below.setCell ?_ (by first | (simp; done) | (simp; omega) | omega) _ | refine Below.drew ?_ | refine below_drewN ?_ _ | refine Below.alloc ?_ (by first | (simp; done) | (simp; omega) | omega) _))
end Go.Proofs.YtkplfbhblbinaaaDoor
