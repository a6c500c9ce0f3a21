/-
  Chapter 6, an edit moved by a list: contract of the program. Own work.
-/
import Derived.Test.YtnpbdkfkdbfdhaaJ09d
import Derived.Test.YtnpbdkfkdbfdhaaEs
import Derived.Test.YtnpbdkfkdbfdhaaP09b
namespace Go.Proofs.Ytnpbdkfkdbfdhaa
open Go.RowKit P
set_option linter.unusedVariables false
set_option linter.unusedSimpArgs false
set_option maxRecDepth 100000

/-- After k of the list the edit is cur. -/
structure MvRun (e : Ed) (es : List Ed) (k : Nat) (cur : Ed) : Prop where
  r : mvRun e es = mvRun cur (es.drop k)
  l : cur.2.2.length ≤ 400
  i : (-9223372036854775808 ≤ cur.1 ∧ cur.1 ≤ 9223372036854775807) ∧ (-9223372036854775808 ≤ cur.2.1 ∧ cur.2.1 ≤ 9223372036854775807)
theorem MvRun.start {e : Ed} (es : List Ed) (h : edSmall e.1 e.2.1 e.2.2 = true) : MvRun e es 0 e := by
  have := (edSmall_iff _ _ _).1 h
  exact ⟨rfl, by omega, by omega⟩
theorem MvRun.step {e : Ed} {es : List Ed} {k : Nat} {a m : Int} {p : List UInt8} (h : MvRun e es k (a, m, p)) (hk : k < es.length) {b n : Int} {q : List UInt8} (he : es[k] = (b, n, q)) (hok : moveOk a m p b n q = true) :
    MvRun e es (k + 1) (moveA a m p b n q, moveM a m p b n q, moveP a m p b n q) := by
  obtain ⟨e1, e2, e3⟩ := moveA_ok hok
  have ho := hok
  unfold moveOk at ho
  rw [Bool.and_eq_true] at ho
  have s1 := (edSmall_iff _ _ _).1 ho.1
  have s2 := (edSmall_iff _ _ _).1 ho.2
  have b1 := spI_bd (i := a) (a := b) (m := n) (n := q.length) (by omega) (by omega) (by omega) (by omega)
  have b2 := spJ_bd (i := a) (j := a + m) (a := b) (m := n) (n := q.length) (by omega) (by omega) (by omega) (by omega) (by omega)
  refine ⟨?_, by show (moveP a m p b n q).length ≤ 400; rw [e3]; exact h.l, ?_⟩
  · rw [h.r, List.drop_eq_getElem_cons hk, he]
    show (if moveOk a m p b n q = true then mvRun (mvd (a, m, p) (b, n, q)) (es.drop (k + 1)) else _) = _
    rw [if_pos hok]; rfl
  · show (-9223372036854775808 ≤ moveA a m p b n q ∧ _) ∧ (-9223372036854775808 ≤ moveM a m p b n q ∧ _)
    rw [e1, e2]
    refine ⟨⟨by omega, ?_⟩, ⟨by omega, ?_⟩⟩
    · show spI a b n q.length ≤ _; omega
    · show spJ a (a + m) b n q.length - spI a b n q.length ≤ _; omega
theorem MvRun.stop {e : Ed} {es : List Ed} {k : Nat} {a m : Int} {p : List UInt8} (h : MvRun e es k (a, m, p)) (hk : k < es.length) {b n : Int} {q : List UInt8} (he : es[k] = (b, n, q)) (hok : moveOk a m p b n q = false) :
    mvRun e es = ((0, 0, []), false) := by
  rw [h.r, List.drop_eq_getElem_cons hk, he]
  show (if moveOk a m p b n q = true then _ else _) = _
  rw [hok]; rfl
theorem MvRun.done {e : Ed} {es : List Ed} {k : Nat} {cur : Ed} (h : MvRun e es k cur) (hk : k = es.length) : mvRun e es = (cur, true) := by
  rw [h.r, hk, List.drop_length]; rfl

set_option maxHeartbeats 16000000 in
theorem implEditMoves_any (a m : Int) (A : Option Addr) (p : List UInt8) (c : Nat) (B : Option Addr) (es : List Ed) (d : Nat) (w : World) (hp9 : p.length ≤ 9223372036854775807) (hn9 : es.length ≤ 9223372036854775807) (hA : Bs w A p) (hE : Es w B es) :
    Calls Try.prog 17 #[.agg #[.int .i64 a, .int .i64 m, .slice A p.length c], .slice B es.length d] w (MakesEd (moves (a, m, p) es).1.1 (moves (a, m, p) es).1.2.1 (moves (a, m, p) es).1.2.2 (moves (a, m, p) es).2 w) := by
  have hal := ((Below.refl w.heap.size w).alloc (Nat.le_refl _) (.cells #[.int .i64 a, .int .i64 m, .slice A p.length c] 28)).alloc (by simp) (.cells #[.int .i64 0, .int .i64 0, .slice none 0 0] 28)
  have bE := (EBox.new w a m A p.length c).below ((Below.refl _ _).alloc (Nat.le_refl _) (.cells #[.int .i64 0, .int .i64 0, .slice none 0 0] 28))
  have bR := EBox.new (w.alloc (.cells #[.int .i64 a, .int .i64 m, .slice A p.length c] 28)) 0 0 none 0 0
  simp only [World.size_alloc] at bR
  obtain ⟨z, hz⟩ : ∃ z, edSmall a m p = z := ⟨_, rfl⟩
  obtain ⟨V, hV⟩ : ∃ V, moves (a, m, p) es = V := ⟨_, rfl⟩
  have hno : z = false → V = ((0, 0, []), false) := fun h => by
    rw [← hV]; unfold moves
    rw [if_neg (by show ¬ edSmall a m p = true; rw [hz, h]; simp)]
  have hyes : z = true → V = mvRun (a, m, p) es ∧ MvRun (a, m, p) es 0 (a, m, p) := fun h => by
    have h9 : edSmall a m p = true := hz.trans h
    refine ⟨?_, MvRun.start es h9⟩
    rw [← hV]; unfold moves
    rw [if_pos (by exact h9)]
  rw [hV]
  have HZ := Lib.hid hz
  have HNO := Lib.hid hno
  have HYES := Lib.hid hyes
  clear hz hV hno hyes
  go_enter Try.func17, Try.ntmps17
  go_wp2_with fail
  generalize (w.alloc (.cells #[.int .i64 a, .int .i64 m, .slice A p.length c] 28)).alloc (.cells #[.int .i64 0, .int .i64 0, .slice none 0 0] 28) = W1 at *
  refine (isSmall_any a m A p c _ hp9).mono ?_
  rintro e w2 ⟨rfl, hb2⟩
  rw [HZ.out]
  have bE := bE.below hb2
  have bR := bR.below hb2
  have hb2 := below_then hal hb2
  clear hal
  cases z
  · have r0 := bR.c0
    have r1 := bR.c1
    have r2 := bR.c2
    have f0 := bR.blk.frozen 0
    have f1 := bR.blk.frozen 1
    have f2 := bR.blk.frozen 2
    have hv := HNO.out rfl
    subst hv
    go_wp2
    refine bodyPost_ret (v := .tuple #[.agg #[.int .i64 0, .int .i64 0, .slice none 0 0], .bool false]) (by simp [results, Try.results17, go_sem, r0, r1, r2]) rfl ⟨.slice none 0 0, rfl, Own.nil _ _, ?_⟩
    (repeat (first | exact Below.refl _ _ | assumption | refine Below.setCell ?_ (by first | (simp; done) | (simp; omega) | omega) _ | refine Below.drew ?_ | refine below_drewN ?_ _ | refine Below.alloc ?_ (by first | (simp; done) | (simp; omega) | omega) _))
  obtain ⟨hv, hst⟩ := HYES.out (by trivial)
  have hp4 : p.length ≤ 400 := hst.l
  have HV := Lib.hid hv
  have HST := Lib.hid hst
  have e2 := bE.c2
  clear hv hst HNO HYES
  go_wp2_with fail
  refine (bytesClone_opt A p p.length c _ rfl (by omega) (by exact hA.below hb2)).mono ?_
  rintro e w3 ⟨v3, rfl, hown3, hb3⟩
  obtain ⟨A3, c3, rfl, _, _, _⟩ := hown3.form
  have bE3 := bE.below hb3
  have bR3 := bR.below hb3
  have hlt := bR.lt
  have hltE := bE.lt
  have hb4 := below_then hb2 hb3
  have hz2 := hb2.size
  have k0 := bE3.c0
  have k1 := bE3.c1
  have k2 := bE3.c2
  have f2 := bE3.blk.frozen 2
  have bE4 := (show EBox (w3.setCell ⟨w.heap.size, 2, none⟩ (.slice A3 p.length c3)) w.heap.size a m A3 p.length c3 from ⟨by simpa using bE3.blk.set 2 (.slice A3 p.length c3)⟩)
  have bR4 : EBox (w3.setCell ⟨w.heap.size, 2, none⟩ (.slice A3 p.length c3)) (w.heap.size + 1) 0 0 none 0 0 := ⟨bR3.blk.setFar9 (by omega) 2 _⟩
  have hown4 : Own (w3.setCell ⟨w.heap.size, 2, none⟩ (.slice A3 p.length c3)) (w.heap.size + 2) (.slice A3 p.length c3) p := (hown3.setBelow (a := ⟨w.heap.size, 2, none⟩) (by simpa using hltE) (.slice A3 p.length c3)).mono (by omega)
  have hb5 := hb4.setCell (p := ⟨w.heap.size, 2, none⟩) (Nat.le_refl _) (.slice A3 p.length c3)
  have hwn : w.heap.size + 2 ≤ (w3.setCell ⟨w.heap.size, 2, none⟩ (.slice A3 p.length c3)).heap.size := by
    have := hb3.size
    rw [World.size_setCell]; omega
  clear e2 bE bR bE3 bR3 hown3 hb3
  go_upto_region 5 with fail
  clear k0 k1 k2 f2
  generalize w3.setCell ⟨w.heap.size, 2, none⟩ (.slice A3 p.length c3) = W4 at *
  go_loopw [20] (fun i wr => ∃ (k : Nat) (x y : Int) (q : List UInt8) (A' : Option Addr) (c' : Nat), i = .int .i64 k ∧ k ≤ es.length ∧ EBox wr w.heap.size x y A' q.length c' ∧ EBox wr (w.heap.size + 1) 0 0 none 0 0 ∧ Own wr (w.heap.size + 2) (.slice A' q.length c') q ∧ w.heap.size + 2 ≤ wr.heap.size ∧ Hid (MvRun (a, m, p) es k (x, y, q)) ∧ Below w.heap.size w wr) (fun i _ => es.length - (intOf i).toNat)
  case atStart => exact ⟨0, a, m, p, A3, c3, rfl, Nat.zero_le _, bE4, bR4, hown4, hwn, HST, hb5⟩
  case round =>
    obtain ⟨k, x, y, q, A', c', rfl, hk, bE, bR, hown, hwn, HR, hb⟩ := hrel
    by_cases hlt' : k < es.length
    · obtain ⟨bb, off, b, n, Bp, s, ds, rfl, hbl, hek, k0, k1, k2, hbr, hnr, hsd, hsm, hBs⟩ := (hE.below hb).at_ k hlt'
      have hs9 : s.length ≤ 9223372036854775807 := by unfold maxLen at hsm; omega
      have hq4 : q.length ≤ 400 := HR.out.l
      have hq9 : q.length ≤ 9223372036854775807 := by omega
      obtain ⟨ok, hok⟩ : ∃ z, moveOk x y q b n s = z := ⟨_, rfl⟩
      obtain ⟨ra, hra⟩ : ∃ z, moveA x y q b n s = z := ⟨_, rfl⟩
      obtain ⟨rm, hrm⟩ : ∃ z, moveM x y q b n s = z := ⟨_, rfl⟩
      obtain ⟨R, hR⟩ : ∃ z, moveP x y q b n s = z := ⟨_, rfl⟩
      have HOK := Lib.hid hok
      have HRA := Lib.hid hra
      have HRM := Lib.hid hrm
      have HRP := Lib.hid hR
      have HEK := Lib.hid hek
      have hal := (Below.refl wr.heap.size wr).alloc (Nat.le_refl _) (.cells #[.int .i64 b, .int .i64 n, .slice Bp s.length ds] 28)
      have bE := bE.below hal
      have bR := bR.below hal
      have hown := hown.below hal
      have hb := below_then hb hal
      have bY := EBox.new wr b n Bp s.length ds
      have hQ : Bs _ A' q := own_bs9 hown
      have x0 := bE.c0
      have x1 := bE.c1
      have x2 := bE.c2
      have hz4 := hal.size
      have hki : (k : Int) < (es.length : Int) := by omega
      clear hok hra hrm hR hek hal hBs
      go_wp2_with fail
      generalize wr.alloc (.cells #[.int .i64 b, .int .i64 n, .slice Bp s.length ds] 28) = W5 at *
      refine (implEditMove_any x y A' q c' b n Bp s ds _ hq9 hs9 (by exact hQ)).mono ?_
      rintro e w6 ⟨v6, rfl, hown6, hb6⟩
      rw [HOK.out, HRA.out, HRM.out]
      rw [HRP.out] at hown6
      obtain ⟨A6, c6, rfl, _, _, _⟩ := hown6.form
      have hal := (Below.refl w6.heap.size w6).alloc (Nat.le_refl _) (.cells #[.int .i64 ra, .int .i64 rm, .slice A6 R.length c6] 28)
      have hb7 := below_then hb6 hal
      have bE := bE.below hb7
      have bR := bR.below hb7
      have bM := EBox.new w6 ra rm A6 R.length c6
      have hz6 := hb6.size
      have hown6 := (hown6.below hal).mono (base' := w.heap.size + 2) (by omega)
      have hb := below_then hb hb7
      have hzz := hb7.size
      have hltE2 := bE.lt
      have hltR2 := bR.lt
      clear hown x0 x1 x2 k0 k1 k2 hQ bY hal hb7 hb6
      cases ok
      · have hst := HR.out.stop hlt' HEK.out HOK.out
        have hv := HV.out.trans hst
        have r0 := bR.c0
        have r1 := bR.c1
        have r2 := bR.c2
        have f0 := bR.blk.frozen 0
        have f1 := bR.blk.frozen 1
        have f2 := bR.blk.frozen 2
        clear hst
        subst hv
        go_wp2
        refine bodyPost_ret (v := .tuple #[.agg #[.int .i64 0, .int .i64 0, .slice none 0 0], .bool false]) (by simp [results, Try.results17, go_sem, r0, r1, r2]) rfl ⟨.slice none 0 0, rfl, Own.nil _ _, ?_⟩
        (repeat (first | exact Below.refl _ _ | assumption | refine Below.setCell ?_ (by first | (simp; done) | (simp; omega) | omega) _ | refine Below.drew ?_ | refine below_drewN ?_ _ | refine Below.alloc ?_ (by first | (simp; done) | (simp; omega) | omega) _))
      · have hst := HR.out.step hlt' HEK.out HOK.out
        rw [HRA.out, HRM.out, HRP.out] at hst
        have HS := Lib.hid hst
        have x0 := bM.c0
        have x1 := bM.c1
        have x2 := bM.c2
        have k0 := bE.c0
        have k1 := bE.c1
        have k2 := bE.c2
        have f0 := bE.blk.frozen 0
        have f1 := bE.blk.frozen 1
        have f2 := bE.blk.frozen 2
        have HE8 := Lib.hid bE
        have HR8 := Lib.hid bR
        have HO8 := Lib.hid hown6
        have HB8 := Lib.hid hb
        clear hst hown6 bE bR hb
        go_wp2_with fail
        generalize w6.alloc (.cells #[.int .i64 ra, .int .i64 rm, .slice A6 R.length c6] 28) = W7 at *
        have z1 : EBox (((W7.setCell ⟨w.heap.size, 0, none⟩ (.int .i64 ra)).setCell ⟨w.heap.size, 1, none⟩ (.int .i64 rm)).setCell ⟨w.heap.size, 2, none⟩ (.slice A6 R.length c6)) w.heap.size ra rm A6 R.length c6 := ⟨by simpa using ((HE8.out.blk.set 0 (.int .i64 ra)).set 1 (.int .i64 rm)).set 2 (.slice A6 R.length c6)⟩
        have z2 : EBox (((W7.setCell ⟨w.heap.size, 0, none⟩ (.int .i64 ra)).setCell ⟨w.heap.size, 1, none⟩ (.int .i64 rm)).setCell ⟨w.heap.size, 2, none⟩ (.slice A6 R.length c6)) (w.heap.size + 1) 0 0 none 0 0 := ⟨((HR8.out.blk.setFar9 (by omega) 0 _).setFar9 (by omega) 1 _).setFar9 (by omega) 2 _⟩
        have z3 : Own (((W7.setCell ⟨w.heap.size, 0, none⟩ (.int .i64 ra)).setCell ⟨w.heap.size, 1, none⟩ (.int .i64 rm)).setCell ⟨w.heap.size, 2, none⟩ (.slice A6 R.length c6)) (w.heap.size + 2) (.slice A6 R.length c6) R := ((HO8.out.setBelow (a := ⟨w.heap.size, 0, none⟩) (by simp) _).setBelow (a := ⟨w.heap.size, 1, none⟩) (by simp) _).setBelow (a := ⟨w.heap.size, 2, none⟩) (by simp) _
        have z4 : w.heap.size + 2 ≤ ((((W7.setCell ⟨w.heap.size, 0, none⟩ (.int .i64 ra)).setCell ⟨w.heap.size, 1, none⟩ (.int .i64 rm)).setCell ⟨w.heap.size, 2, none⟩ (.slice A6 R.length c6))).heap.size := by simp; omega
        have z5 := ((HB8.out.setCell (p := ⟨w.heap.size, 0, none⟩) (Nat.le_refl _) (.int .i64 ra)).setCell (p := ⟨w.heap.size, 1, none⟩) (Nat.le_refl _) (.int .i64 rm)).setCell (p := ⟨w.heap.size, 2, none⟩) (Nat.le_refl _) (.slice A6 R.length c6)
        go_roundw
        case rel => exact ⟨k + 1, ra, rm, R, A6, c6, by go_num, by omega, z1, z2, z3, z4, HS, z5⟩
        case measure => simp [intOf]; omega
    · have e : k = es.length := by omega
      have hst := HR.out.done e
      have hv := HV.out.trans hst
      have hE2 : ¬ (k : Int) < (es.length : Int) := by omega
      have x0 := bE.c0
      have x1 := bE.c1
      have x2 := bE.c2
      have r0 := bR.c0
      have r1 := bR.c1
      have r2 := bR.c2
      have f0 := bR.blk.frozen 0
      have f1 := bR.blk.frozen 1
      have f2 := bR.blk.frozen 2
      have hltR2 := bR.lt
      have HO8 := Lib.hid hown
      clear hown hst e
      subst hv
      go_wp2
      refine bodyPost_ret (v := .tuple #[.agg #[.int .i64 x, .int .i64 y, .slice A' q.length c'], .bool true]) (by simp [results, Try.results17, go_sem, r0, r1, r2]) rfl ⟨.slice A' q.length c', rfl, ?_, ?_⟩
      · have h9 : ∀ (W : World) (i : Nat) (u : Value), Own W (w.heap.size + 2) (.slice A' q.length c') q → Own (W.setCell ⟨w.heap.size + 1, i, none⟩ u) (w.heap.size + 2) (.slice A' q.length c') q := fun W i u h => h.setBelow (by simp) u
        exact (h9 _ _ _ (h9 _ _ _ (h9 _ _ _ HO8.out))).mono (by omega)
      · (repeat (first | exact Below.refl _ _ | assumption | refine Below.setCell ?_ (by first | (simp; done) | (simp; omega) | omega) _ | refine Below.drew ?_ | refine below_drewN ?_ _ | refine Below.alloc ?_ (by first | (simp; done) | (simp; omega) | omega) _))
end Go.Proofs.Ytnpbdkfkdbfdhaa
