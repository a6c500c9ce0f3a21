/-
  FnPosOrder, its walk. Own work.
-/
import Derived.Test.YtoaimklllmelpaaLaw0
import Derived.Test.YtoaimklllmelpaaJ09b
import Derived.Test.YtoaimklllmelpaaCur15
import Derived.Test.YtoaimklllmelpaaP09b
import Derived.ProofKit
import Derived.OpenShut
import Derived.OpenVars
import Derived.ChangeOld
import Derived.Deep.DeepHandedRow
import Derived.Deep.RegionHeld3
import Derived.Deep.DeepCutAuto
namespace Go.Proofs.Ytoaimklllmelpaa.fnPosOrder
open Go.ChangeShapes Go.WideShapes Go.ChangeAt Go.RowKit P
set_option linter.unusedVariables false
set_option maxRecDepth 100000

set_option maxHeartbeats 16000000 in
theorem walk (A : Option Addr) (l : List UInt8) (c : Nat) (hc : l.length ≤ c) (hm : c ≤ maxLen) (w : World) (hB : Bs w A l) :
    Calls Try.prog 10 #[.slice A l.length c] w fun e w' => e = .returned (.bool true) ∧ Below w.heap.size w w' := by
  by_cases hbig : 1048576 < l.length
  · have hb : decide (1048576 < l.length) = true := decide_eq_true hbig
    have HBG := Lib.hid hb
    clear hb hbig
    go_enter Try.func10, Try.ntmps10
    go_wp2_with (go_at_call 39; refine (big_any _ _ _ _).mono ?_; rintro e w' ⟨rfl, rfl⟩; rw [HBG.out])
    go_ret
    exact ⟨rfl, Below.refl _ _⟩
  have hl : l.length ≤ 1048576 := by omega
  have hb : decide (1048576 < l.length) = false := decide_eq_false hbig
  have HBG := Lib.hid hb
  clear hb hbig hc hm
  go_enter Try.func10, Try.ntmps10
  go_wp2_with fail
  refine (big_any _ _ _ _).mono ?_
  rintro e w0 ⟨rfl, rfl⟩
  rw [HBG.out]
  go_wp2_with fail
  refine (drawPosMove_any A l c _ hl (by exact hB)).mono ?_
  rintro e w1 ⟨x, r, a, m, B1, p, d1, rfl, hx, ha, hm, hp5, hd1, hd19, hY1, hb1⟩
  have hal := (Below.refl w1.heap.size w1).alloc (Nat.le_refl _) (.cells #[.int .i64 a, .int .i64 m, .slice B1 p.length d1] 27)
  have bE := EBox.new w1 a m B1 p.length d1
  have hb1 := below_then hb1 hal
  have hBL := hB.below hb1
  have hp9 : p.length ≤ 9223372036854775807 := by omega
  clear hal HBG hY1
  go_wp2_with fail
  generalize w1.alloc (.cells #[.int .i64 a, .int .i64 m, .slice B1 p.length d1] 27) = W1 at *
  refine (lawPickN_any 5 (by omega) A l c _ _ hl (by omega) (by omega) (by exact hBL)).mono ?_
  rintro e w2 ⟨⟨q, rfl, hq0, hq1⟩, hb⟩
  have bE := bE.below hb
  have hb1 := below_then hb1 hb
  have k0 := bE.c0
  have k1 := bE.c1
  have k2 := bE.c2
  obtain ⟨v, hv⟩ : ∃ v, posMove x r a m p = v := ⟨_, rfl⟩
  have HV := Lib.hid hv
  have hvv : (v != v) = false := by simp
  have hve : (v == v) = true := by simp
  clear hb hv hBL
  go_wp2_with fail
  refine (implPosMove_any x r a m B1 p d1 _ hp9).mono ?_
  rintro e w3 ⟨rfl, hb⟩
  rw [HV.out]
  have bE := bE.below hb
  have hb1 := below_then hb1 hb
  clear k0 k1 k2 hb
  have k0 := bE.c0
  have k1 := bE.c1
  have k2 := bE.c2
  go_wp2_with fail
  refine (specPosMove_any x r a m B1 p d1 _ hp9).mono ?_
  rintro e w4 ⟨rfl, hb⟩
  rw [HV.out]
  have bE := bE.below hb
  have hb1 := below_then hb1 hb
  clear k0 k1 k2 hb
  have k0 := bE.c0
  have k1 := bE.c1
  have k2 := bE.c2
  by_cases hneg : v < 0
  · go_wp2_with fail
    refine (specPosMove_any x r a m B1 p d1 _ hp9).mono ?_
    rintro e w5 ⟨rfl, hb⟩
    rw [HV.out]
    have bE := bE.below hb
    have hb1 := below_then hb1 hb
    clear k0 k1 k2 hb
    have k0 := bE.c0
    have k1 := bE.c1
    have k2 := bE.c2
    go_wp2
    go_ret
    first | exact ⟨rfl, hb1⟩ | exact ⟨ret_bool (by simp_all), hb1⟩
  have hok : posOk x a m p = true := by
    cases h9 : posOk x a m p
    · have := (posMove_neg (r := r)).2 h9
      rw [HV.out] at this
      exact absurd this hneg
    · rfl
  have hok2 := hok
  unfold posOk at hok2
  rw [Bool.and_eq_true, isPlace_iff] at hok2
  have s := (edSmall_iff a m p).1 hok2.1
  obtain ⟨v2, h2⟩ : ∃ v, posMove q r a m p = v := ⟨_, rfl⟩
  obtain ⟨v3, h3⟩ : ∃ v, posMove x false a m p = v := ⟨_, rfl⟩
  obtain ⟨v4, h4⟩ : ∃ v, posMove x true a m p = v := ⟨_, rfl⟩
  have o1 : x ≤ q → v ≤ v2 := fun h => by rw [← h2, ← HV.out]; exact order_moved hok2.1 hok2.2 (by omega) h
  have o2 : q ≤ x → v2 ≤ v := fun h => by rw [← h2, ← HV.out]; exact order_moved hok2.1 (by omega) hok2.2 h
  have o3 : v3 ≤ v4 := by rw [← h3, ← h4]; exact order_sides hok2.1 hok2.2
  have o4 : ¬ x < a + m → x ≠ a → v = x - m + p.length := fun g1 g2 => by rw [← HV.out]; exact order_far hok2.1 hok2.2 g1 g2
  have hxr := hok2.2
  have H2 := Lib.hid h2
  have H3 := Lib.hid h3
  have H4 := Lib.hid h4
  have O1 := Lib.hid o1
  have O2 := Lib.hid o2
  have O4 := Lib.hid o4
  have hwr : IntKind.i64.wrap (a + m) = a + m := IntWalk.i64_in _ ⟨by omega, by omega⟩
  have hwr3 : IntKind.i64.wrap (x - m) = x - m := IntWalk.i64_in _ ⟨by omega, by omega⟩
  have hwr4 : IntKind.i64.wrap (x - m + p.length) = x - m + p.length := IntWalk.i64_in _ ⟨by omega, by omega⟩
  clear h2 h3 h4 o1 o2 o4 hok hok2 hvv hve
  go_wp2_with fail
  refine (implPosMove_any q r a m B1 p d1 _ hp9).mono ?_
  rintro e w5 ⟨rfl, hb⟩
  rw [H2.out]
  have bE := bE.below hb
  have hb1 := below_then hb1 hb
  clear k0 k1 k2 hb
  have k0 := bE.c0
  have k1 := bE.c1
  have k2 := bE.c2
  go_wp2_with fail
  refine (implPosMove_any x false a m B1 p d1 _ hp9).mono ?_
  rintro e w6 ⟨rfl, hb⟩
  rw [H3.out]
  have bE := bE.below hb
  have hb1 := below_then hb1 hb
  clear k0 k1 k2 hb
  have k0 := bE.c0
  have k1 := bE.c1
  have k2 := bE.c2
  go_wp2_with fail
  refine (implPosMove_any x true a m B1 p d1 _ hp9).mono ?_
  rintro e w7 ⟨rfl, hb⟩
  rw [H4.out]
  have bE := bE.below hb
  have hb1 := below_then hb1 hb
  clear k0 k1 k2 hb
  have k0 := bE.c0
  have k1 := bE.c1
  have k2 := bE.c2
  by_cases c1 : q < x
  · have c2 : ¬ x < q := by omega
    have g2 : v2 ≤ v := O2.out (by omega)
    clear O1 O2
    by_cases c3 : x < a + m
    · go_wp2
      go_ret
      first | exact ⟨rfl, hb1⟩ | exact ⟨ret_bool (by simp_all), hb1⟩
    by_cases c4 : x = a
    · subst c4
      have hxx : (x == x) = true := by simp
      clear O4
      by_cases c5 : v = x - m + p.length
      · have hc5 : (v == x - m + p.length) = true := by simpa using c5
        clear c5
        go_wp2
        go_ret
        first | exact ⟨rfl, hb1⟩ | exact ⟨ret_bool (by simp_all), hb1⟩
      have hc5 : (v == x - m + p.length) = false := by simpa using c5
      clear c5
      go_wp2
      go_ret
      first | exact ⟨rfl, hb1⟩ | exact ⟨ret_bool (by simp_all), hb1⟩
    have hc5 : (v == x - m + p.length) = true := by have := O4.out (by omega) c4; simpa using this
    clear O4 c4
    go_wp2
    go_ret
    first | exact ⟨rfl, hb1⟩ | exact ⟨ret_bool (by simp_all), hb1⟩
  have g1 : v ≤ v2 := O1.out (by omega)
  by_cases c2 : x < q
  · clear O1 O2
    by_cases c3 : x < a + m
    · go_wp2
      go_ret
      first | exact ⟨rfl, hb1⟩ | exact ⟨ret_bool (by simp_all), hb1⟩
    by_cases c4 : x = a
    · subst c4
      have hxx : (x == x) = true := by simp
      clear O4
      by_cases c5 : v = x - m + p.length
      · have hc5 : (v == x - m + p.length) = true := by simpa using c5
        clear c5
        go_wp2
        go_ret
        first | exact ⟨rfl, hb1⟩ | exact ⟨ret_bool (by simp_all), hb1⟩
      have hc5 : (v == x - m + p.length) = false := by simpa using c5
      clear c5
      go_wp2
      go_ret
      first | exact ⟨rfl, hb1⟩ | exact ⟨ret_bool (by simp_all), hb1⟩
    have hc5 : (v == x - m + p.length) = true := by have := O4.out (by omega) c4; simpa using this
    clear O4 c4
    go_wp2
    go_ret
    first | exact ⟨rfl, hb1⟩ | exact ⟨ret_bool (by simp_all), hb1⟩
  have g2 : v2 ≤ v := O2.out (by omega)
  clear O1 O2
  by_cases c3 : x < a + m
  · go_wp2
    go_ret
    first | exact ⟨rfl, hb1⟩ | exact ⟨ret_bool (by simp_all), hb1⟩
  by_cases c4 : x = a
  · subst c4
    have hxx : (x == x) = true := by simp
    clear O4
    by_cases c5 : v = x - m + p.length
    · have hc5 : (v == x - m + p.length) = true := by simpa using c5
      clear c5
      go_wp2
      go_ret
      first | exact ⟨rfl, hb1⟩ | exact ⟨ret_bool (by simp_all), hb1⟩
    have hc5 : (v == x - m + p.length) = false := by simpa using c5
    clear c5
    go_wp2
    go_ret
    first | exact ⟨rfl, hb1⟩ | exact ⟨ret_bool (by simp_all), hb1⟩
  have hc5 : (v == x - m + p.length) = true := by have := O4.out (by omega) c4; simpa using this
  clear O4 c4
  go_wp2
  go_ret
  first | exact ⟨rfl, hb1⟩ | exact ⟨ret_bool (by simp_all), hb1⟩

end Go.Proofs.Ytoaimklllmelpaa.fnPosOrder
