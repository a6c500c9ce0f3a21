/-
  Chapter 9, ReplyOk of both sides: contracts. Own work.
-/
import Derived.Test.YtgpjjolgpppeeaaDoorN01
import Derived.Test.YtgpjjolgpppeeaaDoorBlk
namespace Go.Proofs.YtgpjjolgpppeeaaDoor
open Go.RowKit P
set_option linter.unusedVariables false
set_option linter.unusedSimpArgs false
set_option maxRecDepth 100000

theorem rp_false {x p q : Int} {t : List UInt8} (h : ¬ (0 ≤ x ∧ x ≤ 10) ∨ isW p = false ∨ isW q = false ∨ isText t = false ∨ (x ≠ 0 ∧ ¬ (p = 0 ∧ q = 0 ∧ t.length = 0))) : rpOk x p q t = false := by
  unfold rpOk
  rcases h with h | h | h | h | ⟨h1, h2⟩
  · rw [decide_eq_false h]; rfl
  · rw [h]; simp
  · rw [h]; simp
  · rw [h]; simp
  · rw [decide_eq_false h1, Bool.false_or]
    by_cases h3 : p = 0 ∧ q = 0
    · rw [decide_eq_false (show ¬ t.length = 0 from fun h4 => h2 ⟨h3.1, h3.2, h4⟩)]; simp
    · rw [decide_eq_false h3]; simp
theorem rp_true0 {p q : Int} {t : List UInt8} (h1 : isW p = true) (h2 : isW q = true) (h3 : isText t = true) : rpOk 0 p q t = true := by
  unfold rpOk; rw [h1, h2, h3]; simp
theorem rp_trueN {x p q : Int} {t : List UInt8} (h0 : 0 ≤ x ∧ x ≤ 10) (h1 : p = 0) (h2 : q = 0) (h3 : t.length = 0) : rpOk x p q t = true := by
  obtain rfl : t = [] := List.eq_nil_of_length_eq_zero h3
  subst h1; subst h2
  have : isText [] = true := by decide +kernel
  unfold rpOk isW; rw [this, decide_eq_true h0]; simp

set_option maxHeartbeats 8000000 in
theorem implReplyOk_any (x p q : Int) (A : Option Addr) (t : List UInt8) (d : Nat) (w : World) (hl : t.length ≤ d) (hc9 : d ≤ 9223372036854775807) (hT : Tab w) (hA : Bs w A t) :
    Calls Tryd.prog 77 #[.agg #[.int .i64 x, .int .i64 p, .int .i64 q, .slice A t.length d]] w fun e w' => e = .returned (.bool (rpOk x p q t)) ∧ Below w.heap.size w w' := by
  have hal := (Below.refl w.heap.size w).alloc (Nat.le_refl _) (.cells #[.int .i64 x, .int .i64 p, .int .i64 q, .slice A t.length d] 60)
  have HA := Lib.hid (hA.below hal)
  have HT := Lib.hid (hT.below hal)
  have BX := Lib.hid (Blk.new w #[.int .i64 x, .int .i64 p, .int .i64 q, .slice A t.length d] 60)
  have HB := Lib.hid hal
  clear hal
  by_cases hx : x = 0
  case neg =>
    have hx' : (x != 0) = true := by simpa using hx
    by_cases h0 : 0 ≤ x
    case neg =>
      rw [rp_false (.inl (by omega))]
      go_enter Tryd.func77, Tryd.ntmps77
      go_wp2
      go_ret
      exact ⟨rfl, HB.out⟩
    by_cases h1 : x ≤ 10
    case neg =>
      rw [rp_false (.inl (by omega))]
      go_enter Tryd.func77, Tryd.ntmps77
      go_wp2
      go_ret
      exact ⟨rfl, HB.out⟩
    by_cases h2 : p = 0
    case neg =>
      have h2' : (p == 0) = false := by rw [beq_eq_false_iff_ne]; omega
      rw [rp_false (.inr (.inr (.inr (.inr ⟨hx, fun h => h2 h.1⟩))))]
      clear h2
      go_enter Tryd.func77, Tryd.ntmps77
      go_wp2
      go_ret
      exact ⟨rfl, HB.out⟩
    have h2' : (p == 0) = true := by rw [beq_iff_eq]; omega
    have Hh2 := Lib.hid h2
    clear h2
    by_cases h3 : q = 0
    case neg =>
      have h3' : (q == 0) = false := by rw [beq_eq_false_iff_ne]; omega
      rw [rp_false (.inr (.inr (.inr (.inr ⟨hx, fun h => h3 h.2.1⟩))))]
      clear h3
      go_enter Tryd.func77, Tryd.ntmps77
      go_wp2
      go_ret
      exact ⟨rfl, HB.out⟩
    have h3' : (q == 0) = true := by rw [beq_iff_eq]; omega
    have Hh3 := Lib.hid h3
    clear h3
    by_cases h4 : t.length = 0
    case neg =>
      have h4' : ((t.length : Int) == 0) = false := by rw [beq_eq_false_iff_ne]; omega
      rw [rp_false (.inr (.inr (.inr (.inr ⟨hx, fun h => h4 h.2.2⟩))))]
      clear h4
      go_enter Tryd.func77, Tryd.ntmps77
      go_wp2
      go_ret
      exact ⟨rfl, HB.out⟩
    have h4' : ((t.length : Int) == 0) = true := by rw [beq_iff_eq]; omega
    have Hh4 := Lib.hid h4
    clear h4
    rw [rp_trueN ⟨h0, h1⟩ Hh2.out Hh3.out Hh4.out]
    go_enter Tryd.func77, Tryd.ntmps77
    go_wp2
    go_ret
    exact ⟨rfl, HB.out⟩
  have hx' : (x != 0) = false := by simp [hx]
  obtain ⟨a, ha⟩ : ∃ a, isW p = a := ⟨_, rfl⟩
  obtain ⟨b, hb⟩ : ∃ a, isW q = a := ⟨_, rfl⟩
  obtain ⟨c, hc⟩ : ∃ a, isText t = a := ⟨_, rfl⟩
  have HV : Hid (rpOk x p q t = (a && b && c)) := Lib.hid (by
    cases a
    · rw [rp_false (.inr (.inl ha))]; rfl
    · cases b
      · rw [rp_false (.inr (.inr (.inl hb)))]; rfl
      · cases c
        · rw [rp_false (.inr (.inr (.inr (.inl hc))))]; rfl
        · rw [hx]; rw [rp_true0 ha hb hc]; rfl)
  rw [HV.out]
  have H1 := Lib.hid ha
  have H2 := Lib.hid hb
  have H3 := Lib.hid hc
  clear ha hb hc hx HV
  go_enter Tryd.func77, Tryd.ntmps77
  go_wp2_with fail
  refine (fitsWord_any p _).mono ?_
  rintro e w1 ⟨rfl, rfl⟩
  rw [H1.out]
  cases a
  case false =>
    go_wp2
    go_ret
    exact ⟨rfl, HB.out⟩
  go_wp2_with fail
  refine (fitsWord_any q _).mono ?_
  rintro e w1 ⟨rfl, rfl⟩
  rw [H2.out]
  cases b
  case false =>
    go_wp2
    go_ret
    exact ⟨rfl, HB.out⟩
  go_wp2_with fail
  refine (textOk_any A t d _ hl hc9 (by exact HT.out) (by exact HA.out)).mono ?_
  rintro e w1 ⟨rfl, n, rfl⟩
  rw [H3.out]
  go_wp2
  go_ret
  exact ⟨rfl, below_drewN HB.out n⟩

set_option maxHeartbeats 8000000 in
theorem specReplyOk_any (x p q : Int) (A : Option Addr) (t : List UInt8) (d : Nat) (w : World) (hl : t.length ≤ d) (hc9 : d ≤ 9223372036854775807) (hA : Bs w A t) :
    Calls Tryd.prog 36 #[.agg #[.int .i64 x, .int .i64 p, .int .i64 q, .slice A t.length d]] w fun e w' => e = .returned (.bool (rpOk x p q t)) ∧ Below w.heap.size w w' := by
  have hal := (Below.refl w.heap.size w).alloc (Nat.le_refl _) (.cells #[.int .i64 x, .int .i64 p, .int .i64 q, .slice A t.length d] 60)
  have HA := Lib.hid (hA.below hal)
  have BX := Lib.hid (Blk.new w #[.int .i64 x, .int .i64 p, .int .i64 q, .slice A t.length d] 60)
  have HB := Lib.hid hal
  clear hal
  by_cases h0 : 0 ≤ x
  case neg =>
    rw [rp_false (.inl (by omega))]
    go_enter Tryd.func36, Tryd.ntmps36
    go_wp2
    go_ret
    exact ⟨rfl, HB.out⟩
  by_cases h1 : x ≤ 10
  case neg =>
    rw [rp_false (.inl (by omega))]
    go_enter Tryd.func36, Tryd.ntmps36
    go_wp2
    go_ret
    exact ⟨rfl, HB.out⟩
  obtain ⟨a, ha⟩ : ∃ a, isW p = a := ⟨_, rfl⟩
  obtain ⟨b, hb⟩ : ∃ a, isW q = a := ⟨_, rfl⟩
  obtain ⟨c, hc⟩ : ∃ a, isText t = a := ⟨_, rfl⟩
  have H1 := Lib.hid ha
  have H2 := Lib.hid hb
  have H3 := Lib.hid hc
  cases a
  case false =>
    rw [rp_false (.inr (.inl ha))]
    clear ha hb hc
    go_enter Tryd.func36, Tryd.ntmps36
    go_wp2_with fail
    refine (l09Word_any p _).mono ?_
    rintro e w1 ⟨rfl, rfl⟩
    rw [H1.out]
    go_wp2
    go_ret
    exact ⟨rfl, HB.out⟩
  cases b
  case false =>
    rw [rp_false (.inr (.inr (.inl hb)))]
    clear ha hb hc
    go_enter Tryd.func36, Tryd.ntmps36
    go_wp2_with fail
    refine (l09Word_any p _).mono ?_
    rintro e w1 ⟨rfl, rfl⟩
    rw [H1.out]
    go_wp2_with fail
    refine (l09Word_any q _).mono ?_
    rintro e w1 ⟨rfl, rfl⟩
    rw [H2.out]
    go_wp2
    go_ret
    exact ⟨rfl, HB.out⟩
  obtain ⟨R, hR⟩ : ∃ R, rpOk x p q t = R := ⟨_, rfl⟩
  have HR := Lib.hid hR
  rw [hR]
  clear ha hb hc hR
  go_enter Tryd.func36, Tryd.ntmps36
  go_wp2_with fail
  refine (l09Word_any p _).mono ?_
  rintro e w1 ⟨rfl, rfl⟩
  rw [H1.out]
  go_wp2_with fail
  refine (l09Word_any q _).mono ?_
  rintro e w1 ⟨rfl, rfl⟩
  rw [H2.out]
  go_wp2_with fail
  refine (specTextOk_any A t d _ hl hc9 (by exact HA.out)).mono ?_
  rintro e w1 ⟨rfl, hb1⟩
  rw [H3.out]
  have HB := Lib.hid (below_then HB.out hb1)
  have BX := Lib.hid (BX.out.below hb1)
  have y0 := BX.out.cell 0
  have y1 := BX.out.cell 1
  have y2 := BX.out.cell 2
  have y3 := BX.out.cell 3
  clear hb1
  cases c
  case false =>
    have HZ : Hid (R = false) := Lib.hid (by rw [← HR.out]; exact rp_false (.inr (.inr (.inr (.inl H3.out)))))
    go_wp2
    go_ret
    exact ⟨ret_bool HZ.out.symm, HB.out⟩
  by_cases hx : x = 0
  · have hx' : (x == 0) = true := by simp [hx]
    have HZ : Hid (R = true) := Lib.hid (by rw [← HR.out, hx]; exact rp_true0 H1.out H2.out H3.out)
    clear hx
    go_wp2
    go_ret
    exact ⟨ret_bool HZ.out.symm, HB.out⟩
  have hx' : (x == 0) = false := by simpa using hx
  by_cases h2 : p = 0
  case neg =>
    have h2' : (p == 0) = false := by rw [beq_eq_false_iff_ne]; omega
    have HZ : Hid (R = false) := Lib.hid (by rw [← HR.out]; exact rp_false (.inr (.inr (.inr (.inr ⟨hx, fun h => h2 h.1⟩)))))
    clear h2 hx
    go_wp2
    go_ret
    exact ⟨ret_bool HZ.out.symm, HB.out⟩
  have h2' : (p == 0) = true := by rw [beq_iff_eq]; omega
  have Hh2 := Lib.hid h2
  clear h2
  by_cases h3 : q = 0
  case neg =>
    have h3' : (q == 0) = false := by rw [beq_eq_false_iff_ne]; omega
    have HZ : Hid (R = false) := Lib.hid (by rw [← HR.out]; exact rp_false (.inr (.inr (.inr (.inr ⟨hx, fun h => h3 h.2.1⟩)))))
    clear h3 hx
    go_wp2
    go_ret
    exact ⟨ret_bool HZ.out.symm, HB.out⟩
  have h3' : (q == 0) = true := by rw [beq_iff_eq]; omega
  have Hh3 := Lib.hid h3
  clear h3
  by_cases h4 : t.length = 0
  case neg =>
    have h4' : ((t.length : Int) == 0) = false := by rw [beq_eq_false_iff_ne]; omega
    have HZ : Hid (R = false) := Lib.hid (by rw [← HR.out]; exact rp_false (.inr (.inr (.inr (.inr ⟨hx, fun h => h4 h.2.2⟩)))))
    clear h4 hx
    go_wp2
    go_ret
    exact ⟨ret_bool HZ.out.symm, HB.out⟩
  have h4' : ((t.length : Int) == 0) = true := by rw [beq_iff_eq]; omega
  have Hh4 := Lib.hid h4
  clear h4
  have HZ : Hid (R = true) := Lib.hid (by rw [← HR.out]; exact rp_trueN ⟨h0, h1⟩ Hh2.out Hh3.out Hh4.out)
  clear hx
  go_wp2
  go_ret
  exact ⟨ret_bool HZ.out.symm, HB.out⟩
end Go.Proofs.YtgpjjolgpppeeaaDoor
