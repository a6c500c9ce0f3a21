/-
  Chapter 12, actions: contracts of the program and of the model. Own work.
-/
import Derived.Test.YtgpjjolgpppeeaaDoorM01
import Derived.Test.YtgpjjolgpppeeaaDoorN03
import Derived.Test.YtgpjjolgpppeeaaDoorN05
namespace Go.Proofs.YtgpjjolgpppeeaaDoor
open Go.RowKit P
set_option linter.unusedVariables false
set_option linter.unusedSimpArgs false
set_option maxRecDepth 100000

set_option maxHeartbeats 400000 in
theorem bytesEqual_rq (A B : Option Addr) (l r : List UInt8) (c d : Nat) (w : World) (hA : Bs w A l) (hB : Bs w B r) :
    Calls Tryd.prog 89 #[.slice A l.length c, .slice B r.length d] w fun e w' => e = .returned (.bool (decide (l = r))) ∧ Below w.heap.size w w' := by
  have hc1 := run_conv_bs c l.length rfl hA
  have hc2 := run_conv_bs d r.length rfl hB
  obtain ⟨z, hz⟩ : ∃ z, decide (l = r) = z := ⟨_, rfl⟩
  have hzz : (l == r) = z := by rw [← hz]; by_cases h : l = r <;> simp [h]
  rw [hz]
  clear hz
  go_enter Tryd.func89, Tryd.ntmps89
  go_wp2
  go_ret
  refine ⟨by simp [hzz], ?_⟩
  (repeat (first | exact Below.refl _ _ | assumption | refine Below.setCell ?_ (by first | (simp; done) | (simp; omega) | omega) _ | refine Below.drew ?_ | refine below_drewN ?_ _ | refine Below.alloc ?_ (by first | (simp; done) | (simp; omega) | omega) _))

set_option maxHeartbeats 4000000 in
theorem reqEquals_any (x s p q r x' s' p' q' r' : Int) (A B : Option Addr) (l l' : List UInt8) (c d : Nat) (w : World) (hA : Bs w A l) (hB : Bs w B l') :
    Calls Tryd.prog 46 #[.agg #[.int .i64 x, .int .i64 s, .int .i64 p, .int .i64 q, .int .i64 r, .slice A l.length c], .agg #[.int .i64 x', .int .i64 s', .int .i64 p', .int .i64 q', .int .i64 r', .slice B l'.length d]] w fun e w' => e = .returned (.bool (decide (x = x' ∧ s = s' ∧ p = p' ∧ q = q' ∧ r = r' ∧ l = l'))) ∧ Below w.heap.size w w' := by
  have hb0 := (bsm1 w (.cells #[.int .i64 x, .int .i64 s, .int .i64 p, .int .i64 q, .int .i64 r, .slice A l.length c] 29)).alloc (by simp) (.cells #[.int .i64 x', .int .i64 s', .int .i64 p', .int .i64 q', .int .i64 r', .slice B l'.length d] 29)
  have HA := Lib.hid (hA.below hb0)
  have HC := Lib.hid (hB.below hb0)
  have HB0 := Lib.hid hb0
  clear hA hB hb0
  obtain ⟨z, hz⟩ : ∃ z, decide (x = x' ∧ s = s' ∧ p = p' ∧ q = q' ∧ r = r' ∧ l = l') = z := ⟨_, rfl⟩
  rw [hz]
  have HZ := Lib.hid hz
  clear hz
  by_cases hx : x = x'
  case neg =>
    have ex : (x == x') = false := by simp [hx]
    have hzf : z = false := by rw [← HZ.out]; simp [hx]
    subst hzf
    go_enter Tryd.func46, Tryd.ntmps46
    go_wp2
    go_ret
    exact ⟨rfl, HB0.out⟩
  have ex : (x == x') = true := by simp [hx]
  have Qx := Lib.hid hx
  clear hx
  by_cases hs : s = s'
  case neg =>
    have es : (s == s') = false := by simp [hs]
    have hzf : z = false := by rw [← HZ.out]; simp [hs]
    subst hzf
    go_enter Tryd.func46, Tryd.ntmps46
    go_wp2
    go_ret
    exact ⟨rfl, HB0.out⟩
  have es : (s == s') = true := by simp [hs]
  have Qs := Lib.hid hs
  clear hs
  by_cases hp : p = p'
  case neg =>
    have ep : (p == p') = false := by simp [hp]
    have hzf : z = false := by rw [← HZ.out]; simp [hp]
    subst hzf
    go_enter Tryd.func46, Tryd.ntmps46
    go_wp2
    go_ret
    exact ⟨rfl, HB0.out⟩
  have ep : (p == p') = true := by simp [hp]
  have Qp := Lib.hid hp
  clear hp
  by_cases hq : q = q'
  case neg =>
    have eq : (q == q') = false := by simp [hq]
    have hzf : z = false := by rw [← HZ.out]; simp [hq]
    subst hzf
    go_enter Tryd.func46, Tryd.ntmps46
    go_wp2
    go_ret
    exact ⟨rfl, HB0.out⟩
  have eq : (q == q') = true := by simp [hq]
  have Qq := Lib.hid hq
  clear hq
  by_cases hr : r = r'
  case neg =>
    have er : (r == r') = false := by simp [hr]
    have hzf : z = false := by rw [← HZ.out]; simp [hr]
    subst hzf
    go_enter Tryd.func46, Tryd.ntmps46
    go_wp2
    go_ret
    exact ⟨rfl, HB0.out⟩
  have er : (r == r') = true := by simp [hr]
  have Qr := Lib.hid hr
  clear hr
  have hl : z = decide (l = l') := by rw [← HZ.out]; simp [Qx.out, Qs.out, Qp.out, Qq.out, Qr.out]
  have HE := Lib.hid hl
  clear hl Qx Qs Qp Qq Qr HZ
  go_enter Tryd.func46, Tryd.ntmps46
  go_wp2_with fail
  refine (bytesEqual_rq A B l l' c d _ (by exact HA.out) (by exact HC.out)).mono ?_
  rintro e w1 ⟨rfl, hb⟩
  have HF := Lib.hid (below_then HB0.out hb)
  rw [← HE.out]
  clear hb
  go_wp2
  go_ret
  exact ⟨rfl, HF.out⟩

/-- Is it an action? -/
def actOk (k n b x s p q r : Int) (l : List UInt8) : Bool :=
  if k = 1 then decide (n = 0) && (decide (0 ≤ b) && rqOk x s p q r l)
  else if k = 2 then decide (1 ≤ n ∧ n ≤ 1000) && (decide (b = 0) && decide (x = 0 ∧ s = 0 ∧ p = 0 ∧ q = 0 ∧ r = 0 ∧ l = []))
  else false
theorem actOk_one {n b x s p q r : Int} {l : List UInt8} : actOk 1 n b x s p q r l = (decide (n = 0) && (decide (0 ≤ b) && rqOk x s p q r l)) := rfl
theorem actOk_two {n b x s p q r : Int} {l : List UInt8} : actOk 2 n b x s p q r l = (decide (1 ≤ n ∧ n ≤ 1000) && (decide (b = 0) && decide (x = 0 ∧ s = 0 ∧ p = 0 ∧ q = 0 ∧ r = 0 ∧ l = []))) := rfl
theorem actOk_no {k n b x s p q r : Int} {l : List UInt8} (h1 : k ≠ 1) (h2 : k ≠ 2) : actOk k n b x s p q r l = false := by unfold actOk; rw [if_neg h1, if_neg h2]

set_option maxHeartbeats 16000000 in
theorem specActOk_any (k n b x s p q r : Int) (A : Option Addr) (l : List UInt8) (c : Nat) (w : World) (hl : l.length ≤ c) (hc9 : c ≤ 9223372036854775807) (hA : Bs w A l) :
    Calls Tryd.prog 9 #[.agg #[.int .i64 k, .int .i64 n, .int .i64 b, .int .i64 x, .int .i64 s, .int .i64 p, .int .i64 q, .int .i64 r, .slice A l.length c]] w fun e w' => e = .returned (.bool (actOk k n b x s p q r l)) ∧ Below w.heap.size w w' := by
  have hb0 := bsm1 w (.cells #[.int .i64 k, .int .i64 n, .int .i64 b, .int .i64 x, .int .i64 s, .int .i64 p, .int .i64 q, .int .i64 r, .slice A l.length c] 31)
  have HA := Lib.hid (hA.below hb0)
  have HB0 := Lib.hid hb0
  clear hA hb0
  by_cases k1 : k = 1
  case pos =>
    subst k1
    rw [actOk_one]
    by_cases n0 : n = 0
    case neg =>
      rw [decide_eq_false n0]
      have en : (n == 0) = false := by simp [n0]
      by_cases zx : x = 0
      case neg =>
        have yx : (x == 0) = false := by simp [zx]
        have hnn : decide (x = 0 ∧ s = 0 ∧ p = 0 ∧ q = 0 ∧ r = 0 ∧ l = []) = false := decide_eq_false (fun h => by obtain ⟨h1, h2, h3, h4, h5, _⟩ := h; exact zx (by assumption))
        have HNN := Lib.hid hnn
        clear hnn
        go_enter Tryd.func9, Tryd.ntmps9
        go_wp2
        go_ret
        exact ⟨rfl, HB0.out⟩
      have yx : (x == 0) = true := by simp [zx]
      have Zx := Lib.hid zx
      clear zx
      by_cases zs : s = 0
      case neg =>
        have ys : (s == 0) = false := by simp [zs]
        have hnn : decide (x = 0 ∧ s = 0 ∧ p = 0 ∧ q = 0 ∧ r = 0 ∧ l = []) = false := decide_eq_false (fun h => by obtain ⟨h1, h2, h3, h4, h5, _⟩ := h; exact zs (by assumption))
        have HNN := Lib.hid hnn
        clear hnn
        go_enter Tryd.func9, Tryd.ntmps9
        go_wp2
        go_ret
        exact ⟨rfl, HB0.out⟩
      have ys : (s == 0) = true := by simp [zs]
      have Zs := Lib.hid zs
      clear zs
      by_cases zp : p = 0
      case neg =>
        have yp : (p == 0) = false := by simp [zp]
        have hnn : decide (x = 0 ∧ s = 0 ∧ p = 0 ∧ q = 0 ∧ r = 0 ∧ l = []) = false := decide_eq_false (fun h => by obtain ⟨h1, h2, h3, h4, h5, _⟩ := h; exact zp (by assumption))
        have HNN := Lib.hid hnn
        clear hnn
        go_enter Tryd.func9, Tryd.ntmps9
        go_wp2
        go_ret
        exact ⟨rfl, HB0.out⟩
      have yp : (p == 0) = true := by simp [zp]
      have Zp := Lib.hid zp
      clear zp
      by_cases zq : q = 0
      case neg =>
        have yq : (q == 0) = false := by simp [zq]
        have hnn : decide (x = 0 ∧ s = 0 ∧ p = 0 ∧ q = 0 ∧ r = 0 ∧ l = []) = false := decide_eq_false (fun h => by obtain ⟨h1, h2, h3, h4, h5, _⟩ := h; exact zq (by assumption))
        have HNN := Lib.hid hnn
        clear hnn
        go_enter Tryd.func9, Tryd.ntmps9
        go_wp2
        go_ret
        exact ⟨rfl, HB0.out⟩
      have yq : (q == 0) = true := by simp [zq]
      have Zq := Lib.hid zq
      clear zq
      by_cases zr : r = 0
      case neg =>
        have yr : (r == 0) = false := by simp [zr]
        have hnn : decide (x = 0 ∧ s = 0 ∧ p = 0 ∧ q = 0 ∧ r = 0 ∧ l = []) = false := decide_eq_false (fun h => by obtain ⟨h1, h2, h3, h4, h5, _⟩ := h; exact zr (by assumption))
        have HNN := Lib.hid hnn
        clear hnn
        go_enter Tryd.func9, Tryd.ntmps9
        go_wp2
        go_ret
        exact ⟨rfl, HB0.out⟩
      have yr : (r == 0) = true := by simp [zr]
      have Zr := Lib.hid zr
      clear zr
      by_cases zl : l.length = 0
      case neg =>
        have yl : ((l.length : Int) == 0) = false := by simp; intro h; simp [h] at zl
        have hnn : decide (x = 0 ∧ s = 0 ∧ p = 0 ∧ q = 0 ∧ r = 0 ∧ l = []) = false := decide_eq_false (fun h => zl (by rw [h.2.2.2.2.2]; rfl))
        have HNN := Lib.hid hnn
        clear hnn
        go_enter Tryd.func9, Tryd.ntmps9
        go_wp2
        go_ret
        exact ⟨rfl, HB0.out⟩
      have yl : ((l.length : Int) == 0) = true := by simpa using zl
      have hnn : decide (x = 0 ∧ s = 0 ∧ p = 0 ∧ q = 0 ∧ r = 0 ∧ l = []) = true := decide_eq_true ⟨Zx.out, Zs.out, Zp.out, Zq.out, Zr.out, List.eq_nil_of_length_eq_zero zl⟩
      have HNN := Lib.hid hnn
      clear hnn Zx Zs Zp Zq Zr zl
      go_enter Tryd.func9, Tryd.ntmps9
      go_wp2
      go_ret
      exact ⟨rfl, HB0.out⟩
    rw [decide_eq_true n0]
    have en : (n == 0) = true := by simp [n0]
    clear n0
    by_cases b0 : 0 ≤ b
    case neg =>
      rw [decide_eq_false b0]
      have eb : decide (b ≥ 0) = false := decide_eq_false b0
      have eb2 : decide (0 ≤ b) = false := decide_eq_false b0
      by_cases zx : x = 0
      case neg =>
        have yx : (x == 0) = false := by simp [zx]
        have hnn : decide (x = 0 ∧ s = 0 ∧ p = 0 ∧ q = 0 ∧ r = 0 ∧ l = []) = false := decide_eq_false (fun h => by obtain ⟨h1, h2, h3, h4, h5, _⟩ := h; exact zx (by assumption))
        have HNN := Lib.hid hnn
        clear hnn
        go_enter Tryd.func9, Tryd.ntmps9
        go_wp2
        go_ret
        exact ⟨rfl, HB0.out⟩
      have yx : (x == 0) = true := by simp [zx]
      have Zx := Lib.hid zx
      clear zx
      by_cases zs : s = 0
      case neg =>
        have ys : (s == 0) = false := by simp [zs]
        have hnn : decide (x = 0 ∧ s = 0 ∧ p = 0 ∧ q = 0 ∧ r = 0 ∧ l = []) = false := decide_eq_false (fun h => by obtain ⟨h1, h2, h3, h4, h5, _⟩ := h; exact zs (by assumption))
        have HNN := Lib.hid hnn
        clear hnn
        go_enter Tryd.func9, Tryd.ntmps9
        go_wp2
        go_ret
        exact ⟨rfl, HB0.out⟩
      have ys : (s == 0) = true := by simp [zs]
      have Zs := Lib.hid zs
      clear zs
      by_cases zp : p = 0
      case neg =>
        have yp : (p == 0) = false := by simp [zp]
        have hnn : decide (x = 0 ∧ s = 0 ∧ p = 0 ∧ q = 0 ∧ r = 0 ∧ l = []) = false := decide_eq_false (fun h => by obtain ⟨h1, h2, h3, h4, h5, _⟩ := h; exact zp (by assumption))
        have HNN := Lib.hid hnn
        clear hnn
        go_enter Tryd.func9, Tryd.ntmps9
        go_wp2
        go_ret
        exact ⟨rfl, HB0.out⟩
      have yp : (p == 0) = true := by simp [zp]
      have Zp := Lib.hid zp
      clear zp
      by_cases zq : q = 0
      case neg =>
        have yq : (q == 0) = false := by simp [zq]
        have hnn : decide (x = 0 ∧ s = 0 ∧ p = 0 ∧ q = 0 ∧ r = 0 ∧ l = []) = false := decide_eq_false (fun h => by obtain ⟨h1, h2, h3, h4, h5, _⟩ := h; exact zq (by assumption))
        have HNN := Lib.hid hnn
        clear hnn
        go_enter Tryd.func9, Tryd.ntmps9
        go_wp2
        go_ret
        exact ⟨rfl, HB0.out⟩
      have yq : (q == 0) = true := by simp [zq]
      have Zq := Lib.hid zq
      clear zq
      by_cases zr : r = 0
      case neg =>
        have yr : (r == 0) = false := by simp [zr]
        have hnn : decide (x = 0 ∧ s = 0 ∧ p = 0 ∧ q = 0 ∧ r = 0 ∧ l = []) = false := decide_eq_false (fun h => by obtain ⟨h1, h2, h3, h4, h5, _⟩ := h; exact zr (by assumption))
        have HNN := Lib.hid hnn
        clear hnn
        go_enter Tryd.func9, Tryd.ntmps9
        go_wp2
        go_ret
        exact ⟨rfl, HB0.out⟩
      have yr : (r == 0) = true := by simp [zr]
      have Zr := Lib.hid zr
      clear zr
      by_cases zl : l.length = 0
      case neg =>
        have yl : ((l.length : Int) == 0) = false := by simp; intro h; simp [h] at zl
        have hnn : decide (x = 0 ∧ s = 0 ∧ p = 0 ∧ q = 0 ∧ r = 0 ∧ l = []) = false := decide_eq_false (fun h => zl (by rw [h.2.2.2.2.2]; rfl))
        have HNN := Lib.hid hnn
        clear hnn
        go_enter Tryd.func9, Tryd.ntmps9
        go_wp2
        go_ret
        exact ⟨rfl, HB0.out⟩
      have yl : ((l.length : Int) == 0) = true := by simpa using zl
      have hnn : decide (x = 0 ∧ s = 0 ∧ p = 0 ∧ q = 0 ∧ r = 0 ∧ l = []) = true := decide_eq_true ⟨Zx.out, Zs.out, Zp.out, Zq.out, Zr.out, List.eq_nil_of_length_eq_zero zl⟩
      have HNN := Lib.hid hnn
      clear hnn Zx Zs Zp Zq Zr zl
      go_enter Tryd.func9, Tryd.ntmps9
      go_wp2
      go_ret
      exact ⟨rfl, HB0.out⟩
    rw [decide_eq_true b0]
    have eb : decide (b ≥ 0) = true := decide_eq_true b0
    have eb2 : decide (0 ≤ b) = true := decide_eq_true b0
    by_cases zx : x = 0
    case neg =>
      have yx : (x == 0) = false := by simp [zx]
      have hnn : decide (x = 0 ∧ s = 0 ∧ p = 0 ∧ q = 0 ∧ r = 0 ∧ l = []) = false := decide_eq_false (fun h => by obtain ⟨h1, h2, h3, h4, h5, _⟩ := h; exact zx (by assumption))
      have HNN := Lib.hid hnn
      clear hnn
      obtain ⟨z9, hz9⟩ : ∃ z, rqOk x s p q r l = z := ⟨_, rfl⟩
      rw [hz9]
      have HZ9 := Lib.hid hz9
      clear hz9
      go_enter Tryd.func9, Tryd.ntmps9
      go_wp2_with fail
      refine (specReqOk_any x s p q r A l c _ hl hc9 (by exact HA.out)).mono ?_
      rintro e w1 ⟨rfl, hb⟩
      have HF := Lib.hid (below_then HB0.out hb)
      clear hb
      rw [HZ9.out]
      go_wp2
      go_ret
      exact ⟨ret_bool (by simp), HF.out⟩
    have yx : (x == 0) = true := by simp [zx]
    have Zx := Lib.hid zx
    clear zx
    by_cases zs : s = 0
    case neg =>
      have ys : (s == 0) = false := by simp [zs]
      have hnn : decide (x = 0 ∧ s = 0 ∧ p = 0 ∧ q = 0 ∧ r = 0 ∧ l = []) = false := decide_eq_false (fun h => by obtain ⟨h1, h2, h3, h4, h5, _⟩ := h; exact zs (by assumption))
      have HNN := Lib.hid hnn
      clear hnn
      obtain ⟨z9, hz9⟩ : ∃ z, rqOk x s p q r l = z := ⟨_, rfl⟩
      rw [hz9]
      have HZ9 := Lib.hid hz9
      clear hz9
      go_enter Tryd.func9, Tryd.ntmps9
      go_wp2_with fail
      refine (specReqOk_any x s p q r A l c _ hl hc9 (by exact HA.out)).mono ?_
      rintro e w1 ⟨rfl, hb⟩
      have HF := Lib.hid (below_then HB0.out hb)
      clear hb
      rw [HZ9.out]
      go_wp2
      go_ret
      exact ⟨ret_bool (by simp), HF.out⟩
    have ys : (s == 0) = true := by simp [zs]
    have Zs := Lib.hid zs
    clear zs
    by_cases zp : p = 0
    case neg =>
      have yp : (p == 0) = false := by simp [zp]
      have hnn : decide (x = 0 ∧ s = 0 ∧ p = 0 ∧ q = 0 ∧ r = 0 ∧ l = []) = false := decide_eq_false (fun h => by obtain ⟨h1, h2, h3, h4, h5, _⟩ := h; exact zp (by assumption))
      have HNN := Lib.hid hnn
      clear hnn
      obtain ⟨z9, hz9⟩ : ∃ z, rqOk x s p q r l = z := ⟨_, rfl⟩
      rw [hz9]
      have HZ9 := Lib.hid hz9
      clear hz9
      go_enter Tryd.func9, Tryd.ntmps9
      go_wp2_with fail
      refine (specReqOk_any x s p q r A l c _ hl hc9 (by exact HA.out)).mono ?_
      rintro e w1 ⟨rfl, hb⟩
      have HF := Lib.hid (below_then HB0.out hb)
      clear hb
      rw [HZ9.out]
      go_wp2
      go_ret
      exact ⟨ret_bool (by simp), HF.out⟩
    have yp : (p == 0) = true := by simp [zp]
    have Zp := Lib.hid zp
    clear zp
    by_cases zq : q = 0
    case neg =>
      have yq : (q == 0) = false := by simp [zq]
      have hnn : decide (x = 0 ∧ s = 0 ∧ p = 0 ∧ q = 0 ∧ r = 0 ∧ l = []) = false := decide_eq_false (fun h => by obtain ⟨h1, h2, h3, h4, h5, _⟩ := h; exact zq (by assumption))
      have HNN := Lib.hid hnn
      clear hnn
      obtain ⟨z9, hz9⟩ : ∃ z, rqOk x s p q r l = z := ⟨_, rfl⟩
      rw [hz9]
      have HZ9 := Lib.hid hz9
      clear hz9
      go_enter Tryd.func9, Tryd.ntmps9
      go_wp2_with fail
      refine (specReqOk_any x s p q r A l c _ hl hc9 (by exact HA.out)).mono ?_
      rintro e w1 ⟨rfl, hb⟩
      have HF := Lib.hid (below_then HB0.out hb)
      clear hb
      rw [HZ9.out]
      go_wp2
      go_ret
      exact ⟨ret_bool (by simp), HF.out⟩
    have yq : (q == 0) = true := by simp [zq]
    have Zq := Lib.hid zq
    clear zq
    by_cases zr : r = 0
    case neg =>
      have yr : (r == 0) = false := by simp [zr]
      have hnn : decide (x = 0 ∧ s = 0 ∧ p = 0 ∧ q = 0 ∧ r = 0 ∧ l = []) = false := decide_eq_false (fun h => by obtain ⟨h1, h2, h3, h4, h5, _⟩ := h; exact zr (by assumption))
      have HNN := Lib.hid hnn
      clear hnn
      obtain ⟨z9, hz9⟩ : ∃ z, rqOk x s p q r l = z := ⟨_, rfl⟩
      rw [hz9]
      have HZ9 := Lib.hid hz9
      clear hz9
      go_enter Tryd.func9, Tryd.ntmps9
      go_wp2_with fail
      refine (specReqOk_any x s p q r A l c _ hl hc9 (by exact HA.out)).mono ?_
      rintro e w1 ⟨rfl, hb⟩
      have HF := Lib.hid (below_then HB0.out hb)
      clear hb
      rw [HZ9.out]
      go_wp2
      go_ret
      exact ⟨ret_bool (by simp), HF.out⟩
    have yr : (r == 0) = true := by simp [zr]
    have Zr := Lib.hid zr
    clear zr
    by_cases zl : l.length = 0
    case neg =>
      have yl : ((l.length : Int) == 0) = false := by simp; intro h; simp [h] at zl
      have hnn : decide (x = 0 ∧ s = 0 ∧ p = 0 ∧ q = 0 ∧ r = 0 ∧ l = []) = false := decide_eq_false (fun h => zl (by rw [h.2.2.2.2.2]; rfl))
      have HNN := Lib.hid hnn
      clear hnn
      obtain ⟨z9, hz9⟩ : ∃ z, rqOk x s p q r l = z := ⟨_, rfl⟩
      rw [hz9]
      have HZ9 := Lib.hid hz9
      clear hz9
      go_enter Tryd.func9, Tryd.ntmps9
      go_wp2_with fail
      refine (specReqOk_any x s p q r A l c _ hl hc9 (by exact HA.out)).mono ?_
      rintro e w1 ⟨rfl, hb⟩
      have HF := Lib.hid (below_then HB0.out hb)
      clear hb
      rw [HZ9.out]
      go_wp2
      go_ret
      exact ⟨ret_bool (by simp), HF.out⟩
    have yl : ((l.length : Int) == 0) = true := by simpa using zl
    have hnn : decide (x = 0 ∧ s = 0 ∧ p = 0 ∧ q = 0 ∧ r = 0 ∧ l = []) = true := decide_eq_true ⟨Zx.out, Zs.out, Zp.out, Zq.out, Zr.out, List.eq_nil_of_length_eq_zero zl⟩
    have HNN := Lib.hid hnn
    clear hnn Zx Zs Zp Zq Zr zl
    obtain ⟨z9, hz9⟩ : ∃ z, rqOk x s p q r l = z := ⟨_, rfl⟩
    rw [hz9]
    have HZ9 := Lib.hid hz9
    clear hz9
    go_enter Tryd.func9, Tryd.ntmps9
    go_wp2_with fail
    refine (specReqOk_any x s p q r A l c _ hl hc9 (by exact HA.out)).mono ?_
    rintro e w1 ⟨rfl, hb⟩
    have HF := Lib.hid (below_then HB0.out hb)
    clear hb
    rw [HZ9.out]
    go_wp2
    go_ret
    exact ⟨ret_bool (by simp), HF.out⟩
  by_cases k2 : k = 2
  case pos =>
    subst k2
    clear k1
    rw [actOk_two]
    by_cases p1 : 1 ≤ n
    case neg =>
      rw [decide_eq_false (fun h : 1 ≤ n ∧ n ≤ 1000 => p1 h.1)]
      have f1 : decide (n ≥ 1) = false := decide_eq_false p1
      have f3 : decide (1 ≤ n) = false := decide_eq_false p1
      by_cases zx : x = 0
      case neg =>
        have yx : (x == 0) = false := by simp [zx]
        have hnn : decide (x = 0 ∧ s = 0 ∧ p = 0 ∧ q = 0 ∧ r = 0 ∧ l = []) = false := decide_eq_false (fun h => by obtain ⟨h1, h2, h3, h4, h5, _⟩ := h; exact zx (by assumption))
        have HNN := Lib.hid hnn
        clear hnn
        go_enter Tryd.func9, Tryd.ntmps9
        go_wp2
        go_ret
        exact ⟨rfl, HB0.out⟩
      have yx : (x == 0) = true := by simp [zx]
      have Zx := Lib.hid zx
      clear zx
      by_cases zs : s = 0
      case neg =>
        have ys : (s == 0) = false := by simp [zs]
        have hnn : decide (x = 0 ∧ s = 0 ∧ p = 0 ∧ q = 0 ∧ r = 0 ∧ l = []) = false := decide_eq_false (fun h => by obtain ⟨h1, h2, h3, h4, h5, _⟩ := h; exact zs (by assumption))
        have HNN := Lib.hid hnn
        clear hnn
        go_enter Tryd.func9, Tryd.ntmps9
        go_wp2
        go_ret
        exact ⟨rfl, HB0.out⟩
      have ys : (s == 0) = true := by simp [zs]
      have Zs := Lib.hid zs
      clear zs
      by_cases zp : p = 0
      case neg =>
        have yp : (p == 0) = false := by simp [zp]
        have hnn : decide (x = 0 ∧ s = 0 ∧ p = 0 ∧ q = 0 ∧ r = 0 ∧ l = []) = false := decide_eq_false (fun h => by obtain ⟨h1, h2, h3, h4, h5, _⟩ := h; exact zp (by assumption))
        have HNN := Lib.hid hnn
        clear hnn
        go_enter Tryd.func9, Tryd.ntmps9
        go_wp2
        go_ret
        exact ⟨rfl, HB0.out⟩
      have yp : (p == 0) = true := by simp [zp]
      have Zp := Lib.hid zp
      clear zp
      by_cases zq : q = 0
      case neg =>
        have yq : (q == 0) = false := by simp [zq]
        have hnn : decide (x = 0 ∧ s = 0 ∧ p = 0 ∧ q = 0 ∧ r = 0 ∧ l = []) = false := decide_eq_false (fun h => by obtain ⟨h1, h2, h3, h4, h5, _⟩ := h; exact zq (by assumption))
        have HNN := Lib.hid hnn
        clear hnn
        go_enter Tryd.func9, Tryd.ntmps9
        go_wp2
        go_ret
        exact ⟨rfl, HB0.out⟩
      have yq : (q == 0) = true := by simp [zq]
      have Zq := Lib.hid zq
      clear zq
      by_cases zr : r = 0
      case neg =>
        have yr : (r == 0) = false := by simp [zr]
        have hnn : decide (x = 0 ∧ s = 0 ∧ p = 0 ∧ q = 0 ∧ r = 0 ∧ l = []) = false := decide_eq_false (fun h => by obtain ⟨h1, h2, h3, h4, h5, _⟩ := h; exact zr (by assumption))
        have HNN := Lib.hid hnn
        clear hnn
        go_enter Tryd.func9, Tryd.ntmps9
        go_wp2
        go_ret
        exact ⟨rfl, HB0.out⟩
      have yr : (r == 0) = true := by simp [zr]
      have Zr := Lib.hid zr
      clear zr
      by_cases zl : l.length = 0
      case neg =>
        have yl : ((l.length : Int) == 0) = false := by simp; intro h; simp [h] at zl
        have hnn : decide (x = 0 ∧ s = 0 ∧ p = 0 ∧ q = 0 ∧ r = 0 ∧ l = []) = false := decide_eq_false (fun h => zl (by rw [h.2.2.2.2.2]; rfl))
        have HNN := Lib.hid hnn
        clear hnn
        go_enter Tryd.func9, Tryd.ntmps9
        go_wp2
        go_ret
        exact ⟨rfl, HB0.out⟩
      have yl : ((l.length : Int) == 0) = true := by simpa using zl
      have hnn : decide (x = 0 ∧ s = 0 ∧ p = 0 ∧ q = 0 ∧ r = 0 ∧ l = []) = true := decide_eq_true ⟨Zx.out, Zs.out, Zp.out, Zq.out, Zr.out, List.eq_nil_of_length_eq_zero zl⟩
      have HNN := Lib.hid hnn
      clear hnn Zx Zs Zp Zq Zr zl
      go_enter Tryd.func9, Tryd.ntmps9
      go_wp2
      go_ret
      exact ⟨rfl, HB0.out⟩
    by_cases p2 : n ≤ 1000
    case neg =>
      rw [decide_eq_false (fun h : 1 ≤ n ∧ n ≤ 1000 => p2 h.2)]
      have f1 : decide (n ≥ 1) = true := decide_eq_true p1
      have f3 : decide (1 ≤ n) = true := decide_eq_true p1
      have f2 : decide (n ≤ 1000) = false := decide_eq_false p2
      by_cases zx : x = 0
      case neg =>
        have yx : (x == 0) = false := by simp [zx]
        have hnn : decide (x = 0 ∧ s = 0 ∧ p = 0 ∧ q = 0 ∧ r = 0 ∧ l = []) = false := decide_eq_false (fun h => by obtain ⟨h1, h2, h3, h4, h5, _⟩ := h; exact zx (by assumption))
        have HNN := Lib.hid hnn
        clear hnn
        go_enter Tryd.func9, Tryd.ntmps9
        go_wp2
        go_ret
        exact ⟨rfl, HB0.out⟩
      have yx : (x == 0) = true := by simp [zx]
      have Zx := Lib.hid zx
      clear zx
      by_cases zs : s = 0
      case neg =>
        have ys : (s == 0) = false := by simp [zs]
        have hnn : decide (x = 0 ∧ s = 0 ∧ p = 0 ∧ q = 0 ∧ r = 0 ∧ l = []) = false := decide_eq_false (fun h => by obtain ⟨h1, h2, h3, h4, h5, _⟩ := h; exact zs (by assumption))
        have HNN := Lib.hid hnn
        clear hnn
        go_enter Tryd.func9, Tryd.ntmps9
        go_wp2
        go_ret
        exact ⟨rfl, HB0.out⟩
      have ys : (s == 0) = true := by simp [zs]
      have Zs := Lib.hid zs
      clear zs
      by_cases zp : p = 0
      case neg =>
        have yp : (p == 0) = false := by simp [zp]
        have hnn : decide (x = 0 ∧ s = 0 ∧ p = 0 ∧ q = 0 ∧ r = 0 ∧ l = []) = false := decide_eq_false (fun h => by obtain ⟨h1, h2, h3, h4, h5, _⟩ := h; exact zp (by assumption))
        have HNN := Lib.hid hnn
        clear hnn
        go_enter Tryd.func9, Tryd.ntmps9
        go_wp2
        go_ret
        exact ⟨rfl, HB0.out⟩
      have yp : (p == 0) = true := by simp [zp]
      have Zp := Lib.hid zp
      clear zp
      by_cases zq : q = 0
      case neg =>
        have yq : (q == 0) = false := by simp [zq]
        have hnn : decide (x = 0 ∧ s = 0 ∧ p = 0 ∧ q = 0 ∧ r = 0 ∧ l = []) = false := decide_eq_false (fun h => by obtain ⟨h1, h2, h3, h4, h5, _⟩ := h; exact zq (by assumption))
        have HNN := Lib.hid hnn
        clear hnn
        go_enter Tryd.func9, Tryd.ntmps9
        go_wp2
        go_ret
        exact ⟨rfl, HB0.out⟩
      have yq : (q == 0) = true := by simp [zq]
      have Zq := Lib.hid zq
      clear zq
      by_cases zr : r = 0
      case neg =>
        have yr : (r == 0) = false := by simp [zr]
        have hnn : decide (x = 0 ∧ s = 0 ∧ p = 0 ∧ q = 0 ∧ r = 0 ∧ l = []) = false := decide_eq_false (fun h => by obtain ⟨h1, h2, h3, h4, h5, _⟩ := h; exact zr (by assumption))
        have HNN := Lib.hid hnn
        clear hnn
        go_enter Tryd.func9, Tryd.ntmps9
        go_wp2
        go_ret
        exact ⟨rfl, HB0.out⟩
      have yr : (r == 0) = true := by simp [zr]
      have Zr := Lib.hid zr
      clear zr
      by_cases zl : l.length = 0
      case neg =>
        have yl : ((l.length : Int) == 0) = false := by simp; intro h; simp [h] at zl
        have hnn : decide (x = 0 ∧ s = 0 ∧ p = 0 ∧ q = 0 ∧ r = 0 ∧ l = []) = false := decide_eq_false (fun h => zl (by rw [h.2.2.2.2.2]; rfl))
        have HNN := Lib.hid hnn
        clear hnn
        go_enter Tryd.func9, Tryd.ntmps9
        go_wp2
        go_ret
        exact ⟨rfl, HB0.out⟩
      have yl : ((l.length : Int) == 0) = true := by simpa using zl
      have hnn : decide (x = 0 ∧ s = 0 ∧ p = 0 ∧ q = 0 ∧ r = 0 ∧ l = []) = true := decide_eq_true ⟨Zx.out, Zs.out, Zp.out, Zq.out, Zr.out, List.eq_nil_of_length_eq_zero zl⟩
      have HNN := Lib.hid hnn
      clear hnn Zx Zs Zp Zq Zr zl
      go_enter Tryd.func9, Tryd.ntmps9
      go_wp2
      go_ret
      exact ⟨rfl, HB0.out⟩
    rw [decide_eq_true (show 1 ≤ n ∧ n ≤ 1000 from ⟨p1, p2⟩)]
    have f1 : decide (n ≥ 1) = true := decide_eq_true p1
    have f3 : decide (1 ≤ n) = true := decide_eq_true p1
    have f2 : decide (n ≤ 1000) = true := decide_eq_true p2
    by_cases b0 : b = 0
    case neg =>
      rw [decide_eq_false b0]
      have eb : (b == 0) = false := by simp [b0]
      by_cases zx : x = 0
      case neg =>
        have yx : (x == 0) = false := by simp [zx]
        have hnn : decide (x = 0 ∧ s = 0 ∧ p = 0 ∧ q = 0 ∧ r = 0 ∧ l = []) = false := decide_eq_false (fun h => by obtain ⟨h1, h2, h3, h4, h5, _⟩ := h; exact zx (by assumption))
        have HNN := Lib.hid hnn
        clear hnn
        go_enter Tryd.func9, Tryd.ntmps9
        go_wp2
        go_ret
        exact ⟨rfl, HB0.out⟩
      have yx : (x == 0) = true := by simp [zx]
      have Zx := Lib.hid zx
      clear zx
      by_cases zs : s = 0
      case neg =>
        have ys : (s == 0) = false := by simp [zs]
        have hnn : decide (x = 0 ∧ s = 0 ∧ p = 0 ∧ q = 0 ∧ r = 0 ∧ l = []) = false := decide_eq_false (fun h => by obtain ⟨h1, h2, h3, h4, h5, _⟩ := h; exact zs (by assumption))
        have HNN := Lib.hid hnn
        clear hnn
        go_enter Tryd.func9, Tryd.ntmps9
        go_wp2
        go_ret
        exact ⟨rfl, HB0.out⟩
      have ys : (s == 0) = true := by simp [zs]
      have Zs := Lib.hid zs
      clear zs
      by_cases zp : p = 0
      case neg =>
        have yp : (p == 0) = false := by simp [zp]
        have hnn : decide (x = 0 ∧ s = 0 ∧ p = 0 ∧ q = 0 ∧ r = 0 ∧ l = []) = false := decide_eq_false (fun h => by obtain ⟨h1, h2, h3, h4, h5, _⟩ := h; exact zp (by assumption))
        have HNN := Lib.hid hnn
        clear hnn
        go_enter Tryd.func9, Tryd.ntmps9
        go_wp2
        go_ret
        exact ⟨rfl, HB0.out⟩
      have yp : (p == 0) = true := by simp [zp]
      have Zp := Lib.hid zp
      clear zp
      by_cases zq : q = 0
      case neg =>
        have yq : (q == 0) = false := by simp [zq]
        have hnn : decide (x = 0 ∧ s = 0 ∧ p = 0 ∧ q = 0 ∧ r = 0 ∧ l = []) = false := decide_eq_false (fun h => by obtain ⟨h1, h2, h3, h4, h5, _⟩ := h; exact zq (by assumption))
        have HNN := Lib.hid hnn
        clear hnn
        go_enter Tryd.func9, Tryd.ntmps9
        go_wp2
        go_ret
        exact ⟨rfl, HB0.out⟩
      have yq : (q == 0) = true := by simp [zq]
      have Zq := Lib.hid zq
      clear zq
      by_cases zr : r = 0
      case neg =>
        have yr : (r == 0) = false := by simp [zr]
        have hnn : decide (x = 0 ∧ s = 0 ∧ p = 0 ∧ q = 0 ∧ r = 0 ∧ l = []) = false := decide_eq_false (fun h => by obtain ⟨h1, h2, h3, h4, h5, _⟩ := h; exact zr (by assumption))
        have HNN := Lib.hid hnn
        clear hnn
        go_enter Tryd.func9, Tryd.ntmps9
        go_wp2
        go_ret
        exact ⟨rfl, HB0.out⟩
      have yr : (r == 0) = true := by simp [zr]
      have Zr := Lib.hid zr
      clear zr
      by_cases zl : l.length = 0
      case neg =>
        have yl : ((l.length : Int) == 0) = false := by simp; intro h; simp [h] at zl
        have hnn : decide (x = 0 ∧ s = 0 ∧ p = 0 ∧ q = 0 ∧ r = 0 ∧ l = []) = false := decide_eq_false (fun h => zl (by rw [h.2.2.2.2.2]; rfl))
        have HNN := Lib.hid hnn
        clear hnn
        go_enter Tryd.func9, Tryd.ntmps9
        go_wp2
        go_ret
        exact ⟨rfl, HB0.out⟩
      have yl : ((l.length : Int) == 0) = true := by simpa using zl
      have hnn : decide (x = 0 ∧ s = 0 ∧ p = 0 ∧ q = 0 ∧ r = 0 ∧ l = []) = true := decide_eq_true ⟨Zx.out, Zs.out, Zp.out, Zq.out, Zr.out, List.eq_nil_of_length_eq_zero zl⟩
      have HNN := Lib.hid hnn
      clear hnn Zx Zs Zp Zq Zr zl
      go_enter Tryd.func9, Tryd.ntmps9
      go_wp2
      go_ret
      exact ⟨rfl, HB0.out⟩
    rw [decide_eq_true b0]
    have eb : (b == 0) = true := by simp [b0]
    clear b0
    by_cases zx : x = 0
    case neg =>
      have yx : (x == 0) = false := by simp [zx]
      have hnn : decide (x = 0 ∧ s = 0 ∧ p = 0 ∧ q = 0 ∧ r = 0 ∧ l = []) = false := decide_eq_false (fun h => by obtain ⟨h1, h2, h3, h4, h5, _⟩ := h; exact zx (by assumption))
      have HNN := Lib.hid hnn
      clear hnn
      rw [HNN.out]
      go_enter Tryd.func9, Tryd.ntmps9
      go_wp2
      go_ret
      exact ⟨rfl, HB0.out⟩
    have yx : (x == 0) = true := by simp [zx]
    have Zx := Lib.hid zx
    clear zx
    by_cases zs : s = 0
    case neg =>
      have ys : (s == 0) = false := by simp [zs]
      have hnn : decide (x = 0 ∧ s = 0 ∧ p = 0 ∧ q = 0 ∧ r = 0 ∧ l = []) = false := decide_eq_false (fun h => by obtain ⟨h1, h2, h3, h4, h5, _⟩ := h; exact zs (by assumption))
      have HNN := Lib.hid hnn
      clear hnn
      rw [HNN.out]
      go_enter Tryd.func9, Tryd.ntmps9
      go_wp2
      go_ret
      exact ⟨rfl, HB0.out⟩
    have ys : (s == 0) = true := by simp [zs]
    have Zs := Lib.hid zs
    clear zs
    by_cases zp : p = 0
    case neg =>
      have yp : (p == 0) = false := by simp [zp]
      have hnn : decide (x = 0 ∧ s = 0 ∧ p = 0 ∧ q = 0 ∧ r = 0 ∧ l = []) = false := decide_eq_false (fun h => by obtain ⟨h1, h2, h3, h4, h5, _⟩ := h; exact zp (by assumption))
      have HNN := Lib.hid hnn
      clear hnn
      rw [HNN.out]
      go_enter Tryd.func9, Tryd.ntmps9
      go_wp2
      go_ret
      exact ⟨rfl, HB0.out⟩
    have yp : (p == 0) = true := by simp [zp]
    have Zp := Lib.hid zp
    clear zp
    by_cases zq : q = 0
    case neg =>
      have yq : (q == 0) = false := by simp [zq]
      have hnn : decide (x = 0 ∧ s = 0 ∧ p = 0 ∧ q = 0 ∧ r = 0 ∧ l = []) = false := decide_eq_false (fun h => by obtain ⟨h1, h2, h3, h4, h5, _⟩ := h; exact zq (by assumption))
      have HNN := Lib.hid hnn
      clear hnn
      rw [HNN.out]
      go_enter Tryd.func9, Tryd.ntmps9
      go_wp2
      go_ret
      exact ⟨rfl, HB0.out⟩
    have yq : (q == 0) = true := by simp [zq]
    have Zq := Lib.hid zq
    clear zq
    by_cases zr : r = 0
    case neg =>
      have yr : (r == 0) = false := by simp [zr]
      have hnn : decide (x = 0 ∧ s = 0 ∧ p = 0 ∧ q = 0 ∧ r = 0 ∧ l = []) = false := decide_eq_false (fun h => by obtain ⟨h1, h2, h3, h4, h5, _⟩ := h; exact zr (by assumption))
      have HNN := Lib.hid hnn
      clear hnn
      rw [HNN.out]
      go_enter Tryd.func9, Tryd.ntmps9
      go_wp2
      go_ret
      exact ⟨rfl, HB0.out⟩
    have yr : (r == 0) = true := by simp [zr]
    have Zr := Lib.hid zr
    clear zr
    by_cases zl : l.length = 0
    case neg =>
      have yl : ((l.length : Int) == 0) = false := by simp; intro h; simp [h] at zl
      have hnn : decide (x = 0 ∧ s = 0 ∧ p = 0 ∧ q = 0 ∧ r = 0 ∧ l = []) = false := decide_eq_false (fun h => zl (by rw [h.2.2.2.2.2]; rfl))
      have HNN := Lib.hid hnn
      clear hnn
      rw [HNN.out]
      go_enter Tryd.func9, Tryd.ntmps9
      go_wp2
      go_ret
      exact ⟨rfl, HB0.out⟩
    have yl : ((l.length : Int) == 0) = true := by simpa using zl
    have hnn : decide (x = 0 ∧ s = 0 ∧ p = 0 ∧ q = 0 ∧ r = 0 ∧ l = []) = true := decide_eq_true ⟨Zx.out, Zs.out, Zp.out, Zq.out, Zr.out, List.eq_nil_of_length_eq_zero zl⟩
    have HNN := Lib.hid hnn
    clear hnn Zx Zs Zp Zq Zr zl
    rw [HNN.out]
    go_enter Tryd.func9, Tryd.ntmps9
    go_wp2
    go_ret
    exact ⟨rfl, HB0.out⟩
  rw [actOk_no k1 k2]
  have e1 : (k == 1) = false := by simp [k1]
  have e2 : (k == 2) = false := by simp [k2]
  by_cases zx : x = 0
  case neg =>
    have yx : (x == 0) = false := by simp [zx]
    have hnn : decide (x = 0 ∧ s = 0 ∧ p = 0 ∧ q = 0 ∧ r = 0 ∧ l = []) = false := decide_eq_false (fun h => by obtain ⟨h1, h2, h3, h4, h5, _⟩ := h; exact zx (by assumption))
    have HNN := Lib.hid hnn
    clear hnn
    go_enter Tryd.func9, Tryd.ntmps9
    go_wp2
    go_ret
    exact ⟨rfl, HB0.out⟩
  have yx : (x == 0) = true := by simp [zx]
  have Zx := Lib.hid zx
  clear zx
  by_cases zs : s = 0
  case neg =>
    have ys : (s == 0) = false := by simp [zs]
    have hnn : decide (x = 0 ∧ s = 0 ∧ p = 0 ∧ q = 0 ∧ r = 0 ∧ l = []) = false := decide_eq_false (fun h => by obtain ⟨h1, h2, h3, h4, h5, _⟩ := h; exact zs (by assumption))
    have HNN := Lib.hid hnn
    clear hnn
    go_enter Tryd.func9, Tryd.ntmps9
    go_wp2
    go_ret
    exact ⟨rfl, HB0.out⟩
  have ys : (s == 0) = true := by simp [zs]
  have Zs := Lib.hid zs
  clear zs
  by_cases zp : p = 0
  case neg =>
    have yp : (p == 0) = false := by simp [zp]
    have hnn : decide (x = 0 ∧ s = 0 ∧ p = 0 ∧ q = 0 ∧ r = 0 ∧ l = []) = false := decide_eq_false (fun h => by obtain ⟨h1, h2, h3, h4, h5, _⟩ := h; exact zp (by assumption))
    have HNN := Lib.hid hnn
    clear hnn
    go_enter Tryd.func9, Tryd.ntmps9
    go_wp2
    go_ret
    exact ⟨rfl, HB0.out⟩
  have yp : (p == 0) = true := by simp [zp]
  have Zp := Lib.hid zp
  clear zp
  by_cases zq : q = 0
  case neg =>
    have yq : (q == 0) = false := by simp [zq]
    have hnn : decide (x = 0 ∧ s = 0 ∧ p = 0 ∧ q = 0 ∧ r = 0 ∧ l = []) = false := decide_eq_false (fun h => by obtain ⟨h1, h2, h3, h4, h5, _⟩ := h; exact zq (by assumption))
    have HNN := Lib.hid hnn
    clear hnn
    go_enter Tryd.func9, Tryd.ntmps9
    go_wp2
    go_ret
    exact ⟨rfl, HB0.out⟩
  have yq : (q == 0) = true := by simp [zq]
  have Zq := Lib.hid zq
  clear zq
  by_cases zr : r = 0
  case neg =>
    have yr : (r == 0) = false := by simp [zr]
    have hnn : decide (x = 0 ∧ s = 0 ∧ p = 0 ∧ q = 0 ∧ r = 0 ∧ l = []) = false := decide_eq_false (fun h => by obtain ⟨h1, h2, h3, h4, h5, _⟩ := h; exact zr (by assumption))
    have HNN := Lib.hid hnn
    clear hnn
    go_enter Tryd.func9, Tryd.ntmps9
    go_wp2
    go_ret
    exact ⟨rfl, HB0.out⟩
  have yr : (r == 0) = true := by simp [zr]
  have Zr := Lib.hid zr
  clear zr
  by_cases zl : l.length = 0
  case neg =>
    have yl : ((l.length : Int) == 0) = false := by simp; intro h; simp [h] at zl
    have hnn : decide (x = 0 ∧ s = 0 ∧ p = 0 ∧ q = 0 ∧ r = 0 ∧ l = []) = false := decide_eq_false (fun h => zl (by rw [h.2.2.2.2.2]; rfl))
    have HNN := Lib.hid hnn
    clear hnn
    go_enter Tryd.func9, Tryd.ntmps9
    go_wp2
    go_ret
    exact ⟨rfl, HB0.out⟩
  have yl : ((l.length : Int) == 0) = true := by simpa using zl
  have hnn : decide (x = 0 ∧ s = 0 ∧ p = 0 ∧ q = 0 ∧ r = 0 ∧ l = []) = true := decide_eq_true ⟨Zx.out, Zs.out, Zp.out, Zq.out, Zr.out, List.eq_nil_of_length_eq_zero zl⟩
  have HNN := Lib.hid hnn
  clear hnn Zx Zs Zp Zq Zr zl
  go_enter Tryd.func9, Tryd.ntmps9
  go_wp2
  go_ret
  exact ⟨rfl, HB0.out⟩

set_option maxHeartbeats 16000000 in
theorem implActOk_any (k n b x s p q r : Int) (A : Option Addr) (l : List UInt8) (c : Nat) (w : World) (hl : l.length ≤ c) (hc9 : c ≤ 9223372036854775807) (hT : Tab w) (hA : Bs w A l) :
    Calls Tryd.prog 11 #[.agg #[.int .i64 k, .int .i64 n, .int .i64 b, .int .i64 x, .int .i64 s, .int .i64 p, .int .i64 q, .int .i64 r, .slice A l.length c]] w fun e w' => e = .returned (.bool (actOk k n b x s p q r l)) ∧ Below w.heap.size w w' := by
  have hb0 := bsm1 w (.cells #[.int .i64 k, .int .i64 n, .int .i64 b, .int .i64 x, .int .i64 s, .int .i64 p, .int .i64 q, .int .i64 r, .slice A l.length c] 31)
  have HA := Lib.hid (hA.below hb0)
  have HT := Lib.hid (hT.below hb0)
  have HB0 := Lib.hid hb0
  clear hA hb0 hT
  by_cases k1 : k = 1
  case pos =>
    subst k1
    rw [actOk_one]
    by_cases n0 : n = 0
    case neg =>
      rw [decide_eq_false n0]
      have en : (n == 0) = false := by simp [n0]
      go_enter Tryd.func11, Tryd.ntmps11
      go_wp2
      go_ret
      exact ⟨rfl, HB0.out⟩
    rw [decide_eq_true n0]
    have en : (n == 0) = true := by simp [n0]
    clear n0
    by_cases b0 : 0 ≤ b
    case neg =>
      rw [decide_eq_false b0]
      have eb : decide (b ≥ 0) = false := decide_eq_false b0
      have eb2 : decide (0 ≤ b) = false := decide_eq_false b0
      go_enter Tryd.func11, Tryd.ntmps11
      go_wp2
      go_ret
      exact ⟨rfl, HB0.out⟩
    rw [decide_eq_true b0]
    have eb : decide (b ≥ 0) = true := decide_eq_true b0
    have eb2 : decide (0 ≤ b) = true := decide_eq_true b0
    obtain ⟨z9, hz9⟩ : ∃ z, rqOk x s p q r l = z := ⟨_, rfl⟩
    rw [hz9]
    have HZ9 := Lib.hid hz9
    clear hz9
    go_enter Tryd.func11, Tryd.ntmps11
    go_wp2_with fail
    refine (implReqOk_any x s p q r A l c _ hl hc9 (by exact HT.out) (by exact HA.out)).mono ?_
    rintro e w1 ⟨rfl, hb⟩
    have HF := Lib.hid (below_then HB0.out hb)
    clear hb
    rw [HZ9.out]
    go_wp2
    go_ret
    exact ⟨ret_bool (by simp), HF.out⟩
  by_cases k2 : k = 2
  case pos =>
    subst k2
    clear k1
    rw [actOk_two]
    obtain ⟨g, hg⟩ : ∃ g, decide (1 ≤ n ∧ n ≤ 1000) = g := ⟨_, rfl⟩
    rw [hg]
    have HG := Lib.hid hg
    clear hg
    cases g
    case false =>
      go_enter Tryd.func11, Tryd.ntmps11
      go_wp2_with fail
      refine (isTick_any n _).mono ?_
      rintro e w1 ⟨rfl, rfl⟩
      rw [HG.out]
      go_wp2
      go_ret
      exact ⟨rfl, HB0.out⟩
    by_cases b0 : b = 0
    case neg =>
      rw [decide_eq_false b0]
      have eb : (b == 0) = false := by simp [b0]
      go_enter Tryd.func11, Tryd.ntmps11
      go_wp2_with fail
      refine (isTick_any n _).mono ?_
      rintro e w1 ⟨rfl, rfl⟩
      rw [HG.out]
      go_wp2
      go_ret
      exact ⟨rfl, HB0.out⟩
    rw [decide_eq_true b0]
    have eb : (b == 0) = true := by simp [b0]
    clear b0
    obtain ⟨z9, hz9⟩ : ∃ z, decide (x = 0 ∧ s = 0 ∧ p = 0 ∧ q = 0 ∧ r = 0 ∧ l = []) = z := ⟨_, rfl⟩
    rw [hz9]
    have HZ9 := Lib.hid hz9
    clear hz9
    go_enter Tryd.func11, Tryd.ntmps11
    go_wp2_with fail
    refine (isTick_any n _).mono ?_
    rintro e w1 ⟨rfl, rfl⟩
    rw [HG.out]
    go_wp2_with fail
    refine (reqEquals_any x s p q r 0 0 0 0 0 A none l [] c 0 _ (by exact HA.out) (fun k hk => absurd hk (by simp))).mono ?_
    rintro e w1 ⟨rfl, hb⟩
    have HF := Lib.hid (below_then HB0.out hb)
    clear hb
    rw [HZ9.out]
    go_wp2
    go_ret
    exact ⟨ret_bool (by simp), HF.out⟩
  rw [actOk_no k1 k2]
  have e1 : (k == 1) = false := by simp [k1]
  have e2 : (k == 2) = false := by simp [k2]
  go_enter Tryd.func11, Tryd.ntmps11
  go_wp2
  go_ret
  exact ⟨rfl, HB0.out⟩
end Go.Proofs.YtgpjjolgpppeeaaDoor
