/-
  FnEditsDo, its walk. Own work.
-/
import Derived.Test.YtkplfbhblbinaaaDoorLaw
import Derived.Test.YtkplfbhblbinaaaDoorC05
import Derived.Test.YtkplfbhblbinaaaDoorCur12
import Derived.Deep.RegionHeld3
namespace Go.Proofs.YtkplfbhblbinaaaDoor.fnEditsDo
open Go.ChangeShapes Go.WideShapes Go.ChangeAt Go.RowKit P
set_option linter.unusedVariables false
set_option maxRecDepth 100000

theorem es_sub {w : World} {b off : Nat} {es : List Ed} (h : Es w (some ⟨b, off, none⟩) es) (k : Nat) : Es w (some ⟨b, off + k * 3, none⟩) (es.drop k) := by
  intro j hj
  rw [List.length_drop] at hj
  obtain ⟨b', off', us, hA, hlt, hus, hc, hr⟩ := h (k + j) (by omega)
  cases hA
  refine ⟨b, off + k * 3, us, rfl, hlt, hus, fun i hi => ?_, by rw [List.getElem_drop]; exact hr⟩
  rw [show off + k * 3 + (j * 3 + i) = off + ((k + j) * 3 + i) by rw [Nat.add_mul]; omega]
  exact hc i hi
theorem es_head {w : World} {A : Option Addr} {es : List Ed} (h : Es w A es) (k : Nat) : Es w A (es.take k) := by
  intro j hj
  rw [List.length_take] at hj
  obtain ⟨b, off, us, hA, hlt, hus, hc, hr⟩ := h j (by omega)
  exact ⟨b, off, us, hA, hlt, hus, hc, by rw [List.getElem_take]; exact hr⟩
theorem eslc_head (A : Option Addr) (n c k : Nat) (hA : A = none → c = 0) (hp : ∀ x, A = some x → ∃ g o, x = ⟨g, o, none⟩) (hk : k ≤ c) (hk9 : k ≤ 1000) :
    ∀ W, (Instr.slice 43 (.slice A n c) none (some (.int .i64 (k : Int))) none).run Tryd.prog W = .ok (.slice A k c) W := by
  intro W
  have hz : ∀ W, (Go.sizeOf 25).run Tryd.prog W = .ok 3 W := fun W => by kernel_rfl
  have ht' : Tryd.prog.underlying 43 = some (.slice (Tryd.prog.elem 43)) := by simp [Program.elem, Tryd.underlying43]
  have he : Tryd.prog.elem 43 = 25 := by simp [Program.elem, Tryd.underlying43]
  rw [run_slice_h W 43 _ _ _ ht' .i64 _ (by omega) (by omega), he, hz]
  cases A with
  | none =>
    have h0 := hA rfl
    subst h0
    have : k = 0 := by omega
    subst this
    simp [Result.andThen, sliced]
  | some x =>
    obtain ⟨g, o, rfl⟩ := hp x rfl
    simp [Result.andThen, sliced, Addr.add]
theorem eslc_tail (A : Option Addr) (n c i : Nat) (w : World) (es : List Ed) (hA : A = none → c = 0) (hp : ∀ a, A = some a → ∃ g o, a = ⟨g, o, none⟩) (hn : es.length = n) (hi : i ≤ n) (hc : n ≤ c) (hc9 : c ≤ 9223372036854775807) (hE : Es w A es) :
    ∃ A', (∀ W, (Instr.slice 43 (.slice A n c) (some (.int .i64 (i : Int))) none none).run Tryd.prog W = .ok (.slice A' (n - i) (c - i)) W) ∧ Es w A' (es.drop i) := by
  have hz : ∀ W, (Go.sizeOf 25).run Tryd.prog W = .ok 3 W := fun W => by kernel_rfl
  have ht' : Tryd.prog.underlying 43 = some (.slice (Tryd.prog.elem 43)) := by simp [Program.elem, Tryd.underlying43]
  have he : Tryd.prog.elem 43 = 25 := by simp [Program.elem, Tryd.underlying43]
  cases A with
  | none =>
    have h0 := hA rfl
    subst h0
    refine ⟨none, fun W => ?_, fun k hk => by rw [List.length_drop] at hk; omega⟩
    rw [run_slice_l W 43 _ _ _ ht' .i64 _ (by omega) (by omega), he, hz]
    simp [Result.andThen, sliced]
  | some x =>
    obtain ⟨g, o, rfl⟩ := hp x rfl
    refine ⟨some (if c = i then ⟨g, o, none⟩ else ⟨g, o + i * 3, none⟩), fun W => ?_, ?_⟩
    · rw [run_slice_l W 43 _ _ _ ht' .i64 _ (by omega) (by omega), he, hz]
      by_cases h0 : c = i
      · simp [Result.andThen, sliced, h0]
      · by_cases h1 : i = 0
        · subst h1; simp [Result.andThen, sliced, Addr.add, h0]
        · have h2 : ¬ i * 3 = 0 := by omega
          simp [Result.andThen, sliced, Addr.add, h0, h2]
    · by_cases h0 : c = i
      · intro k hk
        rw [List.length_drop] at hk
        omega
      · rw [if_neg h0]
        exact es_sub hE i

set_option maxHeartbeats 8000000 in
theorem walk (A : Option Addr) (l : List UInt8) (c : Nat) (hc : l.length ≤ c) (hm : c ≤ maxLen) (w : World) (hB : Bs w A l) (hT : Tab w) :
    Calls Tryd.prog 6 #[.slice A l.length c] w fun e w' => e = .returned (.bool true) ∧ Below w.heap.size w w' := by
  by_cases hbig : 1048576 < l.length
  · have hb : decide (1048576 < l.length) = true := decide_eq_true hbig
    have HBG := Lib.hid hb
    clear hb hbig
    go_enter Tryd.func6, Tryd.ntmps6
    go_wp2_with (go_at_call 12; refine (big_any _ _ _ _).mono ?_; rintro e w' ⟨rfl, rfl⟩; rw [HBG.out])
    go_ret
    exact ⟨rfl, Below.refl _ _⟩
  have hl : l.length ≤ 1048576 := by omega
  have hb : decide (1048576 < l.length) = false := decide_eq_false hbig
  have HBG := Lib.hid hb
  clear hb hbig hc hm
  go_enter Tryd.func6, Tryd.ntmps6
  go_wp2_with fail
  refine (big_any _ _ _ _).mono ?_
  rintro e w0 ⟨rfl, rfl⟩
  rw [HBG.out]
  go_wp2_with fail
  refine (drawEditsDo_any A l c _ hl (by exact hB)).mono ?_
  rintro e w1 ⟨A1, t, c1, B1, es, d1, rfl, ht4, hc1, hc19, hP1, hX1, hes, hd1, hd1m, hQ1, hE1, hb1⟩
  have hd19 : d1 ≤ 9223372036854775807 := by unfold maxLen at hd1m; omega
  obtain ⟨U, hU⟩ : ∃ z, edsText t es = z := ⟨_, rfl⟩
  obtain ⟨N, hN⟩ : ∃ z, edsN t es = z := ⟨_, rfl⟩
  obtain ⟨q, hq⟩ : ∃ z, isText t = z := ⟨_, rfl⟩
  have hN0 : q = false → N = -1 := fun h => by rw [← hN]; unfold edsN; rw [hq, h]; rfl
  have hN1 : q = true → N = ((edsRun t es).2 : Int) ∧ U = (edsRun t es).1 := fun h => by rw [← hN, ← hU]; unfold edsN edsText; rw [hq, h]; exact ⟨rfl, rfl⟩
  have HU := Lib.hid hU
  have HN := Lib.hid hN
  have HQ := Lib.hid hq
  have H0 := Lib.hid hN0
  have H1 := Lib.hid hN1
  have hnn : (N != N) = false := by simp
  have hne : (N == N) = true := by simp
  have huu : (U != U) = false := by simp
  have hue : (U == U) = true := by simp
  have hes9 : es.length ≤ 9223372036854775807 := by omega
  clear hU hN hq hN0 hN1 HBG
  go_wp2_with fail
  refine (specEditsDo_any A1 t c1 B1 es d1 _ hc1 hc19 hes9 (by exact hX1) (by exact hE1)).mono ?_
  rintro e w2 ⟨v2, rfl, hown2, hb2⟩
  rw [HN.out]
  rw [HU.out] at hown2
  obtain ⟨A2, c2, rfl, _, _, hB2⟩ := hown2.form
  have hX1 := hX1.below hb2
  have hE1 := hE1.below hb2
  have hb1 := below_then hb1 hb2
  clear hb2 hown2
  go_wp2_with fail
  refine (implEditsDo_any A1 t c1 B1 es d1 _ hc1 hc19 hes9 (by exact hT.below hb1) (by exact hX1) (by exact hE1)).mono ?_
  rintro e w3 ⟨v3, rfl, hown3, hb3⟩
  rw [HN.out]
  rw [HU.out] at hown3
  obtain ⟨A3, c3, rfl, _, _, hB3⟩ := hown3.form
  have hX1 := hX1.below hb3
  have hE1 := hE1.below hb3
  have hB2 := hB2.below hb3
  have hb1 := below_then hb1 hb3
  have hcv2 := run_conv_bs c2 U.length rfl hB2
  have hcv3 := run_conv_bs c3 U.length rfl hB3
  clear hb3 hown3
  cases q
  · have hneg : N < 0 := by have := H0.out rfl; omega
    go_wp2
    go_ret
    exact ⟨rfl, hb1⟩
  obtain ⟨e1, e2⟩ := H1.out rfl
  have hle := edsRun_le es t
  have hN9 : 0 ≤ N ∧ N ≤ 11 := by omega
  have hnneg : ¬ N < 0 := by omega
  have hwr : IntKind.i64.wrap (N + 1) = N + 1 := IntWalk.i64_in _ ⟨by omega, by omega⟩
  have HE1 := Lib.hid e1
  have HE2 := Lib.hid e2
  clear e1 e2
  go_wp2_with fail
  refine (lawPick_any A l c (N + 1) _ hl (by omega) (by omega) (by exact hB.below hb1)).mono ?_
  rintro e w4 ⟨⟨x, rfl, hx0, hx1⟩, hb4⟩
  obtain ⟨k, rfl⟩ := Int.eq_ofNat_of_zero_le hx0
  have hk : k ≤ (edsRun t es).2 := by have := HE1.out; omega
  have hsp := edsRun_split es t k hk
  have hX1 := hX1.below hb4
  have hE1 := hE1.below hb4
  have hB3 := hB3.below hb4
  have hb1 := below_then hb1 hb4
  obtain ⟨V, hV⟩ : ∃ V, (edsRun t (es.take k)).1 = V := ⟨_, rfl⟩
  have hVt : isText V = true := by rw [← hV]; exact edsRun_text _ t HQ.out
  rw [hV] at hsp
  have t1 : edsText t (es.take k) = V := by unfold edsText; rw [HQ.out, if_pos rfl, hV]
  have t2 : edsN t (es.take k) = (k : Int) := by unfold edsN; rw [HQ.out, if_pos rfl, hsp.1]
  have t3 : edsText V (es.drop k) = U := by unfold edsText; rw [hVt, if_pos rfl, hsp.2.1, HE2.out]
  have t4 : edsN V (es.drop k) = N - (k : Int) := by unfold edsN; rw [hVt, if_pos rfl]; have := HE1.out; have := hsp.2.2; omega
  have hVl := isText_len hVt
  have hkl : k ≤ es.length := by omega
  have hs1 := eslc_head B1 es.length d1 k hQ1.1 hQ1.2 (by omega) (by omega)
  obtain ⟨B2, hs2, hE2⟩ := eslc_tail B1 es.length d1 k w4 es hQ1.1 hQ1.2 rfl hkl hd1 hd19 hE1
  obtain ⟨Y, hY⟩ : ∃ Y, es.take k = Y := ⟨_, rfl⟩
  obtain ⟨Z, hZ⟩ : ∃ Z, es.drop k = Z := ⟨_, rfl⟩
  have hYl : k = Y.length := by rw [← hY, List.length_take]; omega
  have hZl : es.length - k = Z.length := by rw [← hZ, List.length_drop]
  have hEY : Es w4 B1 Y := by rw [← hY]; exact es_head hE1 k
  rw [hY] at t1 t2
  rw [hZ] at t3 t4 hE2
  rw [hZl] at hs2
  have hs1' : ∀ W, (Instr.slice 43 (.slice B1 es.length d1) none (some (.int .i64 (k : Int))) none).run Tryd.prog W = .ok (.slice B1 Y.length d1) W := fun W => by rw [← hYl]; exact hs1 W
  have hkN : (k : Int) ≤ N := by have := HE1.out; omega
  have hwr2 : IntKind.i64.wrap (N - (k : Int)) = N - (k : Int) := IntWalk.i64_in _ ⟨by omega, by omega⟩
  have hkk : ((k : Int) == (k : Int)) = true := by simp
  have hnk : (N - (k : Int) == N - (k : Int)) = true := by simp
  have T1 := Lib.hid t1
  have T2 := Lib.hid t2
  have T3 := Lib.hid t3
  have T4 := Lib.hid t4
  have HVT := Lib.hid hVt
  have hY9 : Y.length ≤ 9223372036854775807 := by omega
  have hZ9 : Z.length ≤ 9223372036854775807 := by omega
  clear t1 t2 t3 t4 hVt hV hsp hY hZ hYl hZl hs1 hcv2 hcv3 hb4 hx0 hx1 hk hle
  go_wp2_with fail
  refine (implEditsDo_any A1 t c1 B1 Y d1 _ hc1 hc19 hY9 (by exact hT.below hb1) (by exact hX1) (by exact hEY)).mono ?_
  rintro e w5 ⟨v5, rfl, hown5, hb5⟩
  rw [T2.out]
  rw [T1.out] at hown5
  obtain ⟨A5, c5, rfl, hc5, hc59, hB5, _, _⟩ := own_plain9 hown5
  have hB3 := hB3.below hb5
  have hE2 := hE2.below hb5
  have hb1 := below_then hb1 hb5
  clear hb5 hown5
  go_wp2_with fail
  refine (implEditsDo_any A5 V c5 B2 Z (d1 - k) _ hc5 hc59 hZ9 (by exact hT.below hb1) (by exact hB5) (by exact hE2)).mono ?_
  rintro e w6 ⟨v6, rfl, hown6, hb6⟩
  rw [T4.out]
  rw [T3.out] at hown6
  obtain ⟨A6, c6, rfl, _, _, hB6⟩ := hown6.form
  have hB3 := hB3.below hb6
  have hb1 := below_then hb1 hb6
  have hcv3 := run_conv_bs c3 U.length rfl hB3
  have hcv6 := run_conv_bs c6 U.length rfl hB6
  clear hb6 hown6
  go_wp2
  go_ret
  exact ⟨rfl, hb1⟩

end Go.Proofs.YtkplfbhblbinaaaDoor.fnEditsDo
