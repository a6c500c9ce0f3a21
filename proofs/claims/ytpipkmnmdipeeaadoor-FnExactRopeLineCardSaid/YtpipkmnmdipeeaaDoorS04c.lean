/-
  Chapter 4, the model's RopeLine: contract. Own work.
-/
import Derived.Test.YtpipkmnmdipeeaaDoorS04b
namespace Go.Proofs.YtpipkmnmdipeeaaDoor
open Go.RowKit P
set_option linter.unusedVariables false
set_option maxRecDepth 100000

theorem ten_eq {x : UInt8} (h : x = 10) : ((x.toNat : Int) == 10) = true := by subst h; rfl
theorem ten_ne {x : UInt8} (h : x ≠ 10) : ((x.toNat : Int) == 10) = false := by
  rw [beq_eq_false_iff_ne]
  intro e
  apply h
  apply UInt8.toNat_inj.1
  have : (10 : UInt8).toNat = 10 := rfl
  omega

set_option maxHeartbeats 2000000 in
theorem specRopeLine_any (A : Option Addr) (ls : List (List UInt8)) (c : Nat) (a : Int) (w : World) (hn : ls.length ≤ 9223372036854775807) (hC : Cs w A ls) :
    Calls Tryd.prog 45 #[.agg #[.slice A ls.length c], .int .i64 a] w fun e w' => e = .returned (.tuple #[.int .i64 (ropeLine ls a).1, .int .i64 (ropeLine ls a).2]) ∧ Below w.heap.size w w' := by
  have hb0 := (Below.refl w.heap.size w).alloc (Nat.le_refl _) (.cells #[.slice A ls.length c] 29)
  have bA0 := Blk.new w #[.slice A ls.length c] 29
  have hC0 := hC.below hb0
  by_cases hcut : rCut ls a = true
  · obtain ⟨hok, k, rfl, hk, hbd⟩ := rCut_true hcut
    have hlen := chunksText_len ls
    have hrl : ropeLine ls (k : Int) = (((lines ((chunksText ls).take k) : Nat) : Int), runeCount (((chunksText ls).take k).drop (lineFrom ((chunksText ls).take k)))) := by
      unfold ropeLine; rw [if_pos hcut, Int.toNat_natCast]
    rw [hrl]
    obtain ⟨T, hT⟩ : ∃ T, chunksText ls = T := ⟨_, rfl⟩
    rw [hT] at hlen hk ⊢
    have HT := Lib.hid hT
    have HCUT := Lib.hid hcut
    clear hT hcut hok hbd hrl
    obtain ⟨X, hX⟩ : ∃ X, T.take k = X := ⟨_, rfl⟩
    have hXl : X.length = k := by rw [← hX, List.length_take]; omega
    rw [hX]
    have hlf := lineFrom_le X
    rw [hXl] at hlf
    obtain ⟨fr, hfr⟩ : ∃ fr, lineFrom X = fr := ⟨_, rfl⟩
    rw [hfr] at hlf ⊢
    have HX := Lib.hid hX
    have HFR := Lib.hid hfr
    have HXL := Lib.hid hXl
    obtain ⟨Y, hY⟩ : ∃ Y, X.drop fr = Y := ⟨_, rfl⟩
    have hYl : Y.length = k - fr := by rw [← hY, List.length_drop, hXl]
    obtain ⟨p, hp⟩ : ∃ p, lines X = p := ⟨_, rfl⟩
    rw [hY, hp]
    have HY := Lib.hid hY
    have HP := Lib.hid hp
    have HYL := Lib.hid hYl
    clear hX hfr hXl hY hp hYl
    have hk9 : (k : Int) ≤ 400 := by omega
    go_enter Tryd.func45, Tryd.ntmps45
    go_wp2_with fail
    refine (l04Cut_any A ls c k _ hn (by exact hC0)).mono ?_
    rintro e w1 ⟨rfl, hb1⟩
    rw [HCUT.out]
    have kA : w1.cell? ⟨w.heap.size, 0, none⟩ = some (.slice A ls.length c) := by rw [(bA0.below hb1).cell]; rfl
    have hC1 := hC0.below hb1
    have hb2 := below_then hb0 hb1
    clear hb0 hb1 hC0 bA0
    go_wp2_with fail
    refine (specRopeText_any A ls c _ hn (by exact hC1)).mono ?_
    rintro e w2 ⟨v, rfl, hown, hb3⟩
    rw [HT.out] at hown
    have hb4 := below_then hb2 hb3
    obtain ⟨B, d, hv, h1, h2, hB⟩ := hown.form
    have hd9 : d ≤ 9223372036854775807 := by unfold maxLen at h2; omega
    have hform : (B = none ∧ d = 0) ∨ ∃ g, B = some ⟨g, 0, none⟩ := by
      rcases hown.2 with ⟨e, _⟩ | ⟨g, cap, cur, e, _⟩
      · rw [hv] at e; simp only [Value.slice.injEq] at e; exact .inl ⟨e.1, e.2.2⟩
      · rw [hv] at e; simp only [Value.slice.injEq] at e; exact .inr ⟨g, e.1⟩
    subst hv
    clear hown hC1 h2 hb2 hb3 kA
    have hBX : Bs w2 B X := by
      intro j hj
      have hjk : j < k := by rw [← HXL.out]; exact hj
      obtain ⟨b, off, hA, hlt, hc⟩ := hB j (by omega)
      refine ⟨b, off, hA, hlt, ?_⟩
      rw [hc]
      have : X[j]'hj = T[j]'(by omega) := by
        have := HX.out
        subst this
        rw [List.getElem_take]
      rw [this]
    have hn1 : B = none → d = 0 := fun e => by rcases hform with ⟨_, h⟩ | ⟨g, h⟩; exact h; rw [h] at e; cases e
    have hn2 : ∀ x, B = some x → ∃ g o, x = ⟨g, o, none⟩ := fun x e => by rcases hform with ⟨h, _⟩ | ⟨g, h⟩; rw [h] at e; cases e; rw [h] at e; cases e; exact ⟨g, 0, rfl⟩
    obtain ⟨B', hsl, hB'⟩ := slice_part B k d fr w2 X hn1 hn2 HXL.out hlf (by omega) hd9 hBX
    have hsl0 : ∀ W, (Instr.slice 33 (.slice B T.length d) none (some (.int .i64 (k : Int))) none).run Tryd.prog W = .ok (.slice B k d) W := by
      intro W
      have hz : ∀ W, (Go.sizeOf 5).run Tryd.prog W = .ok 1 W := fun W => by kernel_rfl
      have ht' : Tryd.prog.underlying 33 = some (.slice (Tryd.prog.elem 33)) := by simp [Program.elem, Tryd.underlying33]
      have he : Tryd.prog.elem 33 = 5 := by simp [Program.elem, Tryd.underlying33]
      rw [run_slice_h W 33 _ _ _ ht' .i64 _ (by omega) (by omega), he, hz]
      rcases hform with ⟨rfl, rfl⟩ | ⟨g, rfl⟩
      · have : k = 0 := by omega
        subst this
        simp [Result.andThen, sliced]
      · simp [Result.andThen, sliced, Addr.add]
    clear hn1 hn2 hform hB
    go_wp2
    go_loop [7, 8, 9] (fun ln f i => ∃ j : Nat, j ≤ k ∧ i = .int .i64 j ∧ ln = .int .i64 ((lines (X.take j) : Nat) : Int) ∧ f = .int .i64 ((lineFrom (X.take j) : Nat) : Int)) (fun _ _ i => k - (intOf i).toNat)
    case atStart => exact ⟨0, Nat.zero_le _, rfl, by simp [lines], by simp [lineFrom_nil]⟩
    case round =>
      obtain ⟨j, hj, rfl, rfl, rfl⟩ := hrel
      by_cases hlt : j < k
      · have hjX : j < X.length := by rw [HXL.out]; exact hlt
        obtain ⟨b, off, rfl, hbl, hc⟩ := hBX j hjX
        have hsn := lines_snoc X j hjX
        have hlf1 := lineFrom_take X j hjX
        have hll := lines_le (X.take j)
        have hl2 := lineFrom_le (X.take j)
        have hlx : (X.take j).length ≤ 400 := by rw [List.length_take]; omega
        have HSN := Lib.hid hsn
        have HLF := Lib.hid hlf1
        clear hsn hlf1
        generalize lines (X.take j) = p at *
        generalize lineFrom (X.take j) = q at *
        generalize hx : X[j] = x at *
        clear hx
        have hjk : (j : Int) < (k : Int) := by omega
        by_cases h10 : x = 10
        · have hq := ten_eq h10
          have H10 := Lib.hid h10
          clear h10
          go_wp2
          go_round
          case rel => exact ⟨j + 1, by omega, by go_num, by rw [HSN.out, if_pos H10.out]; go_num, by rw [HLF.out, if_pos H10.out]; go_num⟩
          case measure => simp [intOf]; omega
        · have hq := ten_ne h10
          have H10 := Lib.hid h10
          clear h10
          go_wp2
          go_round
          case rel => exact ⟨j + 1, by omega, by go_num, by rw [HSN.out, if_neg H10.out]; go_num, by rw [HLF.out, if_neg H10.out]⟩
          case measure => simp [intOf]; omega
      · have e : j = k := by omega
        subst e
        have htk : X.take j = X := List.take_of_length_le (by rw [HXL.out]; omega)
        rw [htk, HFR.out, HP.out]
        have hyl := HYL.out
        rw [HY.out] at hB'
        clear htk
        go_wp2_with fail
        have hcon := specRuneCount_any B' Y (d - fr) w2 (by omega) (by omega) hB'
        rw [hyl] at hcon
        refine hcon.mono ?_
        rintro e w3 ⟨rfl, hb5⟩
        have hb6 := below_then hb4 hb5
        go_wp2
        go_ret2
        exact ⟨rfl, hb6⟩
  · have hf : rCut ls a = false := by simpa using hcut
    have hrl : ropeLine ls a = (-1, -1) := by unfold ropeLine; rw [if_neg hcut]
    rw [hrl]
    have HCUT := Lib.hid hf
    clear hf hcut hrl
    go_enter Tryd.func45, Tryd.ntmps45
    go_wp2_with fail
    refine (l04Cut_any A ls c a _ hn (by exact hC0)).mono ?_
    rintro e w1 ⟨rfl, hb1⟩
    rw [HCUT.out]
    have hb2 := below_then hb0 hb1
    go_wp2
    go_ret2
    exact ⟨rfl, hb2⟩
end Go.Proofs.YtpipkmnmdipeeaaDoor
