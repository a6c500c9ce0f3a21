/-
  Chapter 4, the program's RopeLine: contract. Own work.
-/
import Derived.Test.YtpipkmnmdipeeaaDoorI04b
import Derived.Test.YtpipkmnmdipeeaaDoorS04c
namespace Go.Proofs.YtpipkmnmdipeeaaDoor
open Go.RowKit P
set_option linter.unusedVariables false
set_option maxRecDepth 100000

/-- Own bytes: nil, or a block of their own. -/
theorem Own.form2 {w : World} {base : Nat} {v : Value} {l : List UInt8} (h : Own w base v l) : ∃ A c, v = .slice A l.length c ∧ l.length ≤ c ∧ c ≤ 9223372036854775807 ∧ Bs w A l ∧ (A = none → c = 0) ∧ (∀ x, A = some x → ∃ g o, x = ⟨g, o, none⟩) := by
  obtain ⟨A, c, hv, h1, h2, hB⟩ := h.form
  refine ⟨A, c, hv, h1, by unfold maxLen at h2; omega, hB, ?_, ?_⟩
  · intro hA
    rcases h.2 with ⟨e, _⟩ | ⟨g, cap, cur, e, _⟩
    · rw [hv] at e; simp only [Value.slice.injEq] at e; exact e.2.2
    · rw [hv] at e; simp only [Value.slice.injEq] at e; rw [hA] at e; exact absurd e.1 (by simp)
  · intro x hx
    rcases h.2 with ⟨e, _⟩ | ⟨g, cap, cur, e, _⟩
    · rw [hv] at e; simp only [Value.slice.injEq] at e; rw [hx] at e; exact absurd e.1 (by simp)
    · rw [hv] at e; simp only [Value.slice.injEq] at e; rw [hx] at e; exact ⟨g, 0, Option.some.inj e.1⟩

/-- 's[:k]' of bytes. -/
theorem slice_head (A : Option Addr) (n c k : Nat) (hA : A = none → c = 0) (hp : ∀ x, A = some x → ∃ g o, x = ⟨g, o, none⟩) (hk : k ≤ c) :
    ∀ W, (Instr.slice 33 (.slice A n c) none (some (.int .i64 (k : Int))) none).run Tryd.prog W = .ok (.slice A k c) W := by
  intro W
  have hz : ∀ W, (Go.sizeOf 5).run Tryd.prog W = .ok 1 W := fun W => by kernel_rfl
  have ht' : Tryd.prog.underlying 33 = some (.slice (Tryd.prog.elem 33)) := by simp [Program.elem, Tryd.underlying33]
  have he : Tryd.prog.elem 33 = 5 := by simp [Program.elem, Tryd.underlying33]
  rw [run_slice_h W 33 _ _ _ ht' .i64 _ (by omega) (by omega), he, hz]
  cases A with
  | none =>
    have h0 := hA rfl
    subst h0
    have : k = 0 := by omega
    subst this
    simp [Result.andThen, sliced]
  | some x =>
    obtain ⟨g, o, rfl⟩ := hp x rfl
    simp [Result.andThen, sliced, Addr.add]

theorem Bs.head {w : World} {A : Option Addr} {l : List UInt8} (h : Bs w A l) (k : Nat) (hk : k ≤ l.length) : Bs w A (l.take k) := by
  intro j hj
  rw [List.length_take] at hj
  obtain ⟨b, off, hA, hlt, hc⟩ := h j (by omega)
  refine ⟨b, off, hA, hlt, ?_⟩
  rw [hc, List.getElem_take]

set_option maxHeartbeats 2000000 in
theorem implRopeLine_any (A : Option Addr) (ls : List (List UInt8)) (c : Nat) (a : Int) (w : World) (hn : ls.length ≤ 1048576) (hT : Tab w) (hC : Cs w A ls) :
    Calls Tryd.prog 46 #[.agg #[.slice A ls.length c], .int .i64 a] w fun e w' => e = .returned (.tuple #[.int .i64 (ropeLine ls a).1, .int .i64 (ropeLine ls a).2]) ∧ Below w.heap.size w w' := by
  have hb0 := ((Below.refl w.heap.size w).alloc (Nat.le_refl _) (.cells #[.slice A ls.length c] 29)).alloc (by simp) (.cells #[.int .i64 a] 3)
  have bA0 := (Blk.new w #[.slice A ls.length c] 29).alloc (.cells #[.int .i64 a] 3)
  have hC0 := hC.below hb0
  have hT0 := hT.below hb0
  have hO0 : ∀ i (h : i < ([a] : List Int).length), ((w.alloc (.cells #[.slice A ls.length c] 29)).alloc (.cells #[.int .i64 a] 3)).cell? ⟨w.heap.size + 1, i, none⟩ = some (.int .i64 ([a] : List Int)[i]) := by
    intro i h
    have : i = 0 := by simpa using h
    subst this
    have := Blk.cell (Blk.new (w.alloc (.cells #[.slice A ls.length c] 29)) #[.int .i64 a] 3) 0
    simp only [World.size_alloc] at this
    exact this
  have hcall : ∀ q, rCut ls a = q → Calls Tryd.prog 67 #[.agg #[.slice A ls.length c], .slice (some ⟨w.heap.size + 1, 0, none⟩) 1 1] ((w.alloc (.cells #[.slice A ls.length c] 29)).alloc (.cells #[.int .i64 a] 3)) fun e w' => e = .returned (.bool q) ∧ Below ((w.alloc (.cells #[.slice A ls.length c] 29)).alloc (.cells #[.int .i64 a] 3)).heap.size ((w.alloc (.cells #[.slice A ls.length c] 29)).alloc (.cells #[.int .i64 a] 3)) w' := by
    intro q hq
    refine (cutsOk_any A ls c (w.heap.size + 1) [a] 1 _ hn hT0 hC0 (by simp) hO0 (by simp)).mono ?_
    rintro e w' ⟨he, hb⟩
    refine ⟨?_, hb⟩
    rw [he, ← hq]
    simp [rCut]
  clear hO0
  by_cases hcut : rCut ls a = true
  · have hcall := hcall true hcut
    obtain ⟨hok, k, rfl, hk, hbd⟩ := rCut_true hcut
    have hlen := chunksText_len ls
    have htx := isText_take (chunksText_isText ls) hk hbd
    have hrl : ropeLine ls (k : Int) = (((lines ((chunksText ls).take k) : Nat) : Int), runeCount (((chunksText ls).take k).drop (lineFrom ((chunksText ls).take k)))) := by
      unfold ropeLine; rw [if_pos hcut, Int.toNat_natCast]
    rw [hrl]
    obtain ⟨T, hTe⟩ : ∃ T, chunksText ls = T := ⟨_, rfl⟩
    rw [hTe] at hlen hk htx ⊢
    have HT := Lib.hid hTe
    clear hTe hcut hok hbd hrl
    obtain ⟨X, hX⟩ : ∃ X, T.take k = X := ⟨_, rfl⟩
    have hXl : X.length = k := by rw [← hX, List.length_take]; omega
    rw [hX] at htx ⊢
    have hmL : mL X = ((lines X : Nat) : Int) := by unfold mL; rw [if_pos htx]
    have hlf := lineFrom_le X
    obtain ⟨fr, hfr⟩ : ∃ fr, lineFrom X = fr := ⟨_, rfl⟩
    rw [hfr] at hlf ⊢
    rw [← hmL]
    obtain ⟨Y, hY⟩ : ∃ Y, X.drop fr = Y := ⟨_, rfl⟩
    have hYl : Y.length = X.length - fr := by rw [← hY, List.length_drop]
    rw [hY]
    have HX := Lib.hid hX
    have HFR := Lib.hid hfr
    have HXL := Lib.hid hXl
    have HY := Lib.hid hY
    have HYL := Lib.hid hYl
    clear hX hfr hXl hY hYl htx hmL
    go_enter Tryd.func46, Tryd.ntmps46
    go_wp2_with fail
    refine hcall.mono ?_
    rintro e w1 ⟨rfl, hb1⟩
    have kA : w1.cell? ⟨w.heap.size, 0, none⟩ = some (.slice A ls.length c) := by rw [(bA0.below hb1).cell]; rfl
    have hC1 := hC0.below hb1
    have hT1 := hT0.below hb1
    have hb2 := below_then hb0 hb1
    clear hb0 hb1 hC0 bA0 hcall hT0
    go_wp2_with fail
    refine (implRopeText_any A ls c _ hn (by exact hT1) (by exact hC1)).mono ?_
    rintro e w2 ⟨v, rfl, hown, hb3⟩
    rw [HT.out] at hown
    have hT2 := hT1.below hb3
    have hb4 := below_then hb2 hb3
    obtain ⟨B, d, rfl, h1, hd9, hB, hn1, hn2⟩ := hown.form2
    have hBX := hB.head k hk
    rw [HX.out] at hBX
    have hsl0 := slice_head B T.length d k hn1 hn2 (by omega)
    obtain ⟨B', hsl, hB'⟩ := slice_part B X.length d fr w2 X hn1 hn2 rfl hlf (by rw [HXL.out]; omega) hd9 hBX
    rw [HY.out] at hB'
    have hXd : X.length ≤ d := by rw [HXL.out]; omega
    have hX4 : X.length ≤ 400 := by rw [HXL.out]; omega
    have hkX := HXL.out
    rw [← hkX] at hsl0
    subst hkX
    have hYl := HYL.out
    rw [← hYl] at hsl
    have hfr0 : 0 ≤ (fr : Int) := by omega
    have hw1 : (fr : Int) - 1 + 1 = fr := by omega
    clear hown hC1 hb2 hb3 kA hB hn1 hn2 hT1 HX HXL
    go_wp2_with fail
    refine (lastIndexByte_any B X d _ hX4 (by exact hBX)).mono ?_
    rintro e w3 ⟨rfl, rfl⟩
    rw [HFR.out]
    have hT3 := hT2
    have hYd : Y.length ≤ d - fr := by rw [hYl]; omega
    have hd9' : d - fr ≤ 9223372036854775807 := by omega
    have hfd : ∀ W, (Instr.field 43 (.agg #[.int .i64 (mB X), .int .i64 (mR X), .int .i64 (mL X)]) 2).run Tryd.prog W = .ok (.int .i64 (mL X)) W := fun W => by kernel_rfl
    have hrc := fun W (hT : Tab W) (hB : Bs W B' Y) => runeCount_any B' Y (d - fr) W hYd hd9' hT hB
    simp only [hYl] at hrc
    rw [hYl] at hsl
    clear hYd
    go_wp2
    go_region_with (first
      | (go_at_call 63; refine (measOf_any B X d _ hXd hd9 (by exact hT3) (by exact hBX)).mono ?_; rintro e w4 ⟨rfl, hb5⟩; unfold meas; have hb5 : Below w3.heap.size w3 w4 := ⟨hb5.os, hb5.tape, hb5.output, hb5.size, hb5.block⟩; have hT4 := hT3.below hb5; have hB4 := hB'.below hb5; have hb6 := below_then hb4 hb5)
      | (go_at_call 79; refine (hrc _ (by exact hT4) (by exact hB4)).mono ?_; rintro e w5 ⟨rfl, n5, rfl⟩))
    all_goals
      go_wp2
      go_ret2
      exact ⟨rfl, below_drewN hb6 n5⟩
  · have hf : rCut ls a = false := by simpa using hcut
    have hcall := hcall false hf
    have hrl : ropeLine ls a = (-1, -1) := by unfold ropeLine; rw [if_neg hcut]
    rw [hrl]
    clear hf hcut hrl
    go_enter Tryd.func46, Tryd.ntmps46
    go_wp2_with fail
    refine hcall.mono ?_
    rintro e w1 ⟨rfl, hb1⟩
    have hb2 := below_then hb0 hb1
    go_wp2
    go_ret2
    exact ⟨rfl, hb2⟩
end Go.Proofs.YtpipkmnmdipeeaaDoor
