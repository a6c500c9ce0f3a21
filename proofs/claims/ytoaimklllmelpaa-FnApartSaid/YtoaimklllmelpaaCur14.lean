/-
  Chapter 5's draw of a text and an edit that may not fit: contract. Own work.
-/
import Derived.Test.YtoaimklllmelpaaCur10
namespace Go.Proofs.Ytoaimklllmelpaa
open Go.RowKit P
set_option linter.unusedVariables false
set_option linter.unusedSimpArgs false
set_option maxRecDepth 100000

set_option maxHeartbeats 8000000 in
theorem drawEditDo_any (A : Option Addr) (l : List UInt8) (c : Nat) (w : World) (hl : l.length ≤ 1048576) (hA : Bs w A l) :
    Calls Try.prog 42 #[.slice A l.length c] w (DrawsTE w) := by
  have hal := (Below.refl w.heap.size w).alloc (Nat.le_refl _) (.cells #[.int .i64 0, .int .i64 0, .slice none 0 0] 27)
  have bR := EBox.new w 0 0 none 0 0
  have hA0 := hA.below hal
  have hz0 : (w.alloc (.cells #[.int .i64 0, .int .i64 0, .slice none 0 0] 27)).heap.size = w.heap.size + 1 := by simp
  go_enter Try.func42, Try.ntmps42
  go_wp2_with fail
  generalize w.alloc (.cells #[.int .i64 0, .int .i64 0, .slice none 0 0] 27) = W0 at *
  refine (l01Open_any A l c _ hl (by exact hA0)).mono ?_
  rintro e w1 ⟨rfl, hc0, hb0⟩
  obtain ⟨g, hg⟩ : ∃ g, W0.heap.size = g := ⟨_, rfl⟩
  rw [hg] at hc0 hz0 ⊢
  have hwg : w.heap.size < g := by omega
  have bR1 := bR.below hb0
  have hb1 := hal.trans (hb0.mono (by omega))
  have hs0 := hb0.size
  have hgl := hc0.lt
  have hs1 : w.heap.size + 1 ≤ w1.heap.size := by omega
  clear hA0 hal bR hz0 hg
  go_wp2_with fail
  refine (text_any g 0 40 _ (by omega) (by omega) (by exact hc0)).mono ?_
  rintro e w2 ⟨v2, t, rfl, hown2, ht, hc2, ho2⟩
  obtain ⟨A2, c2, rfl, hlc2, hcm2, hB2, hp1, hp2⟩ := own_plain9 hown2
  have bR2 := bR1.only ho2 (by omega)
  have hb2 := hb1.trans (ho2.below w.heap.size (by omega) (by omega))
  clear hc0 hb0 bR1 hb1
  go_wp2_with fail
  refine (once_any g (0 + 1 + 3 * 40) 12 _ (by omega) (by omega) (by omega) (by exact hc2)).mono ?_
  rintro e w9 ⟨bb, rfl, hc9, ho9⟩
  have bR2 := bR2.only ho9 (by omega)
  have hown2 := hown2.only ho9 (by omega)
  have hB2 : Bs w9 A2 t := by
    obtain ⟨_, _, e9, _, _, hB⟩ := hown2.form
    cases e9
    exact hB
  have hs2 := ho2.size
  have hs9 := ho9.size
  have hb2 := hb2.trans (ho9.below w.heap.size (by omega) (by omega))
  clear hc2 ho2 ho9
  cases bb
  · go_wp2_with fail
    refine (badEdit_any g (0 + 1 + 3 * 40 + 1) A2 t c2 _ (by omega) (by omega) hlc2 hcm2 (by exact hc9) (by exact hB2)).mono ?_
    rintro e w3 ⟨a, m, v3, p, rfl, ha, hm, hown3, hp5, hc3, ho3⟩
    obtain ⟨A3, c3, rfl, hlc3, hcm3, hB3, hq1, hq2⟩ := own_plain9 hown3
    have bR3 := bR2.only ho3 (by omega)
    have hown2 := hown2.only ho3 (by omega)
    have hs3 := ho3.size
    have hb3 := hb2.trans (ho3.below w.heap.size (by omega) (by omega))
    have r0 := bR3.c0
    have r1 := bR3.c1
    have r2 := bR3.c2
    have g0 := bR3.f 0
    have g1 := bR3.f 1
    have g2 := bR3.f 2
    have hlt := bR3.lt
    go_wp2
    refine bodyPost_ret (v := .tuple #[.slice A2 t.length c2, .agg #[.int .i64 a, .int .i64 m, .slice A3 p.length c3]]) (by simp [results, Try.results42, go_sem, r0, r1, r2]) rfl ?_
    have h9 : ∀ (W : World) (B : Nat) (v : Value) (l : List UInt8) (i : Nat) (u : Value), w.heap.size < B → Own W B v l → Own (W.setCell ⟨w.heap.size, i, none⟩ u) B v l := fun W B v l i u hb h => h.setBelow (by simpa using hb) u
    have o2 := h9 _ _ _ _ 2 (.slice A3 p.length c3) (by omega) (h9 _ _ _ _ 1 (.int .i64 m) (by omega) (h9 _ _ _ _ 0 (.int .i64 a) (by omega) hown2))
    have o3 := h9 _ _ _ _ 2 (.slice A3 p.length c3) (by omega) (h9 _ _ _ _ 1 (.int .i64 m) (by omega) (h9 _ _ _ _ 0 (.int .i64 a) (by omega) hown3))
    refine ⟨A2, t, c2, a, m, A3, p, c3, rfl, by omega, hlc2, hcm2, by unfold Pl; exact ⟨hp1, hp2⟩, ?_, ha, hm, hp5, hlc3, hcm3, by unfold Pl; exact ⟨hq1, hq2⟩, ?_, ((hb3.setCell (Nat.le_refl _) _).setCell (Nat.le_refl _) _).setCell (Nat.le_refl _) _⟩
    · obtain ⟨_, _, e9, _, _, hB⟩ := o2.form
      cases e9
      exact hB
    · obtain ⟨_, _, e9, _, _, hB⟩ := o3.form
      cases e9
      exact hB
  · go_wp2_with fail
    refine (badText_any g (0 + 1 + 3 * 40 + 1) 40 _ (by omega) (by omega) (by exact hc9)).mono ?_
    rintro e w8 ⟨v8, t8, rfl, hown8, ht8, hc8, ho8⟩
    obtain ⟨A8, c8, rfl, hlc8, hcm8, _, hp18, hp28⟩ := own_plain9 hown8
    have bR2 := bR2.only ho8 (by omega)
    have hown2 := hown2.only ho8 (by omega)
    have hB2 : Bs w8 A2 t := by
      obtain ⟨_, _, e9, _, _, hB⟩ := hown2.form
      cases e9
      exact hB
    have hs8 := ho8.size
    have hb2 := hb2.trans (ho8.below w.heap.size (by omega) (by omega))
    clear hc9 ho8
    go_wp2_with fail
    refine (edit_any g (0 + 1 + 3 * 40 + 1 + 5 + 3 * 40) A2 t c2 _ (by omega) hlc2 hcm2 (by exact hc8) (by exact hB2)).mono ?_
    rintro e w3 ⟨a, m, v3, p, rfl, ha, hm, hown3, hp5, hc3, ho3⟩
    obtain ⟨A3, c3, rfl, hlc3, hcm3, hB3, hq1, hq2⟩ := own_plain9 hown3
    have bR3 := bR2.only ho3 (by omega)
    have hown8 := hown8.only ho3 (by omega)
    have hs3 := ho3.size
    have hb3 := hb2.trans (ho3.below w.heap.size (by omega) (by omega))
    have r0 := bR3.c0
    have r1 := bR3.c1
    have r2 := bR3.c2
    have g0 := bR3.f 0
    have g1 := bR3.f 1
    have g2 := bR3.f 2
    have hlt := bR3.lt
    go_wp2
    refine bodyPost_ret (v := .tuple #[.slice A8 t8.length c8, .agg #[.int .i64 a, .int .i64 m, .slice A3 p.length c3]]) (by simp [results, Try.results42, go_sem, r0, r1, r2]) rfl ?_
    have h9 : ∀ (W : World) (B : Nat) (v : Value) (l : List UInt8) (i : Nat) (u : Value), w.heap.size < B → Own W B v l → Own (W.setCell ⟨w.heap.size, i, none⟩ u) B v l := fun W B v l i u hb h => h.setBelow (by simpa using hb) u
    have o2 := h9 _ _ _ _ 2 (.slice A3 p.length c3) (by omega) (h9 _ _ _ _ 1 (.int .i64 m) (by omega) (h9 _ _ _ _ 0 (.int .i64 a) (by omega) hown8))
    have o3 := h9 _ _ _ _ 2 (.slice A3 p.length c3) (by omega) (h9 _ _ _ _ 1 (.int .i64 m) (by omega) (h9 _ _ _ _ 0 (.int .i64 a) (by omega) hown3))
    refine ⟨A8, t8, c8, a, m, A3, p, c3, rfl, by omega, hlc8, hcm8, by unfold Pl; exact ⟨hp18, hp28⟩, ?_, ha, hm, hp5, hlc3, hcm3, by unfold Pl; exact ⟨hq1, hq2⟩, ?_, ((hb3.setCell (Nat.le_refl _) _).setCell (Nat.le_refl _) _).setCell (Nat.le_refl _) _⟩
    · obtain ⟨_, _, e9, _, _, hB⟩ := o2.form
      cases e9
      exact hB
    · obtain ⟨_, _, e9, _, _, hB⟩ := o3.form
      cases e9
      exact hB
end Go.Proofs.Ytoaimklllmelpaa

namespace Go.Proofs.Ytoaimklllmelpaa
open Go.RowKit P
set_option linter.unusedVariables false
set_option linter.unusedSimpArgs false
set_option maxRecDepth 100000

set_option maxHeartbeats 1000000 in
/-- The second half of the code. -/
theorem rest_any (A : Option Addr) (l : List UInt8) (c : Nat) (w : World) (hl : l.length ≤ c) (hc9 : c ≤ 9223372036854775807) (hN : A = none → c = 0) (hB : Bs w A l) :
    Calls Try.prog 45 #[.slice A l.length c] w fun e w' => (∃ (A' : Option Addr) (c' : Nat) (l' : List UInt8), e = .returned (.slice A' l'.length c') ∧ l'.length ≤ l.length ∧ Bs w A' l') ∧ w' = w := by
  by_cases h0 : l.length = 0
  · have hz : ∀ W, (Go.sizeOf 5).run Try.prog W = .ok 1 W := fun W => by kernel_rfl
    have ht' : Try.prog.underlying 22 = some (.slice (Try.prog.elem 22)) := by simp [Program.elem, Try.underlying22]
    have he : Try.prog.elem 22 = 5 := by simp [Program.elem, Try.underlying22]
    have hd : (l.length : Int) / 2 = 0 := by omega
    obtain ⟨A', c', hs⟩ : ∃ A' c', ∀ W, (Instr.slice 22 (.slice A l.length c) (some (.int .i64 ((l.length : Int) / 2))) none none).run Try.prog W = .ok (.slice A' l.length c') W := by
      rw [hd, h0]
      cases A with
      | none =>
        have hc0 := hN rfl
        subst hc0
        refine ⟨none, 0, fun W => ?_⟩
        rw [run_slice_l W 22 _ _ _ ht' .i64 _ (by omega) (by omega), he, hz]
        simp [Result.andThen, sliced]
      | some x =>
        by_cases hc0 : c = 0
        · subst hc0
          refine ⟨some x, 0, fun W => ?_⟩
          rw [run_slice_l W 22 _ _ _ ht' .i64 _ (by omega) (by omega), he, hz]
          simp [Result.andThen, sliced]
        · refine ⟨some (x.add 0), c, fun W => ?_⟩
          rw [run_slice_l W 22 _ _ _ ht' .i64 _ (by omega) (by omega), he, hz]
          simp [Result.andThen, sliced, hc0]
    have hB0 : Bs w A' l := fun k hk => by omega
    clear hN hB h0 hz ht' he hd
    go_enter Try.func45, Try.ntmps45
    go_wp2
    go_ret
    exact ⟨⟨A', c', l, rfl, Nat.le_refl _, hB0⟩, rfl⟩
  · obtain ⟨bb, off, hA, _, _⟩ := hB 0 (by omega)
    subst hA
    have hB2 := Bs.sub hB (l.length / 2) (l.length - l.length / 2)
    have hlen : ((l.drop (l.length / 2)).take (l.length - l.length / 2)).length = l.length - l.length / 2 := by rw [List.length_take, List.length_drop]; omega
    go_enter Try.func45, Try.ntmps45
    go_wp2
    go_ret
    exact ⟨⟨_, _, (l.drop (l.length / 2)).take (l.length - l.length / 2), by rw [hlen]; rfl, by omega, hB2⟩, rfl⟩
end Go.Proofs.Ytoaimklllmelpaa
