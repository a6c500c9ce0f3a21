/-
  Chapter 6's draws: small edits, spots; laws.pick at any offset: contracts. Own work.
  Chapter 5's draw of a text and an edit that may not fit: contract. Own work.
-/
import Derived.Test.YtoaimklllmelpaaDoorCur10
namespace Go.Proofs.YtoaimklllmelpaaDoor
open Go.RowKit P
set_option linter.unusedVariables false
set_option linter.unusedSimpArgs false
set_option maxRecDepth 100000

/-- A write into another block leaves bytes of the call's own. -/
theorem ownSet9 {w : World} {B b : Nat} {v : Value} {l : List UInt8} (h : Own w B v l) (hne : ∀ k ∈ v.ownBlock.toList, b ≠ k) (i : Nat) (u : Value) : Own (w.setCell ⟨b, i, none⟩ u) B v l :=
  h.heap (fun k hk => Below.heap_setCell _ _ _ _ (fun e => hne k hk (by simpa using e.symm)))

end Go.Proofs.YtoaimklllmelpaaDoor

namespace Go.Proofs.YtoaimklllmelpaaDoor
open Go.RowKit P
set_option linter.unusedVariables false
set_option linter.unusedSimpArgs false
set_option maxRecDepth 100000

set_option maxHeartbeats 8000000 in
theorem drawEditDo_any (A : Option Addr) (l : List UInt8) (c : Nat) (w : World) (hl : l.length ≤ 1048576) (hA : Bs w A l) :
    Calls Tryd.prog 5 #[.slice A l.length c] w (DrawsTE w) := by
  have hal := (Below.refl w.heap.size w).alloc (Nat.le_refl _) (.cells #[.int .i64 0, .int .i64 0, .slice none 0 0] 25)
  have bR := EBox.new w 0 0 none 0 0
  have hA0 := hA.below hal
  have hz0 : (w.alloc (.cells #[.int .i64 0, .int .i64 0, .slice none 0 0] 25)).heap.size = w.heap.size + 1 := by simp
  go_enter Tryd.func5, Tryd.ntmps5
  go_wp2_with fail
  generalize w.alloc (.cells #[.int .i64 0, .int .i64 0, .slice none 0 0] 25) = W0 at *
  refine (l01Open_any A l c _ hl (by exact hA0)).mono ?_
  rintro e w1 ⟨rfl, hc0, hb0⟩
  obtain ⟨g, hg⟩ : ∃ g, W0.heap.size = g := ⟨_, rfl⟩
  rw [hg] at hc0 hz0 ⊢
  have hwg : w.heap.size < g := by omega
  have bR1 := bR.below hb0
  have hb1 := hal.trans (hb0.mono (by omega))
  have hs0 := hb0.size
  have hgl := hc0.lt
  have hs1 : w.heap.size + 1 ≤ w1.heap.size := by omega
  clear hA0 hal bR hz0 hg
  go_wp2_with fail
  refine (text_any g 0 40 _ (by omega) (by omega) (by exact hc0)).mono ?_
  rintro e w2 ⟨v2, t, rfl, hown2, ht, hc2, ho2⟩
  obtain ⟨A2, c2, rfl, hlc2, hcm2, hB2, hp1, hp2⟩ := own_plain9 hown2
  have bR2 := bR1.only ho2 (by omega)
  have hb2 := hb1.trans (ho2.below w.heap.size (by omega) (by omega))
  clear hc0 hb0 bR1 hb1
  go_wp2_with fail
  refine (once_any g (0 + 1 + 3 * 40) 12 _ (by omega) (by omega) (by omega) (by exact hc2)).mono ?_
  rintro e w9 ⟨bb, rfl, hc9, ho9⟩
  have bR2 := bR2.only ho9 (by omega)
  have hown2 := hown2.only ho9 (by omega)
  have hB2 : Bs w9 A2 t := by
    obtain ⟨_, _, e9, _, _, hB⟩ := hown2.form
    cases e9
    exact hB
  have hs2 := ho2.size
  have hs9 := ho9.size
  have hb2 := hb2.trans (ho9.below w.heap.size (by omega) (by omega))
  clear hc2 ho2 ho9
  cases bb
  · go_wp2_with fail
    refine (badEdit_any g (0 + 1 + 3 * 40 + 1) A2 t c2 _ (by omega) (by omega) hlc2 hcm2 (by exact hc9) (by exact hB2)).mono ?_
    rintro e w3 ⟨a, m, v3, p, rfl, ha, hm, hown3, hp5, hc3, ho3⟩
    obtain ⟨A3, c3, rfl, hlc3, hcm3, hB3, hq1, hq2⟩ := own_plain9 hown3
    have bR3 := bR2.only ho3 (by omega)
    have hown2 := hown2.only ho3 (by omega)
    have hs3 := ho3.size
    have hb3 := hb2.trans (ho3.below w.heap.size (by omega) (by omega))
    have r0 := bR3.c0
    have r1 := bR3.c1
    have r2 := bR3.c2
    have g0 := bR3.f 0
    have g1 := bR3.f 1
    have g2 := bR3.f 2
    have hlt := bR3.lt
    go_wp2
    refine bodyPost_ret (v := .tuple #[.slice A2 t.length c2, .agg #[.int .i64 a, .int .i64 m, .slice A3 p.length c3]]) (by simp [results, Tryd.results5, go_sem, r0, r1, r2]) rfl ?_
    have h9 : ∀ (W : World) (B : Nat) (v : Value) (l : List UInt8) (i : Nat) (u : Value), w.heap.size < B → Own W B v l → Own (W.setCell ⟨w.heap.size, i, none⟩ u) B v l := fun W B v l i u hb h => h.setBelow (by simpa using hb) u
    have o2 := h9 _ _ _ _ 2 (.slice A3 p.length c3) (by omega) (h9 _ _ _ _ 1 (.int .i64 m) (by omega) (h9 _ _ _ _ 0 (.int .i64 a) (by omega) hown2))
    have o3 := h9 _ _ _ _ 2 (.slice A3 p.length c3) (by omega) (h9 _ _ _ _ 1 (.int .i64 m) (by omega) (h9 _ _ _ _ 0 (.int .i64 a) (by omega) hown3))
    refine ⟨A2, t, c2, a, m, A3, p, c3, rfl, by omega, hlc2, hcm2, by unfold Pl; exact ⟨hp1, hp2⟩, ?_, ha, hm, hp5, hlc3, hcm3, by unfold Pl; exact ⟨hq1, hq2⟩, ?_, ((hb3.setCell (Nat.le_refl _) _).setCell (Nat.le_refl _) _).setCell (Nat.le_refl _) _⟩
    · obtain ⟨_, _, e9, _, _, hB⟩ := o2.form
      cases e9
      exact hB
    · obtain ⟨_, _, e9, _, _, hB⟩ := o3.form
      cases e9
      exact hB
  · go_wp2_with fail
    refine (badText_any g (0 + 1 + 3 * 40 + 1) 40 _ (by omega) (by omega) (by exact hc9)).mono ?_
    rintro e w8 ⟨v8, t8, rfl, hown8, ht8, hc8, ho8⟩
    obtain ⟨A8, c8, rfl, hlc8, hcm8, _, hp18, hp28⟩ := own_plain9 hown8
    have bR2 := bR2.only ho8 (by omega)
    have hown2 := hown2.only ho8 (by omega)
    have hB2 : Bs w8 A2 t := by
      obtain ⟨_, _, e9, _, _, hB⟩ := hown2.form
      cases e9
      exact hB
    have hs8 := ho8.size
    have hb2 := hb2.trans (ho8.below w.heap.size (by omega) (by omega))
    clear hc9 ho8
    go_wp2_with fail
    refine (edit_any g (0 + 1 + 3 * 40 + 1 + 5 + 3 * 40) A2 t c2 _ (by omega) hlc2 hcm2 (by exact hc8) (by exact hB2)).mono ?_
    rintro e w3 ⟨a, m, v3, p, rfl, ha, hm, hown3, hp5, hc3, ho3⟩
    obtain ⟨A3, c3, rfl, hlc3, hcm3, hB3, hq1, hq2⟩ := own_plain9 hown3
    have bR3 := bR2.only ho3 (by omega)
    have hown8 := hown8.only ho3 (by omega)
    have hs3 := ho3.size
    have hb3 := hb2.trans (ho3.below w.heap.size (by omega) (by omega))
    have r0 := bR3.c0
    have r1 := bR3.c1
    have r2 := bR3.c2
    have g0 := bR3.f 0
    have g1 := bR3.f 1
    have g2 := bR3.f 2
    have hlt := bR3.lt
    go_wp2
    refine bodyPost_ret (v := .tuple #[.slice A8 t8.length c8, .agg #[.int .i64 a, .int .i64 m, .slice A3 p.length c3]]) (by simp [results, Tryd.results5, go_sem, r0, r1, r2]) rfl ?_
    have h9 : ∀ (W : World) (B : Nat) (v : Value) (l : List UInt8) (i : Nat) (u : Value), w.heap.size < B → Own W B v l → Own (W.setCell ⟨w.heap.size, i, none⟩ u) B v l := fun W B v l i u hb h => h.setBelow (by simpa using hb) u
    have o2 := h9 _ _ _ _ 2 (.slice A3 p.length c3) (by omega) (h9 _ _ _ _ 1 (.int .i64 m) (by omega) (h9 _ _ _ _ 0 (.int .i64 a) (by omega) hown8))
    have o3 := h9 _ _ _ _ 2 (.slice A3 p.length c3) (by omega) (h9 _ _ _ _ 1 (.int .i64 m) (by omega) (h9 _ _ _ _ 0 (.int .i64 a) (by omega) hown3))
    refine ⟨A8, t8, c8, a, m, A3, p, c3, rfl, by omega, hlc8, hcm8, by unfold Pl; exact ⟨hp18, hp28⟩, ?_, ha, hm, hp5, hlc3, hcm3, by unfold Pl; exact ⟨hq1, hq2⟩, ?_, ((hb3.setCell (Nat.le_refl _) _).setCell (Nat.le_refl _) _).setCell (Nat.le_refl _) _⟩
    · obtain ⟨_, _, e9, _, _, hB⟩ := o2.form
      cases e9
      exact hB
    · obtain ⟨_, _, e9, _, _, hB⟩ := o3.form
      cases e9
      exact hB
end Go.Proofs.YtoaimklllmelpaaDoor

namespace Go.Proofs.YtoaimklllmelpaaDoor
open Go.RowKit P
set_option linter.unusedVariables false
set_option linter.unusedSimpArgs false
set_option maxRecDepth 100000

end Go.Proofs.YtoaimklllmelpaaDoor
