/-
  Chapter 6's draws: small edits, spots; laws.pick at any offset: contracts. Own work.
  Chapter 5's draw of a text and an edit that may not fit: contract. Own work.
-/
import Derived.Test.YtkplfbhblbinaaaDoorCur10
namespace Go.Proofs.YtkplfbhblbinaaaDoor
open Go.RowKit P
set_option linter.unusedVariables false
set_option linter.unusedSimpArgs false
set_option maxRecDepth 100000

set_option maxHeartbeats 4000000 in
theorem lawPickN_any (j : Nat) (hj : j ≤ 100) (A : Option Addr) (l : List UInt8) (c : Nat) (n : Int) (w : World) (hl : l.length ≤ 1048576) (h0 : 0 ≤ n) (hn : n ≤ 1000) (hA : Bs w A l) :
    Calls Tryd.prog 28 #[.slice A l.length c, .int .i64 (j : Int), .int .i64 n] w fun e w' => (∃ x : Int, e = .returned (.int .i64 x) ∧ 0 ≤ x ∧ (x < n ∨ (n < 2 ∧ x = 0))) ∧ Below w.heap.size w w' := by
  by_cases hz : l.length = 0
  · have g1 : ((l.length : Int) == 0) = true := by simp [hz]
    have H := Lib.hid hz
    clear hz
    go_enter Tryd.func28, Tryd.ntmps28
    go_wp2
    go_ret
    exact ⟨⟨0, rfl, Int.le_refl _, by omega⟩, Below.refl _ _⟩
  have g1 : ((l.length : Int) == 0) = false := by rw [beq_eq_false_iff_ne]; omega
  by_cases hn2 : n < 2
  · go_enter Tryd.func28, Tryd.ntmps28
    go_wp2
    go_ret
    exact ⟨⟨0, rfl, Int.le_refl _, .inr ⟨hn2, rfl⟩⟩, Below.refl _ _⟩
  have hlz : (l.length : Int) ≠ 0 := by omega
  have hnz : n ≠ 0 := by omega
  go_enter Tryd.func28, Tryd.ntmps28
  go_wp2
  go_loopw [7, 8] (fun xx kk wr => ∃ (x : Int) (k : Nat), xx = .int .i64 x ∧ kk = .int .i64 k ∧ 0 ≤ x ∧ ((k = 0 ∧ x ≤ 0) ∨ (k = 1 ∧ x ≤ 255) ∨ (k = 2 ∧ x ≤ 8160) ∨ (k = 3 ∧ x ≤ 253215)) ∧ Below w.heap.size w wr) (fun _ kk _ => 3 - (intOf kk).toNat)
  case atStart => exact ⟨0, 0, rfl, rfl, Int.le_refl _, .inl ⟨rfl, Int.le_refl _⟩, Below.refl _ _⟩
  case round =>
    obtain ⟨x, k, rfl, rfl, hx0, hx, hb⟩ := hrel
    by_cases hk : k < 3
    · obtain ⟨m, hme, hml⟩ : ∃ m : Nat, ((j : Int) + (k : Int)) % (l.length : Int) = (m : Int) ∧ m < l.length := by
        refine ⟨(j + k) % l.length, by rw [Int.natCast_emod, Int.natCast_add], Nat.mod_lt _ (by omega)⟩
      obtain ⟨b, off, rfl, hbl, hc⟩ := (hA.below hb) m hml
      have hu := (l[m]).toNat_lt
      obtain ⟨bn, hbn⟩ : ∃ bn : Int, bn = (l[m]).toNat := ⟨_, rfl⟩
      rw [← hbn] at hc
      have hbn1 : 0 ≤ bn ∧ bn ≤ 255 := by omega
      have hml' : (m : Int) < (l.length : Int) := by omega
      have hx9 : x ≤ 8160 := by omega
      have hne : ¬ (l.length : Int) = 0 := by omega
      have hw0 : IntKind.i64.wrap ((j : Int) + (k : Int)) = (j : Int) + (k : Int) := IntWalk.i64_in _ ⟨by omega, by omega⟩
      have hw1 : IntKind.i64.wrap (31 * x) = 31 * x := IntWalk.i64_in _ ⟨by omega, by omega⟩
      have hw2 : IntKind.i64.wrap (31 * x + bn) = 31 * x + bn := IntWalk.i64_in _ ⟨by omega, by omega⟩
      clear hbn hu
      go_wp2
      go_roundw
      case rel => exact ⟨31 * x + bn, k + 1, rfl, by go_num, by omega, by omega, hb⟩
      case measure => first | (simp [intOf]; done) | (simp [intOf]; omega)
    · have hbd := emod_bd (x + j) n (by omega)
      have hx9 : x ≤ 253215 := by omega
      have hw2 : IntKind.i64.wrap (x + j) = x + j := IntWalk.i64_in _ ⟨by omega, by omega⟩
      have hx3 : 0 ≤ x + (j : Int) := by omega
      go_wp2
      go_ret
      exact ⟨⟨_, rfl, hbd.1, .inl hbd.2⟩, hb⟩

/-- A write into another block leaves bytes of the call's own. -/
theorem ownSet9 {w : World} {B b : Nat} {v : Value} {l : List UInt8} (h : Own w B v l) (hne : ∀ k ∈ v.ownBlock.toList, b ≠ k) (i : Nat) (u : Value) : Own (w.setCell ⟨b, i, none⟩ u) B v l :=
  h.heap (fun k hk => Below.heap_setCell _ _ _ _ (fun e => hne k hk (by simpa using e.symm)))

end Go.Proofs.YtkplfbhblbinaaaDoor

namespace Go.Proofs.YtkplfbhblbinaaaDoor
open Go.RowKit P
set_option linter.unusedVariables false
set_option linter.unusedSimpArgs false
set_option maxRecDepth 100000

set_option maxHeartbeats 8000000 in
theorem drawEditDo_any (A : Option Addr) (l : List UInt8) (c : Nat) (w : World) (hl : l.length ≤ 1048576) (hA : Bs w A l) :
    Calls Tryd.prog 33 #[.slice A l.length c] w (DrawsTE w) := by
  have hal := (Below.refl w.heap.size w).alloc (Nat.le_refl _) (.cells #[.int .i64 0, .int .i64 0, .slice none 0 0] 25)
  have bR := EBox.new w 0 0 none 0 0
  have hA0 := hA.below hal
  have hz0 : (w.alloc (.cells #[.int .i64 0, .int .i64 0, .slice none 0 0] 25)).heap.size = w.heap.size + 1 := by simp
  go_enter Tryd.func33, Tryd.ntmps33
  go_wp2_with fail
  generalize w.alloc (.cells #[.int .i64 0, .int .i64 0, .slice none 0 0] 25) = W0 at *
  refine (l01Open_any A l c _ hl (by exact hA0)).mono ?_
  rintro e w1 ⟨rfl, hc0, hb0⟩
  obtain ⟨g, hg⟩ : ∃ g, W0.heap.size = g := ⟨_, rfl⟩
  rw [hg] at hc0 hz0 ⊢
  have hwg : w.heap.size < g := by omega
  have bR1 := bR.below hb0
  have hb1 := hal.trans (hb0.mono (by omega))
  have hs0 := hb0.size
  have hgl := hc0.lt
  have hs1 : w.heap.size + 1 ≤ w1.heap.size := by omega
  clear hA0 hal bR hz0 hg
  go_wp2_with fail
  refine (text_any g 0 40 _ (by omega) (by omega) (by exact hc0)).mono ?_
  rintro e w2 ⟨v2, t, rfl, hown2, ht, hc2, ho2⟩
  obtain ⟨A2, c2, rfl, hlc2, hcm2, hB2, hp1, hp2⟩ := own_plain9 hown2
  have bR2 := bR1.only ho2 (by omega)
  have hb2 := hb1.trans (ho2.below w.heap.size (by omega) (by omega))
  clear hc0 hb0 bR1 hb1
  go_wp2_with fail
  refine (once_any g (0 + 1 + 3 * 40) 12 _ (by omega) (by omega) (by omega) (by exact hc2)).mono ?_
  rintro e w9 ⟨bb, rfl, hc9, ho9⟩
  have bR2 := bR2.only ho9 (by omega)
  have hown2 := hown2.only ho9 (by omega)
  have hB2 : Bs w9 A2 t := by
    obtain ⟨_, _, e9, _, _, hB⟩ := hown2.form
    cases e9
    exact hB
  have hs2 := ho2.size
  have hs9 := ho9.size
  have hb2 := hb2.trans (ho9.below w.heap.size (by omega) (by omega))
  clear hc2 ho2 ho9
  cases bb
  · go_wp2_with fail
    refine (badEdit_any g (0 + 1 + 3 * 40 + 1) A2 t c2 _ (by omega) (by omega) hlc2 hcm2 (by exact hc9) (by exact hB2)).mono ?_
    rintro e w3 ⟨a, m, v3, p, rfl, ha, hm, hown3, hp5, hc3, ho3⟩
    obtain ⟨A3, c3, rfl, hlc3, hcm3, hB3, hq1, hq2⟩ := own_plain9 hown3
    have bR3 := bR2.only ho3 (by omega)
    have hown2 := hown2.only ho3 (by omega)
    have hs3 := ho3.size
    have hb3 := hb2.trans (ho3.below w.heap.size (by omega) (by omega))
    have r0 := bR3.c0
    have r1 := bR3.c1
    have r2 := bR3.c2
    have g0 := bR3.f 0
    have g1 := bR3.f 1
    have g2 := bR3.f 2
    have hlt := bR3.lt
    go_wp2
    refine bodyPost_ret (v := .tuple #[.slice A2 t.length c2, .agg #[.int .i64 a, .int .i64 m, .slice A3 p.length c3]]) (by simp [results, Tryd.results33, go_sem, r0, r1, r2]) rfl ?_
    have h9 : ∀ (W : World) (B : Nat) (v : Value) (l : List UInt8) (i : Nat) (u : Value), w.heap.size < B → Own W B v l → Own (W.setCell ⟨w.heap.size, i, none⟩ u) B v l := fun W B v l i u hb h => h.setBelow (by simpa using hb) u
    have o2 := h9 _ _ _ _ 2 (.slice A3 p.length c3) (by omega) (h9 _ _ _ _ 1 (.int .i64 m) (by omega) (h9 _ _ _ _ 0 (.int .i64 a) (by omega) hown2))
    have o3 := h9 _ _ _ _ 2 (.slice A3 p.length c3) (by omega) (h9 _ _ _ _ 1 (.int .i64 m) (by omega) (h9 _ _ _ _ 0 (.int .i64 a) (by omega) hown3))
    refine ⟨A2, t, c2, a, m, A3, p, c3, rfl, by omega, hlc2, hcm2, by unfold Pl; exact ⟨hp1, hp2⟩, ?_, ha, hm, hp5, hlc3, hcm3, by unfold Pl; exact ⟨hq1, hq2⟩, ?_, ((hb3.setCell (Nat.le_refl _) _).setCell (Nat.le_refl _) _).setCell (Nat.le_refl _) _⟩
    · obtain ⟨_, _, e9, _, _, hB⟩ := o2.form
      cases e9
      exact hB
    · obtain ⟨_, _, e9, _, _, hB⟩ := o3.form
      cases e9
      exact hB
  · go_wp2_with fail
    refine (badText_any g (0 + 1 + 3 * 40 + 1) 40 _ (by omega) (by omega) (by exact hc9)).mono ?_
    rintro e w8 ⟨v8, t8, rfl, hown8, ht8, hc8, ho8⟩
    obtain ⟨A8, c8, rfl, hlc8, hcm8, _, hp18, hp28⟩ := own_plain9 hown8
    have bR2 := bR2.only ho8 (by omega)
    have hown2 := hown2.only ho8 (by omega)
    have hB2 : Bs w8 A2 t := by
      obtain ⟨_, _, e9, _, _, hB⟩ := hown2.form
      cases e9
      exact hB
    have hs8 := ho8.size
    have hb2 := hb2.trans (ho8.below w.heap.size (by omega) (by omega))
    clear hc9 ho8
    go_wp2_with fail
    refine (edit_any g (0 + 1 + 3 * 40 + 1 + 5 + 3 * 40) A2 t c2 _ (by omega) hlc2 hcm2 (by exact hc8) (by exact hB2)).mono ?_
    rintro e w3 ⟨a, m, v3, p, rfl, ha, hm, hown3, hp5, hc3, ho3⟩
    obtain ⟨A3, c3, rfl, hlc3, hcm3, hB3, hq1, hq2⟩ := own_plain9 hown3
    have bR3 := bR2.only ho3 (by omega)
    have hown8 := hown8.only ho3 (by omega)
    have hs3 := ho3.size
    have hb3 := hb2.trans (ho3.below w.heap.size (by omega) (by omega))
    have r0 := bR3.c0
    have r1 := bR3.c1
    have r2 := bR3.c2
    have g0 := bR3.f 0
    have g1 := bR3.f 1
    have g2 := bR3.f 2
    have hlt := bR3.lt
    go_wp2
    refine bodyPost_ret (v := .tuple #[.slice A8 t8.length c8, .agg #[.int .i64 a, .int .i64 m, .slice A3 p.length c3]]) (by simp [results, Tryd.results33, go_sem, r0, r1, r2]) rfl ?_
    have h9 : ∀ (W : World) (B : Nat) (v : Value) (l : List UInt8) (i : Nat) (u : Value), w.heap.size < B → Own W B v l → Own (W.setCell ⟨w.heap.size, i, none⟩ u) B v l := fun W B v l i u hb h => h.setBelow (by simpa using hb) u
    have o2 := h9 _ _ _ _ 2 (.slice A3 p.length c3) (by omega) (h9 _ _ _ _ 1 (.int .i64 m) (by omega) (h9 _ _ _ _ 0 (.int .i64 a) (by omega) hown8))
    have o3 := h9 _ _ _ _ 2 (.slice A3 p.length c3) (by omega) (h9 _ _ _ _ 1 (.int .i64 m) (by omega) (h9 _ _ _ _ 0 (.int .i64 a) (by omega) hown3))
    refine ⟨A8, t8, c8, a, m, A3, p, c3, rfl, by omega, hlc8, hcm8, by unfold Pl; exact ⟨hp18, hp28⟩, ?_, ha, hm, hp5, hlc3, hcm3, by unfold Pl; exact ⟨hq1, hq2⟩, ?_, ((hb3.setCell (Nat.le_refl _) _).setCell (Nat.le_refl _) _).setCell (Nat.le_refl _) _⟩
    · obtain ⟨_, _, e9, _, _, hB⟩ := o2.form
      cases e9
      exact hB
    · obtain ⟨_, _, e9, _, _, hB⟩ := o3.form
      cases e9
      exact hB
end Go.Proofs.YtkplfbhblbinaaaDoor

namespace Go.Proofs.YtkplfbhblbinaaaDoor
open Go.RowKit P
set_option linter.unusedVariables false
set_option linter.unusedSimpArgs false
set_option maxRecDepth 100000

end Go.Proofs.YtkplfbhblbinaaaDoor
