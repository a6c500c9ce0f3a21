/-
  Chapter 2, the model's MeasOf: contract. Own work.
-/
import Derived.Test.YtfgbipomdfceeaaDoorI02
import Derived.Test.YtfgbipomdfceeaaDoorBlk
namespace Go.Proofs.YtfgbipomdfceeaaDoor
open Go.RowKit P
set_option linter.unusedVariables false
set_option maxRecDepth 100000

theorem below_of_eq {B : Nat} {a b c : World} (h : Below B a b) (hs : b.heap.size ≤ c.heap.size) (ho : c.os = b.os) (ht : c.tape = b.tape) (hp : c.output = b.output) (hb : ∀ k, k < B → c.heap[k]? = b.heap[k]?) : Below B a c :=
  h.trans ⟨ho, ht, hp, hs, hb⟩

set_option maxHeartbeats 2000000 in
theorem specMeasOf_any (A : Option Addr) (l : List UInt8) (c : Nat) (w : World) (hl : l.length ≤ c) (hc9 : c ≤ 9223372036854775807) (hA : Bs w A l) :
    Calls Tryd.prog 19 #[.slice A l.length c] w fun e w' => e = .returned (meas (mB l) (mR l) (mL l)) ∧ Below w.heap.size w w' := by
  have hb0 := (Below.refl w.heap.size w).alloc (Nat.le_refl _) (.cells #[.int .i64 0, .int .i64 0, .int .i64 0] 35)
  have hA0 := hA.below hb0
  by_cases ht : isText l = true
  · have h1 : mB l = l.length ∧ mR l = runeCount l ∧ mL l = lines l := by unfold mB mR mL; simp [ht]
    have H1 := Lib.hid h1
    have HTX := Lib.hid ht
    have hlen := isText_len ht
    obtain ⟨q, hq⟩ : ∃ q, runeCount l = q := ⟨_, rfl⟩
    have HQ := Lib.hid hq
    clear h1 ht hq
    go_enter Tryd.func19, Tryd.ntmps19
    go_wp2_with fail
    refine (specTextOk_any A l c _ hl hc9 (by exact hA0)).mono ?_
    rintro e w1 ⟨rfl, hb1⟩
    rw [HTX.out]
    have hA1 := hA0.below hb1
    have hs1 := hb1.size
    have hr1 := (Blk.new w _ _).below hb1
    have hb1 := hb0.trans (hb1.mono (by simp))
    go_wp2_with fail
    refine (specRuneCount_any A l c _ hl hc9 (by exact hA1)).mono ?_
    rintro e w2 ⟨rfl, hb2⟩
    rw [HQ.out]
    have hA2 := hA1.below hb2
    have hr2 := hr1.below hb2
    have hs2 : w.heap.size + 1 ≤ w2.heap.size := by have := hb2.size; simp at hs1; omega
    have hb2 := below_then hb1 hb2
    have hA3 := hA2.below ((Below.refl w2.heap.size w2).alloc (Nat.le_refl _) (.cells #[.int .i64 l.length, .int .i64 q, .int .i64 0] 35))
    go_wp2
    go_loopw [4] (fun i wr => ∃ k : Nat, k ≤ l.length ∧ i = .int .i64 k ∧ Blk wr w2.heap.size #[.int .i64 l.length, .int .i64 q, .int .i64 (lines (l.take k) : Nat)] 35 ∧ Bs wr A l ∧ Below w2.heap.size w2 wr) (fun i _ => l.length - (intOf i).toNat)
    case atStart => exact ⟨0, Nat.zero_le _, rfl, Blk.new _ _ _, hA3, by (repeat (first | exact Below.refl _ _ | assumption | refine Below.setCell ?_ (by first | (simp; done) | (simp; omega) | omega) _ | refine Below.drew ?_ | refine below_drewN ?_ _ | refine Below.alloc ?_ (by first | (simp; done) | (simp; omega) | omega) _))⟩
    case round =>
      obtain ⟨k, hk, rfl, hm, hB, hbel⟩ := hrel
      have c0 : wr.cell? ⟨w2.heap.size, 0, none⟩ = some (.int .i64 l.length) := hm.cell 0
      have c1 : wr.cell? ⟨w2.heap.size, 1, none⟩ = some (.int .i64 q) := hm.cell 1
      have c2 : wr.cell? ⟨w2.heap.size, 2, none⟩ = some (.int .i64 (lines (l.take k) : Nat)) := hm.cell 2
      have f2 := hm.frozen 2
      by_cases hlt : k < l.length
      · obtain ⟨b, off, rfl, hbl, hc⟩ := hA2 k hlt
        have hc' := (hbel.cell (p := ⟨b, off + k, none⟩) hbl).trans hc
        have hsn := lines_snoc l k hlt
        have hll := lines_le (l.take k)
        have hll2 : (l.take k).length ≤ 400 := by rw [List.length_take]; omega
        by_cases h10 : l[k] = 10
        · have hx : (((l[k]).toNat : Int) == 10) = true := by rw [h10]; rfl
          rw [if_pos h10] at hsn
          have HS := Lib.hid hsn
          have HX := Lib.hid h10
          have hset := hm.set 2 (.int .i64 ((lines (l.take k) : Nat) + 1 : Int))
          have hbs := hbel.setCell (p := ⟨w2.heap.size, 2, none⟩) (Nat.le_refl _) (.int .i64 ((lines (l.take k) : Nat) + 1 : Int))
          have hB2 := hB.below ((Below.refl wr.heap.size wr))
          have hB3 : Bs (wr.setCell ⟨w2.heap.size, 2, none⟩ (.int .i64 ((lines (l.take k) : Nat) + 1 : Int))) (some ⟨b, off, none⟩) l := hA2.below hbs
          clear hsn h10 hm hc
          go_wp2
          go_roundw
          case rel => exact ⟨k + 1, by omega, by go_num, by rw [HS.out]; exact hset, hB3, hbs⟩
          case measure => simp [intOf]; omega
        · have hx : (((l[k]).toNat : Int) == 10) = false := by
            rw [beq_eq_false_iff_ne]
            intro e
            apply h10
            apply UInt8.toNat_inj.1
            have : (10 : UInt8).toNat = 10 := rfl
            omega
          rw [if_neg h10] at hsn
          have HS := Lib.hid hsn
          clear hsn h10 hc
          go_wp2
          go_roundw
          case rel => exact ⟨k + 1, by omega, by go_num, by rw [HS.out, Nat.add_zero]; exact hm, hB, hbel⟩
          case measure => simp [intOf]; omega
      · have e : k = l.length := by omega
        subst e
        rw [List.take_length] at c2
        have hr3 := hr2.below hbel
        have d0 : wr.cell? ⟨w.heap.size, 0, none⟩ = some (.int .i64 0) := hr3.cell 0
        have d1 : wr.cell? ⟨w.heap.size, 1, none⟩ = some (.int .i64 0) := hr3.cell 1
        have d2 : wr.cell? ⟨w.heap.size, 2, none⟩ = some (.int .i64 0) := hr3.cell 2
        have g0 := hr3.frozen 0
        have g1 := hr3.frozen 1
        have g2 := hr3.frozen 2
        have hfin := below_then hb2 hbel
        go_wp2
        refine bodyPost_ret (v := meas l.length q (lines l)) (by simp [results, Tryd.results19, go_sem, meas, d0, d1, d2]) rfl ⟨?_, ?_⟩
        · rw [H1.out.1, H1.out.2.1, H1.out.2.2, HQ.out]
        · (repeat (first | exact Below.refl _ _ | assumption | refine Below.setCell ?_ (by first | (simp; done) | (simp; omega) | omega) _ | refine Below.drew ?_ | refine below_drewN ?_ _ | refine Below.alloc ?_ (by first | (simp; done) | (simp; omega) | omega) _))
  · have hf : isText l = false := by simpa using ht
    have h1 : mB l = 0 ∧ mR l = 0 ∧ mL l = 0 := by unfold mB mR mL; simp [hf]
    have H1 := Lib.hid h1
    have HTX := Lib.hid hf
    clear h1 hf ht
    go_enter Tryd.func19, Tryd.ntmps19
    go_wp2_with fail
    refine (specTextOk_any A l c _ hl hc9 (by exact hA0)).mono ?_
    rintro e w1 ⟨rfl, hb1⟩
    rw [HTX.out]
    obtain ⟨hcr1, hfr1⟩ := bcell hb1
    have hs1 := hb1.size
    have hb1 := hb0.trans (hb1.mono (by simp))
    go_wp2
    refine bodyPost_ret (v := meas 0 0 0) (by simp [results, Tryd.results19, go_sem, meas, hcr1]) rfl ⟨?_, ?_⟩
    · rw [H1.out.1, H1.out.2.1, H1.out.2.2]
    · (repeat (first | exact Below.refl _ _ | assumption | refine Below.setCell ?_ (by first | (simp; done) | (simp; omega) | omega) _ | refine Below.drew ?_ | refine below_drewN ?_ _ | refine Below.alloc ?_ (by first | (simp; done) | (simp; omega) | omega) _))
end Go.Proofs.YtfgbipomdfceeaaDoor
