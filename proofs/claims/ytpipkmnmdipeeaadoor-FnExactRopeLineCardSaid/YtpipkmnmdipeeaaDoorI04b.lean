/-
  Chapter 4, the program's cutsOk, RopeLine: contracts. Own work.
-/
import Derived.Test.YtpipkmnmdipeeaaDoorI04
import Derived.Test.YtpipkmnmdipeeaaDoorS04b
import Derived.Test.YtpipkmnmdipeeaaDoorP04
namespace Go.Proofs.YtpipkmnmdipeeaaDoor
open Go.RowKit P
set_option linter.unusedVariables false
set_option maxRecDepth 100000

set_option maxHeartbeats 1000000 in
theorem cutsOk_any (A : Option Addr) (ls : List (List UInt8)) (c : Nat) (g : Nat) (offs : List Int) (d : Nat) (w : World) (hn : ls.length ≤ 1048576) (hT : Tab w) (hC : Cs w A ls) (ho : offs.length ≤ 10)
    (hO : ∀ i (h : i < offs.length), w.cell? ⟨g, i, none⟩ = some (.int .i64 offs[i])) (hg : g < w.heap.size) :
    Calls Tryd.prog 67 #[.agg #[.slice A ls.length c], .slice (some ⟨g, 0, none⟩) offs.length d] w fun e w' => e = .returned (.bool (chunksOk ls && offs.all (fun a => isBound (chunksText ls) a))) ∧ Below w.heap.size w w' := by
  have hlen := chunksText_len ls
  have hb0 := (Below.refl w.heap.size w).alloc (Nat.le_refl _) (.cells #[.slice A ls.length c] 29)
  have bA0 := Blk.new w #[.slice A ls.length c] 29
  have hC0 := hC.below hb0
  have hT0 := hT.below hb0
  obtain ⟨T, hTe⟩ : ∃ T, chunksText ls = T := ⟨_, rfl⟩
  rw [hTe] at hlen ⊢
  have HT := Lib.hid hTe
  generalize hq : chunksOk ls = q
  have HQ := Lib.hid hq
  clear hq hTe
  go_enter Tryd.func67, Tryd.ntmps67
  go_wp2_with fail
  refine (implRopeText_any A ls c _ hn (by exact hT0) (by exact hC0)).mono ?_
  rintro e w1 ⟨v, rfl, hown, hb1⟩
  rw [HT.out] at hown
  obtain ⟨B, e, rfl, h1, h2, hB⟩ := hown.form
  have kA : w1.cell? ⟨w.heap.size, 0, none⟩ = some (.slice A ls.length c) := by rw [(bA0.below hb1).cell]; rfl
  have hC1 := hC0.below hb1
  have hT1 := hT0.below hb1
  have hb2 := below_then hb0 hb1
  clear hb0 hb1 hC0 hT0 bA0 hown h2
  go_wp2_with fail
  refine (implRopeOk_any A ls c _ hn (by exact hT1) (by exact hC1)).mono ?_
  rintro e' w2 ⟨rfl, hb3⟩
  rw [HQ.out]
  have hB2 := hB.below hb3
  have hb4 := below_then hb2 hb3
  clear hb2 hb3 hC1 hT1 kA hB
  cases q
  · go_wp2
    go_ret
    exact ⟨rfl, hb4⟩
  · go_wp2
    go_loop [7, 15] (fun _ i => ∃ k : Nat, k ≤ offs.length ∧ i = .int .i64 k ∧ Hid ((offs.take k).all (fun a => isBound T a) = true)) (fun _ i => offs.length - (intOf i).toNat)
    case atStart => exact ⟨0, Nat.zero_le _, rfl, Lib.hid (by simp)⟩
    case round =>
      obtain ⟨k, hk, rfl, HA⟩ := hrel
      by_cases hlt : k < offs.length
      · have hc := (hb4.cell (p := ⟨g, k, none⟩) hg).trans (hO k hlt)
        have hnext : (offs.take (k + 1)).all (fun a => isBound T a) = isBound T offs[k] := by
          rw [List.take_succ_eq_append_getElem hlt, List.all_append, HA.out]; simp
        have hno : isBound T offs[k] = false → offs.all (fun a => isBound T a) = false := fun h => by
          rw [Bool.eq_false_iff]
          intro e
          rw [List.all_eq_true] at e
          have := e _ (List.getElem_mem hlt)
          rw [h] at this
          cases this
        generalize offs[k] = x at *
        generalize hz : isBound T x = z at *
        have HZ := Lib.hid hz
        have HN := Lib.hid hnext
        have HNO := Lib.hid hno
        clear hz hnext hno
        have hkk : (k : Int) < (offs.length : Int) := by omega
        go_wp2_with fail
        refine (isBoundary_any B T e x _ (by omega) (by exact hB2)).mono ?_
        rintro e' w3 ⟨rfl, rfl⟩
        rw [HZ.out]
        cases z
        · go_wp2
          go_ret
          exact ⟨by rw [HNO.out (by first | rfl | trivial)]; rfl, hb4⟩
        · go_wp2
          go_round
          case rel => exact ⟨k + 1, by omega, by go_num, Lib.hid HN.out⟩
          case measure => simp [intOf]; omega
      · have e : k = offs.length := by omega
        subst e
        have hall := HA.out
        rw [List.take_length] at hall
        have HALL := Lib.hid hall
        clear hall
        go_wp2
        go_ret
        exact ⟨by rw [HALL.out]; rfl, hb4⟩

theorem ret_i64 {a b : Int} (h : a = b) : Ending.returned (.int .i64 a) = .returned (.int .i64 b) := by rw [h]

/-- The library's search for the last newline. -/
theorem lastIndexByte_any (A : Option Addr) (l : List UInt8) (c : Nat) (w : World) (hl : l.length ≤ 400) (hA : Bs w A l) :
    Calls Tryd.prog 78 #[.slice A l.length c, .int .u8 10] w fun e w' => e = .returned (.int .i64 ((lineFrom l : Int) - 1)) ∧ w' = w := by
  have core : Calls Tryd.prog 106 #[.slice A l.length c, .int .u8 10] w fun e w' => e = .returned (.int .i64 ((lineFrom l : Int) - 1)) ∧ w' = w := by
    go_enter Tryd.func106, Tryd.ntmps106
    go_wp2
    go_loop [5] (fun i => ∃ k : Nat, k ≤ l.length ∧ i = .int .i64 ((k : Int) - 1) ∧ Hid (lineFrom l = lineFrom (l.take k))) (fun i => ((intOf i) + 1).toNat)
    case atStart => exact ⟨l.length, Nat.le_refl _, rfl, Lib.hid (by rw [List.take_length])⟩
    case round =>
      obtain ⟨k, hk, rfl, HL⟩ := hrel
      by_cases h0 : 0 < k
      · obtain ⟨b, off, rfl, hbl, hc⟩ := hA (k - 1) (by omega)
        have hlf := lineFrom_take l (k - 1) (by omega)
        rw [show k - 1 + 1 = k by omega] at hlf
        have HLF := Lib.hid hlf
        clear hlf
        generalize l[k - 1]'(by omega) = x at *
        have hk1 : (0 : Int) ≤ (k : Int) - 1 := by omega
        have hk2 : (k : Int) - 1 < (l.length : Int) := by omega
        have hk3 : ((k : Int) - 1).toNat = k - 1 := by omega
        by_cases h10 : x = 10
        · have hq : ((x.toNat : Int) == 10) = true := by subst h10; rfl
          have H10 := Lib.hid h10
          clear h10
          go_wp2
          go_ret
          exact ⟨ret_i64 (by rw [HL.out, HLF.out, if_pos H10.out]), rfl⟩
        · have hq : ((x.toNat : Int) == 10) = false := by
            rw [beq_eq_false_iff_ne]
            intro e
            apply h10
            apply UInt8.toNat_inj.1
            have : (10 : UInt8).toNat = 10 := rfl
            omega
          have H10 := Lib.hid h10
          clear h10
          go_wp2
          go_round
          case rel => exact ⟨k - 1, by omega, by go_num, Lib.hid (by rw [HL.out, HLF.out, if_neg H10.out])⟩
          case measure => simp [intOf]; omega
      · have e : k = 0 := by omega
        subst e
        go_wp2
        go_ret
        exact ⟨ret_i64 (by rw [HL.out]; rfl), rfl⟩
  go_enter Tryd.func78, Tryd.ntmps78
  go_wp2_with fail
  refine core.mono ?_
  rintro e w1 ⟨rfl, rfl⟩
  go_wp2
  go_ret
  exact ⟨rfl, rfl⟩
end Go.Proofs.YtpipkmnmdipeeaaDoor
