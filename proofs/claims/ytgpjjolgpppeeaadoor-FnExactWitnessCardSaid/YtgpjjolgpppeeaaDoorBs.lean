/-
  The contracts of the laws' helpers on byte slices. Own work.
-/
import Derived.Test.YtgpjjolgpppeeaaDoorBs0
namespace Go.Proofs.YtgpjjolgpppeeaaDoor
open Go.RowKit
set_option linter.unusedVariables false

set_option maxHeartbeats 400000 in
theorem toByteS_any (A : Option Addr) (l : List UInt8) (c : Nat) (w : World) (hl : l.length ≤ 1048576) (h : Bs w A l) :
    Calls Tryd.prog 84 #[.slice A l.length c] w fun e w' => e = .returned (.slice (some ⟨w.heap.size, 0, none⟩) l.length l.length) ∧ Row w' w.heap.size l ∧ Below w.heap.size w w' := by
  have hmk := fun W => run_make_row' (P := Tryd.prog) 22 5 (.int .u8 0) 1 Tryd.underlying22 Tryd.infoB rfl .i64 .i64 l.length (by omega) (by omega) W
  go_enter Tryd.func84, Tryd.ntmps84
  go_wp2
  go_loopw [4] (fun i wr => ∃ k : Nat, k ≤ l.length ∧ i = .int .i64 k ∧ Below w.heap.size w wr ∧ wr.rowIs w.heap.size 5 l.length (fun j => .int .u8 (if j < k then ((l.getD j 0).toNat : Int) else 0)))
    (fun i _ => l.length - (intOf i).toNat)
  case atStart => exact ⟨0, Nat.zero_le _, rfl, (Below.refl _ _).alloc (Nat.le_refl _) _, (World.rowIs_made w (.int .u8 0) l.length 5).congr (by intro j hj; simp)⟩
  case round =>
    obtain ⟨k, hk, rfl, hbel, hrow⟩ := hrel
    by_cases hlt : k < l.length
    · obtain ⟨b, off, rfl, hbl, hc⟩ := (h.below hbel) k hlt
      have hc2 := hrow.cell hlt
      have hf := hrow.frozen k
      have hrow2 := hrow.set k (.int .u8 ((l[k]).toNat : Int))
      have hbel2 := hbel.setCell (p := ⟨w.heap.size, k, none⟩) (Nat.le_refl _) (.int .u8 ((l[k]).toNat : Int))
      go_wp2
      go_roundw
      case rel => exact ⟨k + 1, by omega, by go_num, hbel2, hrow2.congr (by
        intro j hj
        by_cases e : j = k
        · subst e; simp [hlt]
        · rw [if_neg e]
          have : (j < k + 1) = (j < k) := by simp; omega
          simp only [this])⟩
      case measure => simp [intOf]; omega
    · go_wp2
      go_ret
      exact ⟨rfl, hrow.congr (by intro j hj; rw [if_pos (by omega)]), hbel⟩

set_option maxHeartbeats 400000 in
theorem eqByteS_any (A B : Option Addr) (l r : List UInt8) (c d : Nat) (w : World) (hl : l.length ≤ 9223372036854775807) (hA : Bs w A l) (hB : Bs w B r) :
    Calls Tryd.prog 90 #[.slice A l.length c, .slice B r.length d] w fun e w' => e = .returned (.bool (decide (l = r))) ∧ ∃ n, w' = w.drewN n := by
  by_cases hlen : l.length = r.length
  · have hne : ((l.length : Int) != (r.length : Int)) = false := by simp [hlen]
    go_enter Tryd.func90, Tryd.ntmps90
    go_wp2
    go_loopw [5] (fun i wr => ∃ k : Nat, k ≤ l.length ∧ i = .int .i64 k ∧ l.take k = r.take k ∧ ∃ n, wr = w.drewN n)
      (fun i _ => l.length - (intOf i).toNat)
    case atStart => exact ⟨0, Nat.zero_le _, rfl, by simp, 0, rfl⟩
    case round =>
      obtain ⟨k, hk, rfl, htake, n, rfl⟩ := hrel
      by_cases hlt : k < l.length
      · obtain ⟨b, off, rfl, hbl, hc⟩ := hA k hlt
        obtain ⟨b2, off2, rfl, hbl2, hc2⟩ := hB k (by omega)
        have hlt2 : k < r.length := by omega
        have HT := Lib.hid htake
        clear htake
        by_cases heq : l[k] = r[k]
        · have hne2 : (((l[k]).toNat : Int) != ((r[k]).toNat : Int)) = false := by simp [heq]
          go_wp2
          go_quiet (fail)
          go_wp2
          go_roundw
          case rel => exact ⟨k + 1, by omega, by go_num, by rw [List.take_succ_eq_append_getElem hlt, List.take_succ_eq_append_getElem hlt2, HT.out, heq], _, rfl⟩
          case measure => simp [intOf]; omega
        · have hne2 : (((l[k]).toNat : Int) != ((r[k]).toNat : Int)) = true := by
            simp only [bne_iff_ne, ne_eq]
            intro e
            exact heq (UInt8.toNat_inj.1 (by omega))
          have HQ := Lib.hid heq
          clear heq
          go_wp2
          go_quiet (fail)
          go_wp2
          go_ret
          refine ⟨?_, _, World.drewN_drewN _ _ _⟩
          have : l ≠ r := by intro e; subst e; exact HQ.out rfl
          simp [this]
      · go_wp2
        go_ret
        have e1 : k = l.length := by omega
        subst e1
        rw [List.take_length] at htake
        have e2 : l = r := by rw [htake, hlen, List.take_length]
        exact ⟨by simp [e2], n, rfl⟩
  · have hne : ((l.length : Int) != (r.length : Int)) = true := by simp; omega
    go_enter Tryd.func90, Tryd.ntmps90
    go_wp2
    go_ret
    exact ⟨by simp; intro e; exact hlen (by rw [e]), 0, rfl⟩
end Go.Proofs.YtgpjjolgpppeeaaDoor
