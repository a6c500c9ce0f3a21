/-
  Chapter 3, the program's leaves and FingOk: contracts. Own work.
-/
import Derived.Test.YtfbcpiipekfapaaI03b
namespace Go.Proofs.Ytfbcpiipekfapaa
open Go.RowKit P
set_option linter.unusedVariables false

theorem sss_two {w : World} {A1 A2 : Option Addr} {p q : List Str} {c1 c2 : Nat} {t : TypeId} (h1 : Ss w A1 p) (h2 : Ss w A2 q) (hp : p.length ≤ c1) (hc : c1 ≤ 9223372036854775807) (hq : q.length ≤ c2) (hd : c2 ≤ 9223372036854775807) (B : Nat) (hB : w.heap.size = B) :
    Sss (w.alloc (.cells #[.slice A1 p.length c1, .slice A2 q.length c2] t)) (some ⟨B, 0, none⟩) [p, q] := by
  subst hB
  have hb := (Below.refl w.heap.size w).alloc (Nat.le_refl _) (.cells #[.slice A1 p.length c1, .slice A2 q.length c2] t)
  have hcell : ∀ j, (w.alloc (.cells #[.slice A1 p.length c1, .slice A2 q.length c2] t)).cell? ⟨w.heap.size, j, none⟩ = (#[.slice A1 p.length c1, .slice A2 q.length c2] : Array Value)[j]? := fun j => cell_of_row _ _ _ _ _ (0, 0) (heap_alloc_new w _)
  intro k hk
  match k, hk with
  | 0, _ =>
    refine ⟨_, 0, [.slice A1 p.length c1], rfl, by simp, rfl, fun j hj => ?_, A1, c1, rfl, hp, by unfold maxLen; omega, h1.below hb⟩
    have : j = 0 := by simpa using hj
    subst this
    rw [hcell]; rfl
  | 1, _ =>
    refine ⟨_, 0, [.slice A2 q.length c2], rfl, by simp, rfl, fun j hj => ?_, A2, c2, rfl, hq, by unfold maxLen; omega, h2.below hb⟩
    have : j = 0 := by simpa using hj
    subst this
    rw [hcell]; rfl

theorem concat2_any (A : Option Addr) (p q : List Str) (w : World) (hs : p.length + q.length ≤ 1000000000) (h : Sss w A [p, q]) :
    Calls Try.prog 82 #[.slice A 2 2] w fun e w' => ∃ v, e = .returned v ∧ OwnS w' w.heap.size v (p ++ q) ∧ Below w.heap.size w w' := by
  have := concat_any A [p, q] 2 w (by simp) (by unfold sums; simp; omega) h
  simpa using this

set_option maxHeartbeats 1000000 in
theorem leafCount_any (A : Option Addr) (ls : List Lv) (c : Nat) (w : World) (hs : Small ls) (hA : Ls w A ls) :
    Calls Try.prog 50 #[.agg #[.slice A ls.length c]] w fun e w' => e = .returned (.int .i64 ((leaves ls : Nat) : Int)) ∧ Below w.heap.size w w' := by
  have hlen := hs.len
  go_enter Try.func50, Try.ntmps50
  go_wp2
  go_loopw [3, 11] (fun n i wr => ∃ k : Nat, k ≤ ls.length ∧ i = .int .i64 k ∧ n = .int .i64 ((leaves (ls.take k) : Nat) : Int) ∧ Below w.heap.size w wr) (fun _ i _ => ls.length - (intOf i).toNat)
  case atStart => exact ⟨0, Nat.zero_le _, rfl, rfl, (Below.refl _ _).alloc (Nat.le_refl _) _⟩
  case round =>
    obtain ⟨k, hk, rfl, rfl, hb⟩ := hrel
    by_cases hlt : k < ls.length
    · obtain ⟨b, off, A1, c1, A2, c2, rfl, hbl, hc1, hc2, hd1, hd2, hd3, hd4, hS1, hS2⟩ := (hA.below hb).at_ k hlt
      have he := hs.each ls[k] (List.getElem_mem hlt)
      have hlv := hs.lvs
      have h1 := leaves_take ls k hlt
      have h2 := leaves_le ls k hlt
      have H1 := Lib.hid h1
      clear h1
      generalize hL : ls[k] = L at *
      obtain ⟨p, q⟩ := L
      simp only at he hc1 hc2 hd1 hd3 hS1 hS2 h2 H1
      have HL := Lib.hid hL
      clear hL
      obtain ⟨z, hz⟩ : ∃ z, leaves (ls.take k) = z := ⟨_, rfl⟩
      rw [hz] at h2 H1 ⊢
      clear hz
      unfold maxLen at hd2 hd4
      have hd2' : c1 ≤ 9223372036854775807 := by omega
      have hd4' : c2 ≤ 9223372036854775807 := by omega
      clear hd2 hd4
      have hk0 : (k : Int) < (ls.length : Int) := by omega
      go_wp2_with fail
      have hb2 := hb.alloc hb.size (.cells #[.slice A1 p.length c1, .slice A2 q.length c2] 63)
      have hb3 := (Below.refl wr.heap.size wr).alloc (Nat.le_refl _) (.cells #[.slice A1 p.length c1, .slice A2 q.length c2] 63)
      have hsz := hb.size
      refine (concat2_any _ p q _ (by omega) (by exact sss_two (hS1.below hb3) (hS2.below hb3) hd1 hd2' hd3 hd4' _ (by simp))).mono ?_
      rintro e w1 ⟨v, rfl, hown, hb4⟩
      have hb5 : Below w.heap.size w w1 := (hb2.alloc (by simp; omega) _).trans (hb4.mono (by simp; omega))
      obtain ⟨B, d, rfl, hld, hdm, hSs⟩ := hown.form
      have hpq := lv_app p q
      have HPQ := Lib.hid hpq
      obtain ⟨r, hr⟩ : ∃ r, p ++ q = r := ⟨_, rfl⟩
      have hrl : r.length ≤ 2000000 := by rw [← hr, List.length_append]; omega
      have hrv : lv r.flatten ≤ 2000000 := by rw [← hr, hpq]; omega
      rw [hr] at hSs HPQ ⊢
      clear hown hb4 hb2 hb3 hpq hr hld hdm
      go_wp2
      go_loopw [3, 22] (fun n i wr' => ∃ j : Nat, j ≤ r.length ∧ i = .int .i64 j ∧ n = .int .i64 ((z + lv (r.take j).flatten : Nat) : Int) ∧ wr' = w1) (fun _ i _ => r.length - (intOf i).toNat)
      case atStart => exact ⟨0, Nat.zero_le _, rfl, by simp [lv_nil], rfl⟩
      case round =>
        obtain ⟨j, hj, rfl, rfl, rfl⟩ := hrel
        by_cases hlt2 : j < r.length
        · obtain ⟨b', off', rfl, hbl', hc', hcl'⟩ := hSs.at_ j hlt2
          have g1 := lvs_take r j hlt2
          have g2 := lvs_le r j hlt2
          generalize hE : r[j] = E at *
          obtain ⟨y, hy⟩ : ∃ y, z + lv (r.take j).flatten = y := ⟨_, rfl⟩
          have g3 : z + lv (r.take (j + 1)).flatten = y + lv E := by omega
          have g4 : y + lv E ≤ 4000000 := by omega
          rw [hy]
          have G3 := Lib.hid g3
          clear g1 g2 g3 hy hE
          have hj0 : (j : Int) < (r.length : Int) := by omega
          go_wp2_with fail
          refine (count_any ⟨E.toArray⟩ 120 _).mono ?_
          rintro e w2 ⟨rfl, rfl⟩
          rw [show (⟨E.toArray⟩ : ByteArray).data.toList.count 120 = lv E from rfl]
          obtain ⟨x, hx⟩ : ∃ x, lv E = x := ⟨_, rfl⟩
          rw [hx] at g4 G3 ⊢
          clear hx
          go_wp2
          go_roundw
          case rel => exact ⟨j + 1, by omega, by go_num, by rw [G3.out]; go_num, by trivial⟩
          case measure => simp [intOf]; omega
        · have e : j = r.length := by omega
          subst e
          rw [List.take_length, HPQ.out, ← H1.out]
          go_wp2
          go_roundw
          case rel => exact ⟨k + 1, by omega, by go_num, rfl, hb5⟩
          case measure => simp [intOf]; omega
    · have e : k = ls.length := by omega
      subst e
      rw [List.take_length]
      go_wp2
      go_ret
      exact ⟨rfl, hb⟩

set_option maxHeartbeats 1000000 in
theorem implFingOk_any (A : Option Addr) (ls : List Lv) (c : Nat) (w : World) (hs : Small ls) (hA : Ls w A ls) :
    Calls Try.prog 34 #[.agg #[.slice A ls.length c]] w fun e w' => e = .returned (.bool (fingB ls)) ∧ Below w.heap.size w w' := by
  have hlen := hs.len
  go_enter Try.func34, Try.ntmps34
  go_wp2
  go_loopw [9] (fun i wr => ∃ k : Nat, k ≤ ls.length ∧ i = .int .i64 k ∧ Hid (∀ i, i < k → okAt ls i) ∧ Below w.heap.size w wr ∧ wr.cell? ⟨w.heap.size, 0, none⟩ = some (.slice A ls.length c) ∧ w.heap.size < wr.heap.size) (fun i _ => ls.length - (intOf i).toNat)
  case atStart => exact ⟨0, Nat.zero_le _, rfl, Lib.hid (fun i hi => by omega), (Below.refl _ _).alloc (Nat.le_refl _) _, by go_simp, by simp⟩
  case round =>
    obtain ⟨k, hk, rfl, HI, hb, hcr, hsz⟩ := hrel
    by_cases hlt : k < ls.length
    · obtain ⟨b, off, A1, c1, A2, c2, rfl, hbl, hc1, hc2, hd1, hd2, hd3, hd4, hS1, hS2⟩ := (hA.below hb).at_ k hlt
      have he := hs.each ls[k] (List.getElem_mem hlt)
      have hok : okAt ls k ↔ (formB ls[k] (decide (k + 1 = ls.length)) = true ∧ (ls[k].1.all fun s => shapeB s (k : Int)) = true ∧ (ls[k].2.all fun s => shapeB s (k : Int)) = true) := ⟨fun ⟨_, h⟩ => h, fun h => ⟨hlt, h⟩⟩
      have hno := fun h => fingB_not (ls := ls) hlt h
      have HOK := Lib.hid hok
      have HNO := Lib.hid hno
      clear hok hno
      generalize hL : ls[k] = L at *
      obtain ⟨p, q⟩ := L
      simp only at he hc1 hc2 hd1 hd3 hS1 hS2 HOK
      clear hL
      clear hd2 hd4
      have hk0 : (k : Int) < (ls.length : Int) := by omega
      have hlast : ((k : Int) == (ls.length : Int) - 1) = decide (k + 1 = ls.length) := by rw [Bool.eq_iff_iff]; simp; omega
      generalize hla : decide (k + 1 = ls.length) = last at *
      have HLA := Lib.hid hla
      clear hla
      generalize hf1 : formB (p, q) last = f1 at *
      generalize hf2 : (p.all fun s => shapeB s (k : Int)) = f2 at *
      generalize hf3 : (q.all fun s => shapeB s (k : Int)) = f3 at *
      have HF1 := Lib.hid hf1
      have HF2 := Lib.hid hf2
      have HF3 := Lib.hid hf3
      clear hf1 hf2 hf3
      have hbl1 := fun t => (Below.refl wr.heap.size wr).alloc (Nat.le_refl _) (.cells #[.slice A1 p.length c1, .slice A2 q.length c2] t)
      have hbl2 := fun t => hb.alloc hb.size (.cells #[.slice A1 p.length c1, .slice A2 q.length c2] t)
      have hp9 : p.length ≤ 9223372036854775807 := by omega
      have hq9 : q.length ≤ 9223372036854775807 := by omega
      go_wp2_with fail
      refine (levelFormOk_any A1 A2 (p, q) c1 c2 last _ hp9 hq9).mono ?_
      rintro e w1 ⟨rfl, hb1⟩
      rw [HF1.out]
      have k0 : w1.cell? ⟨wr.heap.size, 0, none⟩ = some (.slice A1 p.length c1) := (hb1.cell (p := ⟨wr.heap.size, 0, none⟩) (by simp)).trans (by go_simp)
      have k1 : w1.cell? ⟨wr.heap.size, 1, none⟩ = some (.slice A2 q.length c2) := (hb1.cell (p := ⟨wr.heap.size, 1, none⟩) (by simp)).trans (by go_simp)
      have k2 : w1.cell? ⟨w.heap.size, 0, none⟩ = some (.slice (some ⟨b, off, none⟩) ls.length c) := (hb1.cell (p := ⟨w.heap.size, 0, none⟩) (by simp; omega)).trans (by go_simp)
      have hs1 : w.heap.size < w1.heap.size := by have := hb1.size; simp at this; omega
      have hS1' := (hS1.below (hbl1 63)).below hb1
      have hS2' := (hS2.below (hbl1 63)).below hb1
      have hb2 := below_then (hbl2 63) hb1
      clear hb1
      cases f1
      · have hfin := HNO.out (fun h => by have := (HOK.out.1 h).1; simp at this)
        have HFIN := Lib.hid hfin
        clear hfin
        go_wp2
        go_ret
        exact ⟨ret_bool HFIN.out.symm, hb2⟩
      · cases f2
        · have hfin := HNO.out (fun h => by have := (HOK.out.1 h).2.1; simp at this)
          have HFIN := Lib.hid hfin
          clear hfin
          go_wp2_with fail
          refine (nodesOk_any A1 p c1 k _ hp9 (by exact hS1')).mono ?_
          rintro e w2 ⟨rfl, rfl⟩
          rw [HF2.out]
          go_wp2
          go_ret
          exact ⟨ret_bool HFIN.out.symm, hb2⟩
        · cases f3
          · have hfin := HNO.out (fun h => by have := (HOK.out.1 h).2.2; simp at this)
            have HFIN := Lib.hid hfin
            clear hfin
            go_wp2_with fail
            refine (nodesOk_any A1 p c1 k _ hp9 (by exact hS1')).mono ?_
            rintro e w2 ⟨rfl, rfl⟩
            rw [HF2.out]
            go_wp2_with fail
            refine (nodesOk_any A2 q c2 k _ hq9 (by exact hS2')).mono ?_
            rintro e w2 ⟨rfl, rfl⟩
            rw [HF3.out]
            go_wp2
            go_ret
            exact ⟨ret_bool HFIN.out.symm, hb2⟩
          · have hok := HOK.out.2 ⟨by trivial, by trivial, by trivial⟩
            have hnx : ∀ i, i < k + 1 → okAt ls i := fun i hi => by
              by_cases e : i = k
              · subst e; exact hok
              · exact HI.out i (by omega)
            have HN := Lib.hid hnx
            clear hok hnx
            go_wp2_with fail
            refine (nodesOk_any A1 p c1 k _ hp9 (by exact hS1')).mono ?_
            rintro e w2 ⟨rfl, rfl⟩
            rw [HF2.out]
            go_wp2_with fail
            refine (nodesOk_any A2 q c2 k _ hq9 (by exact hS2')).mono ?_
            rintro e w2 ⟨rfl, rfl⟩
            rw [HF3.out]
            go_wp2
            go_roundw
            case rel => exact ⟨k + 1, by omega, by go_num, HN, hb2, k2, hs1⟩
            case measure => simp [intOf]; omega
    · have e : k = ls.length := by omega
      subst e
      have hfe := fingB_few HI.out
      have hA' := hA.below hb
      have HFE := Lib.hid hfe
      clear hfe
      go_wp2_with fail
      refine (leafCount_any A ls c _ hs (by exact hA')).mono ?_
      rintro e w1 ⟨rfl, hb1⟩
      have hb2 := below_then hb hb1
      go_wp2
      go_ret
      exact ⟨ret_bool (by rw [HFE.out, Bool.eq_iff_iff]; simp; omega), hb2⟩
end Go.Proofs.Ytfbcpiipekfapaa
