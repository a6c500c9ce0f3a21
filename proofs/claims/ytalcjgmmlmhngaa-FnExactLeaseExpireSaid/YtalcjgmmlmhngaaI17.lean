/-
  The heap of leases: down from the top: contract. Own work.
-/
import Derived.Test.YtalcjgmmlmhngaaI15
namespace Go.Proofs.Ytalcjgmmlmhngaa
open Go.RowKit P
set_option linter.unusedVariables false
set_option linter.unusedSimpArgs false
set_option maxRecDepth 100000

set_option maxHeartbeats 8000000 in
theorem heapDown_any (hb g cap : Nat) (H : List Le) (n : Nat) (w : World) (h : Hp w hb g cap H) (hn : n ≤ H.length) (hd0 : DownInv H n 0) (hl : H.length ≤ 1000000) (h00 : 0 < H.length) :
    Calls Try.prog 121 #[.iface 76 (.pointer (some ⟨hb, 0, none⟩)), .int .i64 0, .int .i64 n] w fun e w' => (∃ r, e = .returned (.bool r)) ∧ ∃ G, G.Perm H ∧ IsHeap G n ∧ (∀ t, n ≤ t → G.getD t (0, 0, 0, 0) = H.getD t (0, 0, 0, 0)) ∧ Hp w' hb g cap G ∧ Keeps [g] w w' := by
  have mL : ∀ w, Sem.run Try.prog (method (Try.prog.types.size + 100) 76 (.pointer (some ⟨hb, 0, none⟩)) "Less") w = .ok (176, (.pointer (some ⟨hb, 0, none⟩))) w := fun _ => by kernel_rfl
  have mS : ∀ w, Sem.run Try.prog (method (Try.prog.types.size + 100) 76 (.pointer (some ⟨hb, 0, none⟩)) "Swap") w = .ok (179, (.pointer (some ⟨hb, 0, none⟩))) w := fun _ => by kernel_rfl
  go_enter Try.func121, Try.ntmps121
  go_wp2
  go_loopw [7] (fun s7 wr => ∃ (i : Nat) (G : List Le), s7 = .int .i64 i ∧ i < H.length ∧ G.Perm H ∧ G.length = H.length ∧ DownInv G n i ∧ (∀ t, n ≤ t → G.getD t (0, 0, 0, 0) = H.getD t (0, 0, 0, 0)) ∧ Hp wr hb g cap G ∧ Keeps [g] w wr)
    (fun s7 _ => n - (intOf s7).toNat)
  case atStart => exact ⟨0, H, rfl, h00, List.Perm.refl _, rfl, hd0, fun _ _ => rfl, h, Keeps.refl _ _⟩
  case round =>
    obtain ⟨i, G, rfl, hil, hp, hlen, hdn, hbe, hh, hke⟩ := hrel
    have HDN := Lib.hid hdn
    have HBE := Lib.hid hbe
    have HH := Lib.hid hh
    have HP := Lib.hid hp
    have HLEN := Lib.hid hlen
    have HKE := Lib.hid hke
    clear hdn hbe hh hp hlen hke hd0
    obtain ⟨a, ha⟩ : ∃ a, 2 * i + 1 = a := ⟨_, rfl⟩
    have ha2 : 2 * (i : Int) + 1 = (a : Int) := by omega
    have hw1 : IntKind.i64.wrap (2 * (i : Int)) = 2 * (i : Int) := IntWalk.i64_in _ (by omega)
    have hw2 : IntKind.i64.wrap (a : Int) = (a : Int) := IntWalk.i64_in _ (by omega)
    have HA := Lib.hid ha
    by_cases han : a < n
    · have hiG : i < G.length := by rw [HLEN.out]; omega
      obtain ⟨b, hbb⟩ : ∃ b, a + 1 = b := ⟨_, rfl⟩
      have hb2 : (a : Int) + 1 = (b : Int) := by omega
      have hw3 : IntKind.i64.wrap (b : Int) = (b : Int) := IntWalk.i64_in _ (by omega)
      have HB := Lib.hid hbb
      have haG : a < G.length := by rw [HLEN.out]; omega
      clear ha hbb
      by_cases hbn : b < n
      · have hbG : b < G.length := by rw [HLEN.out]; omega
        have hcallb := Lib.hid (fun W hW => heapLess_any hb g cap G b a W hW hbG haG)
        go_wp2_with fail
        refine (hcallb.out _ (by exact HH.out)).mono ?_
        rintro e w4 ⟨rfl, hb4⟩
        have HH4 := Lib.hid (HH.out.below hb4)
        have HK4 := Lib.hid (HKE.out.trans (Keeps.of_below hb4))
        clear hb4
        by_cases hc : tl G b < tl G a
        · have hdc : decide (tl G b < tl G a) = true := decide_eq_true hc
          have HMN : Hid (∀ k, 0 < k → k < n → (k - 1) / 2 = i → tl G b ≤ tl G k) := Lib.hid (fun k h1 h2 h3 => by
            have h9 := HA.out
            have h8 := HB.out
            rcases (show k = a ∨ k = b by omega) with e | e
            · subst e; omega
            · subst e; exact Int.le_refl _)
          rw [hdc]
          clear hc hdc
          have hjG : b < G.length := by rw [HLEN.out]; omega
          have hcallj := Lib.hid (fun W hW => heapLess_any hb g cap G b i W hW hjG hiG)
          go_wp2_with fail
          refine (hcallj.out _ (by exact HH4.out)).mono ?_
          rintro e w5 ⟨rfl, hb5⟩
          have HH5 := Lib.hid (HH4.out.below hb5)
          have HK5 := Lib.hid (HK4.out.trans (Keeps.of_below hb5))
          clear hb5
          by_cases hl : tl G b < tl G i
          · have hd : decide (tl G b < tl G i) = true := decide_eq_true hl
            have HS := Lib.hid (HDN.out.step (j := b) (by rw [HLEN.out]; exact hn) (by omega) (by omega) (by have h9 := HA.out; have h8 := HB.out; omega) hl HMN.out)
            have HSW := Lib.hid (heapSwap_any hb g cap G i b w5 HH5.out hiG hjG)
            have HBY : Hid (∀ t, n ≤ t → (sw G i b).getD t (0, 0, 0, 0) = H.getD t (0, 0, 0, 0)) := Lib.hid (fun t ht => by
              have h9 := HA.out
              have h8 := HB.out
              rw [sw_getD hiG hjG t, if_neg (by omega), if_neg (by omega)]
              exact HBE.out t ht)
            have HPM := Lib.hid ((sw_perm hiG hjG).trans HP.out)
            have HL2 := Lib.hid ((sw_length G i b).trans HLEN.out)
            have hij : i < b := by have h9 := HA.out; have h8 := HB.out; omega
            rw [hd]
            clear hl hd
            go_wp2_with fail
            refine HSW.out.mono ?_
            rintro e w6 ⟨rfl, hh6, hke6⟩
            have HH6 := Lib.hid hh6
            have HK6 := Lib.hid (HK5.out.trans hke6)
            clear hh6 hke6
            go_wp2
            go_roundw
            case rel => exact ⟨b, _, rfl, by omega, HPM.out, HL2.out, HS.out, HBY.out, HH6.out, HK6.out⟩
            case measure => simp [intOf]; omega
          · have hd : decide (tl G b < tl G i) = false := decide_eq_false hl
            have hheap := Lib.hid (HDN.out.done (fun k h1 h2 h3 => Int.le_trans (by omega) (HMN.out k h1 h2 h3)))
            rw [hd]
            clear hl hd
            go_wp2
            go_ret
            exact ⟨⟨_, rfl⟩, G, HP.out, hheap.out, HBE.out, HH5.out, HK5.out⟩
        · have hdc : decide (tl G b < tl G a) = false := decide_eq_false hc
          have HMN : Hid (∀ k, 0 < k → k < n → (k - 1) / 2 = i → tl G a ≤ tl G k) := Lib.hid (fun k h1 h2 h3 => by
            have h9 := HA.out
            have h8 := HB.out
            rcases (show k = a ∨ k = b by omega) with e | e
            · subst e; exact Int.le_refl _
            · subst e; omega)
          rw [hdc]
          clear hc hdc
          have hjG : a < G.length := by rw [HLEN.out]; omega
          have hcallj := Lib.hid (fun W hW => heapLess_any hb g cap G a i W hW hjG hiG)
          go_wp2_with fail
          refine (hcallj.out _ (by exact HH4.out)).mono ?_
          rintro e w5 ⟨rfl, hb5⟩
          have HH5 := Lib.hid (HH4.out.below hb5)
          have HK5 := Lib.hid (HK4.out.trans (Keeps.of_below hb5))
          clear hb5
          by_cases hl : tl G a < tl G i
          · have hd : decide (tl G a < tl G i) = true := decide_eq_true hl
            have HS := Lib.hid (HDN.out.step (j := a) (by rw [HLEN.out]; exact hn) (by omega) (by omega) (by have h9 := HA.out; have h8 := HB.out; omega) hl HMN.out)
            have HSW := Lib.hid (heapSwap_any hb g cap G i a w5 HH5.out hiG hjG)
            have HBY : Hid (∀ t, n ≤ t → (sw G i a).getD t (0, 0, 0, 0) = H.getD t (0, 0, 0, 0)) := Lib.hid (fun t ht => by
              have h9 := HA.out
              have h8 := HB.out
              rw [sw_getD hiG hjG t, if_neg (by omega), if_neg (by omega)]
              exact HBE.out t ht)
            have HPM := Lib.hid ((sw_perm hiG hjG).trans HP.out)
            have HL2 := Lib.hid ((sw_length G i a).trans HLEN.out)
            have hij : i < a := by have h9 := HA.out; have h8 := HB.out; omega
            rw [hd]
            clear hl hd
            go_wp2_with fail
            refine HSW.out.mono ?_
            rintro e w6 ⟨rfl, hh6, hke6⟩
            have HH6 := Lib.hid hh6
            have HK6 := Lib.hid (HK5.out.trans hke6)
            clear hh6 hke6
            go_wp2
            go_roundw
            case rel => exact ⟨a, _, rfl, by omega, HPM.out, HL2.out, HS.out, HBY.out, HH6.out, HK6.out⟩
            case measure => simp [intOf]; omega
          · have hd : decide (tl G a < tl G i) = false := decide_eq_false hl
            have hheap := Lib.hid (HDN.out.done (fun k h1 h2 h3 => Int.le_trans (by omega) (HMN.out k h1 h2 h3)))
            rw [hd]
            clear hl hd
            go_wp2
            go_ret
            exact ⟨⟨_, rfl⟩, G, HP.out, hheap.out, HBE.out, HH5.out, HK5.out⟩
      · have HMN : Hid (∀ k, 0 < k → k < n → (k - 1) / 2 = i → tl G a ≤ tl G k) := Lib.hid (fun k h1 h2 h3 => by
          have h9 := HA.out
          have h8 := HB.out
          have e : k = a := by omega
          subst e; exact Int.le_refl _)
        have hjG : a < G.length := by rw [HLEN.out]; omega
        have hcallj := Lib.hid (fun W hW => heapLess_any hb g cap G a i W hW hjG hiG)
        go_wp2_with fail
        refine (hcallj.out _ (by exact HH.out)).mono ?_
        rintro e w5 ⟨rfl, hb5⟩
        have HH5 := Lib.hid (HH.out.below hb5)
        have HK5 := Lib.hid (HKE.out.trans (Keeps.of_below hb5))
        clear hb5
        by_cases hl : tl G a < tl G i
        · have hd : decide (tl G a < tl G i) = true := decide_eq_true hl
          have HS := Lib.hid (HDN.out.step (j := a) (by rw [HLEN.out]; exact hn) (by omega) (by omega) (by have h9 := HA.out; have h8 := HB.out; omega) hl HMN.out)
          have HSW := Lib.hid (heapSwap_any hb g cap G i a w5 HH5.out hiG hjG)
          have HBY : Hid (∀ t, n ≤ t → (sw G i a).getD t (0, 0, 0, 0) = H.getD t (0, 0, 0, 0)) := Lib.hid (fun t ht => by
            have h9 := HA.out
            have h8 := HB.out
            rw [sw_getD hiG hjG t, if_neg (by omega), if_neg (by omega)]
            exact HBE.out t ht)
          have HPM := Lib.hid ((sw_perm hiG hjG).trans HP.out)
          have HL2 := Lib.hid ((sw_length G i a).trans HLEN.out)
          have hij : i < a := by have h9 := HA.out; have h8 := HB.out; omega
          rw [hd]
          clear hl hd
          go_wp2_with fail
          refine HSW.out.mono ?_
          rintro e w6 ⟨rfl, hh6, hke6⟩
          have HH6 := Lib.hid hh6
          have HK6 := Lib.hid (HK5.out.trans hke6)
          clear hh6 hke6
          go_wp2
          go_roundw
          case rel => exact ⟨a, _, rfl, by omega, HPM.out, HL2.out, HS.out, HBY.out, HH6.out, HK6.out⟩
          case measure => simp [intOf]; omega
        · have hd : decide (tl G a < tl G i) = false := decide_eq_false hl
          have hheap := Lib.hid (HDN.out.done (fun k h1 h2 h3 => Int.le_trans (by omega) (HMN.out k h1 h2 h3)))
          rw [hd]
          clear hl hd
          go_wp2
          go_ret
          exact ⟨⟨_, rfl⟩, G, HP.out, hheap.out, HBE.out, HH5.out, HK5.out⟩
    · have hheap := Lib.hid (HDN.out.done (fun k h1 h2 h3 => by have h9 := HA.out; omega))
      clear ha
      go_wp2
      go_ret
      exact ⟨⟨_, rfl⟩, G, HP.out, hheap.out, HBE.out, HH.out, HKE.out⟩
end Go.Proofs.Ytalcjgmmlmhngaa
