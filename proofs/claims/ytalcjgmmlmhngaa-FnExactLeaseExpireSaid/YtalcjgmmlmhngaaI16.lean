/-
  The heap of leases: up: contract. Own work.
-/
import Derived.Test.YtalcjgmmlmhngaaI15
namespace Go.Proofs.Ytalcjgmmlmhngaa
open Go.RowKit P
set_option linter.unusedVariables false
set_option linter.unusedSimpArgs false
set_option maxRecDepth 100000

set_option maxHeartbeats 4000000 in
theorem heapUp_any (hb g cap : Nat) (H : List Le) (j : Nat) (w : World) (h : Hp w hb g cap H) (hj : UpInv H H.length j) (hl : H.length ≤ 1000000) :
    Calls Try.prog 147 #[.iface 76 (.pointer (some ⟨hb, 0, none⟩)), .int .i64 j] w fun e w' => e = .returned (.tuple #[]) ∧ ∃ G, G.Perm H ∧ IsHeap G H.length ∧ Hp w' hb g cap G ∧ Keeps [g] w w' := by
  have mL : ∀ w, Sem.run Try.prog (method (Try.prog.types.size + 100) 76 (.pointer (some ⟨hb, 0, none⟩)) "Less") w = .ok (176, .pointer (some ⟨hb, 0, none⟩)) w := fun _ => by kernel_rfl
  have mS : ∀ w, Sem.run Try.prog (method (Try.prog.types.size + 100) 76 (.pointer (some ⟨hb, 0, none⟩)) "Swap") w = .ok (179, .pointer (some ⟨hb, 0, none⟩)) w := fun _ => by kernel_rfl
  go_enter Try.func147, Try.ntmps147
  go_wp2
  go_loopw [1] (fun s1 wr => ∃ (j : Nat) (G : List Le), s1 = .int .i64 j ∧ G.Perm H ∧ G.length = H.length ∧ UpInv G H.length j ∧ Hp wr hb g cap G ∧ Keeps [g] w wr)
    (fun s1 _ => (intOf s1).toNat)
  case atStart => exact ⟨j, H, rfl, List.Perm.refl _, rfl, hj, h, Keeps.refl _ _⟩
  case round =>
    obtain ⟨k, G, rfl, hp, hlen, hup, hh, hke⟩ := hrel
    have hlt := hup.lt
    have HUP := Lib.hid hup
    have HH := Lib.hid hh
    have HP := Lib.hid hp
    have HLEN := Lib.hid hlen
    have HKE := Lib.hid hke
    clear hup hh hp hlen hke
    by_cases h0 : k = 0
    · have hheap := Lib.hid (HUP.out.done (.inl h0))
      subst h0
      have hq : ((0 : Nat) : Int) - 1 = -1 := rfl
      go_wp2
      go_end0
      exact ⟨rfl, G, HP.out, hheap.out, HH.out, HKE.out⟩
    · obtain ⟨p, hpp⟩ : ∃ p, (k - 1) / 2 = p := ⟨_, rfl⟩
      have hq : ((k : Int) - 1).tdiv 2 = (p : Int) := by
        rw [Int.tdiv_eq_ediv_of_nonneg (by omega)]
        omega
      have hwp : IntKind.i64.wrap (p : Int) = (p : Int) := IntWalk.i64_in _ (by omega)
      have hwk : IntKind.i64.wrap ((k : Int) - 1) = (k : Int) - 1 := IntWalk.i64_in _ (by omega)
      have hne : ((p : Int) == (k : Int)) = false := beq_eq_false_iff_ne.2 (by omega)
      have hkG : k < G.length := by rw [HLEN.out]; exact hlt
      have hpG : p < G.length := by omega
      have hcall := fun W hW => heapLess_any hb g cap G k p W hW hkG hpG
      have hpk : p < k := by omega
      have HPP := Lib.hid hpp
      have HCALL := Lib.hid hcall
      clear hpp hcall
      go_wp2_with fail
      refine (HCALL.out _ (by exact HH.out)).mono ?_
      rintro e w1 ⟨rfl, hb1⟩
      have HH1 := Lib.hid (HH.out.below hb1)
      have HKE1 := Lib.hid (HKE.out.trans (Keeps.of_below hb1))
      by_cases hlt2 : tl G k < tl G p
      · have hd : decide (tl G k < tl G p) = true := decide_eq_true hlt2
        have HS := Lib.hid (HUP.out.step (by rw [HLEN.out]; exact Nat.le_refl _) (by omega) (by rw [HPP.out]; exact hlt2))
        have hcall2 := Lib.hid (heapSwap_any hb g cap G p k w1 HH1.out hpG hkG)
        rw [hd]
        clear hlt2 hd
        go_wp2_with fail
        refine hcall2.out.mono ?_
        rintro e w2 ⟨rfl, hh2, hke2⟩
        have hS := HS.out
        rw [HPP.out] at hS
        have HS2 := Lib.hid hS
        have HH2 := Lib.hid hh2
        have HKE2 := Lib.hid (HKE1.out.trans hke2)
        have HPM := Lib.hid ((sw_perm hpG hkG).trans HP.out)
        have HL2 := Lib.hid ((sw_length G p k).trans HLEN.out)
        clear hS hh2 hke2
        go_wp2
        go_roundw
        case rel => exact ⟨p, _, rfl, HPM.out, HL2.out, HS2.out, HH2.out, HKE2.out⟩
        case measure => simp [intOf]; omega
      · have hd : decide (tl G k < tl G p) = false := decide_eq_false hlt2
        have hheap := Lib.hid (HUP.out.done (.inr (by rw [HPP.out]; omega)))
        rw [hd]
        clear hlt2 hd
        go_wp2
        go_end0
        exact ⟨rfl, G, HP.out, hheap.out, HH1.out, HKE1.out⟩
end Go.Proofs.Ytalcjgmmlmhngaa
