/-
  Chapter 4, the model's l04Cut, RopeLine: contracts. Own work.
-/
import Derived.Test.YtpipkmnmdipeeaaDoorS04
import Derived.Test.YtpipkmnmdipeeaaDoorP04
namespace Go.Proofs.YtpipkmnmdipeeaaDoor
open Go.RowKit P
set_option linter.unusedVariables false
set_option maxRecDepth 100000

set_option maxHeartbeats 1000000 in
theorem l04Cut_any (A : Option Addr) (ls : List (List UInt8)) (c : Nat) (a : Int) (w : World) (hn : ls.length ≤ 9223372036854775807) (hC : Cs w A ls) :
    Calls Tryd.prog 64 #[.agg #[.slice A ls.length c], .int .i64 a] w fun e w' => e = .returned (.bool (rCut ls a)) ∧ Below w.heap.size w w' := by
  rw [rCut_text]
  have hlen := chunksText_len ls
  have hb0 := (Below.refl w.heap.size w).alloc (Nat.le_refl _) (.cells #[.slice A ls.length c] 29)
  have bA0 := Blk.new w #[.slice A ls.length c] 29
  have hC0 := hC.below hb0
  obtain ⟨T, hT⟩ : ∃ T, chunksText ls = T := ⟨_, rfl⟩
  rw [hT] at hlen ⊢
  have HT := Lib.hid hT
  generalize hq : chunksOk ls = q
  have HQ := Lib.hid hq
  clear hq hT
  cases q
  · go_enter Tryd.func64, Tryd.ntmps64
    go_wp2_with (go_at_call 16; refine (specRopeOk_any A ls c _ hn (by exact hC0)).mono ?_; rintro e w1 ⟨rfl, hb1⟩; rw [HQ.out]; have hb2 := below_then hb0 hb1)
    go_ret
    exact ⟨rfl, hb2⟩
  · go_enter Tryd.func64, Tryd.ntmps64
    go_wp2_with fail
    refine (specRopeOk_any A ls c _ hn (by exact hC0)).mono ?_
    rintro e w1 ⟨rfl, hb1⟩
    rw [HQ.out]
    have kA : w1.cell? ⟨w.heap.size, 0, none⟩ = some (.slice A ls.length c) := by rw [(bA0.below hb1).cell]; rfl
    have hC1 := hC0.below hb1
    have hb2 := below_then hb0 hb1
    clear hb0 hb1 hC0 bA0
    go_wp2_with fail
    refine (specRopeText_any A ls c _ hn (by exact hC1)).mono ?_
    rintro e w2 ⟨v, rfl, hown, hb3⟩
    rw [HT.out] at hown
    obtain ⟨B, d, rfl, h1, h2, hB⟩ := hown.form
    have hd9 : d ≤ 9223372036854775807 := by unfold maxLen at h2; omega
    have hb4 := below_then hb2 hb3
    clear hown hC1 h2
    go_wp2_with fail
    refine (specCutOk_any B T d a _ h1 hd9 (by exact hB)).mono ?_
    rintro e w3 ⟨rfl, hb5⟩
    have hb6 := below_then hb4 hb5
    go_wp2
    go_ret
    exact ⟨rfl, hb6⟩

theorem slice_part (A : Option Addr) (n c i : Nat) (w : World) (l : List UInt8) (hA : A = none → c = 0) (hp : ∀ a, A = some a → ∃ g o, a = ⟨g, o, none⟩) (hn : l.length = n) (hi : i ≤ n) (hc : n ≤ c) (hc9 : c ≤ 9223372036854775807) (hB : Bs w A l) :
    ∃ A', (∀ W, (Instr.slice 33 (.slice A n c) (some (.int .i64 (i : Int))) none none).run Tryd.prog W = .ok (.slice A' (n - i) (c - i)) W) ∧ Bs w A' (l.drop i) := by
  have hz : ∀ W, (Go.sizeOf 5).run Tryd.prog W = .ok 1 W := fun W => by kernel_rfl
  have ht' : Tryd.prog.underlying 33 = some (.slice (Tryd.prog.elem 33)) := by simp [Program.elem, Tryd.underlying33]
  have he : Tryd.prog.elem 33 = 5 := by simp [Program.elem, Tryd.underlying33]
  cases A with
  | none =>
    have h0 := hA rfl
    subst h0
    refine ⟨none, fun W => ?_, fun k hk => by rw [List.length_drop] at hk; omega⟩
    rw [run_slice_l W 33 _ _ _ ht' .i64 _ (by omega) (by omega), he, hz]
    simp [Result.andThen, sliced]
  | some x =>
    obtain ⟨g, o, rfl⟩ := hp x rfl
    refine ⟨some (if c = i then ⟨g, o, none⟩ else ⟨g, o + i, none⟩), fun W => ?_, ?_⟩
    · rw [run_slice_l W 33 _ _ _ ht' .i64 _ (by omega) (by omega), he, hz]
      by_cases h0 : c = i
      · simp [Result.andThen, sliced, h0]
      · by_cases h1 : i = 0
        · subst h1; simp [Result.andThen, sliced, Addr.add, h0]
        · simp [Result.andThen, sliced, Addr.add, h0, h1]
    · by_cases h0 : c = i
      · intro k hk
        rw [List.length_drop] at hk
        omega
      · rw [if_neg h0]
        have := Bs.sub hB i (l.length - i)
        rw [List.take_of_length_le (by rw [List.length_drop]; omega)] at this
        exact this
end Go.Proofs.YtpipkmnmdipeeaaDoor
