/-
  Chapter 4, the program's RopeOk, RopeText, RopeMeas, RopeOf: contracts. Own work.
  Chapter 4, the model's RopeOk, RopeText, RopeMeas: contracts. Own work.
  Chapter 4, the model's l04Cut, RopeLine: contracts. Own work.
  Chapter 4, the model's RopeLine: contract. Own work.
  Chapter 4, the program's cutsOk, RopeLine: contracts. Own work.
  Chapter 4, the program's RopeLine: contract. Own work.
  Chapter 4, the model's l04Stands: contract. Own work.
-/
import Derived.Test.YtaekanhjkpoifaaDoorI02f
import Derived.Test.YtaekanhjkpoifaaDoorI02g
import Derived.Test.YtaekanhjkpoifaaDoorC04
import Derived.Test.YtaekanhjkpoifaaDoorS02b
import Derived.Test.YtaekanhjkpoifaaDoorP04
import Derived.Test.YtaekanhjkpoifaaDoorS01
import Derived.BigQuiet
import Derived.Deep.QuietTactic
namespace Go.Proofs.YtaekanhjkpoifaaDoor
open Go.RowKit P
set_option linter.unusedVariables false
set_option maxRecDepth 100000


end Go.Proofs.YtaekanhjkpoifaaDoor

namespace Go.Proofs.YtaekanhjkpoifaaDoor
open Go.RowKit P
set_option linter.unusedVariables false
set_option maxRecDepth 100000

end Go.Proofs.YtaekanhjkpoifaaDoor

namespace Go.Proofs.YtaekanhjkpoifaaDoor
open Go.RowKit P
set_option linter.unusedVariables false
set_option maxRecDepth 100000

theorem slice_part2 (A : Option Addr) (n c i : Nat) (w : World) (l : List UInt8) (hA : A = none → c = 0) (hp : ∀ a, A = some a → ∃ g o, a = ⟨g, o, none⟩) (hn : l.length = n) (hi : i ≤ n) (hc : n ≤ c) (hc9 : c ≤ 9223372036854775807) (hB : Bs w A l) :
    ∃ A', (∀ W, (Instr.slice 22 (.slice A n c) (some (.int .i64 (i : Int))) none none).run Tryd.prog W = .ok (.slice A' (n - i) (c - i)) W) ∧ Bs w A' (l.drop i) ∧ (A' = none → c - i = 0) ∧ (∀ a, A' = some a → ∃ g o, a = ⟨g, o, none⟩) := by
  have hz : ∀ W, (Go.sizeOf 5).run Tryd.prog W = .ok 1 W := fun W => by kernel_rfl
  have ht' : Tryd.prog.underlying 22 = some (.slice (Tryd.prog.elem 22)) := by simp [Program.elem, Tryd.underlying22]
  have he : Tryd.prog.elem 22 = 5 := by simp [Program.elem, Tryd.underlying22]
  cases A with
  | none =>
    have h0 := hA rfl
    subst h0
    refine ⟨none, fun W => ?_, fun k hk => by rw [List.length_drop] at hk; omega, fun _ => by omega, fun _ h => by cases h⟩
    rw [run_slice_l W 22 _ _ _ ht' .i64 _ (by omega) (by omega), he, hz]
    simp [Result.andThen, sliced]
  | some x =>
    obtain ⟨g, o, rfl⟩ := hp x rfl
    refine ⟨some (if c = i then ⟨g, o, none⟩ else ⟨g, o + i, none⟩), fun W => ?_, ?_, (fun h => by cases h), fun a h => by cases h; split <;> exact ⟨_, _, rfl⟩⟩
    · rw [run_slice_l W 22 _ _ _ ht' .i64 _ (by omega) (by omega), he, hz]
      by_cases h0 : c = i
      · simp [Result.andThen, sliced, h0]
      · by_cases h1 : i = 0
        · subst h1; simp [Result.andThen, sliced, Addr.add, h0]
        · simp [Result.andThen, sliced, Addr.add, h0, h1]
    · by_cases h0 : c = i
      · intro k hk
        rw [List.length_drop] at hk
        omega
      · rw [if_neg h0]
        have := Bs.sub hB i (l.length - i)
        rw [List.take_of_length_le (by rw [List.length_drop]; omega)] at this
        exact this
theorem slice_part (A : Option Addr) (n c i : Nat) (w : World) (l : List UInt8) (hA : A = none → c = 0) (hp : ∀ a, A = some a → ∃ g o, a = ⟨g, o, none⟩) (hn : l.length = n) (hi : i ≤ n) (hc : n ≤ c) (hc9 : c ≤ 9223372036854775807) (hB : Bs w A l) :
    ∃ A', (∀ W, (Instr.slice 22 (.slice A n c) (some (.int .i64 (i : Int))) none none).run Tryd.prog W = .ok (.slice A' (n - i) (c - i)) W) ∧ Bs w A' (l.drop i) :=
  let ⟨A', h1, h2, _, _⟩ := slice_part2 A n c i w l hA hp hn hi hc hc9 hB
  ⟨A', h1, h2⟩
end Go.Proofs.YtaekanhjkpoifaaDoor

namespace Go.Proofs.YtaekanhjkpoifaaDoor
open Go.RowKit P
set_option linter.unusedVariables false
set_option maxRecDepth 100000

theorem ten_eq {x : UInt8} (h : x = 10) : ((x.toNat : Int) == 10) = true := by subst h; rfl
theorem ten_ne {x : UInt8} (h : x ≠ 10) : ((x.toNat : Int) == 10) = false := by
  rw [beq_eq_false_iff_ne]
  intro e
  apply h
  apply UInt8.toNat_inj.1
  have : (10 : UInt8).toNat = 10 := rfl
  omega

end Go.Proofs.YtaekanhjkpoifaaDoor

namespace Go.Proofs.YtaekanhjkpoifaaDoor
open Go.RowKit P
set_option linter.unusedVariables false
set_option maxRecDepth 100000

theorem ret_i64 {a b : Int} (h : a = b) : Ending.returned (.int .i64 a) = .returned (.int .i64 b) := by rw [h]

end Go.Proofs.YtaekanhjkpoifaaDoor

namespace Go.Proofs.YtaekanhjkpoifaaDoor
open Go.RowKit P
set_option linter.unusedVariables false
set_option maxRecDepth 100000

/-- Own bytes: nil, or a block of their own. -/
theorem Own.form2 {w : World} {base : Nat} {v : Value} {l : List UInt8} (h : Own w base v l) : ∃ A c, v = .slice A l.length c ∧ l.length ≤ c ∧ c ≤ 9223372036854775807 ∧ Bs w A l ∧ (A = none → c = 0) ∧ (∀ x, A = some x → ∃ g o, x = ⟨g, o, none⟩) := by
  obtain ⟨A, c, hv, h1, h2, hB⟩ := h.form
  refine ⟨A, c, hv, h1, by unfold maxLen at h2; omega, hB, ?_, ?_⟩
  · intro hA
    rcases h.2 with ⟨e, _⟩ | ⟨g, cap, cur, e, _⟩
    · rw [hv] at e; simp only [Value.slice.injEq] at e; exact e.2.2
    · rw [hv] at e; simp only [Value.slice.injEq] at e; rw [hA] at e; exact absurd e.1 (by simp)
  · intro x hx
    rcases h.2 with ⟨e, _⟩ | ⟨g, cap, cur, e, _⟩
    · rw [hv] at e; simp only [Value.slice.injEq] at e; rw [hx] at e; exact absurd e.1 (by simp)
    · rw [hv] at e; simp only [Value.slice.injEq] at e; rw [hx] at e; exact ⟨g, 0, Option.some.inj e.1⟩

/-- 's[:k]' of bytes. -/
theorem slice_head (A : Option Addr) (n c k : Nat) (hA : A = none → c = 0) (hp : ∀ x, A = some x → ∃ g o, x = ⟨g, o, none⟩) (hk : k ≤ c) :
    ∀ W, (Instr.slice 22 (.slice A n c) none (some (.int .i64 (k : Int))) none).run Tryd.prog W = .ok (.slice A k c) W := by
  intro W
  have hz : ∀ W, (Go.sizeOf 5).run Tryd.prog W = .ok 1 W := fun W => by kernel_rfl
  have ht' : Tryd.prog.underlying 22 = some (.slice (Tryd.prog.elem 22)) := by simp [Program.elem, Tryd.underlying22]
  have he : Tryd.prog.elem 22 = 5 := by simp [Program.elem, Tryd.underlying22]
  rw [run_slice_h W 22 _ _ _ ht' .i64 _ (by omega) (by omega), he, hz]
  cases A with
  | none =>
    have h0 := hA rfl
    subst h0
    have : k = 0 := by omega
    subst this
    simp [Result.andThen, sliced]
  | some x =>
    obtain ⟨g, o, rfl⟩ := hp x rfl
    simp [Result.andThen, sliced, Addr.add]

theorem Bs.head {w : World} {A : Option Addr} {l : List UInt8} (h : Bs w A l) (k : Nat) (hk : k ≤ l.length) : Bs w A (l.take k) := by
  intro j hj
  rw [List.length_take] at hj
  obtain ⟨b, off, hA, hlt, hc⟩ := h j (by omega)
  refine ⟨b, off, hA, hlt, ?_⟩
  rw [hc, List.getElem_take]

end Go.Proofs.YtaekanhjkpoifaaDoor

namespace Go.Proofs.YtaekanhjkpoifaaDoor
open Go.RowKit P
set_option linter.unusedVariables false
set_option maxRecDepth 100000

/-- 's[i:i+m]' of bytes. -/
theorem slice_mid (A : Option Addr) (n c i m : Nat) (w : World) (l : List UInt8) (hA : A = none → c = 0) (hp : ∀ a, A = some a → ∃ g o, a = ⟨g, o, none⟩) (hn : l.length = n) (hi : i + m ≤ n) (hc : n ≤ c) (hc9 : c ≤ 9223372036854775807) (hB : Bs w A l) :
    ∃ A', (∀ W, (Instr.slice 22 (.slice A n c) (some (.int .i64 (i : Int))) (some (.int .i64 ((i : Int) + (m : Int)))) none).run Tryd.prog W = .ok (.slice A' m (c - i)) W) ∧ Bs w A' ((l.drop i).take m) := by
  have hz : ∀ W, (Go.sizeOf 5).run Tryd.prog W = .ok 1 W := fun W => by kernel_rfl
  have ht' : Tryd.prog.underlying 22 = some (.slice (Tryd.prog.elem 22)) := by simp [Program.elem, Tryd.underlying22]
  have he : Tryd.prog.elem 22 = 5 := by simp [Program.elem, Tryd.underlying22]
  have htn : ((i : Int) + (m : Int)).toNat = i + m := by omega
  cases A with
  | none =>
    have h0 := hA rfl
    subst h0
    refine ⟨none, fun W => ?_, fun k hk => by rw [List.length_take, List.length_drop] at hk; omega⟩
    rw [run_slice_lh W 22 _ _ _ ht' .i64 .i64 _ _ (by omega) (by omega) (by omega), he, hz]
    have : i = 0 := by omega
    have : m = 0 := by omega
    subst i; subst m
    simp [Result.andThen, sliced]
  | some x =>
    obtain ⟨g, o, rfl⟩ := hp x rfl
    refine ⟨some (if c = i then ⟨g, o, none⟩ else ⟨g, o + i, none⟩), fun W => ?_, ?_⟩
    · rw [run_slice_lh W 22 _ _ _ ht' .i64 .i64 _ _ (by omega) (by omega) (by omega), he, hz]
      have hm : i + m - i = m := by omega
      by_cases h0 : c = i
      · simp [Result.andThen, sliced, h0, htn, hm]
      · by_cases h1 : i = 0
        · subst h1; simp [Result.andThen, sliced, Addr.add, h0]
        · simp [Result.andThen, sliced, Addr.add, h0, h1, htn, hm]
    · by_cases h0 : c = i
      · intro k hk
        rw [List.length_take, List.length_drop] at hk
        omega
      · rw [if_neg h0]
        exact Bs.sub hB i m

end Go.Proofs.YtaekanhjkpoifaaDoor
