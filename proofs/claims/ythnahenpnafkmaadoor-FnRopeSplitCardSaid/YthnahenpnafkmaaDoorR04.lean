/-
  Chapter 4, the program's RopeOk, RopeText, RopeMeas, RopeOf: contracts. Own work.
  Chapter 4, the model's RopeOk, RopeText, RopeMeas: contracts. Own work.
  Chapter 4, the model's l04Cut, RopeLine: contracts. Own work.
  Chapter 4, the model's RopeLine: contract. Own work.
  Chapter 4, the program's cutsOk, RopeLine: contracts. Own work.
  Chapter 4, the program's RopeLine: contract. Own work.
  Chapter 4, the model's l04Stands: contract. Own work.
-/
import Derived.Test.YthnahenpnafkmaaDoorI02f
import Derived.Test.YthnahenpnafkmaaDoorI02g
import Derived.Test.YthnahenpnafkmaaDoorC04
import Derived.Test.YthnahenpnafkmaaDoorS02b
import Derived.Test.YthnahenpnafkmaaDoorP04
import Derived.Test.YthnahenpnafkmaaDoorS01
import Derived.BigQuiet
import Derived.Deep.QuietTactic
namespace Go.Proofs.YthnahenpnafkmaaDoor
open Go.RowKit P
set_option linter.unusedVariables false
set_option maxRecDepth 100000


set_option maxHeartbeats 400000 in
theorem implRopeOk_any (A : Option Addr) (ls : List (List UInt8)) (c : Nat) (w : World) (hn : ls.length ≤ 1048576) (hT : Tab w) (hC : Cs w A ls) :
    Calls Tryd.prog 61 #[.agg #[.slice A ls.length c]] w fun e w' => e = .returned (.bool (chunksOk ls)) ∧ Below w.heap.size w w' := by
  have hb := (Below.refl w.heap.size w).alloc (Nat.le_refl _) (.cells #[.slice A ls.length c] 26)
  have hT0 := hT.below hb
  have hC0 := hC.below hb
  go_enter Tryd.func61, Tryd.ntmps61
  go_wp2_with fail
  refine (implChunksOk_any A ls c _ hn (by exact hT0) (by exact hC0)).mono ?_
  rintro e w1 ⟨rfl, hb1⟩
  have hb2 := below_then hb hb1
  go_wp2
  go_ret
  exact ⟨rfl, hb2⟩

set_option maxHeartbeats 400000 in
theorem implRopeText_any (A : Option Addr) (ls : List (List UInt8)) (c : Nat) (w : World) (hn : ls.length ≤ 1048576) (hT : Tab w) (hC : Cs w A ls) :
    Calls Tryd.prog 10 #[.agg #[.slice A ls.length c]] w (Makes w (chunksText ls)) := by
  have hb := (Below.refl w.heap.size w).alloc (Nat.le_refl _) (.cells #[.slice A ls.length c] 26)
  have hT0 := hT.below hb
  have hC0 := hC.below hb
  go_enter Tryd.func10, Tryd.ntmps10
  go_wp2_with fail
  refine (implChunksText_any A ls c _ hn (by exact hT0) (by exact hC0)).mono ?_
  rintro e w1 ⟨v, rfl, hown, hb1⟩
  have hb2 := below_then hb hb1
  have hown := hown.mono (base' := w.heap.size) (by simp)
  go_wp2
  go_ret
  exact ⟨_, rfl, hown, hb2⟩

set_option maxHeartbeats 400000 in
theorem implRopeMeas_any (A : Option Addr) (ls : List (List UInt8)) (c : Nat) (w : World) (hn : ls.length ≤ 1048576) (hT : Tab w) (hC : Cs w A ls) :
    Calls Tryd.prog 12 #[.agg #[.slice A ls.length c]] w fun e w' => e = .returned (meas (mB (chunksText ls)) (mR (chunksText ls)) (mL (chunksText ls))) ∧ Below w.heap.size w w' := by
  have hlen := chunksText_len ls
  obtain ⟨x, hx⟩ : ∃ x, mB (chunksText ls) = x := ⟨_, rfl⟩
  obtain ⟨y, hy⟩ : ∃ y, mR (chunksText ls) = y := ⟨_, rfl⟩
  obtain ⟨z, hz⟩ : ∃ z, mL (chunksText ls) = z := ⟨_, rfl⟩
  rw [hx, hy, hz]
  have HX := Lib.hid hx
  have HY := Lib.hid hy
  have HZ := Lib.hid hz
  clear hx hy hz
  have hb0 := ((Below.refl w.heap.size w).alloc (Nat.le_refl _) (.cells #[.slice A ls.length c] 26)).alloc (by simp) (.cells #[.int .i64 0, .int .i64 0, .int .i64 0] 35)
  have hC0 := hC.below hb0
  have hT0 := hT.below hb0
  have hr0 : Blk ((w.alloc (.cells #[.slice A ls.length c] 26)).alloc (.cells #[.int .i64 0, .int .i64 0, .int .i64 0] 35)) (w.heap.size + 1) #[.int .i64 0, .int .i64 0, .int .i64 0] 35 := by
    have := Blk.new (w.alloc (.cells #[.slice A ls.length c] 26)) #[.int .i64 0, .int .i64 0, .int .i64 0] 35
    simpa using this
  go_enter Tryd.func12, Tryd.ntmps12
  go_wp2_with fail
  refine (implRopeText_any A ls c _ hn (by exact hT0) (by exact hC0)).mono ?_
  rintro e w1 ⟨v, rfl, hown, hb1⟩
  obtain ⟨B, d, rfl, h1, h2, hB⟩ := hown.form
  have hT1 := hT0.below hb1
  have hr1 := hr0.below hb1
  have hb1 := below_then hb0 hb1
  have hd9 : d ≤ 9223372036854775807 := by unfold maxLen at h2; omega
  clear hown h2 hb0 hr0
  go_wp2_with fail
  refine (measOf_any B (chunksText ls) d _ h1 hd9 (by exact hT1) (by exact hB)).mono ?_
  rintro e w2 ⟨rfl, hb2⟩
  rw [HX.out, HY.out, HZ.out]
  unfold meas
  have hr2 := hr1.below hb2
  have hb3 := below_then hb1 hb2
  have d0 : w2.cell? ⟨w.heap.size + 1, 0, none⟩ = some (.int .i64 0) := hr2.cell 0
  have d1 : w2.cell? ⟨w.heap.size + 1, 1, none⟩ = some (.int .i64 0) := hr2.cell 1
  have d2 : w2.cell? ⟨w.heap.size + 1, 2, none⟩ = some (.int .i64 0) := hr2.cell 2
  have g0 := hr2.frozen 0
  have g1 := hr2.frozen 1
  have g2 := hr2.frozen 2
  clear hb1 hb2 hr1 hr2 hB
  go_wp2
  refine bodyPost_ret (v := meas x y z) (by simp [results, Tryd.results12, go_sem, meas, d0, d1, d2]) rfl ⟨rfl, ?_⟩
  (repeat (first | exact Below.refl _ _ | assumption | refine Below.setCell ?_ (by first | (simp; done) | (simp; omega) | omega) _ | refine Below.drew ?_ | refine below_drewN ?_ _ | refine Below.alloc ?_ (by first | (simp; done) | (simp; omega) | omega) _))

/-- What a call ends in that makes a rope of its own and says whether it is one. -/
def GivesRB (ls : List (List UInt8)) (b : Bool) (w : World) (e : Ending) (w' : World) : Prop :=
  ∃ v fp, e = .returned (.tuple #[.agg #[v], .bool b]) ∧ Lay.chunks.ow w' [v] ls fp ∧ fp.Nodup ∧ (∀ k ∈ fp, w.heap.size ≤ k) ∧ Below w.heap.size w w'

end Go.Proofs.YthnahenpnafkmaaDoor

namespace Go.Proofs.YthnahenpnafkmaaDoor
open Go.RowKit P
set_option linter.unusedVariables false
set_option maxRecDepth 100000

set_option maxHeartbeats 400000 in
theorem specRopeOk_any (A : Option Addr) (ls : List (List UInt8)) (c : Nat) (w : World) (hn : ls.length ≤ 9223372036854775807) (hC : Cs w A ls) :
    Calls Tryd.prog 35 #[.agg #[.slice A ls.length c]] w fun e w' => e = .returned (.bool (chunksOk ls)) ∧ Below w.heap.size w w' := by
  have hb := (Below.refl w.heap.size w).alloc (Nat.le_refl _) (.cells #[.slice A ls.length c] 26)
  have hC0 := hC.below hb
  go_enter Tryd.func35, Tryd.ntmps35
  go_wp2_with fail
  refine (specChunksOk_any A ls c _ hn (by exact hC0)).mono ?_
  rintro e w1 ⟨rfl, hb1⟩
  have hb2 := below_then hb hb1
  go_wp2
  go_ret
  exact ⟨rfl, hb2⟩

set_option maxHeartbeats 400000 in
theorem specRopeText_any (A : Option Addr) (ls : List (List UInt8)) (c : Nat) (w : World) (hn : ls.length ≤ 9223372036854775807) (hC : Cs w A ls) :
    Calls Tryd.prog 9 #[.agg #[.slice A ls.length c]] w (Makes w (chunksText ls)) := by
  have hb := (Below.refl w.heap.size w).alloc (Nat.le_refl _) (.cells #[.slice A ls.length c] 26)
  have hC0 := hC.below hb
  go_enter Tryd.func9, Tryd.ntmps9
  go_wp2_with fail
  refine (specChunksText_any A ls c _ hn (by exact hC0)).mono ?_
  rintro e w1 ⟨v, rfl, hown, hb1⟩
  have hb2 := below_then hb hb1
  have hown := hown.mono (base' := w.heap.size) (by simp)
  go_wp2
  go_ret
  exact ⟨_, rfl, hown, hb2⟩

set_option maxHeartbeats 400000 in
theorem specRopeOf_any (A : Option Addr) (l : List UInt8) (c : Nat) (w : World) (hl : l.length ≤ c) (hc9 : c ≤ 9223372036854775807) (hA : Bs w A l) :
    Calls Tryd.prog 29 #[.slice A l.length c] w (GivesRB (chunksOf l) (isText l) w) := by
  have hb0 := (Below.refl w.heap.size w).alloc (Nat.le_refl _) (.cells #[.slice none 0 0] 26)
  have hA0 := hA.below hb0
  have hr0 := Blk.new w #[.slice none 0 0] 26
  have hno : isText l = false → chunksOf l = [] := fun h => by unfold chunksOf; rw [h]; rfl
  have HNO := Lib.hid hno
  clear hno
  generalize hq : isText l = q at *
  have HQ := Lib.hid hq
  clear hq
  cases q
  · have hr : chunksOf l = [] := HNO.out rfl
    rw [hr]
    clear hr
    go_enter Tryd.func29, Tryd.ntmps29
    go_wp2_with fail
    refine (specTextOk_any A l c _ hl hc9 (by exact hA0)).mono ?_
    rintro e w1 ⟨rfl, hb1⟩
    rw [HQ.out]
    have hr1 := hr0.below hb1
    have d0 : w1.cell? ⟨w.heap.size, 0, none⟩ = some (.slice none 0 0) := hr1.cell 0
    have g0 := hr1.frozen 0
    have hb1 := below_then hb0 hb1
    clear hb0 hr0 hA0
    go_wp2
    refine bodyPost_ret (v := .tuple #[.agg #[.slice none 0 0], .bool false]) (by simp [results, Tryd.results29, go_sem, d0]) rfl ?_
    exact ⟨_, [], rfl, Lay.slice_nil _ _ _, by simp, by simp, hb1.setCell (Nat.le_refl _) _⟩
  · go_enter Tryd.func29, Tryd.ntmps29
    go_wp2_with fail
    refine (specTextOk_any A l c _ hl hc9 (by exact hA0)).mono ?_
    rintro e w1 ⟨rfl, hb1⟩
    rw [HQ.out]
    have hr1 := hr0.below hb1
    have hA1 := hA0.below hb1
    have hb1 := below_then hb0 hb1
    clear hb0 hr0 hA0
    go_wp2_with fail
    refine (specChunksOf_any A l c _ hl hc9 (by exact hA1)).mono ?_
    rintro e w2 ⟨cs, fp, rfl, how, hnd, hfp, hb2⟩
    obtain ⟨B, d, rfl, _, _, _⟩ := Lay.chunks.read how
    unfold wSlice
    have hr2 := hr1.below hb2
    have d0 : w2.cell? ⟨w.heap.size, 0, none⟩ = some (.slice none 0 0) := hr2.cell 0
    have g0 := hr2.frozen 0
    have hsz := hr1.lt
    have hb2 := below_then hb1 hb2
    have hlt : ∀ k ∈ fp, w.heap.size + 1 ≤ k := fun k hk => by have := hfp k hk; omega
    generalize hz : (chunksOf l).length = z at *
    clear hz hfp hb1 hr1 hr2 hA1
    go_wp2
    refine bodyPost_ret (v := .tuple #[.agg #[.slice B z d], .bool true]) (by simp [results, Tryd.results29, go_sem, d0]) rfl ?_
    exact ⟨_, fp, rfl, Lay.chunks_setBelow how (fun h => by have := hlt _ h; simp at this; omega) _, hnd, fun k hk => by have := hlt k hk; omega, hb2.setCell (Nat.le_refl _) _⟩
end Go.Proofs.YthnahenpnafkmaaDoor

namespace Go.Proofs.YthnahenpnafkmaaDoor
open Go.RowKit P
set_option linter.unusedVariables false
set_option maxRecDepth 100000

set_option maxHeartbeats 1000000 in
theorem l04Cut_any (A : Option Addr) (ls : List (List UInt8)) (c : Nat) (a : Int) (w : World) (hn : ls.length ≤ 9223372036854775807) (hC : Cs w A ls) :
    Calls Tryd.prog 16 #[.agg #[.slice A ls.length c], .int .i64 a] w fun e w' => e = .returned (.bool (rCut ls a)) ∧ Below w.heap.size w w' := by
  rw [rCut_text]
  have hlen := chunksText_len ls
  have hb0 := (Below.refl w.heap.size w).alloc (Nat.le_refl _) (.cells #[.slice A ls.length c] 26)
  have bA0 := Blk.new w #[.slice A ls.length c] 26
  have hC0 := hC.below hb0
  obtain ⟨T, hT⟩ : ∃ T, chunksText ls = T := ⟨_, rfl⟩
  rw [hT] at hlen ⊢
  have HT := Lib.hid hT
  generalize hq : chunksOk ls = q
  have HQ := Lib.hid hq
  clear hq hT
  cases q
  · go_enter Tryd.func16, Tryd.ntmps16
    go_wp2_with (go_at_call 35; refine (specRopeOk_any A ls c _ hn (by exact hC0)).mono ?_; rintro e w1 ⟨rfl, hb1⟩; rw [HQ.out]; have hb2 := below_then hb0 hb1)
    go_ret
    exact ⟨rfl, hb2⟩
  · go_enter Tryd.func16, Tryd.ntmps16
    go_wp2_with fail
    refine (specRopeOk_any A ls c _ hn (by exact hC0)).mono ?_
    rintro e w1 ⟨rfl, hb1⟩
    rw [HQ.out]
    have kA : w1.cell? ⟨w.heap.size, 0, none⟩ = some (.slice A ls.length c) := by rw [(bA0.below hb1).cell]; rfl
    have hC1 := hC0.below hb1
    have hb2 := below_then hb0 hb1
    clear hb0 hb1 hC0 bA0
    go_wp2_with fail
    refine (specRopeText_any A ls c _ hn (by exact hC1)).mono ?_
    rintro e w2 ⟨v, rfl, hown, hb3⟩
    rw [HT.out] at hown
    obtain ⟨B, d, rfl, h1, h2, hB⟩ := hown.form
    have hd9 : d ≤ 9223372036854775807 := by unfold maxLen at h2; omega
    have hb4 := below_then hb2 hb3
    clear hown hC1 h2
    go_wp2_with fail
    refine (specCutOk_any B T d a _ h1 hd9 (by exact hB)).mono ?_
    rintro e w3 ⟨rfl, hb5⟩
    have hb6 := below_then hb4 hb5
    go_wp2
    go_ret
    exact ⟨rfl, hb6⟩

theorem slice_part2 (A : Option Addr) (n c i : Nat) (w : World) (l : List UInt8) (hA : A = none → c = 0) (hp : ∀ a, A = some a → ∃ g o, a = ⟨g, o, none⟩) (hn : l.length = n) (hi : i ≤ n) (hc : n ≤ c) (hc9 : c ≤ 9223372036854775807) (hB : Bs w A l) :
    ∃ A', (∀ W, (Instr.slice 22 (.slice A n c) (some (.int .i64 (i : Int))) none none).run Tryd.prog W = .ok (.slice A' (n - i) (c - i)) W) ∧ Bs w A' (l.drop i) ∧ (A' = none → c - i = 0) ∧ (∀ a, A' = some a → ∃ g o, a = ⟨g, o, none⟩) := by
  have hz : ∀ W, (Go.sizeOf 5).run Tryd.prog W = .ok 1 W := fun W => by kernel_rfl
  have ht' : Tryd.prog.underlying 22 = some (.slice (Tryd.prog.elem 22)) := by simp [Program.elem, Tryd.underlying22]
  have he : Tryd.prog.elem 22 = 5 := by simp [Program.elem, Tryd.underlying22]
  cases A with
  | none =>
    have h0 := hA rfl
    subst h0
    refine ⟨none, fun W => ?_, fun k hk => by rw [List.length_drop] at hk; omega, fun _ => by omega, fun _ h => by cases h⟩
    rw [run_slice_l W 22 _ _ _ ht' .i64 _ (by omega) (by omega), he, hz]
    simp [Result.andThen, sliced]
  | some x =>
    obtain ⟨g, o, rfl⟩ := hp x rfl
    refine ⟨some (if c = i then ⟨g, o, none⟩ else ⟨g, o + i, none⟩), fun W => ?_, ?_, (fun h => by cases h), fun a h => by cases h; split <;> exact ⟨_, _, rfl⟩⟩
    · rw [run_slice_l W 22 _ _ _ ht' .i64 _ (by omega) (by omega), he, hz]
      by_cases h0 : c = i
      · simp [Result.andThen, sliced, h0]
      · by_cases h1 : i = 0
        · subst h1; simp [Result.andThen, sliced, Addr.add, h0]
        · simp [Result.andThen, sliced, Addr.add, h0, h1]
    · by_cases h0 : c = i
      · intro k hk
        rw [List.length_drop] at hk
        omega
      · rw [if_neg h0]
        have := Bs.sub hB i (l.length - i)
        rw [List.take_of_length_le (by rw [List.length_drop]; omega)] at this
        exact this
theorem slice_part (A : Option Addr) (n c i : Nat) (w : World) (l : List UInt8) (hA : A = none → c = 0) (hp : ∀ a, A = some a → ∃ g o, a = ⟨g, o, none⟩) (hn : l.length = n) (hi : i ≤ n) (hc : n ≤ c) (hc9 : c ≤ 9223372036854775807) (hB : Bs w A l) :
    ∃ A', (∀ W, (Instr.slice 22 (.slice A n c) (some (.int .i64 (i : Int))) none none).run Tryd.prog W = .ok (.slice A' (n - i) (c - i)) W) ∧ Bs w A' (l.drop i) :=
  let ⟨A', h1, h2, _, _⟩ := slice_part2 A n c i w l hA hp hn hi hc hc9 hB
  ⟨A', h1, h2⟩
end Go.Proofs.YthnahenpnafkmaaDoor

namespace Go.Proofs.YthnahenpnafkmaaDoor
open Go.RowKit P
set_option linter.unusedVariables false
set_option maxRecDepth 100000

theorem ten_eq {x : UInt8} (h : x = 10) : ((x.toNat : Int) == 10) = true := by subst h; rfl
theorem ten_ne {x : UInt8} (h : x ≠ 10) : ((x.toNat : Int) == 10) = false := by
  rw [beq_eq_false_iff_ne]
  intro e
  apply h
  apply UInt8.toNat_inj.1
  have : (10 : UInt8).toNat = 10 := rfl
  omega

end Go.Proofs.YthnahenpnafkmaaDoor

namespace Go.Proofs.YthnahenpnafkmaaDoor
open Go.RowKit P
set_option linter.unusedVariables false
set_option maxRecDepth 100000

set_option maxHeartbeats 1000000 in
theorem cutsOk_any (A : Option Addr) (ls : List (List UInt8)) (c : Nat) (g : Nat) (offs : List Int) (d : Nat) (w : World) (hn : ls.length ≤ 1048576) (hT : Tab w) (hC : Cs w A ls) (ho : offs.length ≤ 10)
    (hO : ∀ i (h : i < offs.length), w.cell? ⟨g, i, none⟩ = some (.int .i64 offs[i])) (hg : g < w.heap.size) :
    Calls Tryd.prog 41 #[.agg #[.slice A ls.length c], .slice (some ⟨g, 0, none⟩) offs.length d] w fun e w' => e = .returned (.bool (chunksOk ls && offs.all (fun a => isBound (chunksText ls) a))) ∧ Below w.heap.size w w' := by
  have hlen := chunksText_len ls
  have hb0 := (Below.refl w.heap.size w).alloc (Nat.le_refl _) (.cells #[.slice A ls.length c] 26)
  have bA0 := Blk.new w #[.slice A ls.length c] 26
  have hC0 := hC.below hb0
  have hT0 := hT.below hb0
  obtain ⟨T, hTe⟩ : ∃ T, chunksText ls = T := ⟨_, rfl⟩
  rw [hTe] at hlen ⊢
  have HT := Lib.hid hTe
  generalize hq : chunksOk ls = q
  have HQ := Lib.hid hq
  clear hq hTe
  go_enter Tryd.func41, Tryd.ntmps41
  go_wp2_with fail
  refine (implRopeText_any A ls c _ hn (by exact hT0) (by exact hC0)).mono ?_
  rintro e w1 ⟨v, rfl, hown, hb1⟩
  rw [HT.out] at hown
  obtain ⟨B, e, rfl, h1, h2, hB⟩ := hown.form
  have kA : w1.cell? ⟨w.heap.size, 0, none⟩ = some (.slice A ls.length c) := by rw [(bA0.below hb1).cell]; rfl
  have hC1 := hC0.below hb1
  have hT1 := hT0.below hb1
  have hb2 := below_then hb0 hb1
  clear hb0 hb1 hC0 hT0 bA0 hown h2
  go_wp2_with fail
  refine (implRopeOk_any A ls c _ hn (by exact hT1) (by exact hC1)).mono ?_
  rintro e' w2 ⟨rfl, hb3⟩
  rw [HQ.out]
  have hB2 := hB.below hb3
  have hb4 := below_then hb2 hb3
  clear hb2 hb3 hC1 hT1 kA hB
  cases q
  · go_wp2
    go_ret
    exact ⟨rfl, hb4⟩
  · go_wp2
    go_loop [7, 15] (fun _ i => ∃ k : Nat, k ≤ offs.length ∧ i = .int .i64 k ∧ Hid ((offs.take k).all (fun a => isBound T a) = true)) (fun _ i => offs.length - (intOf i).toNat)
    case atStart => exact ⟨0, Nat.zero_le _, rfl, Lib.hid (by simp)⟩
    case round =>
      obtain ⟨k, hk, rfl, HA⟩ := hrel
      by_cases hlt : k < offs.length
      · have hc := (hb4.cell (p := ⟨g, k, none⟩) hg).trans (hO k hlt)
        have hnext : (offs.take (k + 1)).all (fun a => isBound T a) = isBound T offs[k] := by
          rw [List.take_succ_eq_append_getElem hlt, List.all_append, HA.out]; simp
        have hno : isBound T offs[k] = false → offs.all (fun a => isBound T a) = false := fun h => by
          rw [Bool.eq_false_iff]
          intro e
          rw [List.all_eq_true] at e
          have := e _ (List.getElem_mem hlt)
          rw [h] at this
          cases this
        generalize offs[k] = x at *
        generalize hz : isBound T x = z at *
        have HZ := Lib.hid hz
        have HN := Lib.hid hnext
        have HNO := Lib.hid hno
        clear hz hnext hno
        have hkk : (k : Int) < (offs.length : Int) := by omega
        go_wp2_with fail
        refine (isBoundary_any B T e x _ (by omega) (by exact hB2)).mono ?_
        rintro e' w3 ⟨rfl, rfl⟩
        rw [HZ.out]
        cases z
        · go_wp2
          go_ret
          exact ⟨by rw [HNO.out (by first | rfl | trivial)]; rfl, hb4⟩
        · go_wp2
          go_round
          case rel => exact ⟨k + 1, by omega, by go_num, Lib.hid HN.out⟩
          case measure => simp [intOf]; omega
      · have e : k = offs.length := by omega
        subst e
        have hall := HA.out
        rw [List.take_length] at hall
        have HALL := Lib.hid hall
        clear hall
        go_wp2
        go_ret
        exact ⟨by rw [HALL.out]; rfl, hb4⟩

theorem ret_i64 {a b : Int} (h : a = b) : Ending.returned (.int .i64 a) = .returned (.int .i64 b) := by rw [h]

end Go.Proofs.YthnahenpnafkmaaDoor

namespace Go.Proofs.YthnahenpnafkmaaDoor
open Go.RowKit P
set_option linter.unusedVariables false
set_option maxRecDepth 100000

/-- Own bytes: nil, or a block of their own. -/
theorem Own.form2 {w : World} {base : Nat} {v : Value} {l : List UInt8} (h : Own w base v l) : ∃ A c, v = .slice A l.length c ∧ l.length ≤ c ∧ c ≤ 9223372036854775807 ∧ Bs w A l ∧ (A = none → c = 0) ∧ (∀ x, A = some x → ∃ g o, x = ⟨g, o, none⟩) := by
  obtain ⟨A, c, hv, h1, h2, hB⟩ := h.form
  refine ⟨A, c, hv, h1, by unfold maxLen at h2; omega, hB, ?_, ?_⟩
  · intro hA
    rcases h.2 with ⟨e, _⟩ | ⟨g, cap, cur, e, _⟩
    · rw [hv] at e; simp only [Value.slice.injEq] at e; exact e.2.2
    · rw [hv] at e; simp only [Value.slice.injEq] at e; rw [hA] at e; exact absurd e.1 (by simp)
  · intro x hx
    rcases h.2 with ⟨e, _⟩ | ⟨g, cap, cur, e, _⟩
    · rw [hv] at e; simp only [Value.slice.injEq] at e; rw [hx] at e; exact absurd e.1 (by simp)
    · rw [hv] at e; simp only [Value.slice.injEq] at e; rw [hx] at e; exact ⟨g, 0, Option.some.inj e.1⟩

/-- 's[:k]' of bytes. -/
theorem slice_head (A : Option Addr) (n c k : Nat) (hA : A = none → c = 0) (hp : ∀ x, A = some x → ∃ g o, x = ⟨g, o, none⟩) (hk : k ≤ c) :
    ∀ W, (Instr.slice 22 (.slice A n c) none (some (.int .i64 (k : Int))) none).run Tryd.prog W = .ok (.slice A k c) W := by
  intro W
  have hz : ∀ W, (Go.sizeOf 5).run Tryd.prog W = .ok 1 W := fun W => by kernel_rfl
  have ht' : Tryd.prog.underlying 22 = some (.slice (Tryd.prog.elem 22)) := by simp [Program.elem, Tryd.underlying22]
  have he : Tryd.prog.elem 22 = 5 := by simp [Program.elem, Tryd.underlying22]
  rw [run_slice_h W 22 _ _ _ ht' .i64 _ (by omega) (by omega), he, hz]
  cases A with
  | none =>
    have h0 := hA rfl
    subst h0
    have : k = 0 := by omega
    subst this
    simp [Result.andThen, sliced]
  | some x =>
    obtain ⟨g, o, rfl⟩ := hp x rfl
    simp [Result.andThen, sliced, Addr.add]

theorem Bs.head {w : World} {A : Option Addr} {l : List UInt8} (h : Bs w A l) (k : Nat) (hk : k ≤ l.length) : Bs w A (l.take k) := by
  intro j hj
  rw [List.length_take] at hj
  obtain ⟨b, off, hA, hlt, hc⟩ := h j (by omega)
  refine ⟨b, off, hA, hlt, ?_⟩
  rw [hc, List.getElem_take]

end Go.Proofs.YthnahenpnafkmaaDoor

namespace Go.Proofs.YthnahenpnafkmaaDoor
open Go.RowKit P
set_option linter.unusedVariables false
set_option maxRecDepth 100000

/-- 's[i:i+m]' of bytes. -/
theorem slice_mid (A : Option Addr) (n c i m : Nat) (w : World) (l : List UInt8) (hA : A = none → c = 0) (hp : ∀ a, A = some a → ∃ g o, a = ⟨g, o, none⟩) (hn : l.length = n) (hi : i + m ≤ n) (hc : n ≤ c) (hc9 : c ≤ 9223372036854775807) (hB : Bs w A l) :
    ∃ A', (∀ W, (Instr.slice 22 (.slice A n c) (some (.int .i64 (i : Int))) (some (.int .i64 ((i : Int) + (m : Int)))) none).run Tryd.prog W = .ok (.slice A' m (c - i)) W) ∧ Bs w A' ((l.drop i).take m) := by
  have hz : ∀ W, (Go.sizeOf 5).run Tryd.prog W = .ok 1 W := fun W => by kernel_rfl
  have ht' : Tryd.prog.underlying 22 = some (.slice (Tryd.prog.elem 22)) := by simp [Program.elem, Tryd.underlying22]
  have he : Tryd.prog.elem 22 = 5 := by simp [Program.elem, Tryd.underlying22]
  have htn : ((i : Int) + (m : Int)).toNat = i + m := by omega
  cases A with
  | none =>
    have h0 := hA rfl
    subst h0
    refine ⟨none, fun W => ?_, fun k hk => by rw [List.length_take, List.length_drop] at hk; omega⟩
    rw [run_slice_lh W 22 _ _ _ ht' .i64 .i64 _ _ (by omega) (by omega) (by omega), he, hz]
    have : i = 0 := by omega
    have : m = 0 := by omega
    subst i; subst m
    simp [Result.andThen, sliced]
  | some x =>
    obtain ⟨g, o, rfl⟩ := hp x rfl
    refine ⟨some (if c = i then ⟨g, o, none⟩ else ⟨g, o + i, none⟩), fun W => ?_, ?_⟩
    · rw [run_slice_lh W 22 _ _ _ ht' .i64 .i64 _ _ (by omega) (by omega) (by omega), he, hz]
      have hm : i + m - i = m := by omega
      by_cases h0 : c = i
      · simp [Result.andThen, sliced, h0, htn, hm]
      · by_cases h1 : i = 0
        · subst h1; simp [Result.andThen, sliced, Addr.add, h0]
        · simp [Result.andThen, sliced, Addr.add, h0, h1, htn, hm]
    · by_cases h0 : c = i
      · intro k hk
        rw [List.length_take, List.length_drop] at hk
        omega
      · rw [if_neg h0]
        exact Bs.sub hB i m

end Go.Proofs.YthnahenpnafkmaaDoor
