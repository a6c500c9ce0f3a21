/-
  Chapter 4, the program's RopeOk, RopeText, RopeMeas, RopeOf: contracts. Own work.
  Chapter 4, the model's RopeOk, RopeText, RopeMeas: contracts. Own work.
  Chapter 4, the model's l04Cut, RopeLine: contracts. Own work.
  Chapter 4, the model's RopeLine: contract. Own work.
  Chapter 4, the program's cutsOk, RopeLine: contracts. Own work.
  Chapter 4, the program's RopeLine: contract. Own work.
  Chapter 4, the model's l04Stands: contract. Own work.
-/
import Derived.Test.YtfgbipomdfceeaaDoorI02f
import Derived.Test.YtfgbipomdfceeaaDoorI02g
import Derived.Test.YtfgbipomdfceeaaDoorC04
import Derived.Test.YtfgbipomdfceeaaDoorS02b
import Derived.Test.YtfgbipomdfceeaaDoorP04
import Derived.Test.YtfgbipomdfceeaaDoorS01
import Derived.BigQuiet
import Derived.Deep.QuietTactic
namespace Go.Proofs.YtfgbipomdfceeaaDoor
open Go.RowKit P
set_option linter.unusedVariables false
set_option maxRecDepth 100000


set_option maxHeartbeats 400000 in
theorem implRopeOk_any (A : Option Addr) (ls : List (List UInt8)) (c : Nat) (w : World) (hn : ls.length ≤ 1048576) (hT : Tab w) (hC : Cs w A ls) :
    Calls Tryd.prog 81 #[.agg #[.slice A ls.length c]] w fun e w' => e = .returned (.bool (chunksOk ls)) ∧ Below w.heap.size w w' := by
  have hb := (Below.refl w.heap.size w).alloc (Nat.le_refl _) (.cells #[.slice A ls.length c] 26)
  have hT0 := hT.below hb
  have hC0 := hC.below hb
  go_enter Tryd.func81, Tryd.ntmps81
  go_wp2_with fail
  refine (implChunksOk_any A ls c _ hn (by exact hT0) (by exact hC0)).mono ?_
  rintro e w1 ⟨rfl, hb1⟩
  have hb2 := below_then hb hb1
  go_wp2
  go_ret
  exact ⟨rfl, hb2⟩

set_option maxHeartbeats 400000 in
theorem implRopeText_any (A : Option Addr) (ls : List (List UInt8)) (c : Nat) (w : World) (hn : ls.length ≤ 1048576) (hT : Tab w) (hC : Cs w A ls) :
    Calls Tryd.prog 15 #[.agg #[.slice A ls.length c]] w (Makes w (chunksText ls)) := by
  have hb := (Below.refl w.heap.size w).alloc (Nat.le_refl _) (.cells #[.slice A ls.length c] 26)
  have hT0 := hT.below hb
  have hC0 := hC.below hb
  go_enter Tryd.func15, Tryd.ntmps15
  go_wp2_with fail
  refine (implChunksText_any A ls c _ hn (by exact hT0) (by exact hC0)).mono ?_
  rintro e w1 ⟨v, rfl, hown, hb1⟩
  have hb2 := below_then hb hb1
  have hown := hown.mono (base' := w.heap.size) (by simp)
  go_wp2
  go_ret
  exact ⟨_, rfl, hown, hb2⟩

set_option maxHeartbeats 400000 in
theorem implRopeMeas_any (A : Option Addr) (ls : List (List UInt8)) (c : Nat) (w : World) (hn : ls.length ≤ 1048576) (hT : Tab w) (hC : Cs w A ls) :
    Calls Tryd.prog 18 #[.agg #[.slice A ls.length c]] w fun e w' => e = .returned (meas (mB (chunksText ls)) (mR (chunksText ls)) (mL (chunksText ls))) ∧ Below w.heap.size w w' := by
  have hlen := chunksText_len ls
  obtain ⟨x, hx⟩ : ∃ x, mB (chunksText ls) = x := ⟨_, rfl⟩
  obtain ⟨y, hy⟩ : ∃ y, mR (chunksText ls) = y := ⟨_, rfl⟩
  obtain ⟨z, hz⟩ : ∃ z, mL (chunksText ls) = z := ⟨_, rfl⟩
  rw [hx, hy, hz]
  have HX := Lib.hid hx
  have HY := Lib.hid hy
  have HZ := Lib.hid hz
  clear hx hy hz
  have hb0 := ((Below.refl w.heap.size w).alloc (Nat.le_refl _) (.cells #[.slice A ls.length c] 26)).alloc (by simp) (.cells #[.int .i64 0, .int .i64 0, .int .i64 0] 35)
  have hC0 := hC.below hb0
  have hT0 := hT.below hb0
  have hr0 : Blk ((w.alloc (.cells #[.slice A ls.length c] 26)).alloc (.cells #[.int .i64 0, .int .i64 0, .int .i64 0] 35)) (w.heap.size + 1) #[.int .i64 0, .int .i64 0, .int .i64 0] 35 := by
    have := Blk.new (w.alloc (.cells #[.slice A ls.length c] 26)) #[.int .i64 0, .int .i64 0, .int .i64 0] 35
    simpa using this
  go_enter Tryd.func18, Tryd.ntmps18
  go_wp2_with fail
  refine (implRopeText_any A ls c _ hn (by exact hT0) (by exact hC0)).mono ?_
  rintro e w1 ⟨v, rfl, hown, hb1⟩
  obtain ⟨B, d, rfl, h1, h2, hB⟩ := hown.form
  have hT1 := hT0.below hb1
  have hr1 := hr0.below hb1
  have hb1 := below_then hb0 hb1
  have hd9 : d ≤ 9223372036854775807 := by unfold maxLen at h2; omega
  clear hown h2 hb0 hr0
  go_wp2_with fail
  refine (measOf_any B (chunksText ls) d _ h1 hd9 (by exact hT1) (by exact hB)).mono ?_
  rintro e w2 ⟨rfl, hb2⟩
  rw [HX.out, HY.out, HZ.out]
  unfold meas
  have hr2 := hr1.below hb2
  have hb3 := below_then hb1 hb2
  have d0 : w2.cell? ⟨w.heap.size + 1, 0, none⟩ = some (.int .i64 0) := hr2.cell 0
  have d1 : w2.cell? ⟨w.heap.size + 1, 1, none⟩ = some (.int .i64 0) := hr2.cell 1
  have d2 : w2.cell? ⟨w.heap.size + 1, 2, none⟩ = some (.int .i64 0) := hr2.cell 2
  have g0 := hr2.frozen 0
  have g1 := hr2.frozen 1
  have g2 := hr2.frozen 2
  clear hb1 hb2 hr1 hr2 hB
  go_wp2
  refine bodyPost_ret (v := meas x y z) (by simp [results, Tryd.results18, go_sem, meas, d0, d1, d2]) rfl ⟨rfl, ?_⟩
  (repeat (first | exact Below.refl _ _ | assumption | refine Below.setCell ?_ (by first | (simp; done) | (simp; omega) | omega) _ | refine Below.drew ?_ | refine below_drewN ?_ _ | refine Below.alloc ?_ (by first | (simp; done) | (simp; omega) | omega) _))

/-- What a call ends in that makes a rope of its own and says whether it is one. -/
def GivesRB (ls : List (List UInt8)) (b : Bool) (w : World) (e : Ending) (w' : World) : Prop :=
  ∃ v fp, e = .returned (.tuple #[.agg #[v], .bool b]) ∧ Lay.chunks.ow w' [v] ls fp ∧ fp.Nodup ∧ (∀ k ∈ fp, w.heap.size ≤ k) ∧ Below w.heap.size w w'

end Go.Proofs.YtfgbipomdfceeaaDoor

namespace Go.Proofs.YtfgbipomdfceeaaDoor
open Go.RowKit P
set_option linter.unusedVariables false
set_option maxRecDepth 100000

set_option maxHeartbeats 400000 in
theorem specRopeOk_any (A : Option Addr) (ls : List (List UInt8)) (c : Nat) (w : World) (hn : ls.length ≤ 9223372036854775807) (hC : Cs w A ls) :
    Calls Tryd.prog 17 #[.agg #[.slice A ls.length c]] w fun e w' => e = .returned (.bool (chunksOk ls)) ∧ Below w.heap.size w w' := by
  have hb := (Below.refl w.heap.size w).alloc (Nat.le_refl _) (.cells #[.slice A ls.length c] 26)
  have hC0 := hC.below hb
  go_enter Tryd.func17, Tryd.ntmps17
  go_wp2_with fail
  refine (specChunksOk_any A ls c _ hn (by exact hC0)).mono ?_
  rintro e w1 ⟨rfl, hb1⟩
  have hb2 := below_then hb hb1
  go_wp2
  go_ret
  exact ⟨rfl, hb2⟩

set_option maxHeartbeats 400000 in
theorem specRopeText_any (A : Option Addr) (ls : List (List UInt8)) (c : Nat) (w : World) (hn : ls.length ≤ 9223372036854775807) (hC : Cs w A ls) :
    Calls Tryd.prog 14 #[.agg #[.slice A ls.length c]] w (Makes w (chunksText ls)) := by
  have hb := (Below.refl w.heap.size w).alloc (Nat.le_refl _) (.cells #[.slice A ls.length c] 26)
  have hC0 := hC.below hb
  go_enter Tryd.func14, Tryd.ntmps14
  go_wp2_with fail
  refine (specChunksText_any A ls c _ hn (by exact hC0)).mono ?_
  rintro e w1 ⟨v, rfl, hown, hb1⟩
  have hb2 := below_then hb hb1
  have hown := hown.mono (base' := w.heap.size) (by simp)
  go_wp2
  go_ret
  exact ⟨_, rfl, hown, hb2⟩

set_option maxHeartbeats 400000 in
theorem specRopeOf_any (A : Option Addr) (l : List UInt8) (c : Nat) (w : World) (hl : l.length ≤ c) (hc9 : c ≤ 9223372036854775807) (hA : Bs w A l) :
    Calls Tryd.prog 90 #[.slice A l.length c] w (GivesRB (chunksOf l) (isText l) w) := by
  have hb0 := (Below.refl w.heap.size w).alloc (Nat.le_refl _) (.cells #[.slice none 0 0] 26)
  have hA0 := hA.below hb0
  have hr0 := Blk.new w #[.slice none 0 0] 26
  have hno : isText l = false → chunksOf l = [] := fun h => by unfold chunksOf; rw [h]; rfl
  have HNO := Lib.hid hno
  clear hno
  generalize hq : isText l = q at *
  have HQ := Lib.hid hq
  clear hq
  cases q
  · have hr : chunksOf l = [] := HNO.out rfl
    rw [hr]
    clear hr
    go_enter Tryd.func90, Tryd.ntmps90
    go_wp2_with fail
    refine (specTextOk_any A l c _ hl hc9 (by exact hA0)).mono ?_
    rintro e w1 ⟨rfl, hb1⟩
    rw [HQ.out]
    have hr1 := hr0.below hb1
    have d0 : w1.cell? ⟨w.heap.size, 0, none⟩ = some (.slice none 0 0) := hr1.cell 0
    have g0 := hr1.frozen 0
    have hb1 := below_then hb0 hb1
    clear hb0 hr0 hA0
    go_wp2
    refine bodyPost_ret (v := .tuple #[.agg #[.slice none 0 0], .bool false]) (by simp [results, Tryd.results90, go_sem, d0]) rfl ?_
    exact ⟨_, [], rfl, Lay.slice_nil _ _ _, by simp, by simp, hb1.setCell (Nat.le_refl _) _⟩
  · go_enter Tryd.func90, Tryd.ntmps90
    go_wp2_with fail
    refine (specTextOk_any A l c _ hl hc9 (by exact hA0)).mono ?_
    rintro e w1 ⟨rfl, hb1⟩
    rw [HQ.out]
    have hr1 := hr0.below hb1
    have hA1 := hA0.below hb1
    have hb1 := below_then hb0 hb1
    clear hb0 hr0 hA0
    go_wp2_with fail
    refine (specChunksOf_any A l c _ hl hc9 (by exact hA1)).mono ?_
    rintro e w2 ⟨cs, fp, rfl, how, hnd, hfp, hb2⟩
    obtain ⟨B, d, rfl, _, _, _⟩ := Lay.chunks.read how
    unfold wSlice
    have hr2 := hr1.below hb2
    have d0 : w2.cell? ⟨w.heap.size, 0, none⟩ = some (.slice none 0 0) := hr2.cell 0
    have g0 := hr2.frozen 0
    have hsz := hr1.lt
    have hb2 := below_then hb1 hb2
    have hlt : ∀ k ∈ fp, w.heap.size + 1 ≤ k := fun k hk => by have := hfp k hk; omega
    generalize hz : (chunksOf l).length = z at *
    clear hz hfp hb1 hr1 hr2 hA1
    go_wp2
    refine bodyPost_ret (v := .tuple #[.agg #[.slice B z d], .bool true]) (by simp [results, Tryd.results90, go_sem, d0]) rfl ?_
    exact ⟨_, fp, rfl, Lay.chunks_setBelow how (fun h => by have := hlt _ h; simp at this; omega) _, hnd, fun k hk => by have := hlt k hk; omega, hb2.setCell (Nat.le_refl _) _⟩
end Go.Proofs.YtfgbipomdfceeaaDoor

namespace Go.Proofs.YtfgbipomdfceeaaDoor
open Go.RowKit P
set_option linter.unusedVariables false
set_option maxRecDepth 100000

set_option maxHeartbeats 1000000 in
theorem l04Cut_any (A : Option Addr) (ls : List (List UInt8)) (c : Nat) (a : Int) (w : World) (hn : ls.length ≤ 9223372036854775807) (hC : Cs w A ls) :
    Calls Tryd.prog 51 #[.agg #[.slice A ls.length c], .int .i64 a] w fun e w' => e = .returned (.bool (rCut ls a)) ∧ Below w.heap.size w w' := by
  rw [rCut_text]
  have hlen := chunksText_len ls
  have hb0 := (Below.refl w.heap.size w).alloc (Nat.le_refl _) (.cells #[.slice A ls.length c] 26)
  have bA0 := Blk.new w #[.slice A ls.length c] 26
  have hC0 := hC.below hb0
  obtain ⟨T, hT⟩ : ∃ T, chunksText ls = T := ⟨_, rfl⟩
  rw [hT] at hlen ⊢
  have HT := Lib.hid hT
  generalize hq : chunksOk ls = q
  have HQ := Lib.hid hq
  clear hq hT
  cases q
  · go_enter Tryd.func51, Tryd.ntmps51
    go_wp2_with (go_at_call 17; refine (specRopeOk_any A ls c _ hn (by exact hC0)).mono ?_; rintro e w1 ⟨rfl, hb1⟩; rw [HQ.out]; have hb2 := below_then hb0 hb1)
    go_ret
    exact ⟨rfl, hb2⟩
  · go_enter Tryd.func51, Tryd.ntmps51
    go_wp2_with fail
    refine (specRopeOk_any A ls c _ hn (by exact hC0)).mono ?_
    rintro e w1 ⟨rfl, hb1⟩
    rw [HQ.out]
    have kA : w1.cell? ⟨w.heap.size, 0, none⟩ = some (.slice A ls.length c) := by rw [(bA0.below hb1).cell]; rfl
    have hC1 := hC0.below hb1
    have hb2 := below_then hb0 hb1
    clear hb0 hb1 hC0 bA0
    go_wp2_with fail
    refine (specRopeText_any A ls c _ hn (by exact hC1)).mono ?_
    rintro e w2 ⟨v, rfl, hown, hb3⟩
    rw [HT.out] at hown
    obtain ⟨B, d, rfl, h1, h2, hB⟩ := hown.form
    have hd9 : d ≤ 9223372036854775807 := by unfold maxLen at h2; omega
    have hb4 := below_then hb2 hb3
    clear hown hC1 h2
    go_wp2_with fail
    refine (specCutOk_any B T d a _ h1 hd9 (by exact hB)).mono ?_
    rintro e w3 ⟨rfl, hb5⟩
    have hb6 := below_then hb4 hb5
    go_wp2
    go_ret
    exact ⟨rfl, hb6⟩

theorem slice_part2 (A : Option Addr) (n c i : Nat) (w : World) (l : List UInt8) (hA : A = none → c = 0) (hp : ∀ a, A = some a → ∃ g o, a = ⟨g, o, none⟩) (hn : l.length = n) (hi : i ≤ n) (hc : n ≤ c) (hc9 : c ≤ 9223372036854775807) (hB : Bs w A l) :
    ∃ A', (∀ W, (Instr.slice 22 (.slice A n c) (some (.int .i64 (i : Int))) none none).run Tryd.prog W = .ok (.slice A' (n - i) (c - i)) W) ∧ Bs w A' (l.drop i) ∧ (A' = none → c - i = 0) ∧ (∀ a, A' = some a → ∃ g o, a = ⟨g, o, none⟩) := by
  have hz : ∀ W, (Go.sizeOf 5).run Tryd.prog W = .ok 1 W := fun W => by kernel_rfl
  have ht' : Tryd.prog.underlying 22 = some (.slice (Tryd.prog.elem 22)) := by simp [Program.elem, Tryd.underlying22]
  have he : Tryd.prog.elem 22 = 5 := by simp [Program.elem, Tryd.underlying22]
  cases A with
  | none =>
    have h0 := hA rfl
    subst h0
    refine ⟨none, fun W => ?_, fun k hk => by rw [List.length_drop] at hk; omega, fun _ => by omega, fun _ h => by cases h⟩
    rw [run_slice_l W 22 _ _ _ ht' .i64 _ (by omega) (by omega), he, hz]
    simp [Result.andThen, sliced]
  | some x =>
    obtain ⟨g, o, rfl⟩ := hp x rfl
    refine ⟨some (if c = i then ⟨g, o, none⟩ else ⟨g, o + i, none⟩), fun W => ?_, ?_, (fun h => by cases h), fun a h => by cases h; split <;> exact ⟨_, _, rfl⟩⟩
    · rw [run_slice_l W 22 _ _ _ ht' .i64 _ (by omega) (by omega), he, hz]
      by_cases h0 : c = i
      · simp [Result.andThen, sliced, h0]
      · by_cases h1 : i = 0
        · subst h1; simp [Result.andThen, sliced, Addr.add, h0]
        · simp [Result.andThen, sliced, Addr.add, h0, h1]
    · by_cases h0 : c = i
      · intro k hk
        rw [List.length_drop] at hk
        omega
      · rw [if_neg h0]
        have := Bs.sub hB i (l.length - i)
        rw [List.take_of_length_le (by rw [List.length_drop]; omega)] at this
        exact this
theorem slice_part (A : Option Addr) (n c i : Nat) (w : World) (l : List UInt8) (hA : A = none → c = 0) (hp : ∀ a, A = some a → ∃ g o, a = ⟨g, o, none⟩) (hn : l.length = n) (hi : i ≤ n) (hc : n ≤ c) (hc9 : c ≤ 9223372036854775807) (hB : Bs w A l) :
    ∃ A', (∀ W, (Instr.slice 22 (.slice A n c) (some (.int .i64 (i : Int))) none none).run Tryd.prog W = .ok (.slice A' (n - i) (c - i)) W) ∧ Bs w A' (l.drop i) :=
  let ⟨A', h1, h2, _, _⟩ := slice_part2 A n c i w l hA hp hn hi hc hc9 hB
  ⟨A', h1, h2⟩
end Go.Proofs.YtfgbipomdfceeaaDoor

namespace Go.Proofs.YtfgbipomdfceeaaDoor
open Go.RowKit P
set_option linter.unusedVariables false
set_option maxRecDepth 100000

theorem ten_eq {x : UInt8} (h : x = 10) : ((x.toNat : Int) == 10) = true := by subst h; rfl
theorem ten_ne {x : UInt8} (h : x ≠ 10) : ((x.toNat : Int) == 10) = false := by
  rw [beq_eq_false_iff_ne]
  intro e
  apply h
  apply UInt8.toNat_inj.1
  have : (10 : UInt8).toNat = 10 := rfl
  omega

set_option maxHeartbeats 2000000 in
theorem specRopeLine_any (A : Option Addr) (ls : List (List UInt8)) (c : Nat) (a : Int) (w : World) (hn : ls.length ≤ 9223372036854775807) (hC : Cs w A ls) :
    Calls Tryd.prog 32 #[.agg #[.slice A ls.length c], .int .i64 a] w fun e w' => e = .returned (.tuple #[.int .i64 (ropeLine ls a).1, .int .i64 (ropeLine ls a).2]) ∧ Below w.heap.size w w' := by
  have hb0 := (Below.refl w.heap.size w).alloc (Nat.le_refl _) (.cells #[.slice A ls.length c] 26)
  have bA0 := Blk.new w #[.slice A ls.length c] 26
  have hC0 := hC.below hb0
  by_cases hcut : rCut ls a = true
  · obtain ⟨hok, k, rfl, hk, hbd⟩ := rCut_true hcut
    have hlen := chunksText_len ls
    have hrl : ropeLine ls (k : Int) = (((lines ((chunksText ls).take k) : Nat) : Int), runeCount (((chunksText ls).take k).drop (lineFrom ((chunksText ls).take k)))) := by
      unfold ropeLine; rw [if_pos hcut, Int.toNat_natCast]
    rw [hrl]
    obtain ⟨T, hT⟩ : ∃ T, chunksText ls = T := ⟨_, rfl⟩
    rw [hT] at hlen hk ⊢
    have HT := Lib.hid hT
    have HCUT := Lib.hid hcut
    clear hT hcut hok hbd hrl
    obtain ⟨X, hX⟩ : ∃ X, T.take k = X := ⟨_, rfl⟩
    have hXl : X.length = k := by rw [← hX, List.length_take]; omega
    rw [hX]
    have hlf := lineFrom_le X
    rw [hXl] at hlf
    obtain ⟨fr, hfr⟩ : ∃ fr, lineFrom X = fr := ⟨_, rfl⟩
    rw [hfr] at hlf ⊢
    have HX := Lib.hid hX
    have HFR := Lib.hid hfr
    have HXL := Lib.hid hXl
    obtain ⟨Y, hY⟩ : ∃ Y, X.drop fr = Y := ⟨_, rfl⟩
    have hYl : Y.length = k - fr := by rw [← hY, List.length_drop, hXl]
    obtain ⟨p, hp⟩ : ∃ p, lines X = p := ⟨_, rfl⟩
    rw [hY, hp]
    have HY := Lib.hid hY
    have HP := Lib.hid hp
    have HYL := Lib.hid hYl
    clear hX hfr hXl hY hp hYl
    have hk9 : (k : Int) ≤ 400 := by omega
    go_enter Tryd.func32, Tryd.ntmps32
    go_wp2_with fail
    refine (l04Cut_any A ls c k _ hn (by exact hC0)).mono ?_
    rintro e w1 ⟨rfl, hb1⟩
    rw [HCUT.out]
    have kA : w1.cell? ⟨w.heap.size, 0, none⟩ = some (.slice A ls.length c) := by rw [(bA0.below hb1).cell]; rfl
    have hC1 := hC0.below hb1
    have hb2 := below_then hb0 hb1
    clear hb0 hb1 hC0 bA0
    go_wp2_with fail
    refine (specRopeText_any A ls c _ hn (by exact hC1)).mono ?_
    rintro e w2 ⟨v, rfl, hown, hb3⟩
    rw [HT.out] at hown
    have hb4 := below_then hb2 hb3
    obtain ⟨B, d, hv, h1, h2, hB⟩ := hown.form
    have hd9 : d ≤ 9223372036854775807 := by unfold maxLen at h2; omega
    have hform : (B = none ∧ d = 0) ∨ ∃ g, B = some ⟨g, 0, none⟩ := by
      rcases hown.2 with ⟨e, _⟩ | ⟨g, cap, cur, e, _⟩
      · rw [hv] at e; simp only [Value.slice.injEq] at e; exact .inl ⟨e.1, e.2.2⟩
      · rw [hv] at e; simp only [Value.slice.injEq] at e; exact .inr ⟨g, e.1⟩
    subst hv
    clear hown hC1 h2 hb2 hb3 kA
    have hBX : Bs w2 B X := by
      intro j hj
      have hjk : j < k := by rw [← HXL.out]; exact hj
      obtain ⟨b, off, hA, hlt, hc⟩ := hB j (by omega)
      refine ⟨b, off, hA, hlt, ?_⟩
      rw [hc]
      have : X[j]'hj = T[j]'(by omega) := by
        have := HX.out
        subst this
        rw [List.getElem_take]
      rw [this]
    have hn1 : B = none → d = 0 := fun e => by rcases hform with ⟨_, h⟩ | ⟨g, h⟩; exact h; rw [h] at e; cases e
    have hn2 : ∀ x, B = some x → ∃ g o, x = ⟨g, o, none⟩ := fun x e => by rcases hform with ⟨h, _⟩ | ⟨g, h⟩; rw [h] at e; cases e; rw [h] at e; cases e; exact ⟨g, 0, rfl⟩
    obtain ⟨B', hsl, hB'⟩ := slice_part B k d fr w2 X hn1 hn2 HXL.out hlf (by omega) hd9 hBX
    have hsl0 : ∀ W, (Instr.slice 22 (.slice B T.length d) none (some (.int .i64 (k : Int))) none).run Tryd.prog W = .ok (.slice B k d) W := by
      intro W
      have hz : ∀ W, (Go.sizeOf 5).run Tryd.prog W = .ok 1 W := fun W => by kernel_rfl
      have ht' : Tryd.prog.underlying 22 = some (.slice (Tryd.prog.elem 22)) := by simp [Program.elem, Tryd.underlying22]
      have he : Tryd.prog.elem 22 = 5 := by simp [Program.elem, Tryd.underlying22]
      rw [run_slice_h W 22 _ _ _ ht' .i64 _ (by omega) (by omega), he, hz]
      rcases hform with ⟨rfl, rfl⟩ | ⟨g, rfl⟩
      · have : k = 0 := by omega
        subst this
        simp [Result.andThen, sliced]
      · simp [Result.andThen, sliced, Addr.add]
    clear hn1 hn2 hform hB
    go_wp2
    go_loop [7, 8, 9] (fun ln f i => ∃ j : Nat, j ≤ k ∧ i = .int .i64 j ∧ ln = .int .i64 ((lines (X.take j) : Nat) : Int) ∧ f = .int .i64 ((lineFrom (X.take j) : Nat) : Int)) (fun _ _ i => k - (intOf i).toNat)
    case atStart => exact ⟨0, Nat.zero_le _, rfl, by simp [lines], by simp [lineFrom_nil]⟩
    case round =>
      obtain ⟨j, hj, rfl, rfl, rfl⟩ := hrel
      by_cases hlt : j < k
      · have hjX : j < X.length := by rw [HXL.out]; exact hlt
        obtain ⟨b, off, rfl, hbl, hc⟩ := hBX j hjX
        have hsn := lines_snoc X j hjX
        have hlf1 := lineFrom_take X j hjX
        have hll := lines_le (X.take j)
        have hl2 := lineFrom_le (X.take j)
        have hlx : (X.take j).length ≤ 400 := by rw [List.length_take]; omega
        have HSN := Lib.hid hsn
        have HLF := Lib.hid hlf1
        clear hsn hlf1
        generalize lines (X.take j) = p at *
        generalize lineFrom (X.take j) = q at *
        generalize hx : X[j] = x at *
        clear hx
        have hjk : (j : Int) < (k : Int) := by omega
        by_cases h10 : x = 10
        · have hq := ten_eq h10
          have H10 := Lib.hid h10
          clear h10
          go_wp2
          go_round
          case rel => exact ⟨j + 1, by omega, by go_num, by rw [HSN.out, if_pos H10.out]; go_num, by rw [HLF.out, if_pos H10.out]; go_num⟩
          case measure => simp [intOf]; omega
        · have hq := ten_ne h10
          have H10 := Lib.hid h10
          clear h10
          go_wp2
          go_round
          case rel => exact ⟨j + 1, by omega, by go_num, by rw [HSN.out, if_neg H10.out]; go_num, by rw [HLF.out, if_neg H10.out]⟩
          case measure => simp [intOf]; omega
      · have e : j = k := by omega
        subst e
        have htk : X.take j = X := List.take_of_length_le (by rw [HXL.out]; omega)
        rw [htk, HFR.out, HP.out]
        have hyl := HYL.out
        rw [HY.out] at hB'
        clear htk
        go_wp2_with fail
        have hcon := specRuneCount_any B' Y (d - fr) w2 (by omega) (by omega) hB'
        rw [hyl] at hcon
        refine hcon.mono ?_
        rintro e w3 ⟨rfl, hb5⟩
        have hb6 := below_then hb4 hb5
        go_wp2
        go_ret2
        exact ⟨rfl, hb6⟩
  · have hf : rCut ls a = false := by simpa using hcut
    have hrl : ropeLine ls a = (-1, -1) := by unfold ropeLine; rw [if_neg hcut]
    rw [hrl]
    have HCUT := Lib.hid hf
    clear hf hcut hrl
    go_enter Tryd.func32, Tryd.ntmps32
    go_wp2_with fail
    refine (l04Cut_any A ls c a _ hn (by exact hC0)).mono ?_
    rintro e w1 ⟨rfl, hb1⟩
    rw [HCUT.out]
    have hb2 := below_then hb0 hb1
    go_wp2
    go_ret2
    exact ⟨rfl, hb2⟩
end Go.Proofs.YtfgbipomdfceeaaDoor

namespace Go.Proofs.YtfgbipomdfceeaaDoor
open Go.RowKit P
set_option linter.unusedVariables false
set_option maxRecDepth 100000

set_option maxHeartbeats 1000000 in
theorem cutsOk_any (A : Option Addr) (ls : List (List UInt8)) (c : Nat) (g : Nat) (offs : List Int) (d : Nat) (w : World) (hn : ls.length ≤ 1048576) (hT : Tab w) (hC : Cs w A ls) (ho : offs.length ≤ 10)
    (hO : ∀ i (h : i < offs.length), w.cell? ⟨g, i, none⟩ = some (.int .i64 offs[i])) (hg : g < w.heap.size) :
    Calls Tryd.prog 57 #[.agg #[.slice A ls.length c], .slice (some ⟨g, 0, none⟩) offs.length d] w fun e w' => e = .returned (.bool (chunksOk ls && offs.all (fun a => isBound (chunksText ls) a))) ∧ Below w.heap.size w w' := by
  have hlen := chunksText_len ls
  have hb0 := (Below.refl w.heap.size w).alloc (Nat.le_refl _) (.cells #[.slice A ls.length c] 26)
  have bA0 := Blk.new w #[.slice A ls.length c] 26
  have hC0 := hC.below hb0
  have hT0 := hT.below hb0
  obtain ⟨T, hTe⟩ : ∃ T, chunksText ls = T := ⟨_, rfl⟩
  rw [hTe] at hlen ⊢
  have HT := Lib.hid hTe
  generalize hq : chunksOk ls = q
  have HQ := Lib.hid hq
  clear hq hTe
  go_enter Tryd.func57, Tryd.ntmps57
  go_wp2_with fail
  refine (implRopeText_any A ls c _ hn (by exact hT0) (by exact hC0)).mono ?_
  rintro e w1 ⟨v, rfl, hown, hb1⟩
  rw [HT.out] at hown
  obtain ⟨B, e, rfl, h1, h2, hB⟩ := hown.form
  have kA : w1.cell? ⟨w.heap.size, 0, none⟩ = some (.slice A ls.length c) := by rw [(bA0.below hb1).cell]; rfl
  have hC1 := hC0.below hb1
  have hT1 := hT0.below hb1
  have hb2 := below_then hb0 hb1
  clear hb0 hb1 hC0 hT0 bA0 hown h2
  go_wp2_with fail
  refine (implRopeOk_any A ls c _ hn (by exact hT1) (by exact hC1)).mono ?_
  rintro e' w2 ⟨rfl, hb3⟩
  rw [HQ.out]
  have hB2 := hB.below hb3
  have hb4 := below_then hb2 hb3
  clear hb2 hb3 hC1 hT1 kA hB
  cases q
  · go_wp2
    go_ret
    exact ⟨rfl, hb4⟩
  · go_wp2
    go_loop [7, 15] (fun _ i => ∃ k : Nat, k ≤ offs.length ∧ i = .int .i64 k ∧ Hid ((offs.take k).all (fun a => isBound T a) = true)) (fun _ i => offs.length - (intOf i).toNat)
    case atStart => exact ⟨0, Nat.zero_le _, rfl, Lib.hid (by simp)⟩
    case round =>
      obtain ⟨k, hk, rfl, HA⟩ := hrel
      by_cases hlt : k < offs.length
      · have hc := (hb4.cell (p := ⟨g, k, none⟩) hg).trans (hO k hlt)
        have hnext : (offs.take (k + 1)).all (fun a => isBound T a) = isBound T offs[k] := by
          rw [List.take_succ_eq_append_getElem hlt, List.all_append, HA.out]; simp
        have hno : isBound T offs[k] = false → offs.all (fun a => isBound T a) = false := fun h => by
          rw [Bool.eq_false_iff]
          intro e
          rw [List.all_eq_true] at e
          have := e _ (List.getElem_mem hlt)
          rw [h] at this
          cases this
        generalize offs[k] = x at *
        generalize hz : isBound T x = z at *
        have HZ := Lib.hid hz
        have HN := Lib.hid hnext
        have HNO := Lib.hid hno
        clear hz hnext hno
        have hkk : (k : Int) < (offs.length : Int) := by omega
        go_wp2_with fail
        refine (isBoundary_any B T e x _ (by omega) (by exact hB2)).mono ?_
        rintro e' w3 ⟨rfl, rfl⟩
        rw [HZ.out]
        cases z
        · go_wp2
          go_ret
          exact ⟨by rw [HNO.out (by first | rfl | trivial)]; rfl, hb4⟩
        · go_wp2
          go_round
          case rel => exact ⟨k + 1, by omega, by go_num, Lib.hid HN.out⟩
          case measure => simp [intOf]; omega
      · have e : k = offs.length := by omega
        subst e
        have hall := HA.out
        rw [List.take_length] at hall
        have HALL := Lib.hid hall
        clear hall
        go_wp2
        go_ret
        exact ⟨by rw [HALL.out]; rfl, hb4⟩

theorem ret_i64 {a b : Int} (h : a = b) : Ending.returned (.int .i64 a) = .returned (.int .i64 b) := by rw [h]

/-- The library's search for the last newline. -/
theorem lastIndexByte_any (A : Option Addr) (l : List UInt8) (c : Nat) (w : World) (hl : l.length ≤ 400) (hA : Bs w A l) :
    Calls Tryd.prog 78 #[.slice A l.length c, .int .u8 10] w fun e w' => e = .returned (.int .i64 ((lineFrom l : Int) - 1)) ∧ w' = w := by
  have core : Calls Tryd.prog 117 #[.slice A l.length c, .int .u8 10] w fun e w' => e = .returned (.int .i64 ((lineFrom l : Int) - 1)) ∧ w' = w := by
    go_enter Tryd.func117, Tryd.ntmps117
    go_wp2
    go_loop [5] (fun i => ∃ k : Nat, k ≤ l.length ∧ i = .int .i64 ((k : Int) - 1) ∧ Hid (lineFrom l = lineFrom (l.take k))) (fun i => ((intOf i) + 1).toNat)
    case atStart => exact ⟨l.length, Nat.le_refl _, rfl, Lib.hid (by rw [List.take_length])⟩
    case round =>
      obtain ⟨k, hk, rfl, HL⟩ := hrel
      by_cases h0 : 0 < k
      · obtain ⟨b, off, rfl, hbl, hc⟩ := hA (k - 1) (by omega)
        have hlf := lineFrom_take l (k - 1) (by omega)
        rw [show k - 1 + 1 = k by omega] at hlf
        have HLF := Lib.hid hlf
        clear hlf
        generalize l[k - 1]'(by omega) = x at *
        have hk1 : (0 : Int) ≤ (k : Int) - 1 := by omega
        have hk2 : (k : Int) - 1 < (l.length : Int) := by omega
        have hk3 : ((k : Int) - 1).toNat = k - 1 := by omega
        by_cases h10 : x = 10
        · have hq : ((x.toNat : Int) == 10) = true := by subst h10; rfl
          have H10 := Lib.hid h10
          clear h10
          go_wp2
          go_ret
          exact ⟨ret_i64 (by rw [HL.out, HLF.out, if_pos H10.out]), rfl⟩
        · have hq : ((x.toNat : Int) == 10) = false := by
            rw [beq_eq_false_iff_ne]
            intro e
            apply h10
            apply UInt8.toNat_inj.1
            have : (10 : UInt8).toNat = 10 := rfl
            omega
          have H10 := Lib.hid h10
          clear h10
          go_wp2
          go_round
          case rel => exact ⟨k - 1, by omega, by go_num, Lib.hid (by rw [HL.out, HLF.out, if_neg H10.out])⟩
          case measure => simp [intOf]; omega
      · have e : k = 0 := by omega
        subst e
        go_wp2
        go_ret
        exact ⟨ret_i64 (by rw [HL.out]; rfl), rfl⟩
  go_enter Tryd.func78, Tryd.ntmps78
  go_wp2_with fail
  refine core.mono ?_
  rintro e w1 ⟨rfl, rfl⟩
  go_wp2
  go_ret
  exact ⟨rfl, rfl⟩
end Go.Proofs.YtfgbipomdfceeaaDoor

namespace Go.Proofs.YtfgbipomdfceeaaDoor
open Go.RowKit P
set_option linter.unusedVariables false
set_option maxRecDepth 100000

/-- Own bytes: nil, or a block of their own. -/
theorem Own.form2 {w : World} {base : Nat} {v : Value} {l : List UInt8} (h : Own w base v l) : ∃ A c, v = .slice A l.length c ∧ l.length ≤ c ∧ c ≤ 9223372036854775807 ∧ Bs w A l ∧ (A = none → c = 0) ∧ (∀ x, A = some x → ∃ g o, x = ⟨g, o, none⟩) := by
  obtain ⟨A, c, hv, h1, h2, hB⟩ := h.form
  refine ⟨A, c, hv, h1, by unfold maxLen at h2; omega, hB, ?_, ?_⟩
  · intro hA
    rcases h.2 with ⟨e, _⟩ | ⟨g, cap, cur, e, _⟩
    · rw [hv] at e; simp only [Value.slice.injEq] at e; exact e.2.2
    · rw [hv] at e; simp only [Value.slice.injEq] at e; rw [hA] at e; exact absurd e.1 (by simp)
  · intro x hx
    rcases h.2 with ⟨e, _⟩ | ⟨g, cap, cur, e, _⟩
    · rw [hv] at e; simp only [Value.slice.injEq] at e; rw [hx] at e; exact absurd e.1 (by simp)
    · rw [hv] at e; simp only [Value.slice.injEq] at e; rw [hx] at e; exact ⟨g, 0, Option.some.inj e.1⟩

/-- 's[:k]' of bytes. -/
theorem slice_head (A : Option Addr) (n c k : Nat) (hA : A = none → c = 0) (hp : ∀ x, A = some x → ∃ g o, x = ⟨g, o, none⟩) (hk : k ≤ c) :
    ∀ W, (Instr.slice 22 (.slice A n c) none (some (.int .i64 (k : Int))) none).run Tryd.prog W = .ok (.slice A k c) W := by
  intro W
  have hz : ∀ W, (Go.sizeOf 5).run Tryd.prog W = .ok 1 W := fun W => by kernel_rfl
  have ht' : Tryd.prog.underlying 22 = some (.slice (Tryd.prog.elem 22)) := by simp [Program.elem, Tryd.underlying22]
  have he : Tryd.prog.elem 22 = 5 := by simp [Program.elem, Tryd.underlying22]
  rw [run_slice_h W 22 _ _ _ ht' .i64 _ (by omega) (by omega), he, hz]
  cases A with
  | none =>
    have h0 := hA rfl
    subst h0
    have : k = 0 := by omega
    subst this
    simp [Result.andThen, sliced]
  | some x =>
    obtain ⟨g, o, rfl⟩ := hp x rfl
    simp [Result.andThen, sliced, Addr.add]

theorem Bs.head {w : World} {A : Option Addr} {l : List UInt8} (h : Bs w A l) (k : Nat) (hk : k ≤ l.length) : Bs w A (l.take k) := by
  intro j hj
  rw [List.length_take] at hj
  obtain ⟨b, off, hA, hlt, hc⟩ := h j (by omega)
  refine ⟨b, off, hA, hlt, ?_⟩
  rw [hc, List.getElem_take]

set_option maxHeartbeats 2000000 in
theorem implRopeLine_any (A : Option Addr) (ls : List (List UInt8)) (c : Nat) (a : Int) (w : World) (hn : ls.length ≤ 1048576) (hT : Tab w) (hC : Cs w A ls) :
    Calls Tryd.prog 31 #[.agg #[.slice A ls.length c], .int .i64 a] w fun e w' => e = .returned (.tuple #[.int .i64 (ropeLine ls a).1, .int .i64 (ropeLine ls a).2]) ∧ Below w.heap.size w w' := by
  have hb0 := ((Below.refl w.heap.size w).alloc (Nat.le_refl _) (.cells #[.slice A ls.length c] 26)).alloc (by simp) (.cells #[.int .i64 a] 3)
  have bA0 := (Blk.new w #[.slice A ls.length c] 26).alloc (.cells #[.int .i64 a] 3)
  have hC0 := hC.below hb0
  have hT0 := hT.below hb0
  have hO0 : ∀ i (h : i < ([a] : List Int).length), ((w.alloc (.cells #[.slice A ls.length c] 26)).alloc (.cells #[.int .i64 a] 3)).cell? ⟨w.heap.size + 1, i, none⟩ = some (.int .i64 ([a] : List Int)[i]) := by
    intro i h
    have : i = 0 := by simpa using h
    subst this
    have := Blk.cell (Blk.new (w.alloc (.cells #[.slice A ls.length c] 26)) #[.int .i64 a] 3) 0
    simp only [World.size_alloc] at this
    exact this
  have hcall : ∀ q, rCut ls a = q → Calls Tryd.prog 57 #[.agg #[.slice A ls.length c], .slice (some ⟨w.heap.size + 1, 0, none⟩) 1 1] ((w.alloc (.cells #[.slice A ls.length c] 26)).alloc (.cells #[.int .i64 a] 3)) fun e w' => e = .returned (.bool q) ∧ Below ((w.alloc (.cells #[.slice A ls.length c] 26)).alloc (.cells #[.int .i64 a] 3)).heap.size ((w.alloc (.cells #[.slice A ls.length c] 26)).alloc (.cells #[.int .i64 a] 3)) w' := by
    intro q hq
    refine (cutsOk_any A ls c (w.heap.size + 1) [a] 1 _ hn hT0 hC0 (by simp) hO0 (by simp)).mono ?_
    rintro e w' ⟨he, hb⟩
    refine ⟨?_, hb⟩
    rw [he, ← hq]
    simp [rCut]
  clear hO0
  by_cases hcut : rCut ls a = true
  · have hcall := hcall true hcut
    obtain ⟨hok, k, rfl, hk, hbd⟩ := rCut_true hcut
    have hlen := chunksText_len ls
    have htx := isText_take (chunksText_isText ls) hk hbd
    have hrl : ropeLine ls (k : Int) = (((lines ((chunksText ls).take k) : Nat) : Int), runeCount (((chunksText ls).take k).drop (lineFrom ((chunksText ls).take k)))) := by
      unfold ropeLine; rw [if_pos hcut, Int.toNat_natCast]
    rw [hrl]
    obtain ⟨T, hTe⟩ : ∃ T, chunksText ls = T := ⟨_, rfl⟩
    rw [hTe] at hlen hk htx ⊢
    have HT := Lib.hid hTe
    clear hTe hcut hok hbd hrl
    obtain ⟨X, hX⟩ : ∃ X, T.take k = X := ⟨_, rfl⟩
    have hXl : X.length = k := by rw [← hX, List.length_take]; omega
    rw [hX] at htx ⊢
    have hmL : mL X = ((lines X : Nat) : Int) := by unfold mL; rw [if_pos htx]
    have hlf := lineFrom_le X
    obtain ⟨fr, hfr⟩ : ∃ fr, lineFrom X = fr := ⟨_, rfl⟩
    rw [hfr] at hlf ⊢
    rw [← hmL]
    obtain ⟨Y, hY⟩ : ∃ Y, X.drop fr = Y := ⟨_, rfl⟩
    have hYl : Y.length = X.length - fr := by rw [← hY, List.length_drop]
    rw [hY]
    have HX := Lib.hid hX
    have HFR := Lib.hid hfr
    have HXL := Lib.hid hXl
    have HY := Lib.hid hY
    have HYL := Lib.hid hYl
    clear hX hfr hXl hY hYl htx hmL
    go_enter Tryd.func31, Tryd.ntmps31
    go_wp2_with fail
    refine hcall.mono ?_
    rintro e w1 ⟨rfl, hb1⟩
    have kA : w1.cell? ⟨w.heap.size, 0, none⟩ = some (.slice A ls.length c) := by rw [(bA0.below hb1).cell]; rfl
    have hC1 := hC0.below hb1
    have hT1 := hT0.below hb1
    have hb2 := below_then hb0 hb1
    clear hb0 hb1 hC0 bA0 hcall hT0
    go_wp2_with fail
    refine (implRopeText_any A ls c _ hn (by exact hT1) (by exact hC1)).mono ?_
    rintro e w2 ⟨v, rfl, hown, hb3⟩
    rw [HT.out] at hown
    have hT2 := hT1.below hb3
    have hb4 := below_then hb2 hb3
    obtain ⟨B, d, rfl, h1, hd9, hB, hn1, hn2⟩ := hown.form2
    have hBX := hB.head k hk
    rw [HX.out] at hBX
    have hsl0 := slice_head B T.length d k hn1 hn2 (by omega)
    obtain ⟨B', hsl, hB'⟩ := slice_part B X.length d fr w2 X hn1 hn2 rfl hlf (by rw [HXL.out]; omega) hd9 hBX
    rw [HY.out] at hB'
    have hXd : X.length ≤ d := by rw [HXL.out]; omega
    have hX4 : X.length ≤ 400 := by rw [HXL.out]; omega
    have hkX := HXL.out
    rw [← hkX] at hsl0
    subst hkX
    have hYl := HYL.out
    rw [← hYl] at hsl
    have hfr0 : 0 ≤ (fr : Int) := by omega
    have hw1 : (fr : Int) - 1 + 1 = fr := by omega
    clear hown hC1 hb2 hb3 kA hB hn1 hn2 hT1 HX HXL
    go_wp2_with fail
    refine (lastIndexByte_any B X d _ hX4 (by exact hBX)).mono ?_
    rintro e w3 ⟨rfl, rfl⟩
    rw [HFR.out]
    have hT3 := hT2
    have hYd : Y.length ≤ d - fr := by rw [hYl]; omega
    have hd9' : d - fr ≤ 9223372036854775807 := by omega
    have hfd : ∀ W, (Instr.field 35 (.agg #[.int .i64 (mB X), .int .i64 (mR X), .int .i64 (mL X)]) 2).run Tryd.prog W = .ok (.int .i64 (mL X)) W := fun W => by kernel_rfl
    have hrc := fun W (hT : Tab W) (hB : Bs W B' Y) => runeCount_any B' Y (d - fr) W hYd hd9' hT hB
    simp only [hYl] at hrc
    rw [hYl] at hsl
    clear hYd
    go_wp2
    go_region_with (first
      | (go_at_call 67; refine (measOf_any B X d _ hXd hd9 (by exact hT3) (by exact hBX)).mono ?_; rintro e w4 ⟨rfl, hb5⟩; unfold meas; have hb5 : Below w3.heap.size w3 w4 := ⟨hb5.os, hb5.tape, hb5.output, hb5.size, hb5.block⟩; have hT4 := hT3.below hb5; have hB4 := hB'.below hb5; have hb6 := below_then hb4 hb5)
      | (go_at_call 79; refine (hrc _ (by exact hT4) (by exact hB4)).mono ?_; rintro e w5 ⟨rfl, n5, rfl⟩))
    all_goals
      go_wp2
      go_ret2
      exact ⟨rfl, below_drewN hb6 n5⟩
  · have hf : rCut ls a = false := by simpa using hcut
    have hcall := hcall false hf
    have hrl : ropeLine ls a = (-1, -1) := by unfold ropeLine; rw [if_neg hcut]
    rw [hrl]
    clear hf hcut hrl
    go_enter Tryd.func31, Tryd.ntmps31
    go_wp2_with fail
    refine hcall.mono ?_
    rintro e w1 ⟨rfl, hb1⟩
    have hb2 := below_then hb0 hb1
    go_wp2
    go_ret2
    exact ⟨rfl, hb2⟩
end Go.Proofs.YtfgbipomdfceeaaDoor

namespace Go.Proofs.YtfgbipomdfceeaaDoor
open Go.RowKit P
set_option linter.unusedVariables false
set_option maxRecDepth 100000

/-- 's[i:i+m]' of bytes. -/
theorem slice_mid (A : Option Addr) (n c i m : Nat) (w : World) (l : List UInt8) (hA : A = none → c = 0) (hp : ∀ a, A = some a → ∃ g o, a = ⟨g, o, none⟩) (hn : l.length = n) (hi : i + m ≤ n) (hc : n ≤ c) (hc9 : c ≤ 9223372036854775807) (hB : Bs w A l) :
    ∃ A', (∀ W, (Instr.slice 22 (.slice A n c) (some (.int .i64 (i : Int))) (some (.int .i64 ((i : Int) + (m : Int)))) none).run Tryd.prog W = .ok (.slice A' m (c - i)) W) ∧ Bs w A' ((l.drop i).take m) := by
  have hz : ∀ W, (Go.sizeOf 5).run Tryd.prog W = .ok 1 W := fun W => by kernel_rfl
  have ht' : Tryd.prog.underlying 22 = some (.slice (Tryd.prog.elem 22)) := by simp [Program.elem, Tryd.underlying22]
  have he : Tryd.prog.elem 22 = 5 := by simp [Program.elem, Tryd.underlying22]
  have htn : ((i : Int) + (m : Int)).toNat = i + m := by omega
  cases A with
  | none =>
    have h0 := hA rfl
    subst h0
    refine ⟨none, fun W => ?_, fun k hk => by rw [List.length_take, List.length_drop] at hk; omega⟩
    rw [run_slice_lh W 22 _ _ _ ht' .i64 .i64 _ _ (by omega) (by omega) (by omega), he, hz]
    have : i = 0 := by omega
    have : m = 0 := by omega
    subst i; subst m
    simp [Result.andThen, sliced]
  | some x =>
    obtain ⟨g, o, rfl⟩ := hp x rfl
    refine ⟨some (if c = i then ⟨g, o, none⟩ else ⟨g, o + i, none⟩), fun W => ?_, ?_⟩
    · rw [run_slice_lh W 22 _ _ _ ht' .i64 .i64 _ _ (by omega) (by omega) (by omega), he, hz]
      have hm : i + m - i = m := by omega
      by_cases h0 : c = i
      · simp [Result.andThen, sliced, h0, htn, hm]
      · by_cases h1 : i = 0
        · subst h1; simp [Result.andThen, sliced, Addr.add, h0]
        · simp [Result.andThen, sliced, Addr.add, h0, h1, htn, hm]
    · by_cases h0 : c = i
      · intro k hk
        rw [List.length_take, List.length_drop] at hk
        omega
      · rw [if_neg h0]
        exact Bs.sub hB i m

set_option maxHeartbeats 1000000 in
theorem l04Stands_any (A B : Option Addr) (t p : List UInt8) (c d i : Nat) (w : World) (hA1 : A = none → c = 0) (hA2 : ∀ a, A = some a → ∃ g o, a = ⟨g, o, none⟩) (ht : t.length ≤ c) (hc9 : c ≤ 9223372036854775807) (ht4 : t.length ≤ 400) (hp9 : p.length ≤ 1100000) (hi : i ≤ t.length) (hA : Bs w A t) (hB : Bs w B p) :
    Calls Tryd.prog 76 #[.slice A t.length c, .slice B p.length d, .int .i64 i] w fun e w' => e = .returned (.bool (decide (standsAt t p i))) ∧ ∃ n, w' = w.drewN n := by
  by_cases hle : i + p.length ≤ t.length
  · obtain ⟨A', hsl, hX⟩ := slice_mid A t.length c i p.length w t hA1 hA2 rfl hle ht hc9 hA
    obtain ⟨X, hXe⟩ : ∃ X, (t.drop i).take p.length = X := ⟨_, rfl⟩
    rw [hXe] at hX
    have hXl : X.length = p.length := by rw [← hXe, List.length_take, List.length_drop]; omega
    have hs : standsAt t p i ↔ X = p := by unfold standsAt; rw [hXe]
    have hcv1 : ∀ n, (convert 22 9 (.slice A' p.length (c - i))).run Tryd.prog (w.drewN n) = .ok (.string ⟨X.toArray⟩) (w.drewN n) := fun n => run_conv_bs (c - i) p.length hXl.symm hX
    have hcv2 : ∀ n, (convert 22 9 (.slice B p.length d)).run Tryd.prog (w.drewN n) = .ok (.string ⟨p.toArray⟩) (w.drewN n) := fun n => run_conv_bs d p.length rfl hB
    have hd : decide ((i : Int) + (p.length : Int) ≤ (t.length : Int)) = true := decide_eq_true (by omega)
    have HS := Lib.hid hs
    clear hs hXe hA1 hA2
    go_enter Tryd.func76, Tryd.ntmps76
    go_wp2
    go_quiet (fail)
    go_wp2
    go_ret
    have hb : (X == p) = decide (standsAt t p i) := by rw [Bool.eq_iff_iff]; simp [HS.out]
    exact ⟨ret_bool hb, _, rfl⟩
  · have hn : ¬ standsAt t p i := fun h => hle (standsAt_le h hi)
    have hd : decide ((i : Int) + (p.length : Int) ≤ (t.length : Int)) = false := decide_eq_false (by omega)
    have HN := Lib.hid hn
    clear hn hA1 hA2
    go_enter Tryd.func76, Tryd.ntmps76
    go_wp2
    go_quiet (fail)
    go_wp2
    go_ret
    exact ⟨ret_bool (by rw [decide_eq_false HN.out]), _, rfl⟩
end Go.Proofs.YtfgbipomdfceeaaDoor
