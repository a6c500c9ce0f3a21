/-
  Chapter 4, the program's RopeOk, RopeText, RopeMeas, RopeOf: contracts. Own work.
-/
import Derived.Test.YtpipkmnmdipeeaaDoorI02f
import Derived.Test.YtpipkmnmdipeeaaDoorI02g
import Derived.Test.YtpipkmnmdipeeaaDoorC04
namespace Go.Proofs.YtpipkmnmdipeeaaDoor
open Go.RowKit P
set_option linter.unusedVariables false
set_option maxRecDepth 100000


set_option maxHeartbeats 400000 in
theorem implRopeOk_any (A : Option Addr) (ls : List (List UInt8)) (c : Nat) (w : World) (hn : ls.length ≤ 1048576) (hT : Tab w) (hC : Cs w A ls) :
    Calls Tryd.prog 18 #[.agg #[.slice A ls.length c]] w fun e w' => e = .returned (.bool (chunksOk ls)) ∧ Below w.heap.size w w' := by
  have hb := (Below.refl w.heap.size w).alloc (Nat.le_refl _) (.cells #[.slice A ls.length c] 29)
  have hT0 := hT.below hb
  have hC0 := hC.below hb
  go_enter Tryd.func18, Tryd.ntmps18
  go_wp2_with fail
  refine (implChunksOk_any A ls c _ hn (by exact hT0) (by exact hC0)).mono ?_
  rintro e w1 ⟨rfl, hb1⟩
  have hb2 := below_then hb hb1
  go_wp2
  go_ret
  exact ⟨rfl, hb2⟩

set_option maxHeartbeats 400000 in
theorem implRopeText_any (A : Option Addr) (ls : List (List UInt8)) (c : Nat) (w : World) (hn : ls.length ≤ 1048576) (hT : Tab w) (hC : Cs w A ls) :
    Calls Tryd.prog 28 #[.agg #[.slice A ls.length c]] w (Makes w (chunksText ls)) := by
  have hb := (Below.refl w.heap.size w).alloc (Nat.le_refl _) (.cells #[.slice A ls.length c] 29)
  have hT0 := hT.below hb
  have hC0 := hC.below hb
  go_enter Tryd.func28, Tryd.ntmps28
  go_wp2_with fail
  refine (implChunksText_any A ls c _ hn (by exact hT0) (by exact hC0)).mono ?_
  rintro e w1 ⟨v, rfl, hown, hb1⟩
  have hb2 := below_then hb hb1
  have hown := hown.mono (base' := w.heap.size) (by simp)
  go_wp2
  go_ret
  exact ⟨_, rfl, hown, hb2⟩

set_option maxHeartbeats 400000 in
theorem implRopeMeas_any (A : Option Addr) (ls : List (List UInt8)) (c : Nat) (w : World) (hn : ls.length ≤ 1048576) (hT : Tab w) (hC : Cs w A ls) :
    Calls Tryd.prog 31 #[.agg #[.slice A ls.length c]] w fun e w' => e = .returned (meas (mB (chunksText ls)) (mR (chunksText ls)) (mL (chunksText ls))) ∧ Below w.heap.size w w' := by
  have hlen := chunksText_len ls
  obtain ⟨x, hx⟩ : ∃ x, mB (chunksText ls) = x := ⟨_, rfl⟩
  obtain ⟨y, hy⟩ : ∃ y, mR (chunksText ls) = y := ⟨_, rfl⟩
  obtain ⟨z, hz⟩ : ∃ z, mL (chunksText ls) = z := ⟨_, rfl⟩
  rw [hx, hy, hz]
  have HX := Lib.hid hx
  have HY := Lib.hid hy
  have HZ := Lib.hid hz
  clear hx hy hz
  have hb0 := ((Below.refl w.heap.size w).alloc (Nat.le_refl _) (.cells #[.slice A ls.length c] 29)).alloc (by simp) (.cells #[.int .i64 0, .int .i64 0, .int .i64 0] 43)
  have hC0 := hC.below hb0
  have hT0 := hT.below hb0
  have hr0 : Blk ((w.alloc (.cells #[.slice A ls.length c] 29)).alloc (.cells #[.int .i64 0, .int .i64 0, .int .i64 0] 43)) (w.heap.size + 1) #[.int .i64 0, .int .i64 0, .int .i64 0] 43 := by
    have := Blk.new (w.alloc (.cells #[.slice A ls.length c] 29)) #[.int .i64 0, .int .i64 0, .int .i64 0] 43
    simpa using this
  go_enter Tryd.func31, Tryd.ntmps31
  go_wp2_with fail
  refine (implRopeText_any A ls c _ hn (by exact hT0) (by exact hC0)).mono ?_
  rintro e w1 ⟨v, rfl, hown, hb1⟩
  obtain ⟨B, d, rfl, h1, h2, hB⟩ := hown.form
  have hT1 := hT0.below hb1
  have hr1 := hr0.below hb1
  have hb1 := below_then hb0 hb1
  have hd9 : d ≤ 9223372036854775807 := by unfold maxLen at h2; omega
  clear hown h2 hb0 hr0
  go_wp2_with fail
  refine (measOf_any B (chunksText ls) d _ h1 hd9 (by exact hT1) (by exact hB)).mono ?_
  rintro e w2 ⟨rfl, hb2⟩
  rw [HX.out, HY.out, HZ.out]
  unfold meas
  have hr2 := hr1.below hb2
  have hb3 := below_then hb1 hb2
  have d0 : w2.cell? ⟨w.heap.size + 1, 0, none⟩ = some (.int .i64 0) := hr2.cell 0
  have d1 : w2.cell? ⟨w.heap.size + 1, 1, none⟩ = some (.int .i64 0) := hr2.cell 1
  have d2 : w2.cell? ⟨w.heap.size + 1, 2, none⟩ = some (.int .i64 0) := hr2.cell 2
  have g0 := hr2.frozen 0
  have g1 := hr2.frozen 1
  have g2 := hr2.frozen 2
  clear hb1 hb2 hr1 hr2 hB
  go_wp2
  refine bodyPost_ret (v := meas x y z) (by simp [results, Tryd.results31, go_sem, meas, d0, d1, d2]) rfl ⟨rfl, ?_⟩
  (repeat (first | exact Below.refl _ _ | assumption | refine Below.setCell ?_ (by first | (simp; done) | (simp; omega) | omega) _ | refine Below.drew ?_ | refine below_drewN ?_ _ | refine Below.alloc ?_ (by first | (simp; done) | (simp; omega) | omega) _))

/-- What a call ends in that makes a rope of its own and says whether it is one. -/
def GivesRB (ls : List (List UInt8)) (b : Bool) (w : World) (e : Ending) (w' : World) : Prop :=
  ∃ v fp, e = .returned (.tuple #[.agg #[v], .bool b]) ∧ Lay.chunks.ow w' [v] ls fp ∧ fp.Nodup ∧ (∀ k ∈ fp, w.heap.size ≤ k) ∧ Below w.heap.size w w'

set_option maxHeartbeats 400000 in
theorem implRopeOf_any (A : Option Addr) (l : List UInt8) (c : Nat) (w : World) (hl : l.length ≤ c) (hc9 : c ≤ 9223372036854775807) (hT : Tab w) (hA : Bs w A l) :
    Calls Tryd.prog 22 #[.slice A l.length c] w (GivesRB (chunksOf l) (isText l) w) := by
  have hb0 := (Below.refl w.heap.size w).alloc (Nat.le_refl _) (.cells #[.slice none 0 0] 29)
  have hA0 := hA.below hb0
  have hT0 := hT.below hb0
  have hr0 := Blk.new w #[.slice none 0 0] 29
  go_enter Tryd.func22, Tryd.ntmps22
  go_wp2_with fail
  refine (implChunksOf_any A l c _ hl hc9 (by exact hT0) (by exact hA0)).mono ?_
  rintro e w1 ⟨cs, fp, rfl, how, hnd, hfp, hb1⟩
  obtain ⟨B, d, rfl, _, _, _⟩ := Lay.chunks.read how
  unfold wSlice
  have hr1 := hr0.below hb1
  have hT1 := hT0.below hb1
  have hA1 := hA0.below hb1
  have hb1 := below_then hb0 hb1
  clear hb0 hr0 hT0 hA0
  go_wp2_with fail
  refine (textOk_any A l c _ hl hc9 (by exact hT1) (by exact hA1)).mono ?_
  rintro e w2 ⟨rfl, n2, rfl⟩
  have d0 : (w1.drewN n2).cell? ⟨w.heap.size, 0, none⟩ = some (.slice none 0 0) := hr1.cell 0
  have g0 : (w1.drewN n2).frozen? ⟨w.heap.size, 0, none⟩ = false := hr1.frozen 0
  have hb2 := below_drewN hb1 n2
  have how2 : Lay.chunks.ow (w1.drewN n2) [.slice B (chunksOf l).length d] (chunksOf l) fp := Lay.chunks.owBelow how (below_drewN (Below.refl w1.heap.size w1) n2)
  have hlt : ∀ k ∈ fp, w.heap.size + 1 ≤ k := fun k hk => by have := hfp k hk; simp at this; omega
  generalize isText l = q at *
  generalize hz : (chunksOf l).length = z at *
  clear hz how hfp hb1 hr1 hT1 hA1
  go_wp2
  refine bodyPost_ret (v := .tuple #[.agg #[.slice B z d], .bool q]) (by simp [results, Tryd.results22, go_sem, d0]) rfl ?_
  exact ⟨_, fp, rfl, Lay.chunks_setBelow how2 (fun h => by have := hlt _ h; simp at this; omega) _, hnd, fun k hk => by have := hlt k hk; omega, hb2.setCell (Nat.le_refl _) _⟩
end Go.Proofs.YtpipkmnmdipeeaaDoor
