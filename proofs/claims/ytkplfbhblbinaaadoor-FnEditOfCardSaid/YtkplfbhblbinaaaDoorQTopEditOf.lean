/-
  Texts of one claim in one: R04, Cur9, Cur10, Es, Cur11, WFnEditOf. Own work.
-/
import Derived.Test.YtkplfbhblbinaaaDoorI02f
import Derived.Test.YtkplfbhblbinaaaDoorI02g
import Derived.Test.YtkplfbhblbinaaaDoorC04
import Derived.Test.YtkplfbhblbinaaaDoorS02b
import Derived.Test.YtkplfbhblbinaaaDoorP04
import Derived.Test.YtkplfbhblbinaaaDoorS01
import Derived.BigQuiet
import Derived.Deep.QuietTactic
import Derived.Test.YtkplfbhblbinaaaDoorCur6
import Derived.Test.YtkplfbhblbinaaaDoorEB
import Derived.Deep.RegionHeld3
import Derived.Deep.DeepCutAuto
import Derived.Test.YtkplfbhblbinaaaDoorC05
import Derived.Test.YtkplfbhblbinaaaDoorP08c
import Derived.Test.YtkplfbhblbinaaaDoorI08
import Derived.Test.YtkplfbhblbinaaaDoorLaw
import Derived.Test.YtkplfbhblbinaaaDoorI10

/-
  Chapter 4, the program's RopeOk, RopeText, RopeMeas, RopeOf: contracts. Own work.
  Chapter 4, the model's RopeOk, RopeText, RopeMeas: contracts. Own work.
  Chapter 4, the model's l04Cut, RopeLine: contracts. Own work.
  Chapter 4, the model's RopeLine: contract. Own work.
  Chapter 4, the program's cutsOk, RopeLine: contracts. Own work.
  Chapter 4, the program's RopeLine: contract. Own work.
  Chapter 4, the model's l04Stands: contract. Own work.
-/
namespace Go.Proofs.YtkplfbhblbinaaaDoor
open Go.RowKit P
set_option linter.unusedVariables false
set_option maxRecDepth 100000


/-- What a call ends in that makes a rope of its own and says whether it is one. -/
def GivesRB (ls : List (List UInt8)) (b : Bool) (w : World) (e : Ending) (w' : World) : Prop :=
  ∃ v fp, e = .returned (.tuple #[.agg #[v], .bool b]) ∧ Lay.chunks.ow w' [v] ls fp ∧ fp.Nodup ∧ (∀ k ∈ fp, w.heap.size ≤ k) ∧ Below w.heap.size w w'

end Go.Proofs.YtkplfbhblbinaaaDoor

namespace Go.Proofs.YtkplfbhblbinaaaDoor
open Go.RowKit P
set_option linter.unusedVariables false
set_option maxRecDepth 100000

set_option maxHeartbeats 400000 in
theorem specRopeText_any (A : Option Addr) (ls : List (List UInt8)) (c : Nat) (w : World) (hn : ls.length ≤ 9223372036854775807) (hC : Cs w A ls) :
    Calls Tryd.prog 104 #[.agg #[.slice A ls.length c]] w (Makes w (chunksText ls)) := by
  have hb := (Below.refl w.heap.size w).alloc (Nat.le_refl _) (.cells #[.slice A ls.length c] 84)
  have hC0 := hC.below hb
  go_enter Tryd.func104, Tryd.ntmps104
  go_wp2_with fail
  refine (specChunksText_any A ls c _ hn (by exact hC0)).mono ?_
  rintro e w1 ⟨v, rfl, hown, hb1⟩
  have hb2 := below_then hb hb1
  have hown := hown.mono (base' := w.heap.size) (by simp)
  go_wp2
  go_ret
  exact ⟨_, rfl, hown, hb2⟩

set_option maxHeartbeats 400000 in
theorem specRopeOf_any (A : Option Addr) (l : List UInt8) (c : Nat) (w : World) (hl : l.length ≤ c) (hc9 : c ≤ 9223372036854775807) (hA : Bs w A l) :
    Calls Tryd.prog 88 #[.slice A l.length c] w (GivesRB (chunksOf l) (isText l) w) := by
  have hb0 := (Below.refl w.heap.size w).alloc (Nat.le_refl _) (.cells #[.slice none 0 0] 84)
  have hA0 := hA.below hb0
  have hr0 := Blk.new w #[.slice none 0 0] 84
  have hno : isText l = false → chunksOf l = [] := fun h => by unfold chunksOf; rw [h]; rfl
  have HNO := Lib.hid hno
  clear hno
  generalize hq : isText l = q at *
  have HQ := Lib.hid hq
  clear hq
  cases q
  · have hr : chunksOf l = [] := HNO.out rfl
    rw [hr]
    clear hr
    go_enter Tryd.func88, Tryd.ntmps88
    go_wp2_with fail
    refine (specTextOk_any A l c _ hl hc9 (by exact hA0)).mono ?_
    rintro e w1 ⟨rfl, hb1⟩
    rw [HQ.out]
    have hr1 := hr0.below hb1
    have d0 : w1.cell? ⟨w.heap.size, 0, none⟩ = some (.slice none 0 0) := hr1.cell 0
    have g0 := hr1.frozen 0
    have hb1 := below_then hb0 hb1
    clear hb0 hr0 hA0
    go_wp2
    refine bodyPost_ret (v := .tuple #[.agg #[.slice none 0 0], .bool false]) (by simp [results, Tryd.results88, go_sem, d0]) rfl ?_
    exact ⟨_, [], rfl, Lay.slice_nil _ _ _, by simp, by simp, hb1.setCell (Nat.le_refl _) _⟩
  · go_enter Tryd.func88, Tryd.ntmps88
    go_wp2_with fail
    refine (specTextOk_any A l c _ hl hc9 (by exact hA0)).mono ?_
    rintro e w1 ⟨rfl, hb1⟩
    rw [HQ.out]
    have hr1 := hr0.below hb1
    have hA1 := hA0.below hb1
    have hb1 := below_then hb0 hb1
    clear hb0 hr0 hA0
    go_wp2_with fail
    refine (specChunksOf_any A l c _ hl hc9 (by exact hA1)).mono ?_
    rintro e w2 ⟨cs, fp, rfl, how, hnd, hfp, hb2⟩
    obtain ⟨B, d, rfl, _, _, _⟩ := Lay.chunks.read how
    unfold wSlice
    have hr2 := hr1.below hb2
    have d0 : w2.cell? ⟨w.heap.size, 0, none⟩ = some (.slice none 0 0) := hr2.cell 0
    have g0 := hr2.frozen 0
    have hsz := hr1.lt
    have hb2 := below_then hb1 hb2
    have hlt : ∀ k ∈ fp, w.heap.size + 1 ≤ k := fun k hk => by have := hfp k hk; omega
    generalize hz : (chunksOf l).length = z at *
    clear hz hfp hb1 hr1 hr2 hA1
    go_wp2
    refine bodyPost_ret (v := .tuple #[.agg #[.slice B z d], .bool true]) (by simp [results, Tryd.results88, go_sem, d0]) rfl ?_
    exact ⟨_, fp, rfl, Lay.chunks_setBelow how (fun h => by have := hlt _ h; simp at this; omega) _, hnd, fun k hk => by have := hlt k hk; omega, hb2.setCell (Nat.le_refl _) _⟩
end Go.Proofs.YtkplfbhblbinaaaDoor

namespace Go.Proofs.YtkplfbhblbinaaaDoor
open Go.RowKit P
set_option linter.unusedVariables false
set_option maxRecDepth 100000

theorem slice_part2 (A : Option Addr) (n c i : Nat) (w : World) (l : List UInt8) (hA : A = none → c = 0) (hp : ∀ a, A = some a → ∃ g o, a = ⟨g, o, none⟩) (hn : l.length = n) (hi : i ≤ n) (hc : n ≤ c) (hc9 : c ≤ 9223372036854775807) (hB : Bs w A l) :
    ∃ A', (∀ W, (Instr.slice 22 (.slice A n c) (some (.int .i64 (i : Int))) none none).run Tryd.prog W = .ok (.slice A' (n - i) (c - i)) W) ∧ Bs w A' (l.drop i) ∧ (A' = none → c - i = 0) ∧ (∀ a, A' = some a → ∃ g o, a = ⟨g, o, none⟩) := by
  have hz : ∀ W, (Go.sizeOf 5).run Tryd.prog W = .ok 1 W := fun W => by kernel_rfl
  have ht' : Tryd.prog.underlying 22 = some (.slice (Tryd.prog.elem 22)) := by simp [Program.elem, Tryd.underlying22]
  have he : Tryd.prog.elem 22 = 5 := by simp [Program.elem, Tryd.underlying22]
  cases A with
  | none =>
    have h0 := hA rfl
    subst h0
    refine ⟨none, fun W => ?_, fun k hk => by rw [List.length_drop] at hk; omega, fun _ => by omega, fun _ h => by cases h⟩
    rw [run_slice_l W 22 _ _ _ ht' .i64 _ (by omega) (by omega), he, hz]
    simp [Result.andThen, sliced]
  | some x =>
    obtain ⟨g, o, rfl⟩ := hp x rfl
    refine ⟨some (if c = i then ⟨g, o, none⟩ else ⟨g, o + i, none⟩), fun W => ?_, ?_, (fun h => by cases h), fun a h => by cases h; split <;> exact ⟨_, _, rfl⟩⟩
    · rw [run_slice_l W 22 _ _ _ ht' .i64 _ (by omega) (by omega), he, hz]
      by_cases h0 : c = i
      · simp [Result.andThen, sliced, h0]
      · by_cases h1 : i = 0
        · subst h1; simp [Result.andThen, sliced, Addr.add, h0]
        · simp [Result.andThen, sliced, Addr.add, h0, h1]
    · by_cases h0 : c = i
      · intro k hk
        rw [List.length_drop] at hk
        omega
      · rw [if_neg h0]
        have := Bs.sub hB i (l.length - i)
        rw [List.take_of_length_le (by rw [List.length_drop]; omega)] at this
        exact this
theorem slice_part (A : Option Addr) (n c i : Nat) (w : World) (l : List UInt8) (hA : A = none → c = 0) (hp : ∀ a, A = some a → ∃ g o, a = ⟨g, o, none⟩) (hn : l.length = n) (hi : i ≤ n) (hc : n ≤ c) (hc9 : c ≤ 9223372036854775807) (hB : Bs w A l) :
    ∃ A', (∀ W, (Instr.slice 22 (.slice A n c) (some (.int .i64 (i : Int))) none none).run Tryd.prog W = .ok (.slice A' (n - i) (c - i)) W) ∧ Bs w A' (l.drop i) :=
  let ⟨A', h1, h2, _, _⟩ := slice_part2 A n c i w l hA hp hn hi hc hc9 hB
  ⟨A', h1, h2⟩
end Go.Proofs.YtkplfbhblbinaaaDoor

namespace Go.Proofs.YtkplfbhblbinaaaDoor
open Go.RowKit P
set_option linter.unusedVariables false
set_option maxRecDepth 100000

theorem ten_eq {x : UInt8} (h : x = 10) : ((x.toNat : Int) == 10) = true := by subst h; rfl
theorem ten_ne {x : UInt8} (h : x ≠ 10) : ((x.toNat : Int) == 10) = false := by
  rw [beq_eq_false_iff_ne]
  intro e
  apply h
  apply UInt8.toNat_inj.1
  have : (10 : UInt8).toNat = 10 := rfl
  omega

end Go.Proofs.YtkplfbhblbinaaaDoor

namespace Go.Proofs.YtkplfbhblbinaaaDoor
open Go.RowKit P
set_option linter.unusedVariables false
set_option maxRecDepth 100000

theorem ret_i64 {a b : Int} (h : a = b) : Ending.returned (.int .i64 a) = .returned (.int .i64 b) := by rw [h]

end Go.Proofs.YtkplfbhblbinaaaDoor

namespace Go.Proofs.YtkplfbhblbinaaaDoor
open Go.RowKit P
set_option linter.unusedVariables false
set_option maxRecDepth 100000

/-- Own bytes: nil, or a block of their own. -/
theorem Own.form2 {w : World} {base : Nat} {v : Value} {l : List UInt8} (h : Own w base v l) : ∃ A c, v = .slice A l.length c ∧ l.length ≤ c ∧ c ≤ 9223372036854775807 ∧ Bs w A l ∧ (A = none → c = 0) ∧ (∀ x, A = some x → ∃ g o, x = ⟨g, o, none⟩) := by
  obtain ⟨A, c, hv, h1, h2, hB⟩ := h.form
  refine ⟨A, c, hv, h1, by unfold maxLen at h2; omega, hB, ?_, ?_⟩
  · intro hA
    rcases h.2 with ⟨e, _⟩ | ⟨g, cap, cur, e, _⟩
    · rw [hv] at e; simp only [Value.slice.injEq] at e; exact e.2.2
    · rw [hv] at e; simp only [Value.slice.injEq] at e; rw [hA] at e; exact absurd e.1 (by simp)
  · intro x hx
    rcases h.2 with ⟨e, _⟩ | ⟨g, cap, cur, e, _⟩
    · rw [hv] at e; simp only [Value.slice.injEq] at e; rw [hx] at e; exact absurd e.1 (by simp)
    · rw [hv] at e; simp only [Value.slice.injEq] at e; rw [hx] at e; exact ⟨g, 0, Option.some.inj e.1⟩

/-- 's[:k]' of bytes. -/
theorem slice_head (A : Option Addr) (n c k : Nat) (hA : A = none → c = 0) (hp : ∀ x, A = some x → ∃ g o, x = ⟨g, o, none⟩) (hk : k ≤ c) :
    ∀ W, (Instr.slice 22 (.slice A n c) none (some (.int .i64 (k : Int))) none).run Tryd.prog W = .ok (.slice A k c) W := by
  intro W
  have hz : ∀ W, (Go.sizeOf 5).run Tryd.prog W = .ok 1 W := fun W => by kernel_rfl
  have ht' : Tryd.prog.underlying 22 = some (.slice (Tryd.prog.elem 22)) := by simp [Program.elem, Tryd.underlying22]
  have he : Tryd.prog.elem 22 = 5 := by simp [Program.elem, Tryd.underlying22]
  rw [run_slice_h W 22 _ _ _ ht' .i64 _ (by omega) (by omega), he, hz]
  cases A with
  | none =>
    have h0 := hA rfl
    subst h0
    have : k = 0 := by omega
    subst this
    simp [Result.andThen, sliced]
  | some x =>
    obtain ⟨g, o, rfl⟩ := hp x rfl
    simp [Result.andThen, sliced, Addr.add]

theorem Bs.head {w : World} {A : Option Addr} {l : List UInt8} (h : Bs w A l) (k : Nat) (hk : k ≤ l.length) : Bs w A (l.take k) := by
  intro j hj
  rw [List.length_take] at hj
  obtain ⟨b, off, hA, hlt, hc⟩ := h j (by omega)
  refine ⟨b, off, hA, hlt, ?_⟩
  rw [hc, List.getElem_take]

end Go.Proofs.YtkplfbhblbinaaaDoor

namespace Go.Proofs.YtkplfbhblbinaaaDoor
open Go.RowKit P
set_option linter.unusedVariables false
set_option maxRecDepth 100000

/-- 's[i:i+m]' of bytes. -/
theorem slice_mid (A : Option Addr) (n c i m : Nat) (w : World) (l : List UInt8) (hA : A = none → c = 0) (hp : ∀ a, A = some a → ∃ g o, a = ⟨g, o, none⟩) (hn : l.length = n) (hi : i + m ≤ n) (hc : n ≤ c) (hc9 : c ≤ 9223372036854775807) (hB : Bs w A l) :
    ∃ A', (∀ W, (Instr.slice 22 (.slice A n c) (some (.int .i64 (i : Int))) (some (.int .i64 ((i : Int) + (m : Int)))) none).run Tryd.prog W = .ok (.slice A' m (c - i)) W) ∧ Bs w A' ((l.drop i).take m) := by
  have hz : ∀ W, (Go.sizeOf 5).run Tryd.prog W = .ok 1 W := fun W => by kernel_rfl
  have ht' : Tryd.prog.underlying 22 = some (.slice (Tryd.prog.elem 22)) := by simp [Program.elem, Tryd.underlying22]
  have he : Tryd.prog.elem 22 = 5 := by simp [Program.elem, Tryd.underlying22]
  have htn : ((i : Int) + (m : Int)).toNat = i + m := by omega
  cases A with
  | none =>
    have h0 := hA rfl
    subst h0
    refine ⟨none, fun W => ?_, fun k hk => by rw [List.length_take, List.length_drop] at hk; omega⟩
    rw [run_slice_lh W 22 _ _ _ ht' .i64 .i64 _ _ (by omega) (by omega) (by omega), he, hz]
    have : i = 0 := by omega
    have : m = 0 := by omega
    subst i; subst m
    simp [Result.andThen, sliced]
  | some x =>
    obtain ⟨g, o, rfl⟩ := hp x rfl
    refine ⟨some (if c = i then ⟨g, o, none⟩ else ⟨g, o + i, none⟩), fun W => ?_, ?_⟩
    · rw [run_slice_lh W 22 _ _ _ ht' .i64 .i64 _ _ (by omega) (by omega) (by omega), he, hz]
      have hm : i + m - i = m := by omega
      by_cases h0 : c = i
      · simp [Result.andThen, sliced, h0, htn, hm]
      · by_cases h1 : i = 0
        · subst h1; simp [Result.andThen, sliced, Addr.add, h0]
        · simp [Result.andThen, sliced, Addr.add, h0, h1, htn, hm]
    · by_cases h0 : c = i
      · intro k hk
        rw [List.length_take, List.length_drop] at hk
        omega
      · rw [if_neg h0]
        exact Bs.sub hB i m

end Go.Proofs.YtkplfbhblbinaaaDoor

/-
  The draws' cursor: ropes, places of a rope: contracts. Own work.
-/
namespace Go.Proofs.YtkplfbhblbinaaaDoor
open Go.RowKit P
set_option linter.unusedVariables false

/-- Chunks that can be read, whatever becomes of what lies below base. -/
def Far (base : Nat) (w : World) (A : Option Addr) (L : List (List UInt8)) (c : Nat) : Prop :=
  L.length ≤ c ∧ c ≤ maxLen ∧ ∀ w' : World, (∀ k, base ≤ k → k < w.heap.size → w'.heap[k]? = w.heap[k]?) → w.heap.size ≤ w'.heap.size → Cs w' A L
theorem Far.keep {base : Nat} {w w' : World} {A : Option Addr} {L : List (List UInt8)} {c : Nat} (h : Far base w A L c) (hk : ∀ k, base ≤ k → k < w.heap.size → w'.heap[k]? = w.heap[k]?) (hs : w.heap.size ≤ w'.heap.size) : Far base w' A L c :=
  ⟨h.1, h.2.1, fun x hx hz => h.2.2 x (fun k h1 h2 => (hx k h1 (by omega)).trans (hk k h1 h2)) (by omega)⟩
theorem Far.only {base g : Nat} {w w' : World} {A : Option Addr} {L : List (List UInt8)} {c : Nat} (h : Far base w A L c) (hg : g < base) (ho : Only g w w') : Far base w' A L c := h.keep (fun k h1 h2 => ho.block k h2 (fun e => by injection e; omega)) ho.size
theorem Far.cs {base : Nat} {w : World} {A : Option Addr} {L : List (List UInt8)} {c : Nat} (h : Far base w A L c) : Cs w A L := h.2.2 w (fun _ _ _ => rfl) (Nat.le_refl _)
theorem Far.below {base : Nat} {w w' : World} {A : Option Addr} {L : List (List UInt8)} {c : Nat} (h : Far base w A L c) (hb : Below w.heap.size w w') : Far base w' A L c := h.keep (fun k _ h2 => hb.block k h2) hb.size
theorem Far.setNew {base : Nat} {w : World} {A : Option Addr} {L : List (List UInt8)} {c : Nat} (h : Far base w A L c) {b : Nat} (hb : b < base) (i : Nat) (u : Value) : Far base (w.setCell ⟨b, i, none⟩ u) A L c :=
  h.keep (fun k h1 _ => Below.heap_setCell w ⟨b, i, none⟩ u k (fun e => by simp at e; omega)) (by simp [World.setCell])
theorem Far.mono {base base' : Nat} {w : World} {A : Option Addr} {L : List (List UInt8)} {c : Nat} (h : Far base w A L c) (hb : base' ≤ base) : Far base' w A L c := ⟨h.1, h.2.1, fun x hx hz => h.2.2 x (fun k h1 h2 => hx k (by omega) h2) hz⟩
theorem far_of_seen {base : Nat} {w : World} {v : Value} {L : List (List UInt8)} {fp : List Nat} (h : Lay.chunksS.ow w [v] L fp) (hg : ∀ k ∈ fp, base ≤ k) : ∃ A c, v = .slice A L.length c ∧ Far base w A L c := by
  obtain ⟨A, c, e, h1, h2, _⟩ := Lay.chunksS.read h
  cases e
  refine ⟨A, c, rfl, h1, h2, fun w' hk hs => ?_⟩
  obtain ⟨A', c', e, _, _, hC⟩ := Lay.chunksS.read (Lay.chunksS.kept h (fun k hm => hk k (hg k hm) (Lay.chunksS.lt h k hm)) hs)
  cases e
  exact hC
theorem far_of_own {base : Nat} {w : World} {v : Value} {L : List (List UInt8)} {fp : List Nat} (h : Lay.chunks.ow w [v] L fp) (hg : ∀ k ∈ fp, base ≤ k) : ∃ A c, v = .slice A L.length c ∧ Far base w A L c := by
  obtain ⟨A, c, rfl, h1, h2, _⟩ := Lay.chunks_rd (Lay.chunks.read h)
  refine ⟨A, c, rfl, h1, h2, fun w' hk hs => ?_⟩
  obtain ⟨A', c', e, _, _, hC⟩ := Lay.chunks_rd (Lay.chunks.read (Lay.chunks.kept h (fun k hm => hk k (hg k hm) (Lay.chunks.lt h k hm)) hs))
  cases e
  exact hC

/-- What a draw of a rope ends in. -/
def DrawsR (g N : Nat) (w : World) (e : Ending) (w' : World) : Prop :=
  ∃ A c L, e = .returned (.agg #[.slice A L.length c]) ∧ Far w.heap.size w' A L c ∧ L.length ≤ 400 ∧ (∀ x ∈ L, x.length ≤ 401) ∧ Cur w' g N ∧ Only g w w'

theorem Blk.only {g b : Nat} {w w' : World} {cs : Array Value} {t : TypeId} (h : Blk w b cs t) (ho : Only g w w') (hb : b ≠ g) : Blk w' b cs t := h.of_block (ho.block b h.lt (fun e => hb (by injection e)))

theorem chunksOf_len (l : List UInt8) : (chunksOf l).length ≤ 400 ∧ ∀ x ∈ chunksOf l, x.length ≤ 401 := by
  have h := chunksOf_ok l
  refine ⟨chunksOk_len h, fun x hx => ?_⟩
  obtain ⟨k, hk, rfl⟩ := List.mem_iff_getElem.1 hx
  have h1 := tot_mem (ls := chunksOf l) k hk
  have h2 := chunksOk_tot h
  omega

theorem Only.setNew {g : Nat} {a w : World} (h : Only g a w) {b : Nat} (hb : a.heap.size ≤ b) (i : Nat) (u : Value) : Only g a (w.setCell ⟨b, i, none⟩ u) :=
  ⟨h.os, h.tape, h.output, by simpa [World.setCell] using h.size, fun k hk hne => (Below.heap_setCell w ⟨b, i, none⟩ u k (fun e => by simp at e; omega)).trans (h.block k hk hne)⟩
theorem Cur.setNew {w : World} {g N : Nat} (h : Cur w g N) {b : Nat} (hb : g < b) (i : Nat) (u : Value) : Cur (w.setCell ⟨b, i, none⟩ u) g N :=
  h.keep (fun k hk => Below.heap_setCell w ⟨b, i, none⟩ u k (fun e => by simp at e; omega)) (by simp [World.setCell])
theorem Lay.set {α : Type} (L : Lay α) {w : World} {cs : List Value} {x : α} {fp : List Nat} (h : L.ow w cs x fp) {b : Nat} (hb : b ∉ fp) (i : Nat) (u : Value) : L.ow (w.setCell ⟨b, i, none⟩ u) cs x fp :=
  L.kept h (fun k hk => Below.heap_setCell _ _ _ _ (fun e => hb (by simp at e; exact e ▸ hk))) (by simp [World.setCell])
theorem Blk.setFar {w : World} {b d : Nat} {cs : Array Value} {t : TypeId} (h : Blk w b cs t) (hne : b ≠ d) (i : Nat) (u : Value) : Blk (w.setCell ⟨d, i, none⟩ u) b cs t := h.of_block (Below.heap_setCell w ⟨d, i, none⟩ u b (fun e => hne (by simpa using e)))

theorem cutsOr_bd (l : List UInt8) : (cutsOr l).length ≤ l.length + 1 ∧ ∀ x ∈ cutsOr l, x ≤ l.length := by
  unfold cutsOr cuts
  split
  · refine ⟨by have := List.length_filter_le (fun k : Nat => isBound l k) (List.range (l.length + 1)); simpa using this, fun x hx => ?_⟩
    have := List.mem_range.1 (List.mem_filter.1 hx).1
    omega
  · simp

theorem OwnN.only {w w' : World} {g base : Nat} {v : Value} {l : List Nat} (h : OwnN w base v l) (ho : Only g w w') (hb : g < base) : OwnN w' base v l := by
  refine World.ownsRow.kept (w' := w') (row := some g) h ho ?_
  cases hv : v.ownBlock with
  | none => exact .inl rfl
  | some k => exact .inr (fun e => by injection e with e; have := (World.ownsRow.lt h k hv).1; omega)

set_option maxRecDepth 100000 in
set_option maxHeartbeats 4000000 in
theorem cutOf_any (g N base : Nat) (A : Option Addr) (L : List (List UInt8)) (c : Nat) (w : World) (hN : N ≤ 100000) (h : Cur w g N) (hg : g < base) (hF : Far base w A L c) (hL9 : L.length ≤ 400) :
    Calls Tryd.prog 90 #[.pointer (some ⟨g, 0, none⟩), .agg #[.slice A L.length c]] w (Draws g (N + 7) (-9223372036854775808) 9223372036854775807 w) := by
  have hglt := h.lt
  have hal := (Below.refl w.heap.size w).alloc (Nat.le_refl _) (.cells #[.slice A L.length c] 84)
  have bA := Blk.new w #[.slice A L.length c] 84
  have hc0 := h.only_new hal
  have hC0 := hF.cs.below hal
  have hTl := chunksText_len L
  obtain ⟨T', hT⟩ : ∃ T', chunksText L = T' := ⟨_, rfl⟩
  rw [hT] at hTl
  have HT := Lib.hid hT
  clear hT h
  go_enter Tryd.func90, Tryd.ntmps90
  go_wp2_with fail
  refine (specRopeText_any A L c _ (by omega) (by exact hC0)).mono ?_
  rintro e w1 ⟨v1, rfl, hown1, hb1⟩
  rw [HT.out] at hown1
  obtain ⟨B, d, rfl, hld, hdm, hB⟩ := hown1.form
  have hd9 : d ≤ 9223372036854775807 := by unfold maxLen at hdm; omega
  have bA1 := bA.below hb1
  have hc1 := hc0.only_new hb1
  have hb1 := below_then hal hb1
  clear hown1 hdm hal hc0 hC0
  go_wp2_with fail
  refine (l01Cuts_any B T' d _ hld hd9 (by exact hB)).mono ?_
  rintro e w2 ⟨v2, rfl, hown2, hb2⟩
  obtain ⟨C, q, rfl, hlq, hqm, _⟩ := hown2.form
  have bA2 := bA1.below hb2
  have hc2 := hc1.only_new hb2
  have hb2 := below_then hb1 hb2
  have hs2 := hb2.size
  have hbase2 : g < w1.heap.size := by have := hb1.size; omega
  obtain ⟨cuts, hcu⟩ : ∃ cuts, cutsOr T' = cuts := ⟨_, rfl⟩
  have hcul : cuts.length ≤ 1000 := by rw [← hcu]; have := (cutsOr_bd T').1; omega
  have hcub : ∀ x ∈ cuts, x ≤ 1000 := fun x hx => by rw [← hcu] at hx; have := (cutsOr_bd T').2 x hx; omega
  rw [hcu] at hown2 hlq ⊢
  clear hcu bA bA1 hc1 hb1 hB
  have kA2 : w2.cell? ⟨w.heap.size, 0, none⟩ = some (.slice A L.length c) := bA2.cell 0
  have ho2 : Only g w w2 := Only.of_below hb2
  by_cases hpos : (0 : Int) < (cuts.length : Int)
  · go_wp2_with fail
    refine (once_any g N _ _ (by omega) (by omega) (by omega) (by exact hc2)).mono ?_
    rintro e w3 ⟨p, rfl, hc3, ho3⟩
    have hown3 := hown2.only ho3 hbase2
    have bA3 := bA2.only ho3 (by omega)
    have kA3 : w3.cell? ⟨w.heap.size, 0, none⟩ = some (.slice A L.length c) := bA3.cell 0
    have ho3 := ho2.trans ho3
    clear hown2 bA2 kA2 hc2 ho2 hb2
    cases p
    · obtain ⟨m, hm⟩ : ∃ m : Nat, min 256 cuts.length = m := ⟨_, rfl⟩
      have hm1 : 1 ≤ m ∧ m ≤ cuts.length := by omega
      have hmn : min (256 : Int) (cuts.length : Int) = (m : Int) := by omega
      clear hm
      go_wp2_with fail
      refine (pick_draws g (N + 1) _ _ (by omega) (by omega) (by omega) (by exact hc3)).mono ?_
      rintro e w4 ⟨x, rfl, hx0, hx1, hc4, ho4⟩
      obtain ⟨k, rfl⟩ := Int.eq_ofNat_of_zero_le hx0
      have hown4 := hown3.only ho4 hbase2
      have hk : k < cuts.length := by omega
      obtain ⟨C', q', e', _, _, hcell⟩ := hown4.form
      cases e'
      obtain ⟨b, off, rfl, hcb⟩ := hcell k hk
      have hbd := hcub _ (List.getElem_mem hk)
      obtain ⟨y, hy⟩ : ∃ y : Nat, cuts[k] = y := ⟨_, rfl⟩
      rw [hy] at hcb hbd
      have hki : (k : Int) < (cuts.length : Int) := by omega
      have ho4 := ho3.trans ho4
      clear hcell hy hown3 hown4 hc3 ho3 bA3 kA3 hmn hx0 hx1
      go_wp2
      go_ret
      exact ⟨_, rfl, by omega, by omega, hc4.mono (by omega), ho4⟩
    · have hC4 := (Far.only hF (by omega) ho3).cs
      go_wp2_with fail
      refine (specRopeText_any A L c _ (by omega) (by exact hC4)).mono ?_
      rintro e w5 ⟨v5, rfl, hown5, hb5⟩
      rw [HT.out] at hown5
      obtain ⟨B5, d5, rfl, _, _, _⟩ := hown5.form
      have hc5 := Cur.only_new hc3 hb5
      have ho5 := ho3.trans (Only.of_below hb5)
      obtain ⟨m, hm⟩ : ∃ m : Nat, min 200 T'.length = m := ⟨_, rfl⟩
      have hm1 : m ≤ 200 := by omega
      have hmn : min (200 : Int) (T'.length : Int) = (m : Int) := by omega
      clear hm hown5 hb5 hc3 ho3 bA3 kA3 hC4
      go_wp2_with fail
      refine (place_any g (N + 1) _ _ (by omega) (by omega) (by omega) (by exact hc5)).mono ?_
      rintro e w6 ⟨x, rfl, hx0, hx1, hc6, ho6⟩
      go_wp2
      go_ret
      exact ⟨x, rfl, hx0, hx1, hc6.mono (by omega), ho5.trans ho6⟩
  · have hC4 := (Far.below hF hb2).cs
    go_wp2_with fail
    refine (specRopeText_any A L c _ (by omega) (by exact hC4)).mono ?_
    rintro e w5 ⟨v5, rfl, hown5, hb5⟩
    rw [HT.out] at hown5
    obtain ⟨B5, d5, rfl, _, _, _⟩ := hown5.form
    have hc5 := Cur.only_new hc2 hb5
    have ho5 := (Only.of_below (g := g) hb2).trans (Only.of_below hb5)
    obtain ⟨m, hm⟩ : ∃ m : Nat, min 200 T'.length = m := ⟨_, rfl⟩
    have hm1 : m ≤ 200 := by omega
    have hmn : min (200 : Int) (T'.length : Int) = (m : Int) := by omega
    clear hm hown5 hb5 hc2 hb2 bA2 kA2 hC4
    go_wp2_with fail
    refine (place_any g N _ _ (by omega) (by omega) (by omega) (by exact hc5)).mono ?_
    rintro e w6 ⟨x, rfl, hx0, hx1, hc6, ho6⟩
    go_wp2
    go_ret
    exact ⟨x, rfl, hx0, hx1, hc6.mono (by omega), ho5.trans ho6⟩

/-- What a draw of two places ends in. -/
def Draws2 (g N : Nat) (w : World) (e : Ending) (w' : World) : Prop := ∃ x y : Int, e = .returned (.tuple #[.int .i64 x, .int .i64 y]) ∧ (-9223372036854775808 ≤ x ∧ x ≤ 9223372036854775807) ∧ (-9223372036854775808 ≤ y ∧ y ≤ 9223372036854775807) ∧ Cur w' g N ∧ Only g w w'

set_option maxRecDepth 100000 in
set_option maxHeartbeats 4000000 in
theorem span_any (g N base : Nat) (A : Option Addr) (L : List (List UInt8)) (c : Nat) (w : World) (hN : N ≤ 50000) (h : Cur w g N) (hg : g < base) (hF : Far base w A L c) (hL9 : L.length ≤ 400) :
    Calls Tryd.prog 89 #[.pointer (some ⟨g, 0, none⟩), .agg #[.slice A L.length c]] w (Draws2 g (N + 20) w) := by
  have hglt := h.lt
  have hal := (Below.refl w.heap.size w).alloc (Nat.le_refl _) (.cells #[.slice A L.length c] 84)
  have bA := Blk.new w #[.slice A L.length c] 84
  have hc0 := h.only_new hal
  have hF0 := hF.below hal
  have ho0 : Only g w _ := Only.of_below hal
  clear h
  go_enter Tryd.func89, Tryd.ntmps89
  go_wp2_with fail
  refine (cutOf_any g N base A L c _ (by omega) (by exact hc0) hg (by exact hF0) hL9).mono ?_
  rintro e w1 ⟨x, rfl, hx0, hx1, hc1, ho1⟩
  have bA1 := bA.only ho1 (by omega)
  have hF1 := hF0.only hg ho1
  have ho1 := ho0.trans ho1
  have kA1 : w1.cell? ⟨w.heap.size, 0, none⟩ = some (.slice A L.length c) := bA1.cell 0
  clear bA hc0 hF0 ho0 hal
  go_wp2_with fail
  refine (cutOf_any g (N + 7) base A L c _ (by omega) (by exact hc1) hg (by exact hF1) hL9).mono ?_
  rintro e w2 ⟨y, rfl, hy0, hy1, hc2, ho2⟩
  have ho2 := ho1.trans ho2
  clear bA1 kA1 hc1 hF1 ho1
  by_cases hxy : y < x
  · go_wp2_with fail
    refine (once_any g (N + 7 + 7) _ _ (by omega) (by omega) (by omega) (by exact hc2)).mono ?_
    rintro e w3 ⟨p, rfl, hc3, ho3⟩
    have ho3 := ho2.trans ho3
    cases p
    all_goals
      go_wp2
      go_ret2
      exact ⟨_, _, rfl, ⟨by assumption, by assumption⟩, ⟨by assumption, by assumption⟩, hc3.mono (by omega), ho3⟩
  · go_wp2
    go_ret2
    exact ⟨_, _, rfl, ⟨hx0, hx1⟩, ⟨hy0, hy1⟩, hc2.mono (by omega), ho2⟩
end Go.Proofs.YtkplfbhblbinaaaDoor

/-
  Chapter 5's draws: an edit of a text. Own work.
  Chapter 5's draws: an edit of a text, mostly one that fits. Own work.
  The draw of EditBack; sameEdit, bytesOf: contracts. Own work.
-/
namespace Go.Proofs.YtkplfbhblbinaaaDoor
open Go.RowKit P
set_option linter.unusedVariables false
set_option linter.unusedSimpArgs false
set_option maxRecDepth 100000

/-- What a draw of an edit ends in. -/
def DrawsE (g N : Nat) (w : World) (e : Ending) (w' : World) : Prop :=
  ∃ a m v l, e = .returned (.agg #[.int .i64 a, .int .i64 m, v]) ∧ (-9223372036854775808 ≤ a ∧ a ≤ 9223372036854775807) ∧ (-9223372036854775808 ≤ m ∧ m ≤ 9223372036854775807) ∧ Own w' w.heap.size v l ∧ l.length ≤ 500 ∧ Cur w' g N ∧ Only g w w'

theorem wrap64_bd (x : Int) : -9223372036854775808 ≤ wrap64 x ∧ wrap64 x ≤ 9223372036854775807 := by
  rw [← IntWalk.i64_left, IntKind.wrap_i64]
  omega
/-- A block's cells are what they are, the cursor's block apart. -/
theorem EBox.only {g b : Nat} {w w' : World} {a m : Int} {A : Option Addr} {n c : Nat} (h : EBox w b a m A n c) (ho : Only g w w') (hb : b ≠ g) : EBox w' b a m A n c := ⟨h.blk.only ho hb⟩
theorem EBox.f (i : Nat) {w : World} {b : Nat} {a m : Int} {A : Option Addr} {n c : Nat} (h : EBox w b a m A n c) : w.frozen? ⟨b, i, none⟩ = false := h.blk.frozen i
theorem EBox.set1 {w : World} {b : Nat} {a m : Int} {A : Option Addr} {n c : Nat} (h : EBox w b a m A n c) (x : Int) : EBox (w.setCell ⟨b, 1, none⟩ (.int .i64 x)) b a x A n c := ⟨by simpa using h.blk.set 1 (.int .i64 x)⟩
theorem EBox.set0 {w : World} {b : Nat} {a m : Int} {A : Option Addr} {n c : Nat} (h : EBox w b a m A n c) (x : Int) : EBox (w.setCell ⟨b, 0, none⟩ (.int .i64 x)) b x m A n c := ⟨by simpa using h.blk.set 0 (.int .i64 x)⟩
theorem EBox.set2 {w : World} {b : Nat} {a m : Int} {A : Option Addr} {n c : Nat} (h : EBox w b a m A n c) (B : Option Addr) (k d : Nat) : EBox (w.setCell ⟨b, 2, none⟩ (.slice B k d)) b a m B k d := ⟨by simpa using h.blk.set 2 (.slice B k d)⟩

set_option maxHeartbeats 8000000 in
theorem edit_any (g N : Nat) (A : Option Addr) (l : List UInt8) (c : Nat) (w : World) (hN : N ≤ 20000) (hl : l.length ≤ c) (hc9 : c ≤ 9223372036854775807) (h : Cur w g N) (hA : Bs w A l) :
    Calls Tryd.prog 69 #[.pointer (some ⟨g, 0, none⟩), .slice A l.length c] w (DrawsE g (N + 60) w) := by
  have hglt := h.lt
  have hal := (Below.refl w.heap.size w).alloc (Nat.le_refl _) (.cells #[.int .i64 0, .int .i64 0, .slice none 0 0] 25)
  have bR := EBox.new w 0 0 none 0 0
  have hc0 := h.only_new hal
  have hA0 := hA.below hal
  have ho0 : Only g w _ := Only.of_below hal
  have hsW0 : w.heap.size + 1 ≤ (w.alloc (.cells #[.int .i64 0, .int .i64 0, .slice none 0 0] 25)).heap.size := by simp
  clear h hA
  go_enter Tryd.func69, Tryd.ntmps69
  go_wp2_with fail
  generalize w.alloc (.cells #[.int .i64 0, .int .i64 0, .slice none 0 0] 25) = W0 at *
  refine (specRopeOf_any A l c _ hl hc9 (by exact hA0)).mono ?_
  rintro e w1 ⟨v1, fp1, rfl, how1, hnd1, hfp1, hb1⟩
  have hlen := chunksOf_len l
  obtain ⟨L, hL⟩ : ∃ L, chunksOf l = L := ⟨_, rfl⟩
  rw [hL] at how1 hlen
  obtain ⟨z, hz⟩ : ∃ z, isText l = z := ⟨_, rfl⟩
  rw [hz]
  have hfar := far_of_own how1 (base := w.heap.size + 1) (fun k hk => by have := hfp1 k hk; omega)
  obtain ⟨A1, c1, rfl, hF1⟩ := hfar
  have bR := bR.below hb1
  have hc1 := hc0.only_new hb1
  have ho1 := ho0.trans (Only.of_below hb1)
  have hal1 := (Below.refl w1.heap.size w1).alloc (Nat.le_refl _) (.cells #[.slice A1 L.length c1] 84)
  have bV := Blk.new w1 #[.slice A1 L.length c1] 84
  have bR := bR.below hal1
  have hc1 := hc1.only_new hal1
  have ho1 := ho1.trans (Only.of_below hal1)
  have hF1 := hF1.below hal1
  have hzw1 : w.heap.size < w1.heap.size := by have := hb1.size; omega
  have kV := bV.cell 0
  have hL4 := hlen.1
  clear how1 hnd1 hfp1 hb1 hL hz hal hal1 hc0 hA0 ho0 hlen
  go_wp2_with fail
  generalize w1.alloc (.cells #[.slice A1 L.length c1] 84) = W1 at *
  refine (span_any g N (w.heap.size + 1) A1 L c1 _ (by omega) (by exact hc1) (by omega) (by exact hF1) hL4).mono ?_
  rintro e w2 ⟨x, y, rfl, hx, hy, hc2, ho2⟩
  have bR := bR.only ho2 (by omega)
  have bV := bV.only ho2 (by omega)
  have hF2 := hF1.only (by omega) ho2
  have ho2 := ho1.trans ho2
  clear hc1 hF1 ho1 kV
  obtain ⟨d, hd⟩ : ∃ d, wrap64 (y - x) = d := ⟨_, rfl⟩
  have hdb : -9223372036854775808 ≤ d ∧ d ≤ 9223372036854775807 := by rw [← hd]; exact wrap64_bd _
  have HD := Lib.hid hd
  have hal2 := (Below.refl w2.heap.size w2).alloc (Nat.le_refl _) (.cells #[.int .i64 x, .int .i64 d, .slice none 0 0] 25)
  have bE := EBox.new w2 x d none 0 0
  have bR := bR.below hal2
  have hz2 : w1.heap.size < w2.heap.size := bV.lt
  have bV := bV.below hal2
  have hc2 := hc2.only_new hal2
  have ho2 := ho2.trans (Only.of_below hal2)
  have hF2 := hF2.below hal2
  have e0 := bE.c0
  have e1 := bE.c1
  have e2 := bE.c2
  have f0 := bE.f 0
  have f1 := bE.f 1
  have f2 := bE.f 2
  clear hal2
  go_wp2_with fail
  generalize w2.alloc (.cells #[.int .i64 x, .int .i64 d, .slice none 0 0] 25) = W2 at *
  refine (once_any g (N + 20) 2 _ (by omega) (by omega) (by omega) (by exact hc2)).mono ?_
  rintro e w3 ⟨p, rfl, hc3, ho3⟩
  have bR := bR.only ho3 (by omega)
  have bV := bV.only ho3 (by omega)
  have bE := bE.only ho3 (by omega)
  have hF3 := hF2.only (by omega) ho3
  have ho3 := ho2.trans ho3
  clear hc2 hF2 ho2 e0 e1 e2 f0 f1 f2
  go_upto_if 27 with fail
  go_cut [27] (fun _ wx => ∃ m' : Int, EBox wx w2.heap.size x m' none 0 0 ∧ (-9223372036854775808 ≤ m' ∧ m' ≤ 9223372036854775807) ∧ EBox wx w.heap.size 0 0 none 0 0 ∧ Cur wx g (N + 35) ∧ Only g w wx)
  case first =>
    have e1 := bE.c1
    have f1 := bE.f 1
    cases p
    · by_cases h6 : 6 < d
      · have kV := bV.cell 0
        go_wp2_with fail
        refine (once_any g (N + 20 + 1) 2 _ (by omega) (by omega) (by omega) (by exact hc3)).mono ?_
        rintro e w4 ⟨p4, rfl, hc4, ho4⟩
        have bR := bR.only ho4 (by omega)
        have bV := bV.only ho4 (by omega)
        have bE := bE.only ho4 (by omega)
        have hF4 := hF3.only (by omega) ho4
        have ho4 := ho3.trans ho4
        clear hc3 hF3 ho3 e1 f1 kV
        have kV := bV.cell 0
        cases p4
        · go_wp2
          go_meet
          exact ⟨d, bE, hdb, bR, hc4.mono (by omega), ho4⟩
        · go_wp2_with fail
          refine (cutOf_any g (N + 20 + 1 + 1) (w.heap.size + 1) A1 L c1 _ (by omega) (by exact hc4) (by omega) (by exact hF4) hL4).mono ?_
          rintro e w5 ⟨t, rfl, ht0, ht1, hc5, ho5⟩
          have bR := bR.only ho5 (by omega)
          have bE := bE.only ho5 (by omega)
          have ho5 := ho4.trans ho5
          obtain ⟨u, hu⟩ : ∃ u, wrap64 (t - x) = u := ⟨_, rfl⟩
          have hub : -9223372036854775808 ≤ u ∧ u ≤ 9223372036854775807 := by rw [← hu]; exact wrap64_bd _
          have e1 := bE.c1
          have f1 := bE.f 1
          by_cases hneg : u < 0
          · go_wp2
            go_meet
            exact ⟨d, (bE.set1 u).set1 d, hdb, ⟨(bR.blk.setFar (by omega) 1 _).setFar (by omega) 1 _⟩, ((hc5.setNew (by omega) 1 _).setNew (by omega) 1 _).mono (by omega), (ho5.setNew (by omega) 1 _).setNew (by omega) 1 _⟩
          · go_wp2
            go_meet
            exact ⟨u, bE.set1 u, hub, ⟨bR.blk.setFar (by omega) 1 _⟩, (hc5.setNew (by omega) 1 _).mono (by omega), ho5.setNew (by omega) 1 _⟩
      · go_wp2
        go_meet
        exact ⟨d, bE, hdb, bR, hc3.mono (by omega), ho3⟩
    · go_wp2
      go_meet
      exact ⟨0, bE.set1 0, by omega, ⟨bR.blk.setFar (by omega) 1 _⟩, (hc3.setNew (by omega) 1 _).mono (by omega), ho3.setNew (by omega) 1 _⟩
  case rest =>
    obtain ⟨m', bE, hmb, bR, hc, ho⟩ := hcut
    go_wp2_with fail
    refine (once_any g (N + 35) 3 _ (by omega) (by omega) (by omega) (by exact hc)).mono ?_
    rintro e w6 ⟨p6, rfl, hc6, ho6⟩
    have bR := bR.only ho6 (by omega)
    have bE := bE.only ho6 (by omega)
    have ho6 := ho.trans ho6
    have hz6 := bE.lt
    have hz6' := bR.lt
    clear hc ho
    cases p6
    · go_wp2_with fail
      refine (text_any g (N + 35 + 1) 6 _ (by omega) (by omega) (by exact hc6)).mono ?_
      rintro e w7 ⟨v7, l7, rfl, hown7, hl7, hc7, ho7⟩
      obtain ⟨A7, c7, rfl, _, _, _⟩ := hown7.form
      have bR := bR.only ho7 (by omega)
      have bE := bE.only ho7 (by omega)
      have ho7 := ho6.trans ho7
      have r0 := bR.c0
      have r1 := bR.c1
      have r2 := bR.c2
      have g0 := bR.f 0
      have g1 := bR.f 1
      have g2 := bR.f 2
      have e0 := bE.c0
      have e1 := bE.c1
      have e2 := bE.c2
      have f2 := bE.f 2
      have hlt := bR.lt
      have hlt2 := bE.lt
      go_wp2
      refine bodyPost_ret (v := .agg #[.int .i64 x, .int .i64 m', .slice A7 l7.length c7]) (by simp [results, Tryd.results69, go_sem, r0, r1, r2]) rfl ?_
      have h9 : ∀ (W : World) (b i : Nat) (u : Value), b < w6.heap.size → Own W w6.heap.size (.slice A7 l7.length c7) l7 → Own (W.setCell ⟨b, i, none⟩ u) w6.heap.size (.slice A7 l7.length c7) l7 := fun W b i u hb h => h.setBelow (by simpa using hb) u
      exact ⟨x, m', .slice A7 l7.length c7, l7, rfl, hx, hmb, (h9 _ _ _ _ hz6' (h9 _ _ _ _ hz6' (h9 _ _ _ _ hz6' (h9 _ _ _ _ hz6 hown7)))).mono (by omega), by omega,
        ((((hc7.setNew (b := w2.heap.size) (by omega) 2 _).setNew (b := w.heap.size) (by omega) 0 _).setNew (b := w.heap.size) (by omega) 1 _).setNew (b := w.heap.size) (by omega) 2 _).mono (by omega),
        (((ho7.setNew (b := w2.heap.size) (by omega) 2 _).setNew (Nat.le_refl _) 0 _).setNew (Nat.le_refl _) 1 _).setNew (Nat.le_refl _) 2 _⟩
    · have r0 := bR.c0
      have r1 := bR.c1
      have r2 := bR.c2
      have g0 := bR.f 0
      have g1 := bR.f 1
      have g2 := bR.f 2
      have e0 := bE.c0
      have e1 := bE.c1
      have e2 := bE.c2
      have hlt := bR.lt
      go_wp2
      refine bodyPost_ret (v := .agg #[.int .i64 x, .int .i64 m', .slice none 0 0]) (by simp [results, Tryd.results69, go_sem, r0, r1, r2]) rfl ?_
      exact ⟨x, m', .slice none 0 0, [], rfl, hx, hmb, Own.nil _ _, by simp, (((hc6.setNew (b := w.heap.size) (by omega) 0 _).setNew (b := w.heap.size) (by omega) 1 _).setNew (b := w.heap.size) (by omega) 2 _).mono (by omega), ((ho6.setNew (Nat.le_refl _) 0 _).setNew (Nat.le_refl _) 1 _).setNew (Nat.le_refl _) 2 _⟩
end Go.Proofs.YtkplfbhblbinaaaDoor

namespace Go.Proofs.YtkplfbhblbinaaaDoor
open Go.RowKit P
set_option linter.unusedVariables false
set_option linter.unusedSimpArgs false
set_option maxRecDepth 100000

theorem own_zeros (w : World) (n : Nat) (hn : n ≤ 1000) : Own (w.alloc (.cells (madeCells #[.int .u8 0] n) 5)) w.heap.size (.slice (some ⟨w.heap.size, 0, none⟩) n n) (List.replicate n 0) := by
  have h : Row (w.alloc (.cells (madeCells #[.int .u8 0] n) 5)) w.heap.size (List.replicate n (0 : UInt8)) := by
    unfold Row
    rw [List.length_replicate]
    exact (World.rowIs_made w (.int .u8 0) n 5).congr (by intro j hj; simp [List.getD_eq_getElem?_getD, List.getElem?_replicate, hj])
  have := h.own w.heap.size (Nat.le_refl _) (by rw [List.length_replicate]; unfold maxLen; omega)
  rw [List.length_replicate] at this
  exact this

set_option maxHeartbeats 8000000 in
theorem badEdit_any (g N : Nat) (A : Option Addr) (l : List UInt8) (c : Nat) (w : World) (hN : N ≤ 9000) (hl4 : l.length ≤ 400) (hl : l.length ≤ c) (hc9 : c ≤ 9223372036854775807) (h : Cur w g N) (hA : Bs w A l) :
    Calls Tryd.prog 53 #[.pointer (some ⟨g, 0, none⟩), .slice A l.length c] w (DrawsE g (N + 150) w) := by
  have hglt := h.lt
  have hal := (Below.refl w.heap.size w).alloc (Nat.le_refl _) (.cells #[.int .i64 0, .int .i64 0, .slice none 0 0] 25)
  have bR := EBox.new w 0 0 none 0 0
  have hc0 := h.only_new hal
  have hA0 := hA.below hal
  have ho0 : Only g w _ := Only.of_below hal
  have hsW0 : w.heap.size + 1 ≤ (w.alloc (.cells #[.int .i64 0, .int .i64 0, .slice none 0 0] 25)).heap.size := by simp
  clear h hA
  go_enter Tryd.func53, Tryd.ntmps53
  go_wp2_with fail
  generalize w.alloc (.cells #[.int .i64 0, .int .i64 0, .slice none 0 0] 25) = W0 at *
  refine (edit_any g N A l c _ (by omega) hl hc9 (by exact hc0) (by exact hA0)).mono ?_
  rintro e w1 ⟨a, m, v1, p, rfl, ha, hm, hown1, hp5, hc1, ho1⟩
  have HRG1 := Lib.hid hown1.range
  obtain ⟨A1, c1, rfl, _, _, _⟩ := hown1.form
  have bR := bR.only ho1 (by omega)
  have hz1' : w.heap.size + 1 ≤ w1.heap.size := by have := ho1.size; omega
  have ho1 := ho0.trans ho1
  have hal1 := (Below.refl w1.heap.size w1).alloc (Nat.le_refl _) (.cells #[.int .i64 a, .int .i64 m, .slice A1 p.length c1] 25)
  have bE := EBox.new w1 a m A1 p.length c1
  have bR := bR.below hal1
  have hc1 := hc1.only_new hal1
  have ho1 := ho1.trans (Only.of_below hal1)
  have hown1 := hown1.below hal1
  have hz1 : w.heap.size + 1 ≤ w1.heap.size := hz1'
  clear hal hal1 hc0 hA0 ho0
  go_wp2_with fail
  generalize w1.alloc (.cells #[.int .i64 a, .int .i64 m, .slice A1 p.length c1] 25) = W1 at *
  refine (pick_any g (N + 60) 12 _ (by omega) (by omega) (by exact hc1)).mono ?_
  rintro e w2 ⟨x, rfl, hx0, hx1, hc2, ho2⟩
  have bR := bR.only ho2 (by omega)
  have bE := bE.only ho2 (by omega)
  have hown2 := hown1.only ho2 (by omega)
  have HRG := HRG1
  have ho2 := ho1.trans ho2
  clear hc1 ho1 hown1
  have r0 := bR.c0
  have r1 := bR.c1
  have r2 := bR.c2
  have g0 := bR.f 0
  have g1 := bR.f 1
  have g2 := bR.f 2
  have e0 := bE.c0
  have e1 := bE.c1
  have e2 := bE.c2
  have hlt := bR.lt
  have hlt2 := bE.lt
  have bE0 := bE
  have bR0 := bR
  by_cases q0 : x = 0
  · subst q0
    clear r0 r1 r2 g0 g1 g2 e0 e1 e2 hlt hlt2
    go_wp2_with fail
    refine (raw_any g (N + 60 + 1) _ (by omega) (by exact hc2)).mono ?_
    rintro e w3 ⟨t, rfl, ht0, ht1, hc3, ho3⟩
    have bR := bR.only ho3 (by omega)
    have bE := bE.only ho3 (by omega)
    have hown3 := hown2.only ho3 (by omega)
    have ho3 := ho2.trans ho3
    have r0 := bR.c0
    have r1 := bR.c1
    have r2 := bR.c2
    have g0 := bR.f 0
    have g1 := bR.f 1
    have g2 := bR.f 2
    have e0 := bE.c0
    have e1 := bE.c1
    have e2 := bE.c2
    have f0 := bE.f 0
    have f1 := bE.f 1
    have f2 := bE.f 2
    have hlt := bR.lt
    have hlt2 := bE.lt
    go_wp2
    refine bodyPost_ret (v := .agg #[.int .i64 t, .int .i64 m, .slice A1 p.length c1]) (by simp [results, Tryd.results53, go_sem, r0, r1, r2]) rfl ?_
    have h9 : ∀ (W : World) (b i : Nat) (u : Value), b < w1.heap.size + 1 → b ≠ w1.heap.size + 5 → Own W W0.heap.size (.slice A1 p.length c1) p → (∀ k ∈ (Value.slice A1 p.length c1).ownBlock.toList, b ≠ k) → Own (W.setCell ⟨b, i, none⟩ u) W0.heap.size (.slice A1 p.length c1) p := fun W b i u _ _ h hne => h.heap (fun k hk => Below.heap_setCell _ _ _ _ (fun e => hne k hk (by simpa using e.symm)))
    have hA : ∀ k ∈ (Value.slice A1 p.length c1).ownBlock.toList, w.heap.size ≠ k := fun k hk => by have h1 := HRG.out k hk; omega
    have hB : ∀ k ∈ (Value.slice A1 p.length c1).ownBlock.toList, w1.heap.size ≠ k := fun k hk => by have h1 := HRG.out k hk; omega
    exact ⟨t, m, .slice A1 p.length c1, p, rfl, ⟨ht0, ht1⟩, hm, (h9 _ _ _ _ (by omega) (by omega) (h9 _ _ _ _ (by omega) (by omega) (h9 _ _ _ _ (by omega) (by omega) (h9 _ _ _ _ (by omega) (by omega) hown3 hB) hA) hA) hA).mono (by omega), by omega,
      ((((hc3.setNew (b := w1.heap.size) (by omega) 0 _).setNew (b := w.heap.size) (by omega) 0 _).setNew (b := w.heap.size) (by omega) 1 _).setNew (b := w.heap.size) (by omega) 2 _).mono (by omega),
      (((ho3.setNew (b := w1.heap.size) (by omega) 0 _).setNew (Nat.le_refl _) 0 _).setNew (Nat.le_refl _) 1 _).setNew (Nat.le_refl _) 2 _⟩
  by_cases q1 : x = 1
  · subst q1
    clear r0 r1 r2 g0 g1 g2 e0 e1 e2 hlt hlt2
    go_wp2_with fail
    refine (raw_any g (N + 60 + 1) _ (by omega) (by exact hc2)).mono ?_
    rintro e w3 ⟨t, rfl, ht0, ht1, hc3, ho3⟩
    have bR := bR.only ho3 (by omega)
    have bE := bE.only ho3 (by omega)
    have hown3 := hown2.only ho3 (by omega)
    have ho3 := ho2.trans ho3
    have r0 := bR.c0
    have r1 := bR.c1
    have r2 := bR.c2
    have g0 := bR.f 0
    have g1 := bR.f 1
    have g2 := bR.f 2
    have e0 := bE.c0
    have e1 := bE.c1
    have e2 := bE.c2
    have f0 := bE.f 0
    have f1 := bE.f 1
    have f2 := bE.f 2
    have hlt := bR.lt
    have hlt2 := bE.lt
    go_wp2
    refine bodyPost_ret (v := .agg #[.int .i64 a, .int .i64 t, .slice A1 p.length c1]) (by simp [results, Tryd.results53, go_sem, r0, r1, r2]) rfl ?_
    have h9 : ∀ (W : World) (b i : Nat) (u : Value), b < w1.heap.size + 1 → b ≠ w1.heap.size + 5 → Own W W0.heap.size (.slice A1 p.length c1) p → (∀ k ∈ (Value.slice A1 p.length c1).ownBlock.toList, b ≠ k) → Own (W.setCell ⟨b, i, none⟩ u) W0.heap.size (.slice A1 p.length c1) p := fun W b i u _ _ h hne => h.heap (fun k hk => Below.heap_setCell _ _ _ _ (fun e => hne k hk (by simpa using e.symm)))
    have hA : ∀ k ∈ (Value.slice A1 p.length c1).ownBlock.toList, w.heap.size ≠ k := fun k hk => by have h1 := HRG.out k hk; omega
    have hB : ∀ k ∈ (Value.slice A1 p.length c1).ownBlock.toList, w1.heap.size ≠ k := fun k hk => by have h1 := HRG.out k hk; omega
    exact ⟨a, t, .slice A1 p.length c1, p, rfl, ha, ⟨ht0, ht1⟩, (h9 _ _ _ _ (by omega) (by omega) (h9 _ _ _ _ (by omega) (by omega) (h9 _ _ _ _ (by omega) (by omega) (h9 _ _ _ _ (by omega) (by omega) hown3 hB) hA) hA) hA).mono (by omega), by omega,
      ((((hc3.setNew (b := w1.heap.size) (by omega) 1 _).setNew (b := w.heap.size) (by omega) 0 _).setNew (b := w.heap.size) (by omega) 1 _).setNew (b := w.heap.size) (by omega) 2 _).mono (by omega),
      (((ho3.setNew (b := w1.heap.size) (by omega) 1 _).setNew (Nat.le_refl _) 0 _).setNew (Nat.le_refl _) 1 _).setNew (Nat.le_refl _) 2 _⟩
  by_cases q2 : x = 2
  · subst q2
    clear r0 r1 r2 g0 g1 g2 e0 e1 e2 hlt hlt2
    go_wp2_with fail
    refine (badText_any g (N + 60 + 1) 9 _ (by omega) (by omega) (by exact hc2)).mono ?_
    rintro e w3 ⟨v3, l3, rfl, hown3, hl3, hc3, ho3⟩
    obtain ⟨A3, c3, rfl, _, _, _⟩ := hown3.form
    have bR := bR.only ho3 (by omega)
    have bE := bE.only ho3 (by omega)
    have hz2 := bE0.lt
    have hz22 := bR0.lt
    have ho3 := ho2.trans ho3
    have r0 := bR.c0
    have r1 := bR.c1
    have r2 := bR.c2
    have g0 := bR.f 0
    have g1 := bR.f 1
    have g2 := bR.f 2
    have e0 := bE.c0
    have e1 := bE.c1
    have e2 := bE.c2
    have f0 := bE.f 0
    have f1 := bE.f 1
    have f2 := bE.f 2
    have hlt := bR.lt
    have hlt2 := bE.lt
    go_wp2
    refine bodyPost_ret (v := .agg #[.int .i64 a, .int .i64 m, .slice A3 l3.length c3]) (by simp [results, Tryd.results53, go_sem, r0, r1, r2]) rfl ?_
    have h9 : ∀ (W : World) (b i : Nat) (u : Value), b < w2.heap.size → Own W w2.heap.size (.slice A3 l3.length c3) l3 → Own (W.setCell ⟨b, i, none⟩ u) w2.heap.size (.slice A3 l3.length c3) l3 := fun W b i u hb h => h.setBelow (by simpa using hb) u
    exact ⟨a, m, .slice A3 l3.length c3, l3, rfl, ha, hm, (h9 _ _ _ _ (by omega) (h9 _ _ _ _ (by omega) (h9 _ _ _ _ (by omega) (h9 _ _ _ _ (by omega) hown3)))).mono (by omega), by omega,
      ((((hc3.setNew (b := w1.heap.size) (by omega) 2 _).setNew (b := w.heap.size) (by omega) 0 _).setNew (b := w.heap.size) (by omega) 1 _).setNew (b := w.heap.size) (by omega) 2 _).mono (by omega),
      (((ho3.setNew (b := w1.heap.size) (by omega) 2 _).setNew (Nat.le_refl _) 0 _).setNew (Nat.le_refl _) 1 _).setNew (Nat.le_refl _) 2 _⟩
  by_cases q3 : x = 3
  · subst q3
    clear r0 r1 r2 g0 g1 g2 e0 e1 e2 hlt hlt2
    go_wp2_with fail
    refine (pick_any g (N + 60 + 1) 3 _ (by omega) (by omega) (by exact hc2)).mono ?_
    rintro e w4 ⟨y, rfl, hy0, hy1, hc4, ho4⟩
    have bR := bR.only ho4 (by omega)
    have bE := bE.only ho4 (by omega)
    have ho4 := ho2.trans ho4
    obtain ⟨n, hn⟩ : ∃ n : Nat, 400 - (l.length : Int) + y = (n : Int) := ⟨(400 - (l.length : Int) + y).toNat, by omega⟩
    have hn4 : n ≤ 402 := by omega
    have hmk : ∀ W, (Instr.makeSlice 22 (.int .i64 (400 - (l.length : Int) + y)) (.int .i64 (400 - (l.length : Int) + y))).run Tryd.prog W = .ok (.slice (some ⟨W.heap.size, 0, none⟩) n n) (W.alloc (.cells (madeCells #[.int .u8 0] n) 5)) := fun W => by
      rw [hn]
      have := run_mk (P := Tryd.prog) 22 5 (.int .u8 0) 1 1 Tryd.underlying22 Tryd.infoB n (by omega) (by omega) W
      rw [Nat.mul_one] at this
      exact this
    have t0 := bR.c0
    have t1 := bR.c1
    have t2 := bR.c2
    have s0 := bR.f 0
    have s1 := bR.f 1
    have s2 := bR.f 2
    have o0 := bE.c0
    have o1 := bE.c1
    have o2 := bE.c2
    have p2 := bE.f 2
    have hq1 := bE.lt
    have hq2 := bR.lt
    have hz4 := ho4.size
    have HN := Lib.hid hn
    clear hn
    go_wp2
    have bR5 := ((((EBox.mk (bR.blk.setFar (d := w1.heap.size) (by omega) 2 (.slice (some ⟨w4.heap.size, 0, none⟩) n n))).set0 a).set1 m).set2 (some ⟨w4.heap.size, 0, none⟩) n n).below ((Below.refl _ _).alloc (Nat.le_refl _) (.cells (madeCells #[.int .u8 0] n) 5))
    have u0 := bR5.c0
    have u1 := bR5.c1
    have u2 := bR5.c2
    refine bodyPost_ret (v := .agg #[.int .i64 a, .int .i64 m, .slice (some ⟨w4.heap.size, 0, none⟩) n n]) (by simp [results, Tryd.results53, go_sem, u0, u1, u2]) rfl ?_
    clear u0 u1 u2 bR5
    have hc5 := (((hc4.setNew (b := w1.heap.size) (by omega) 2 (.slice (some ⟨w4.heap.size, 0, none⟩) n n)).setNew (b := w.heap.size) (by omega) 0 (.int .i64 a)).setNew (b := w.heap.size) (by omega) 1 (.int .i64 m)).setNew (b := w.heap.size) (by omega) 2 (.slice (some ⟨w4.heap.size, 0, none⟩) n n)
    have ho5 := (((ho4.setNew (b := w1.heap.size) (by omega) 2 (.slice (some ⟨w4.heap.size, 0, none⟩) n n)).setNew (Nat.le_refl _) 0 (.int .i64 a)).setNew (Nat.le_refl _) 1 (.int .i64 m)).setNew (Nat.le_refl _) 2 (.slice (some ⟨w4.heap.size, 0, none⟩) n n)
    have hsz5 : ((((w4.setCell ⟨w1.heap.size, 2, none⟩ (.slice (some ⟨w4.heap.size, 0, none⟩) n n)).setCell ⟨w.heap.size, 0, none⟩ (.int .i64 a)).setCell ⟨w.heap.size, 1, none⟩ (.int .i64 m)).setCell ⟨w.heap.size, 2, none⟩ (.slice (some ⟨w4.heap.size, 0, none⟩) n n)).heap.size = w4.heap.size := by simp
    generalize (((w4.setCell ⟨w1.heap.size, 2, none⟩ (.slice (some ⟨w4.heap.size, 0, none⟩) n n)).setCell ⟨w.heap.size, 0, none⟩ (.int .i64 a)).setCell ⟨w.heap.size, 1, none⟩ (.int .i64 m)).setCell ⟨w.heap.size, 2, none⟩ (.slice (some ⟨w4.heap.size, 0, none⟩) n n) = W5 at *
    have hown5 := own_zeros W5 n (by omega)
    rw [hsz5] at hown5
    exact ⟨a, m, .slice (some ⟨w4.heap.size, 0, none⟩) n n, List.replicate n 0, rfl, ha, hm, hown5.mono (by omega), by rw [List.length_replicate]; omega, (hc5.alloc _).mono (by omega), ho5.trans (Only.of_below ((Below.refl _ _).alloc (Nat.le_refl _) _))⟩
  have b0 : (x == 0) = false := by simpa using q0
  have b1 : (x == 1) = false := by simpa using q1
  have b2 : (x == 2) = false := by simpa using q2
  have b3 : (x == 3) = false := by simpa using q3
  go_wp2
  refine bodyPost_ret (v := .agg #[.int .i64 a, .int .i64 m, .slice A1 p.length c1]) (by simp [results, Tryd.results53, go_sem, r0, r1, r2]) rfl ?_
  have h9 : ∀ (W : World) (b i : Nat) (u : Value), b < W0.heap.size → Own W W0.heap.size (.slice A1 p.length c1) p → Own (W.setCell ⟨b, i, none⟩ u) W0.heap.size (.slice A1 p.length c1) p := fun W b i u hb h => h.setBelow (by simpa using hb) u
  exact ⟨a, m, .slice A1 p.length c1, p, rfl, ha, hm, (h9 _ _ _ _ hsW0 (h9 _ _ _ _ hsW0 (h9 _ _ _ _ hsW0 hown2))).mono (by omega), by omega,
    (((hc2.setNew (b := w.heap.size) (by omega) 0 _).setNew (b := w.heap.size) (by omega) 1 _).setNew (b := w.heap.size) (by omega) 2 _).mono (by omega),
    ((ho2.setNew (Nat.le_refl _) 0 _).setNew (Nat.le_refl _) 1 _).setNew (Nat.le_refl _) 2 _⟩
end Go.Proofs.YtkplfbhblbinaaaDoor

namespace Go.Proofs.YtkplfbhblbinaaaDoor
open Go.RowKit P
set_option linter.unusedVariables false
set_option linter.unusedSimpArgs false
set_option maxRecDepth 100000

/-- What a draw of a text and an edit ends in. -/
def DrawsTE (w : World) (e : Ending) (w' : World) : Prop :=
  ∃ A l c a m B p d, e = .returned (.tuple #[.slice A l.length c, .agg #[.int .i64 a, .int .i64 m, .slice B p.length d]]) ∧ l.length ≤ 401 ∧ l.length ≤ c ∧ c ≤ 9223372036854775807 ∧ Pl A c ∧ Bs w' A l ∧
    (-9223372036854775808 ≤ a ∧ a ≤ 9223372036854775807) ∧ (-9223372036854775808 ≤ m ∧ m ≤ 9223372036854775807) ∧ p.length ≤ 500 ∧ p.length ≤ d ∧ d ≤ 9223372036854775807 ∧ Pl B d ∧ Bs w' B p ∧ Below w.heap.size w w'

set_option maxHeartbeats 8000000 in
theorem drawEditBack_any (A : Option Addr) (l : List UInt8) (c : Nat) (w : World) (hl : l.length ≤ 1048576) (hA : Bs w A l) :
    Calls Tryd.prog 13 #[.slice A l.length c] w (DrawsTE w) := by
  have hal := (Below.refl w.heap.size w).alloc (Nat.le_refl _) (.cells #[.int .i64 0, .int .i64 0, .slice none 0 0] 25)
  have bR := EBox.new w 0 0 none 0 0
  have hA0 := hA.below hal
  have hz0 : (w.alloc (.cells #[.int .i64 0, .int .i64 0, .slice none 0 0] 25)).heap.size = w.heap.size + 1 := by simp
  go_enter Tryd.func13, Tryd.ntmps13
  go_wp2_with fail
  generalize w.alloc (.cells #[.int .i64 0, .int .i64 0, .slice none 0 0] 25) = W0 at *
  refine (l01Open_any A l c _ hl (by exact hA0)).mono ?_
  rintro e w1 ⟨rfl, hc0, hb0⟩
  obtain ⟨g, hg⟩ : ∃ g, W0.heap.size = g := ⟨_, rfl⟩
  rw [hg] at hc0 hz0 ⊢
  have hwg : w.heap.size < g := by omega
  have bR1 := bR.below hb0
  have hb1 := hal.trans (hb0.mono (by omega))
  have hs0 := hb0.size
  have hgl := hc0.lt
  have hs1 : w.heap.size + 1 ≤ w1.heap.size := by omega
  clear hA0 hal bR hz0 hg
  go_wp2_with fail
  refine (text_any g 0 40 _ (by omega) (by omega) (by exact hc0)).mono ?_
  rintro e w2 ⟨v2, t, rfl, hown2, ht, hc2, ho2⟩
  obtain ⟨A2, c2, rfl, hlc2, hcm2, hB2, hp1, hp2⟩ := own_plain9 hown2
  have bR2 := bR1.only ho2 (by omega)
  have hb2 := hb1.trans (ho2.below w.heap.size (by omega) (by omega))
  clear hc0 hb0 bR1 hb1
  go_wp2_with fail
  refine (badEdit_any g (0 + 1 + 3 * 40) A2 t c2 _ (by omega) (by omega) hlc2 hcm2 (by exact hc2) (by exact hB2)).mono ?_
  rintro e w3 ⟨a, m, v3, p, rfl, ha, hm, hown3, hp5, hc3, ho3⟩
  obtain ⟨A3, c3, rfl, hlc3, hcm3, hB3, hq1, hq2⟩ := own_plain9 hown3
  have bR3 := bR2.only ho3 (by omega)
  have hown2 := hown2.only ho3 (by omega)
  have hs2 := ho2.size
  have hs3 := ho3.size
  have hb3 := hb2.trans (ho3.below w.heap.size (by omega) (by omega))
  have r0 := bR3.c0
  have r1 := bR3.c1
  have r2 := bR3.c2
  have g0 := bR3.f 0
  have g1 := bR3.f 1
  have g2 := bR3.f 2
  have hlt := bR3.lt
  go_wp2
  refine bodyPost_ret (v := .tuple #[.slice A2 t.length c2, .agg #[.int .i64 a, .int .i64 m, .slice A3 p.length c3]]) (by simp [results, Tryd.results13, go_sem, r0, r1, r2]) rfl ?_
  have h9 : ∀ (W : World) (B : Nat) (v : Value) (l : List UInt8) (i : Nat) (u : Value), w.heap.size < B → Own W B v l → Own (W.setCell ⟨w.heap.size, i, none⟩ u) B v l := fun W B v l i u hb h => h.setBelow (by simpa using hb) u
  have o2 := h9 _ _ _ _ 2 (.slice A3 p.length c3) (by omega) (h9 _ _ _ _ 1 (.int .i64 m) (by omega) (h9 _ _ _ _ 0 (.int .i64 a) (by omega) hown2))
  have o3 := h9 _ _ _ _ 2 (.slice A3 p.length c3) (by omega) (h9 _ _ _ _ 1 (.int .i64 m) (by omega) (h9 _ _ _ _ 0 (.int .i64 a) (by omega) hown3))
  refine ⟨A2, t, c2, a, m, A3, p, c3, rfl, by omega, hlc2, hcm2, by unfold Pl; exact ⟨hp1, hp2⟩, ?_, ha, hm, hp5, hlc3, hcm3, by unfold Pl; exact ⟨hq1, hq2⟩, ?_, ((hb3.setCell (Nat.le_refl _) _).setCell (Nat.le_refl _) _).setCell (Nat.le_refl _) _⟩
  · obtain ⟨_, _, e9, _, _, hB⟩ := o2.form
    cases e9
    exact hB
  · obtain ⟨_, _, e9, _, _, hB⟩ := o3.form
    cases e9
    exact hB

set_option maxHeartbeats 2000000 in
theorem sameEdit_any (a m : Int) (A B : Option Addr) (l : List UInt8) (c d : Nat) (w : World) (hA : Bs w A l) (hB : Bs w B l) :
    Calls Tryd.prog 16 #[.agg #[.int .i64 a, .int .i64 m, .slice A l.length c], .agg #[.int .i64 a, .int .i64 m, .slice B l.length d]] w fun e w' => e = .returned (.bool true) ∧ Below w.heap.size w w' := by
  have hb0 := (((Below.refl w.heap.size w).alloc (Nat.le_refl _) (.cells #[.int .i64 a, .int .i64 m, .slice A l.length c] 25))).alloc (by simp) (.cells #[.int .i64 a, .int .i64 m, .slice B l.length d] 25)
  have e1 : (a == a) = true := by simp
  have e2 : (m == m) = true := by simp
  have hc1 := run_conv_bs c l.length rfl (hA.below hb0)
  have hc2 := run_conv_bs d l.length rfl (hB.below hb0)
  go_enter Tryd.func16, Tryd.ntmps16
  go_wp2
  go_ret
  exact ⟨rfl, hb0⟩

set_option maxHeartbeats 1000000 in
theorem bytesOf_any (A : Option Addr) (l : List UInt8) (n c : Nat) (w : World) (hn : n = l.length) (hl : l.length ≤ 1000000) (hA : Bs w A l) :
    Calls Tryd.prog 19 #[.slice A n c] w (Makes w l) := by
  have hown0 : Own (w.alloc (.cells #[] 5)) w.heap.size (.slice (some ⟨w.heap.size, 0, none⟩) 0 0) [] := World.ownsRow_made w #[] 0 (Nat.le_refl _) (by unfold maxLen; omega) rfl
  have hal := (Below.refl w.heap.size w).alloc (Nat.le_refl _) (.cells #[] 5)
  have hA0 := hA.below hal
  go_enter Tryd.func19, Tryd.ntmps19
  go_wp2_with (at_builtin; go_must (refine wpList_app_bytes rfl _ _ rfl w.heap.size _ [] l A n c rfl rfl hn hown0 hA0 ?c1 ?c2 ?_))
  case c1 => simp; omega
  case c2 => simp
  intro v4 w4 hown4 hg4 _
  have hb4 := hal.grown hg4 (by simp) (fun x hx => (World.ownsRow.lt hown0 x hx).1)
  go_wp2
  go_ret
  exact ⟨_, rfl, hown4, hb4⟩
end Go.Proofs.YtkplfbhblbinaaaDoor

/-
  Lists of edits in memory: reading, owning, drawn. Own work.
-/
namespace Go.Proofs.YtkplfbhblbinaaaDoor
open Go.RowKit P
set_option linter.unusedVariables false
set_option linter.unusedSimpArgs false
set_option maxRecDepth 100000

/-- The slice of edits that starts at A. -/
def Es (w : World) (A : Option Addr) (es : List Ed) : Prop := Sl 3 Lay.edit.rd w A es
theorem Es.below {w w' : World} {A : Option Addr} {es : List Ed} (h : Es w A es) (hb : Below w.heap.size w w') : Es w' A es := Sl.below (E := Lay.edit) h hb
theorem Es.at_ {w : World} {A : Option Addr} {es : List Ed} (h : Es w A es) (k : Nat) (hk : k < es.length) :
    ∃ b off a m B p d, A = some ⟨b, off, none⟩ ∧ b < w.heap.size ∧ es[k] = (a, m, p) ∧ w.cell? ⟨b, off + k * 3, none⟩ = some (.int .i64 a) ∧ w.cell? ⟨b, off + k * 3 + 1, none⟩ = some (.int .i64 m) ∧ w.cell? ⟨b, off + k * 3 + 2, none⟩ = some (.slice B p.length d) ∧
      (-9223372036854775808 ≤ a ∧ a ≤ 9223372036854775807) ∧ (-9223372036854775808 ≤ m ∧ m ≤ 9223372036854775807) ∧ p.length ≤ d ∧ d ≤ maxLen ∧ Bs w B p := by
  obtain ⟨b, off, us, hA, hlt, hus, hc, hr⟩ := h k hk
  obtain ⟨⟨a, m, p⟩, he⟩ : ∃ e, es[k] = e := ⟨_, rfl⟩
  rw [he] at hr
  obtain ⟨c1, c2, rfl, ⟨rfl, ha⟩, c3, c4, rfl, ⟨rfl, hm⟩, B, d, rfl, h1, h2, hB⟩ := hr
  refine ⟨b, off, a, m, B, p, d, hA, hlt, he, ?_, ?_, ?_, ha, hm, h1, h2, hB⟩
  · have := hc 0 (by simp); simpa using this
  · have := hc 1 (by simp); simpa [Nat.add_assoc] using this
  · have := hc 2 (by simp); simpa [Nat.add_assoc] using this

theorem Tryd.infoEd : (Tryd.prog.info? 25).map (fun i => (i.zero, i.size, i.bytes)) = some (some (.agg #[.int .i64 0, .int .i64 0, .slice none 0 0]), 3, 40) := by kernel_rfl

def Lay.edits : Lay (List Ed) := Lay.slice 25 Lay.edit

/-- What a draw of edits ends in. -/
def DrawsEs (g N n : Nat) (w : World) (e : Ending) (w' : World) : Prop :=
  ∃ v es fp, e = .returned v ∧ Lay.edits.ow w' [v] es fp ∧ fp.Nodup ∧ (∀ k ∈ fp, w.heap.size ≤ k) ∧ es.length ≤ n ∧ Cur w' g N ∧ Only g w w'

theorem Only.grownE {g : Nat} {a w w' : World} {v : Value} {l : List Ed} {fp : List Nat} (h : Only g a w) (how : Lay.edits.ow w [v] l fp) (hg : w.grownBy w' v.ownBlock) (hb : ∀ k ∈ fp, a.heap.size ≤ k) : Only g a w' :=
  ⟨hg.os.trans h.os, hg.tape.trans h.tape, hg.output.trans h.output, Nat.le_trans h.size hg.size, fun k hk hne => (hg.block k (Nat.lt_of_lt_of_le hk h.size) (fun e => by
      obtain ⟨es, _, _, _, e2⟩ := ow_one how
      have := hb k (by rw [e2, ← e]; simp)
      omega)).trans (h.block k hk hne)⟩
theorem Cur.grownE {g N : Nat} {w w' : World} {v : Value} {l : List Ed} {fp : List Nat} (h : Cur w g N) (how : Lay.edits.ow w [v] l fp) (hg : w.grownBy w' v.ownBlock) (hb : ∀ k ∈ fp, g < k) : Cur w' g N :=
  h.keep (fun k hk => hg.block k (by have := h.lt; omega) (fun e => by
    obtain ⟨es, _, _, _, e2⟩ := ow_one how
    have := hb k (by rw [e2, ← e]; simp)
    omega)) hg.size

/-- An edit of the call's own. -/
theorem own_edit {w : World} {base : Nat} {v : Value} {p : List UInt8} {a m : Int} (ha : -9223372036854775808 ≤ a ∧ a ≤ 9223372036854775807) (hm : -9223372036854775808 ≤ m ∧ m ≤ 9223372036854775807) (h : Own w base v p) :
    Lay.edit.ow w [.int .i64 a, .int .i64 m, v] (a, m, p) v.ownBlock.toList :=
  ⟨[.int .i64 a], [.int .i64 m, v], [], v.ownBlock.toList, rfl, ⟨rfl, ha, rfl⟩, ⟨[.int .i64 m], [v], [], v.ownBlock.toList, rfl, ⟨rfl, hm, rfl⟩, h.ow, rfl⟩, rfl⟩

theorem cell_new3 {w : World} {t : TypeId} {x y z : Value} : ∀ j u, ([x, y, z] : List Value)[j]? = some u → (w.alloc (.cells #[x, y, z] t)).cell? ((⟨w.heap.size, 0, none⟩ : Addr).add j) = some u := by
  intro j u hu
  rw [add_plain, Nat.zero_add]
  have h := (Blk.new w #[x, y, z] t).cell j
  rw [h]
  match j, hu with
  | 0, hu => simpa using hu
  | 1, hu => simpa using hu
  | 2, hu => simpa using hu
end Go.Proofs.YtkplfbhblbinaaaDoor

/-
  Chapter 5, EditsDo of the model and of the program: contracts. Own work.
  Chapter 5's draws: a list of edits that fit one behind the other. Own work.
-/
namespace Go.Proofs.YtkplfbhblbinaaaDoor
open Go.RowKit P
set_option linter.unusedVariables false
set_option linter.unusedSimpArgs false
set_option maxRecDepth 100000

/-- What a call ends in that makes bytes of its own, and counts. -/
def MakesN (l : List UInt8) (n : Int) (w : World) (e : Ending) (w' : World) : Prop := ∃ v, e = .returned (.tuple #[v, .int .i64 n]) ∧ Own w' w.heap.size v l ∧ Below w.heap.size w w'

theorem edsRun_step {t : List UInt8} {es : List Ed} {k : Nat} (hk : k < es.length) {a m : Int} {p : List UInt8} (he : es[k] = (a, m, p)) (hok : edOk t a m p = true) :
    edsRun t (es.drop k) = ((edsRun (edText t a m p) (es.drop (k + 1))).1, (edsRun (edText t a m p) (es.drop (k + 1))).2 + 1) := by
  rw [List.drop_eq_getElem_cons hk, he]
  show (if edOk t a m p = true then _ else _) = _
  rw [if_pos hok]
theorem edsRun_stop {t : List UInt8} {es : List Ed} {k : Nat} (hk : k < es.length) {a m : Int} {p : List UInt8} (he : es[k] = (a, m, p)) (hok : edOk t a m p = false) : edsRun t (es.drop k) = (t, 0) := by
  rw [List.drop_eq_getElem_cons hk, he]
  show (if edOk t a m p = true then _ else _) = _
  rw [if_neg (by rw [hok]; decide)]

/-- How far the edits have got: now is the text behind the first k of them. -/
structure EdRun (l : List UInt8) (es : List Ed) (k : Nat) (now : List UInt8) : Prop where
  t : (edsRun now (es.drop k)).1 = (edsRun l es).1
  n : (edsRun now (es.drop k)).2 + k = (edsRun l es).2
  x : isText now = true
theorem EdRun.start {l : List UInt8} (es : List Ed) (h : isText l = true) : EdRun l es 0 l := ⟨rfl, rfl, h⟩
theorem EdRun.step {l : List UInt8} {es : List Ed} {k : Nat} {now : List UInt8} (h : EdRun l es k now) (hk : k < es.length) {a m : Int} {p : List UInt8} (he : es[k] = (a, m, p)) (hok : edOk now a m p = true) : EdRun l es (k + 1) (edText now a m p) := by
  have h1 := h.t
  have h2 := h.n
  rw [edsRun_step hk he hok] at h1 h2
  exact ⟨h1, by simp only at h2; omega, edText_ok hok⟩
theorem EdRun.stop {l : List UInt8} {es : List Ed} {k : Nat} {now : List UInt8} (h : EdRun l es k now) (hk : k < es.length) {a m : Int} {p : List UInt8} (he : es[k] = (a, m, p)) (hok : edOk now a m p = false) : (edsRun l es).1 = now ∧ (edsRun l es).2 = k := by
  have h1 := h.t
  have h2 := h.n
  rw [edsRun_stop hk he hok] at h1 h2
  exact ⟨h1.symm, by simp only at h2; omega⟩
theorem EdRun.done {l : List UInt8} {es : List Ed} {k : Nat} {now : List UInt8} (h : EdRun l es k now) (hk : k = es.length) : (edsRun l es).1 = now ∧ (edsRun l es).2 = es.length := by
  have h1 := h.t
  have h2 := h.n
  rw [hk, List.drop_length] at h1 h2
  exact ⟨h1.symm, by simp only [edsRun] at h2; omega⟩

set_option maxHeartbeats 8000000 in
theorem specEditsDo_any (A : Option Addr) (l : List UInt8) (c : Nat) (B : Option Addr) (es : List Ed) (d : Nat) (w : World) (hl : l.length ≤ c) (hc9 : c ≤ 9223372036854775807) (hn9 : es.length ≤ 9223372036854775807) (hA : Bs w A l) (hE : Es w B es) :
    Calls Tryd.prog 31 #[.slice A l.length c, .slice B es.length d] w (MakesN (edsText l es) (edsN l es) w) := by
  obtain ⟨q, hq⟩ : ∃ q, isText l = q := ⟨_, rfl⟩
  have HQ := Lib.hid hq
  cases q
  · have e1 : edsText l es = [] := by unfold edsText; rw [hq]; rfl
    have e2 : edsN l es = -1 := by unfold edsN; rw [hq]; rfl
    rw [e1, e2]
    clear hq e1 e2
    go_enter Tryd.func31, Tryd.ntmps31
    go_wp2_with fail
    refine (specTextOk_any A l c _ hl hc9 (by exact hA)).mono ?_
    rintro e w1 ⟨rfl, hb1⟩
    rw [HQ.out]
    go_wp2
    go_ret2
    exact ⟨.slice none 0 0, rfl, Own.nil _ _, hb1⟩
  have e1 : edsText l es = (edsRun l es).1 := by unfold edsText; rw [hq]; rfl
  have e2 : edsN l es = ((edsRun l es).2 : Int) := by unfold edsN; rw [hq]; rfl
  have hl4 := isText_len hq
  have hst := Lib.hid (EdRun.start es hq)
  rw [e1, e2]
  clear hq e1 e2
  go_enter Tryd.func31, Tryd.ntmps31
  go_wp2_with fail
  refine (specTextOk_any A l c _ hl hc9 (by exact hA)).mono ?_
  rintro e w1 ⟨rfl, hb1⟩
  rw [HQ.out]
  have hown0 : Own (w1.alloc (.cells #[] 5)) w1.heap.size (.slice (some ⟨w1.heap.size, 0, none⟩) 0 0) [] := World.ownsRow_made w1 #[] 0 (Nat.le_refl _) (by unfold maxLen; omega) rfl
  have hal := (Below.refl w1.heap.size w1).alloc (Nat.le_refl _) (.cells #[] 5)
  have hA1 := (hA.below hb1).below hal
  have HAL := Lib.hid hal
  have HO0 := Lib.hid hown0
  clear hal hown0
  go_wp2_with (at_builtin; go_must (refine wpList_app_bytes rfl _ _ rfl w1.heap.size _ [] l A l.length c rfl rfl rfl HO0.out hA1 ?c1 ?c2 ?_))
  case c1 => simp; omega
  case c2 => simp
  intro v4 w4 hown4 hg4 _
  have hb4 := HAL.out.grown hg4 (by simp) (fun x hx => (World.ownsRow.lt HO0.out x hx).1)
  have hb4 := below_then hb1 hb4
  have hown4 := hown4.mono (base' := w.heap.size) hb1.size
  obtain ⟨A4, c4, rfl, hc4, hc49, hB4, hp4, hq4⟩ := own_plain9 hown4
  clear hA1 HAL HO0 hg4 hb1
  go_wp2
  go_loopw [6, 7] (fun at_ i wr => ∃ (k : Nat) (now : List UInt8) (A' : Option Addr) (c' : Nat), i = .int .i64 k ∧ k ≤ es.length ∧ at_ = .slice A' now.length c' ∧ Own wr w.heap.size (.slice A' now.length c') now ∧ Hid (EdRun l es k now) ∧ Below w.heap.size w wr) (fun _ i _ => es.length - (intOf i).toNat)
  case atStart => exact ⟨0, l, A4, c4, rfl, Nat.zero_le _, rfl, hown4, hst, hb4⟩
  case round =>
    obtain ⟨k, now, A', c', rfl, hk, rfl, hown, HR, hb⟩ := hrel
    by_cases hlt : k < es.length
    · obtain ⟨b, off, a, m, Bp, p, dp, rfl, hbl, hek, k0, k1, k2, ha, hm, hpd, hdm, hBp⟩ := (hE.below hb).at_ k hlt
      have hd9 : dp ≤ 9223372036854775807 := by unfold maxLen at hdm; omega
      obtain ⟨A5, c5, e5, hc5, hc59, hB5, hp5, hq5⟩ := own_plain9 hown
      simp only [Value.slice.injEq, true_and] at e5
      obtain ⟨rfl, rfl⟩ := e5
      have hPl : Pl A' c' := by unfold Pl; exact ⟨hp5, hq5⟩
      obtain ⟨z, hz⟩ : ∃ z, edOk now a m p = z := ⟨_, rfl⟩
      have HZ := Lib.hid hz
      have HEK := Lib.hid hek
      have hnl := isText_len HR.out.x
      clear hz hek
      go_wp2_with fail
      refine (specEditDo_any A' now c' a m Bp p dp _ hc5 hc59 hpd hd9 hPl (by exact hB5) (by exact hBp)).mono ?_
      rintro e w5 ⟨v5, rfl, hown5, hb5⟩
      rw [HZ.out]
      have hown' := hown.below hb5
      have hs5 := hb.size
      have hb := below_then hb hb5
      cases z
      · have hst := HR.out.stop hlt HEK.out HZ.out
        have HS := Lib.hid hst
        clear hst k0 k1 k2
        obtain ⟨A6, c6, rfl, _, _, _⟩ := hown5.form
        go_wp2
        go_ret2
        exact ⟨.slice A' now.length c', by rw [HS.out.2]; rfl, by rw [HS.out.1]; exact hown', hb⟩
      · have hst := HR.out.step hlt HEK.out HZ.out
        have hD : edDo now a m p = edText now a m p := by unfold edDo; rw [HZ.out, if_pos rfl]
        rw [hD] at hown5
        obtain ⟨nx, hnx⟩ : ∃ nx, edText now a m p = nx := ⟨_, rfl⟩
        rw [hnx] at hown5 hst
        have hown5 := hown5.mono (base' := w.heap.size) hs5
        have HS := Lib.hid hst
        obtain ⟨A6, c6, rfl, _, _, _⟩ := hown5.form
        clear hst hD hnx k0 k1 k2
        go_wp2
        go_roundw
        case rel => exact ⟨k + 1, nx, A6, c6, by go_num, by omega, rfl, hown5, HS, hb⟩
        case measure => simp [intOf]; omega
    · have e : k = es.length := by omega
      have hst := HR.out.done e
      have HS := Lib.hid hst
      clear hst e
      go_wp2
      go_ret2
      exact ⟨.slice A' now.length c', by rw [HS.out.2]; rfl, by rw [HS.out.1]; exact hown, hb⟩

set_option maxHeartbeats 8000000 in
theorem implEditsDo_any (A : Option Addr) (l : List UInt8) (c : Nat) (B : Option Addr) (es : List Ed) (d : Nat) (w : World) (hl : l.length ≤ c) (hc9 : c ≤ 9223372036854775807) (hn9 : es.length ≤ 9223372036854775807) (hT : Tab w) (hA : Bs w A l) (hE : Es w B es) :
    Calls Tryd.prog 32 #[.slice A l.length c, .slice B es.length d] w (MakesN (edsText l es) (edsN l es) w) := by
  obtain ⟨q, hq⟩ : ∃ q, isText l = q := ⟨_, rfl⟩
  have HQ := Lib.hid hq
  cases q
  · have e1 : edsText l es = [] := by unfold edsText; rw [hq]; rfl
    have e2 : edsN l es = -1 := by unfold edsN; rw [hq]; rfl
    rw [e1, e2]
    clear hq e1 e2
    go_enter Tryd.func32, Tryd.ntmps32
    go_wp2_with fail
    refine (textOk_any A l c _ hl hc9 (by exact hT) (by exact hA)).mono ?_
    rintro e w1 ⟨rfl, n1, rfl⟩
    rw [HQ.out]
    go_wp2
    go_ret2
    exact ⟨.slice none 0 0, rfl, Own.nil _ _, below_of_drewN w n1⟩
  have e1 : edsText l es = (edsRun l es).1 := by unfold edsText; rw [hq]; rfl
  have e2 : edsN l es = ((edsRun l es).2 : Int) := by unfold edsN; rw [hq]; rfl
  have hl4 := isText_len hq
  have hst := Lib.hid (EdRun.start es hq)
  rw [e1, e2]
  clear hq e1 e2
  go_enter Tryd.func32, Tryd.ntmps32
  go_wp2_with fail
  refine (textOk_any A l c _ hl hc9 (by exact hT) (by exact hA)).mono ?_
  rintro e w1 ⟨rfl, n1, rfl⟩
  rw [HQ.out]
  have hb1 := below_of_drewN w n1
  generalize w.drewN n1 = w1 at *
  go_wp2_with fail
  refine (bytesClone_opt A l l.length c _ rfl (by omega) (by exact hA.below hb1)).mono ?_
  rintro e w4 ⟨v4, rfl, hown4, hb4⟩
  have hb4 := below_then hb1 hb4
  have hown4 := hown4.mono (base' := w.heap.size) hb1.size
  obtain ⟨A4, c4, rfl, hc4, hc49, hB4, hp4, hq4⟩ := own_plain9 hown4
  clear hb1
  go_wp2
  go_loopw [6, 18] (fun at_ i wr => ∃ (k : Nat) (now : List UInt8) (A' : Option Addr) (c' : Nat), i = .int .i64 k ∧ k ≤ es.length ∧ at_ = .slice A' now.length c' ∧ Own wr w.heap.size (.slice A' now.length c') now ∧ Hid (EdRun l es k now) ∧ Below w.heap.size w wr) (fun _ i _ => es.length - (intOf i).toNat)
  case atStart => exact ⟨0, l, A4, c4, rfl, Nat.zero_le _, rfl, hown4, hst, hb4⟩
  case round =>
    obtain ⟨k, now, A', c', rfl, hk, rfl, hown, HR, hb⟩ := hrel
    by_cases hlt : k < es.length
    · obtain ⟨b, off, a, m, Bp, p, dp, rfl, hbl, hek, k0, k1, k2, ha, hm, hpd, hdm, hBp⟩ := (hE.below hb).at_ k hlt
      have hd9 : dp ≤ 9223372036854775807 := by unfold maxLen at hdm; omega
      obtain ⟨A5, c5, e5, hc5, hc59, hB5, hp5, hq5⟩ := own_plain9 hown
      simp only [Value.slice.injEq, true_and] at e5
      obtain ⟨rfl, rfl⟩ := e5
      have hPl : Pl A' c' := by unfold Pl; exact ⟨hp5, hq5⟩
      obtain ⟨z, hz⟩ : ∃ z, edOk now a m p = z := ⟨_, rfl⟩
      have HZ := Lib.hid hz
      have HEK := Lib.hid hek
      have hnl := isText_len HR.out.x
      clear hz hek
      have hal := (Below.refl wr.heap.size wr).alloc (Nat.le_refl _) (.cells #[.int .i64 a, .int .i64 m, .slice Bp p.length dp] 25)
      have bX := EBox.new wr a m Bp p.length dp
      have x0 := bX.c0
      have x1 := bX.c1
      have x2 := bX.c2
      have hB5 := hB5.below hal
      have hBp := hBp.below hal
      have hown := hown.below hal
      have hs4 := hal.size
      have hb' := below_then hb hal
      have hTb := hT.below hb'
      go_wp2_with fail
      refine (implEditDo_any A' now c' a m Bp p dp _ hc5 hc59 hpd hd9 hm.2 hPl (by exact hTb) (by exact hB5) (by exact hBp)).mono ?_
      rintro e w5 ⟨v5, rfl, hown5, hb5⟩
      rw [HZ.out]
      have hown' := hown.below hb5
      have hs5 := hb'.size
      have hb := below_then hb' hb5
      clear x0 x1 x2 hTb
      cases z
      · have hst := HR.out.stop hlt HEK.out HZ.out
        have HS := Lib.hid hst
        clear hst k0 k1 k2
        obtain ⟨A6, c6, rfl, _, _, _⟩ := hown5.form
        go_wp2
        go_ret2
        exact ⟨.slice A' now.length c', by rw [HS.out.2]; rfl, by rw [HS.out.1]; exact hown', hb⟩
      · have hst := HR.out.step hlt HEK.out HZ.out
        have hD : edDo now a m p = edText now a m p := by unfold edDo; rw [HZ.out, if_pos rfl]
        rw [hD] at hown5
        obtain ⟨nx, hnx⟩ : ∃ nx, edText now a m p = nx := ⟨_, rfl⟩
        rw [hnx] at hown5 hst
        have hown5 := hown5.mono (base' := w.heap.size) hs5
        have HS := Lib.hid hst
        obtain ⟨A6, c6, rfl, _, _, _⟩ := hown5.form
        clear hst hD hnx k0 k1 k2
        go_wp2
        go_roundw
        case rel => exact ⟨k + 1, nx, A6, c6, by go_num, by omega, rfl, hown5, HS, hb⟩
        case measure => simp [intOf]; omega
    · have e : k = es.length := by omega
      have hst := HR.out.done e
      have HS := Lib.hid hst
      clear hst e
      go_wp2
      go_ret2
      exact ⟨.slice A' now.length c', by rw [HS.out.2]; rfl, by rw [HS.out.1]; exact hown, hb⟩
end Go.Proofs.YtkplfbhblbinaaaDoor

namespace Go.Proofs.YtkplfbhblbinaaaDoor
open Go.RowKit P
set_option linter.unusedVariables false
set_option linter.unusedSimpArgs false
set_option maxRecDepth 100000

set_option maxHeartbeats 8000000 in
theorem edits_any (g N n : Nat) (A : Option Addr) (l : List UInt8) (c : Nat) (w : World) (hn : n ≤ 9) (hN : N ≤ 5000) (hl : l.length ≤ c) (hc9 : c ≤ 9223372036854775807) (hPl : Pl A c) (h : Cur w g N) (hA : Bs w A l) (hne : ∀ b off, A = some ⟨b, off, none⟩ → 0 < l.length → b ≠ g) :
    Calls Tryd.prog 61 #[.pointer (some ⟨g, 0, none⟩), .slice A l.length c, .int .i64 n] w (DrawsEs g (N + 1 + 60 * n) n w) := by
  have hglt := h.lt
  have how0 := Lay.slice_empty 25 Lay.edit w
  have hc0 := h.alloc (.cells #[] 25)
  have hA0 := hA.below ((Below.refl w.heap.size w).alloc (Nat.le_refl _) (.cells #[] 25))
  go_enter Tryd.func61, Tryd.ntmps61
  go_wp2_with fail
  refine (size_any g N _ _ (by omega) (by omega) (by omega) (by exact hc0)).mono ?_
  rintro e w1 ⟨x, rfl, hx0, hx1, hc1, ho1⟩
  obtain ⟨j0, rfl⟩ := Int.eq_ofNat_of_zero_le hx0
  have hj0 : j0 ≤ n := by omega
  have how1 := Lay.only Lay.edits how0 ho1 (by intro k hk; simp at hk; omega)
  have hA1 := ho1.bs hA0 hne
  have ho1' := ho1.of_alloc
  have hs1 := ho1'.size
  clear how0 ho1 hx0 hx1 hc0 hA hA0
  go_wp2
  go_loopw [1, 7, 8] (fun txt out kk wr => ∃ (j : Nat) (A' : Option Addr) (t : List UInt8) (c' : Nat) (L : List Ed) (v : Value) (fp : List Nat), kk = .int .i64 j ∧ out = v ∧ txt = .slice A' t.length c' ∧ t.length ≤ c' ∧ c' ≤ 9223372036854775807 ∧ Pl A' c' ∧ Bs wr A' t ∧ (∀ b off, A' = some ⟨b, off, none⟩ → 0 < t.length → b ≠ g) ∧ j ≤ n ∧ Lay.edits.ow wr [v] L fp ∧ fp.Nodup ∧ (∀ k ∈ fp, w.heap.size ≤ k) ∧ L.length ≤ n - j ∧ Cur wr g (N + 1 + 60 * (n - j)) ∧ Only g w wr) (fun _ _ kk _ => (intOf kk).toNat)
  case atStart => exact ⟨j0, A, l, c, [], _, _, rfl, rfl, rfl, hl, hc9, hPl, hA1, hne, hj0, how1, by simp, by simp, by simp, hc1.mono (by omega), ho1'⟩
  case round =>
    obtain ⟨j, A', t, c', L, v, fp, rfl, rfl, rfl, hl', hc9', hPl', hB, hne', hjn, how, hnd, hfp, hL, hcur, honly⟩ := hrel
    by_cases hj : 0 < j
    · go_wp2_with fail
      refine (edit_any g (N + 1 + 60 * (n - j)) A' t c' _ (by omega) hl' hc9' (by exact hcur) (by exact hB)).mono ?_
      rintro e w2 ⟨a, m, v2, p, rfl, ha, hm, hown2, hp5, hc2, ho2⟩
      obtain ⟨A2, c2, rfl, hp2, hc29, hP2, _, _⟩ := own_plain9 hown2
      have hB2 := ho2.bs hB hne'
      have how2 := Lay.only Lay.edits how ho2 (by intro k hk; have := hfp k hk; omega)
      have hlt2 := Lay.edits.lt how
      have hsz := honly.size
      have hsa := ho2.size
      have ho2 := honly.trans ho2
      have hs2 := ho2.size
      clear how honly hcur hB
      have hal := (Below.refl w2.heap.size w2).alloc (Nat.le_refl _) (.cells #[.int .i64 a, .int .i64 m, .slice A2 p.length c2] 25)
      have bE := EBox.new w2 a m A2 p.length c2
      have hsb := hal.size
      have hB2 := hB2.below hal
      have hP2 := hP2.below hal
      have e0 := bE.c0
      have e1 := bE.c1
      have e2 := bE.c2
      have how2 := Lay.edits.owBelow how2 hal
      have hown2 := hown2.below hal
      have hc2 := hc2.only_new hal
      have ho2 := ho2.trans (Only.of_below hal)
      obtain ⟨z, hz⟩ : ∃ z, edOk t a m p = z := ⟨_, rfl⟩
      have HZ := Lib.hid hz
      clear hz hal
      go_wp2_with fail
      generalize w2.alloc (.cells #[.int .i64 a, .int .i64 m, .slice A2 p.length c2] 25) = W2 at *
      refine (specEditDo_any A' t c' a m A2 p c2 _ hl' hc9' hp2 hc29 hPl' (by exact hB2) (by exact hP2)).mono ?_
      rintro e w3 ⟨v3, rfl, hown3, hb3⟩
      rw [HZ.out]
      obtain ⟨nx, hnx⟩ : ∃ nx, edDo t a m p = nx := ⟨_, rfl⟩
      rw [hnx] at hown3
      obtain ⟨A3, c3, rfl, hl3, hc39, hB3, hp3, hq3⟩ := own_plain9 hown3
      have hr3 := hown3.range
      have hgW := hc2.lt
      have hB2 := hB2.below hb3
      have hown2 := hown2.below hb3
      have how2 := Lay.edits.owBelow how2 hb3
      have hc3' := hc2.only_new hb3
      have ho3 := ho2.trans (Only.of_below hb3)
      have bE := bE.below hb3
      have hs3 := ho3.size
      clear hnx e0 e1 e2 hc2 ho2 hP2
      cases z
      · go_wp2
        go_roundw
        case rel => exact ⟨j - 1, A', t, c', L, _, fp, by go_num, rfl, rfl, hl', hc9', hPl', hB2, hne', by omega, how2, hnd, hfp, by omega, hc3'.mono (by omega), ho3⟩
        case measure => simp [intOf]; omega
      · have e0 := bE.c0
        have e1 := bE.c1
        have e2 := bE.c2
        have hal := (Below.refl w3.heap.size w3).alloc (Nat.le_refl _) (.cells #[.int .i64 a, .int .i64 m, .slice A2 p.length c2] 25)
        have how3 := Lay.edits.owBelow how2 hal
        have hown3e := own_edit ha hm (hown2.below hal)
        have hc4 := hc3'.only_new hal
        have ho4 := ho3.trans (Only.of_below hal)
        have hfp2 := hown2.fp
        have hL6 : L.length ≤ 1000000 := by omega
        have HO3 := Lib.hid (hown3.below hal)
        have HOW := Lib.hid how3
        have HOE := Lib.hid hown3e
        have HC4 := Lib.hid hc4
        have HO4 := Lib.hid ho4
        have hsA := World.size_alloc w3 (.cells #[.int .i64 a, .int .i64 m, .slice A2 p.length c2] 25)
        have HSA := Lib.hid hsA
        clear how3 hown3e hc4 ho4 hal hB3 hsA
        go_wp2_with (at_builtin; go_must (refine wpList_app_one rfl _ _ 43 rfl 25 Lay.edit (.agg #[.int .i64 0, .int .i64 0, .slice none 0 0]) 3 40 Tryd.underlying43 Tryd.infoEd rfl rfl (by decide) (by decide) _ L fp [.int .i64 a, .int .i64 m, .slice A2 p.length c2] (a, m, p) _ ⟨w3.heap.size, 0, none⟩ 1 rfl rfl HOW.out hnd HOE.out hfp2.1 wr.heap.size ?d1 ?d2 ?d3 hL6 ?_))
        case d1 => exact fun k hk => hlt2 k hk
        case d2 => exact fun k hk => hfp2.2 k hk
        case d3 => exact cell_new3
        intro v6 w6 fp6 how6 hn6 hf6 hg6
        have hc6 := HC4.out.grownE HOW.out hg6 (fun k hk => by have := hfp k hk; omega)
        have ho6 := HO4.out.grownE HOW.out hg6 hfp
        have hown6 := HO3.out.heap (w' := w6) (fun k hk => hg6.block k (by have h9 := (HO3.out.range k hk).2; exact h9) (fun e => by
          obtain ⟨es9, _, _, _, e9⟩ := ow_one HOW.out
          have h1 := hlt2 k (by rw [e9, ← e]; simp)
          have h2 := (HO3.out.range k hk).1
          omega))
        have hB6 := own_bs9 hown6
        have hne6 : ∀ b off, A3 = some ⟨b, off, none⟩ → 0 < nx.length → b ≠ g := fun b off e _ => by
          have h2 := (HO3.out.range b (by rw [e]; simp [Value.ownBlock])).1
          omega
        have hf6' : ∀ x ∈ fp6, w.heap.size ≤ x := fun x hx => by
          rcases hf6 x hx with h | h | h
          · exact hfp x h
          · have := hfp2.2 x (by simpa using h); omega
          · have := HSA.out; omega
        have hPl3 : Pl A3 c3 := by unfold Pl; exact ⟨hp3, hq3⟩
        clear hg6 hf6 hfp HOW HOE HO3 HC4 HO4 hown6 e0 e1 e2
        go_wp2
        go_roundw
        case rel => exact ⟨j - 1, A3, nx, c3, L ++ [(a, m, p)], _, fp6, by go_num, rfl, rfl, hl3, hc39, hPl3, hB6, hne6, by omega, how6, hn6, hf6', by rw [List.length_append, List.length_singleton]; omega, hc6.mono (by omega), ho6⟩
        case measure => simp [intOf]; omega
    · go_wp2
      go_ret
      exact ⟨_, L, fp, rfl, how, hnd, hfp, by omega, hcur.mono (by omega), honly⟩

/-- What a draw of two rows of bytes ends in. -/
def DrawsBB (w : World) (e : Ending) (w' : World) : Prop :=
  ∃ A l c B r d, e = .returned (.tuple #[.slice A l.length c, .slice B r.length d]) ∧ l.length ≤ 401 ∧ l.length ≤ c ∧ c ≤ 9223372036854775807 ∧ Pl A c ∧ Bs w' A l ∧ r.length ≤ 401 ∧ r.length ≤ d ∧ d ≤ 9223372036854775807 ∧ Pl B d ∧ Bs w' B r ∧ Below w.heap.size w w'

theorem edsText_len (t : List UInt8) (es : List Ed) : (edsText t es).length ≤ 400 := by
  unfold edsText
  split
  · rename_i h; exact isText_len (edsRun_text es t h)
  · simp

set_option maxHeartbeats 8000000 in
theorem drawEditOf_any (A : Option Addr) (l : List UInt8) (c : Nat) (w : World) (hl : l.length ≤ 1048576) (hA : Bs w A l) :
    Calls Tryd.prog 21 #[.slice A l.length c] w (DrawsBB w) := by
  go_enter Tryd.func21, Tryd.ntmps21
  go_wp2_with fail
  refine (l01Open_any A l c _ hl (by exact hA)).mono ?_
  rintro e w1 ⟨rfl, hc0, hb0⟩
  obtain ⟨g, hg⟩ : ∃ g, w.heap.size = g := ⟨_, rfl⟩
  have hwg : w.heap.size ≤ g := by omega
  have hs0 := hb0.size
  rw [hg] at hc0 ⊢
  clear hg
  have hgl := hc0.lt
  go_wp2_with fail
  refine (badText_any g 0 40 _ (by omega) (by omega) (by exact hc0)).mono ?_
  rintro e w2 ⟨v2, t, rfl, hown2, ht, hc2, ho2⟩
  obtain ⟨A2, c2, rfl, hlc2, hcm2, hB2, hp1, hp2⟩ := own_plain9 hown2
  have hPl2 : Pl A2 c2 := by unfold Pl; exact ⟨hp1, hp2⟩
  have hne2 : ∀ b off, A2 = some ⟨b, off, none⟩ → 0 < t.length → b ≠ g := fun b off e _ => by
    have h2 := (hown2.range b (by rw [e]; simp [Value.ownBlock])).1
    omega
  have hb2 := hb0.trans (ho2.below w.heap.size hwg hs0)
  have hs2 := ho2.size
  clear hc0 hb0
  go_wp2_with fail
  refine (edits_any g (0 + 5 + 3 * 40) 2 A2 t c2 _ (by omega) (by omega) hlc2 hcm2 hPl2 (by exact hc2) (by exact hB2) hne2).mono ?_
  rintro e w3 ⟨v3, es, fp, rfl, how3, hnd3, hfp3, hes3, hc3, ho3⟩
  obtain ⟨A3, c3, e3, hlc3, hcm3, hE3⟩ := Lay.edits.read how3
  cases e3
  have hown3 := hown2.only ho3 (by omega)
  have hB3 := ho3.bs hB2 hne2
  have hb3 := hb2.trans (ho3.below w.heap.size hwg (by omega))
  have hs3 := ho3.size
  clear hc2 hB2 hb2 how3
  go_wp2_with fail
  refine (specEditsDo_any A2 t c2 A3 es c3 _ hlc2 hcm2 (by omega) (by exact hB3) (by exact hE3)).mono ?_
  rintro e w4 ⟨v4, rfl, hown4, hb4⟩
  obtain ⟨u, hu⟩ : ∃ u, edsText t es = u := ⟨_, rfl⟩
  have hul : u.length ≤ 400 := by rw [← hu]; exact edsText_len t es
  rw [hu] at hown4
  obtain ⟨A4, c4, rfl, hlc4, hcm4, hB4, hp41, hp42⟩ := own_plain9 hown4
  have hPl4 : Pl A4 c4 := by unfold Pl; exact ⟨hp41, hp42⟩
  have hne4 : ∀ b off, A4 = some ⟨b, off, none⟩ → 0 < u.length → b ≠ g := fun b off e _ => by
    have h2 := (hown4.range b (by rw [e]; simp [Value.ownBlock])).1
    omega
  have hc4 := hc3.only_new hb4
  have hB3 := hB3.below hb4
  have hs4 := hb4.size
  have hb4 := hb3.trans (hb4.mono (by omega))
  clear hc3 hb3 hu
  go_wp2_with fail
  refine (once_any g (0 + 5 + 3 * 40 + 1 + 60 * 2) 5 _ (by omega) (by omega) (by omega) (by exact hc4)).mono ?_
  rintro e w5 ⟨q, rfl, hc5, ho5⟩
  have hB5 := ho5.bs hB3 hne2
  have hB54 := ho5.bs hB4 hne4
  have hb5 := hb4.trans (ho5.below w.heap.size hwg (by omega))
  have hs5 := ho5.size
  clear hc4 hb4
  cases q
  · go_wp2
    go_ret2
    exact ⟨A2, t, c2, A4, u, c4, rfl, by omega, hlc2, hcm2, hPl2, hB5, by omega, hlc4, hcm4, hPl4, hB54, hb5⟩
  · go_wp2_with fail
    refine (badText_any g (0 + 5 + 3 * 40 + 1 + 60 * 2 + 1) 30 _ (by omega) (by omega) (by exact hc5)).mono ?_
    rintro e w6 ⟨v6, u6, rfl, hown6, hu6, hc6, ho6⟩
    obtain ⟨A6, c6, rfl, hlc6, hcm6, hB6, hp61, hp62⟩ := own_plain9 hown6
    have hPl6 : Pl A6 c6 := by unfold Pl; exact ⟨hp61, hp62⟩
    have hB56 := ho6.bs hB5 hne2
    have hb6 := hb5.trans (ho6.below w.heap.size hwg (by omega))
    go_wp2
    go_ret2
    exact ⟨A2, t, c2, A6, u6, c6, rfl, by omega, hlc2, hcm2, hPl2, hB56, by omega, hlc6, hcm6, hPl6, hB6, hb6⟩
end Go.Proofs.YtkplfbhblbinaaaDoor

/-
  FnEditOf, its walk. Own work.
-/
namespace Go.Proofs.YtkplfbhblbinaaaDoor.fnEditOf
open Go.ChangeShapes Go.WideShapes Go.ChangeAt Go.RowKit P
set_option linter.unusedVariables false
set_option maxRecDepth 100000

set_option maxHeartbeats 8000000 in
theorem walk (A : Option Addr) (l : List UInt8) (c : Nat) (hc : l.length ≤ c) (hm : c ≤ maxLen) (w : World) (hB : Bs w A l) (hT : Tab w) :
    Calls Tryd.prog 4 #[.slice A l.length c] w fun e w' => e = .returned (.bool true) ∧ Below w.heap.size w w' := by
  by_cases hbig : 1048576 < l.length
  · have hb : decide (1048576 < l.length) = true := decide_eq_true hbig
    have HBG := Lib.hid hb
    clear hb hbig
    go_enter Tryd.func4, Tryd.ntmps4
    go_wp2_with (go_at_call 12; refine (big_any _ _ _ _).mono ?_; rintro e w' ⟨rfl, rfl⟩; rw [HBG.out])
    go_ret
    exact ⟨rfl, Below.refl _ _⟩
  have hl : l.length ≤ 1048576 := by omega
  have hb : decide (1048576 < l.length) = false := decide_eq_false hbig
  have HBG := Lib.hid hb
  clear hb hbig hc hm
  go_enter Tryd.func4, Tryd.ntmps4
  go_wp2_with fail
  refine (big_any _ _ _ _).mono ?_
  rintro e w0 ⟨rfl, rfl⟩
  rw [HBG.out]
  go_wp2_with fail
  refine (drawEditOf_any A l c _ hl (by exact hB)).mono ?_
  rintro e w1 ⟨A1, t, c1, B1, r, d1, rfl, ht4, hc1, hc19, hP1, hX1, hr4, hd1, hd19, hQ1, hY1, hb1⟩
  obtain ⟨z, hz⟩ : ∃ z, ofOk t r = z := ⟨_, rfl⟩
  obtain ⟨ra, hra⟩ : ∃ z, ofA t r = z := ⟨_, rfl⟩
  obtain ⟨rm, hrm⟩ : ∃ z, ofM t r = z := ⟨_, rfl⟩
  obtain ⟨R, hR⟩ : ∃ z, ofP t r = z := ⟨_, rfl⟩
  have hrmb : rm ≤ 9223372036854775807 := by rw [← hrm]; unfold ofM; split <;> omega
  have htx : z = true → edOk t ra rm R = true ∧ edText t ra rm R = r := fun h => by rw [← hra, ← hrm, ← hR]; exact of_text (hz.trans h)
  have hdf : z = true → rm ≠ 0 → R.length ≠ 0 → runeAt t ra ≠ runeAt R 0 := fun h h1 h2 => by
    rw [← hrm] at h1
    rw [← hR] at h2
    rw [← hra, ← hR]
    exact of_differ (hz.trans h) h1 h2
  have HZ := Lib.hid hz
  have HRA := Lib.hid hra
  have HRM := Lib.hid hrm
  have HR := Lib.hid hR
  have HTX := Lib.hid htx
  have HDF := Lib.hid hdf
  have hzz : (z != z) = false := by simp
  have hze : (z == z) = true := by simp
  clear hz hra hrm hR HBG htx hdf
  go_wp2_with fail
  refine (specEditOf_any A1 B1 t r c1 d1 _ hc1 hc19 hd1 hd19 hP1 hQ1 (by exact hX1) (by exact hY1)).mono ?_
  rintro e w2 ⟨v2, rfl, hown2, hb2⟩
  rw [HZ.out, HRA.out, HRM.out]
  rw [HR.out] at hown2
  obtain ⟨A2, c2, rfl, hc2, hc29, hB2, _, _⟩ := own_plain9 hown2
  have hal := (Below.refl w2.heap.size w2).alloc (Nat.le_refl _) (.cells #[.int .i64 ra, .int .i64 rm, .slice A2 R.length c2] 25)
  have bW := EBox.new w2 ra rm A2 R.length c2
  have hb3 := below_then hb2 hal
  have hX1 := hX1.below hb3
  have hY1 := hY1.below hb3
  have hB2 := hB2.below hal
  have hb1 := below_then hb1 hb3
  clear hal hb2 hb3 hown2
  go_wp2_with fail
  generalize w2.alloc (.cells #[.int .i64 ra, .int .i64 rm, .slice A2 R.length c2] 25) = W2 at *
  refine (implEditOf_any A1 B1 t r c1 d1 _ hc1 hc19 hd1 hd19 hP1 hQ1 (by exact hT.below hb1) (by exact hX1) (by exact hY1)).mono ?_
  rintro e w3 ⟨v3, rfl, hown3, hb3⟩
  rw [HZ.out, HRA.out, HRM.out]
  rw [HR.out] at hown3
  obtain ⟨A3, c3, rfl, hc3, hc39, hB3, hP3, hQ3⟩ := own_plain9 hown3
  have hal := (Below.refl w3.heap.size w3).alloc (Nat.le_refl _) (.cells #[.int .i64 ra, .int .i64 rm, .slice A3 R.length c3] 25)
  have bK := EBox.new w3 ra rm A3 R.length c3
  have hb4 := below_then hb3 hal
  have bW := bW.below hb4
  have hX1 := hX1.below hb4
  have hY1 := hY1.below hb4
  have hB2 := hB2.below hb4
  have hB3 := hB3.below hal
  have hb1 := below_then hb1 hb4
  clear hal hb3 hb4 hown3
  have u0 := bW.c0
  have u1 := bW.c1
  have u2 := bW.c2
  have v0 := bK.c0
  have v1 := bK.c1
  have v2 := bK.c2
  go_wp2_with fail
  generalize w3.alloc (.cells #[.int .i64 ra, .int .i64 rm, .slice A3 R.length c3] 25) = W3 at *
  refine (sameEdit_any ra rm A3 A2 R c3 c2 _ (by exact hB3) (by exact hB2)).mono ?_
  rintro e w4 ⟨rfl, hb4⟩
  have bK := bK.below hb4
  have bW := bW.below hb4
  have hX1 := hX1.below hb4
  have hY1 := hY1.below hb4
  have hB3 := hB3.below hb4
  have hB2 := hB2.below hb4
  have hb1 := below_then hb1 hb4
  clear u0 u1 u2 v0 v1 v2 hb4
  have u0 := bW.c0
  have u1 := bW.c1
  have u2 := bW.c2
  have v0 := bK.c0
  have v1 := bK.c1
  have v2 := bK.c2
  cases z
  · go_wp2_with fail
    refine (sameEdit_any ra rm A3 A2 R c3 c2 _ (by exact hB3) (by exact hB2)).mono ?_
    rintro e w5 ⟨rfl, hb5⟩
    have hb1 := below_then hb1 hb5
    go_wp2
    go_ret
    exact ⟨rfl, hb1⟩
  obtain ⟨g1, g2⟩ := HTX.out rfl
  have g3 : edDo t ra rm R = r := by unfold edDo; rw [g1, if_pos rfl]; exact g2
  have G1 := Lib.hid g1
  have G3 := Lib.hid g3
  have hPl3 : Pl A3 c3 := by unfold Pl; exact ⟨hP3, hQ3⟩
  clear g1 g2 g3 u0 u1 u2 HTX
  go_wp2_with fail
  refine (implEditDo_any A1 t c1 ra rm A3 R c3 _ hc1 hc19 hc3 hc39 hrmb hP1 (by exact hT.below hb1) (by exact hX1) (by exact hB3)).mono ?_
  rintro e w5 ⟨v5, rfl, hown5, hb5⟩
  rw [G1.out]
  rw [G3.out] at hown5
  obtain ⟨A5, c5, rfl, _, _, hB5⟩ := hown5.form
  have bK := bK.below hb5
  have hX1 := hX1.below hb5
  have hY1 := hY1.below hb5
  have hB3 := hB3.below hb5
  have hb1 := below_then hb1 hb5
  clear v0 v1 v2 hb5 hown5
  have v0 := bK.c0
  have v1 := bK.c1
  have v2 := bK.c2
  have hcv1 := run_conv_bs c5 r.length rfl hB5
  have hcv2 := run_conv_bs d1 r.length rfl hY1
  have hrr : (r != r) = false := by simp
  go_wp2_with fail
  refine (specRuneAt_any A1 t c1 ra _ hc1 hc19 (by exact hX1)).mono ?_
  rintro e w6 ⟨rfl, hb6⟩
  obtain ⟨x, hx⟩ : ∃ x, runeAt t ra = x := ⟨_, rfl⟩
  obtain ⟨y, hy⟩ : ∃ y, runeAt R 0 = y := ⟨_, rfl⟩
  have hxy : rm ≠ 0 → R.length ≠ 0 → (x != y) = true := fun h1 h2 => by rw [← hx, ← hy]; simpa using HDF.out (by trivial) h1 h2
  have HXY := Lib.hid hxy
  have HY := Lib.hid hy
  rw [hx]
  have bK := bK.below hb6
  have hB3 := hB3.below hb6
  have hb1 := below_then hb1 hb6
  clear hx hy hxy v0 v1 v2 hcv1 hcv2 hrr hb6
  have v0 := bK.c0
  have v1 := bK.c1
  have v2 := bK.c2
  by_cases h1 : rm = 0
  · have g1 : (rm == 0) = true := by simpa using h1
    have G := Lib.hid h1
    clear h1
    go_wp2
    go_ret
    exact ⟨rfl, hb1⟩
  have g1 : (rm == 0) = false := by simpa using h1
  by_cases h2 : R.length = 0
  · have g2 : ((R.length : Int) == 0) = true := by simp [h2]
    have G := Lib.hid h2
    clear h2
    go_wp2
    go_ret
    exact ⟨rfl, hb1⟩
  have g2 : ((R.length : Int) == 0) = false := by rw [beq_eq_false_iff_ne]; omega
  have hne := HXY.out h1 h2
  go_wp2_with fail
  refine (specRuneAt_any A3 R c3 0 _ hc3 hc39 (by exact hB3)).mono ?_
  rintro e w7 ⟨rfl, hb7⟩
  rw [HY.out]
  have hb1 := below_then hb1 hb7
  go_wp2
  go_ret
  exact ⟨rfl, hb1⟩

end Go.Proofs.YtkplfbhblbinaaaDoor.fnEditOf
