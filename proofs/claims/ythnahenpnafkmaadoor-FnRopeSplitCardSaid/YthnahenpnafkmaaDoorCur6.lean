/-
  The draws' cursor: lists of chunks, with faults, and the draw of FnChunkFor, of FnChunks: contracts. Own work.
  The draws' cursor: lists of chunks with faults, the draws of FnChunkFor and FnChunks: contracts. Own work.
  The draws of FnChunkFor and FnChunks: contracts. Own work.
-/
import Derived.Test.YthnahenpnafkmaaDoorCur
import Derived.Test.YthnahenpnafkmaaDoorSnoc
import Derived.Test.YthnahenpnafkmaaDoorBlk
import Derived.Test.YthnahenpnafkmaaDoorC02
import Derived.Test.YthnahenpnafkmaaDoorI02f
import Derived.Lib.SlBytesConst
namespace Go.Proofs.YthnahenpnafkmaaDoor
open Go.RowKit P
set_option linter.unusedVariables false

theorem cell_new6 {w : World} {t : TypeId} {u : Value} : ∀ j x, ([u] : List Value)[j]? = some x → (w.alloc (.cells #[u] t)).cell? ((⟨w.heap.size, 0, none⟩ : Addr).add j) = some x := by
  intro j x hx
  match j, hx with
  | 0, hx =>
    simp only [List.getElem?_cons_zero, Option.some.injEq] at hx
    subst hx
    rw [show (⟨w.heap.size, 0, none⟩ : Addr).add 0 = ⟨w.heap.size, 0, none⟩ from rfl, World.cell?_alloc_at _ _ _ _ rfl]
    rfl

/-- A slice of bytes that reads as l, and the block that it lies in. -/
def seenOw (w : World) (cs : List Value) (l : List UInt8) (fp : List Nat) : Prop := ∃ v, cs = [v] ∧ bRd w [v] l ∧ fp = v.ownBlock.toList ∧ ∀ k ∈ fp, k < w.heap.size

def Lay.seen : Lay (List UInt8) where
  sz := 1
  rd := bRd
  ow := seenOw
  len := by rintro w cs x ⟨A, c, rfl, _⟩; rfl
  one := by rintro w cs x ⟨A, c, rfl, _⟩ u hu; simp at hu; subst hu; rfl
  below := by rintro w w' cs x ⟨A, c, rfl, h1, h2, hB⟩ hb; exact ⟨A, c, rfl, h1, h2, hB.below hb⟩
  read := by rintro w cs x fp ⟨v, rfl, h, _⟩; exact h
  lt := by rintro w cs x fp ⟨v, rfl, _, _, h⟩; exact h
  kept := by
    rintro w w' cs x fp ⟨v, rfl, ⟨A, c, e, h1, h2, hB⟩, rfl, h4⟩ hk hs
    cases e
    refine ⟨_, rfl, ⟨A, c, rfl, h1, h2, hB.of_heap hs (fun b off hA _ => hk b (by rw [hA]; simp [Value.ownBlock]))⟩, rfl, fun k hkm => Nat.lt_of_lt_of_le (h4 k hkm) hs⟩

theorem Own.seen {w : World} {base : Nat} {v : Value} {l : List UInt8} (h : Own w base v l) : Lay.seen.ow w [v] l v.ownBlock.toList := by
  refine ⟨v, rfl, ?_, rfl, fun k hk => (h.range k hk).2⟩
  obtain ⟨A, c, rfl, h1, h2, h3⟩ := h.form
  exact ⟨A, c, rfl, h1, h2, h3⟩

/-- Chunks that can be read, and the blocks that they lie in. -/
def Lay.chunksS : Lay (List (List UInt8)) := Lay.slice 46 Lay.seen

theorem Lay.only {α : Type} (L : Lay α) {w w' : World} {g : Nat} {cs : List Value} {x : α} {fp : List Nat} (h : L.ow w cs x fp) (ho : Only g w w') (hg : ∀ k ∈ fp, g < k) : L.ow w' cs x fp :=
  L.kept h (fun k hk => ho.block k (L.lt h k hk) (fun e => by have := hg k hk; injection e with e; omega)) ho.size

/-- What a draw of chunks ends in: a list of the call's own of at most n chunks of at most m bytes each. -/
def DrawsC (g N n m : Nat) (w : World) (e : Ending) (w' : World) : Prop :=
  ∃ v L fp, e = .returned v ∧ Lay.chunksS.ow w' [v] L fp ∧ fp.Nodup ∧ (∀ k ∈ fp, w.heap.size ≤ k) ∧ L.length ≤ n ∧ (∀ c ∈ L, c.length ≤ m) ∧ Cur w' g N ∧ Only g w w'

theorem Only.grownC {g : Nat} {a w w' : World} {v : Value} {l : List (List UInt8)} {fp : List Nat} (h : Only g a w) (how : Lay.chunksS.ow w [v] l fp) (hg : w.grownBy w' v.ownBlock) (hb : ∀ k ∈ fp, a.heap.size ≤ k) : Only g a w' :=
  ⟨hg.os.trans h.os, hg.tape.trans h.tape, hg.output.trans h.output, Nat.le_trans h.size hg.size, fun k hk hne =>
    (hg.block k (Nat.lt_of_lt_of_le hk h.size) (fun e => by
      obtain ⟨es, _, _, _, e2⟩ := ow_one how
      have := hb k (by rw [e2, ← e]; simp)
      omega)).trans (h.block k hk hne)⟩

theorem Cur.grownC {g N : Nat} {w w' : World} {v : Value} {l : List (List UInt8)} {fp : List Nat} (h : Cur w g N) (how : Lay.chunksS.ow w [v] l fp) (hg : w.grownBy w' v.ownBlock) (hb : ∀ k ∈ fp, g < k) : Cur w' g N :=
  h.keep (fun k hk => hg.block k (by have := h.lt; omega) (fun e => by
    obtain ⟨es, _, _, _, e2⟩ := ow_one how
    have := hb k (by rw [e2, ← e]; simp)
    omega)) hg.size

set_option maxHeartbeats 2000000 in
theorem chunks_any (g N n : Nat) (w : World) (hn : n ≤ 100) (hN : N ≤ 10000) (h : Cur w g N) :
    Calls Tryd.prog 27 #[.pointer (some ⟨g, 0, none⟩), .int .i64 n] w (DrawsC g (N + 1 + 40 * n) n 12 w) := by
  have hglt := h.lt
  have how0 := Lay.slice_empty 46 Lay.seen w
  have hc0 := h.alloc (.cells #[] 46)
  go_enter Tryd.func27, Tryd.ntmps27
  go_wp2_with fail
  refine (size_any g N _ _ (by omega) (by omega) (by omega) (by exact hc0)).mono ?_
  rintro e w1 ⟨x, rfl, hx0, hx1, hc1, ho1⟩
  obtain ⟨j0, rfl⟩ := Int.eq_ofNat_of_zero_le hx0
  have hj0 : j0 ≤ n := by omega
  have how1 := Lay.only Lay.chunksS how0 ho1 (by intro k hk; simp at hk; omega)
  have ho1' := ho1.of_alloc
  have hs1 := ho1'.size
  clear how0 ho1 hx0 hx1 hc0
  go_wp2
  go_loopw [5, 6, 7] (fun out kk _ wr => ∃ (j : Nat) (L : List (List UInt8)) (v : Value) (fp : List Nat), kk = .int .i64 j ∧ out = v ∧ j ≤ n ∧ Lay.chunksS.ow wr [v] L fp ∧ fp.Nodup ∧ (∀ k ∈ fp, w.heap.size ≤ k) ∧ L.length ≤ n - j ∧ (∀ c ∈ L, c.length ≤ 12) ∧ Cur wr g (N + 1 + 40 * (n - j)) ∧ Only g w wr) (fun _ kk _ _ => (intOf kk).toNat)
  case atStart => exact ⟨j0, [], _, _, rfl, rfl, hj0, how1, by simp, by simp, by simp, by simp, hc1.mono (by omega), ho1'⟩
  case round =>
    obtain ⟨j, L, v, fp, rfl, rfl, hjn, how, hnd, hfp, hL, hLe, hcur, honly⟩ := hrel
    by_cases hj : 0 < j
    · go_wp2_with fail
      refine (text_any g (N + 1 + 40 * (n - j)) 12 _ (by omega) (by omega) (by exact hcur)).mono ?_
      rintro e w2 ⟨v2, X, rfl, hown2, hX, hc2, ho2⟩
      have how2 := Lay.only Lay.chunksS how ho2 (by intro k hk; have := hfp k hk; omega)
      have hlt2 := Lay.chunksS.lt how
      have hsz := honly.size
      have ho2 := honly.trans ho2
      have hs2 := ho2.size
      clear how honly hcur
      by_cases hX0 : (0 : Int) < (X.length : Int)
      · obtain ⟨A2, c2, rfl, _, _, _⟩ := hown2.form
        have hal := (Below.refl w2.heap.size w2).alloc (Nat.le_refl _) (.cells #[.slice A2 X.length c2] 46)
        have how3 := Lay.chunksS.owBelow how2 hal
        have hown3 : Own _ wr.heap.size (.slice A2 X.length c2) X := hown2.below hal
        have hc3 := hc2.only_new hal
        have ho3 := ho2.trans (Only.of_below hal)
        have hown3' := hown3.seen
        have hfp3 := hown3.fp
        have hL6 : L.length ≤ 1000000 := by omega
        clear how2 hown2 hc2 ho2 hal
        go_wp2_with (at_builtin; go_must (refine wpList_app_one rfl _ _ 24 rfl 46 Lay.seen (.agg #[.slice none 0 0]) 1 24 Tryd.underlying24 Tryd.infoCh rfl rfl (by decide) (by decide) _ L fp [.slice A2 X.length c2] X _ ⟨w2.heap.size, 0, none⟩ 1 rfl rfl how3 hnd hown3' hfp3.1 wr.heap.size ?d1 ?d2 ?d3 hL6 ?_))
        case d1 => exact hlt2
        case d2 => exact hfp3.2
        case d3 => exact cell_new6
        intro v6 w6 fp6 how6 hn6 hf6 hg6
        have hc6 := hc3.grownC how3 hg6 (fun k hk => by have := hfp k hk; omega)
        have ho6 := ho3.grownC how3 hg6 hfp
        have hf6' : ∀ x ∈ fp6, w.heap.size ≤ x := fun x hx => by
          rcases hf6 x hx with h | h | h
          · exact hfp x h
          · have := hown3.range x (by simpa using h); omega
          · omega
        clear how3 hown3 hown3' hfp3 hg6 hf6 hfp hc3 ho3
        go_wp2
        go_roundw
        case rel => exact ⟨j - 1, L ++ [X], v6, fp6, by go_num, rfl, by omega, how6, hn6, hf6', by rw [List.length_append, List.length_singleton]; omega, by
          intro c hc
          rcases List.mem_append.1 hc with hc | hc
          · exact hLe c hc
          · have : c = X := by simpa using hc
            rw [this]; exact hX, hc6.mono (by omega), ho6⟩
        case measure => simp [intOf]; omega
      · obtain ⟨A2, c2, rfl, _, _, _⟩ := hown2.form
        go_wp2
        go_roundw
        case rel => exact ⟨j - 1, L, _, fp, by go_num, rfl, by omega, how2, hnd, hfp, by omega, hLe, hc2.mono (by omega), ho2⟩
        case measure => simp [intOf]; omega
    · have hj0 : j = 0 := by omega
      subst hj0
      have hfin := hcur.mono (M := N + 1 + 40 * n) (by omega)
      go_wp2
      go_ret
      exact ⟨_, L, fp, rfl, how, hnd, hfp, by omega, hLe, hfin, honly⟩
end Go.Proofs.YthnahenpnafkmaaDoor

namespace Go.Proofs.YthnahenpnafkmaaDoor
open Go.RowKit P
set_option linter.unusedVariables false

theorem cell_newg {w : World} {t : TypeId} {u : Value} {g : Nat} (hg : g = w.heap.size) : ∀ j x, ([u] : List Value)[j]? = some x → (w.alloc (.cells #[u] t)).cell? ((⟨g, 0, none⟩ : Addr).add j) = some x := by
  subst hg; exact cell_new6

/-- The bytes of the text's constant, sixteen letters a. -/
theorem aRow (w : World) (f : Nat × Nat) : Lay.seen.ow (w.alloc (.cells #[.int .u8 97, .int .u8 97, .int .u8 97, .int .u8 97, .int .u8 97, .int .u8 97, .int .u8 97, .int .u8 97, .int .u8 97, .int .u8 97, .int .u8 97, .int .u8 97, .int .u8 97, .int .u8 97, .int .u8 97, .int .u8 97] 5 f)) [.slice (some ⟨w.heap.size, 0, none⟩) 16 16] (List.replicate 16 97) [w.heap.size] := by
  refine ⟨_, rfl, ⟨_, 16, rfl, by simp, by unfold maxLen; omega, fun k hk => ⟨w.heap.size, 0, rfl, by simp, ?_⟩⟩, rfl, by intro k hk; simp at hk; subst hk; simp⟩
  have hk' : k < 16 := by simpa using hk
  have hh : (w.alloc (.cells #[.int .u8 97, .int .u8 97, .int .u8 97, .int .u8 97, .int .u8 97, .int .u8 97, .int .u8 97, .int .u8 97, .int .u8 97, .int .u8 97, .int .u8 97, .int .u8 97, .int .u8 97, .int .u8 97, .int .u8 97, .int .u8 97] 5 f)).heap[w.heap.size]? = some (.cells #[.int .u8 97, .int .u8 97, .int .u8 97, .int .u8 97, .int .u8 97, .int .u8 97, .int .u8 97, .int .u8 97, .int .u8 97, .int .u8 97, .int .u8 97, .int .u8 97, .int .u8 97, .int .u8 97, .int .u8 97, .int .u8 97] 5 f) := heap_alloc_new w _
  rw [Nat.zero_add, cell_of_row _ w.heap.size k _ _ _ hh]
  simp only [List.getElem_replicate]
  clear hk hh
  match k, hk' with
  | 0, _ | 1, _ | 2, _ | 3, _ | 4, _ | 5, _ | 6, _ | 7, _ | 8, _ | 9, _ | 10, _ | 11, _ | 12, _ | 13, _ | 14, _ | 15, _ => rfl
  | k + 16, h => omega

set_option maxRecDepth 100000 in
set_option maxHeartbeats 4000000 in
theorem badChunks_any (g N n : Nat) (w : World) (hn : n ≤ 10) (hN : N ≤ 5000) (h : Cur w g N) :
    Calls Tryd.prog 31 #[.pointer (some ⟨g, 0, none⟩), .int .i64 n] w (DrawsC g (N + 1 + 40 * n + 130) (n + 30) 401 w) := by
  have hglt := h.lt
  have kc := fun (w : World) (C : Array Value) (n c : Nat) => Lib.run_convert_bytes_const (P := Tryd.prog) w 22 5 C n c Tryd.underlying22 Tryd.underlying5
  go_enter Tryd.func31, Tryd.ntmps31
  go_wp2_with fail
  refine (chunks_any g N n _ (by omega) (by omega) (by exact h)).mono ?_
  rintro e w1 ⟨v1, L, fp, rfl, how1, hnd, hfp, hL, hLe, hc1, ho1⟩
  obtain ⟨M, hM⟩ : ∃ M, N + 1 + 40 * n = M := ⟨_, rfl⟩
  rw [hM] at hc1
  have hM1 : M ≤ 6000 := by omega
  have HM := Lib.hid hM
  clear hM hN h
  go_wp2_with fail
  refine (pick_draws g M _ _ (by omega) (by omega) (by omega) (by exact hc1)).mono ?_
  rintro e w2 ⟨x, rfl, hx0, hx1, hc2, ho2⟩
  have how2 := Lay.only Lay.chunksS how1 ho2 (by intro k hk; have := hfp k hk; omega)
  have hsz1 := ho1.size
  have ho2 := ho1.trans ho2
  have hlt2 := Lay.chunksS.lt how2
  have hL6 : L.length ≤ 1000000 := by omega
  have hLe' : ∀ c ∈ L, c.length ≤ 401 := fun c hc => by have := hLe c hc; omega
  clear how1 hc1 ho1 hLe
  by_cases h0 : x = 0
  · subst h0
    go_wp2_with fail
    refine (badText_any g (M + 1) 30 _ (by omega) (by omega) (by exact hc2)).mono ?_
    rintro e w3 ⟨v3, X, rfl, hown3, hX, hc3, ho3⟩
    have how3 := Lay.only Lay.chunksS how2 ho3 (by intro k hk; have := hfp k hk; omega)
    have hs2 := ho2.size
    have ho3 := ho2.trans ho3
    have hs3 := ho3.size
    obtain ⟨A3, c3, rfl, _, _, _⟩ := hown3.form
    have hal := (Below.refl w3.heap.size w3).alloc (Nat.le_refl _) (.cells #[.slice A3 X.length c3] 46)
    have how4 := Lay.chunksS.owBelow how3 hal
    have hown4 : Own _ w2.heap.size (.slice A3 X.length c3) X := hown3.below hal
    have hc4 := hc3.only_new hal
    have ho4 := ho3.trans (Only.of_below hal)
    have hown4' := hown4.seen
    have hfp4 := hown4.fp
    clear how2 how3 hown3 hc2 hc3 ho2 ho3 hal
    go_wp2_with (at_builtin; go_must (refine wpList_app_one rfl _ _ 24 rfl 46 Lay.seen (.agg #[.slice none 0 0]) 1 24 Tryd.underlying24 Tryd.infoCh rfl rfl (by decide) (by decide) _ L fp [.slice A3 X.length c3] X _ ⟨w3.heap.size, 0, none⟩ 1 rfl rfl how4 hnd hown4' hfp4.1 w2.heap.size ?d1 ?d2 ?d3 hL6 ?_))
    case d1 => exact hlt2
    case d2 => exact hfp4.2
    case d3 => exact cell_new6
    intro v6 w6 fp6 how6 hn6 hf6 hg6
    have hc6 := hc4.grownC how4 hg6 (fun k hk => by have := hfp k hk; omega)
    have ho6 := ho4.grownC how4 hg6 hfp
    have hf6' : ∀ x ∈ fp6, w.heap.size ≤ x := fun x hx => by
      rcases hf6 x hx with h | h | h
      · exact hfp x h
      · have := hown4.range x (by simpa using h); omega
      · omega
    clear how4 hown4 hown4' hfp4 hg6 hf6 hfp hc4 ho4
    go_wp2
    go_ret
    exact ⟨_, L ++ [X], fp6, rfl, how6, hn6, hf6', by rw [List.length_append, List.length_singleton]; omega, by
      intro c hc
      rcases List.mem_append.1 hc with hc | hc
      · exact hLe' c hc
      · have : c = X := by simpa using hc
        rw [this]; exact hX, hc6.mono (by have := HM.out; omega), ho6⟩
  · have hx0' : (x == 0) = false := by simp [h0]
    by_cases h1 : x = 1
    · subst h1
      go_wp2
      go_loopw [5, 6] (fun out kk wr => ∃ (j : Nat) (L : List (List UInt8)) (v : Value) (fp : List Nat), kk = .int .i64 j ∧ out = v ∧ j ≤ 26 ∧ Lay.chunksS.ow wr [v] L fp ∧ fp.Nodup ∧ (∀ k ∈ fp, w.heap.size ≤ k) ∧ L.length ≤ n + j ∧ (∀ c ∈ L, c.length ≤ 401) ∧ Cur wr g (M + 1 + j) ∧ Only g w wr) (fun _ kk _ => 27 - (intOf kk).toNat)
      case atStart => exact ⟨0, L, _, fp, rfl, rfl, by omega, how2, hnd, hfp, by omega, hLe', hc2, ho2⟩
      case round =>
        obtain ⟨j, L, v, fp, rfl, rfl, hj, how, hnd, hfp, hL, hLe, hcur, honly⟩ := hrel
        go_wp2_with fail
        refine (pick_draws g (M + 1 + j) _ _ (by omega) (by omega) (by omega) (by exact hcur)).mono ?_
        rintro e w3 ⟨y, rfl, hy0, hy1, hc3, ho3⟩
        have how3 := Lay.only Lay.chunksS how ho3 (by intro k hk; have := hfp k hk; omega)
        have ho3 := honly.trans ho3
        have hs3 := ho3.size
        have hlt3 := Lay.chunksS.lt how3
        clear how honly hcur
        by_cases hlt : (j : Int) < 25 + y
        · have hL7 : L.length ≤ 1000000 := by omega
          have hown := aRow w3 (16, 16 + 1)
          have hal := (Below.refl w3.heap.size w3).alloc (Nat.le_refl _) (.cells #[.int .u8 97, .int .u8 97, .int .u8 97, .int .u8 97, .int .u8 97, .int .u8 97, .int .u8 97, .int .u8 97, .int .u8 97, .int .u8 97, .int .u8 97, .int .u8 97, .int .u8 97, .int .u8 97, .int .u8 97, .int .u8 97] 5 (16, 16 + 1))
          have hal2 := hal.alloc (by simp) (.cells #[.slice (some ⟨w3.heap.size, 0, none⟩) 16 16] 46)
          have how4 := Lay.chunksS.owBelow how3 hal2
          have hown4' := Lay.seen.owBelow hown ((Below.refl _ _).alloc (Nat.le_refl _) (.cells #[.slice (some ⟨w3.heap.size, 0, none⟩) 16 16] 46))
          have hc4 := hc3.only_new hal2
          have ho4 := ho3.trans (Only.of_below hal2)
          clear how3 hown hc3 ho3 hal hal2
          go_wp2_with (at_builtin; go_must (refine wpList_app_one rfl _ _ 24 rfl 46 Lay.seen (.agg #[.slice none 0 0]) 1 24 Tryd.underlying24 Tryd.infoCh rfl rfl (by decide) (by decide) _ L fp [.slice (some ⟨w3.heap.size, 0, none⟩) 16 16] (List.replicate 16 97) _ ⟨w3.heap.size + 1, 0, none⟩ 1 rfl rfl how4 hnd hown4' (by simp) w3.heap.size ?d1 ?d2 ?d3 hL7 ?_))
          case d1 => exact hlt3
          case d2 => intro x hx; simp at hx; omega
          case d3 => exact cell_newg (by simp)
          intro v6 w6 fp6 how6 hn6 hf6 hg6
          have hc6 := hc4.grownC how4 hg6 (fun k hk => by have := hfp k hk; omega)
          have ho6 := ho4.grownC how4 hg6 hfp
          have hf6' : ∀ x ∈ fp6, w.heap.size ≤ x := fun x hx => by
            rcases hf6 x hx with h | h | h
            · exact hfp x h
            · omega
            · omega
          clear how4 hown4' hg6 hf6 hfp hc4 ho4
          go_wp2
          go_roundw
          case rel => exact ⟨j + 1, L ++ [List.replicate 16 97], v6, fp6, by go_num, rfl, by omega, how6, hn6, hf6', by rw [List.length_append, List.length_singleton]; omega, by
            intro c hc
            rcases List.mem_append.1 hc with hc | hc
            · exact hLe c hc
            · have : c = List.replicate 16 97 := by simpa using hc
              rw [this]; simp, hc6.mono (by omega), ho6⟩
          case measure => simp [intOf]; omega
        · go_wp2
          go_ret
          exact ⟨_, L, fp, rfl, how3, hnd, hfp, by omega, hLe, hc3.mono (by have := HM.out; omega), ho3⟩
    · have hx1' : (x == 1) = false := by simp [h1]
      by_cases h2 : x = 2
      · subst h2
        have hown : Own w2 w2.heap.size (.slice none 0 0) [] := Own.nil _ _
        have hal := (Below.refl w2.heap.size w2).alloc (Nat.le_refl _) (.cells #[.slice none 0 0] 46)
        have how4 := Lay.chunksS.owBelow how2 hal
        have hown4 := hown.below hal
        have hc4 := hc2.only_new hal
        have ho4 := ho2.trans (Only.of_below hal)
        have hs2 := ho2.size
        have hown4' := hown4.seen
        have hfp4 := hown4.fp
        clear how2 hown hc2 ho2 hal
        go_wp2_with (at_builtin; go_must (refine wpList_app_one rfl _ _ 24 rfl 46 Lay.seen (.agg #[.slice none 0 0]) 1 24 Tryd.underlying24 Tryd.infoCh rfl rfl (by decide) (by decide) _ L fp [.slice none 0 0] [] _ ⟨w2.heap.size, 0, none⟩ 1 rfl rfl how4 hnd hown4' hfp4.1 w2.heap.size ?d1 ?d2 ?d3 hL6 ?_))
        case d1 => exact hlt2
        case d2 => exact hfp4.2
        case d3 => exact cell_new6
        intro v6 w6 fp6 how6 hn6 hf6 hg6
        have hc6 := hc4.grownC how4 hg6 (fun k hk => by have := hfp k hk; omega)
        have ho6 := ho4.grownC how4 hg6 hfp
        have hf6' : ∀ x ∈ fp6, w.heap.size ≤ x := fun x hx => by
          rcases hf6 x hx with h | h | h
          · exact hfp x h
          · simp [Value.ownBlock] at h
          · omega
        clear how4 hown4 hown4' hfp4 hg6 hf6 hfp hc4 ho4
        go_wp2
        go_ret
        exact ⟨_, L ++ [[]], fp6, rfl, how6, hn6, hf6', by rw [List.length_append, List.length_singleton]; omega, by
          intro c hc
          rcases List.mem_append.1 hc with hc | hc
          · exact hLe' c hc
          · have : c = [] := by simpa using hc
            rw [this]; simp, hc6.mono (by have := HM.out; omega), ho6⟩
      · have hx2' : (x == 2) = false := by simp [h2]
        go_wp2
        go_ret
        exact ⟨_, L, fp, rfl, how2, hnd, hfp, by omega, hLe', hc2.mono (by have := HM.out; omega), ho2⟩
end Go.Proofs.YthnahenpnafkmaaDoor

namespace Go.Proofs.YthnahenpnafkmaaDoor
open Go.RowKit P
set_option linter.unusedVariables false

/-- What a draw of chunks and an offset ends in. -/
def DrawsL (w : World) (e : Ending) (w' : World) : Prop :=
  ∃ A c L a, e = .returned (.tuple #[.slice A L.length c, .int .i64 a]) ∧ L.length ≤ c ∧ c ≤ maxLen ∧ Cs w' A L ∧ L.length ≤ 40 ∧ (∀ x ∈ L, x.length ≤ 401) ∧ -9223372036854775808 ≤ a ∧ a ≤ 9223372036854775807 ∧ Below w.heap.size w w'


end Go.Proofs.YthnahenpnafkmaaDoor
