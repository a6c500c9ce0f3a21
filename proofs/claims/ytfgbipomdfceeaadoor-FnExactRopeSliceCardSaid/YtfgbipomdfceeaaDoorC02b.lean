/-
  Chapter 2, the laws' helpers on slices of chunks: contracts, the second part. Own work.
-/
import Derived.Test.YtfgbipomdfceeaaDoorC02
namespace Go.Proofs.YtfgbipomdfceeaaDoor
open Go.RowKit P
set_option linter.unusedVariables false

set_option maxHeartbeats 1000000 in
theorem toChunkS_any (A : Option Addr) (ls : List (List UInt8)) (c : Nat) (w : World) (hn : ls.length + tot ls ≤ 1048576) (hC : Cs w A ls) :
    Calls Tryd.prog 84 #[.slice A ls.length c] w (Gives Lay.chunks wSlice ls w) := by
  have hmk : ∀ W, (Instr.makeSlice 24 (.int .i64 (ls.length : Int)) (.int .i64 (ls.length : Int))).run Tryd.prog W = .ok (.slice (some ⟨W.heap.size, 0, none⟩) ls.length ls.length) (W.alloc (.cells (madeCells #[.slice none 0 0] ls.length) 75)) := fun W => by
    have := run_mk (P := Tryd.prog) 24 75 (.agg #[.slice none 0 0]) 1 24 Tryd.underlying24 Tryd.infoCh ls.length (by omega) (by omega) W
    rw [Nat.mul_one] at this
    exact this
  go_enter Tryd.func84, Tryd.ntmps84
  go_wp2
  go_loopw [4] (fun i wr => ∃ es : List (El (List UInt8)), es.length ≤ ls.length ∧ i = .int .i64 es.length ∧ ls.take es.length = es.map (·.2.1) ∧
      Filling 75 Lay.bytes (fun _ => .slice none 0 0) ls.length wr w.heap.size es ∧ Below w.heap.size w wr)
    (fun i _ => ls.length - (intOf i).toNat)
  case atStart => exact ⟨[], Nat.zero_le _, rfl, by simp, Filling.made1 rfl _ _ _, (Below.refl _ _).alloc (Nat.le_refl _) _⟩
  case round =>
    obtain ⟨es, hk, rfl, htk, hfill, hbel⟩ := hrel
    have HTK := Lib.hid htk
    clear htk
    by_cases hlt : es.length < ls.length
    · obtain ⟨b, off, B, d, rfl, hbl, hc, hld, hdm, hB⟩ := (hC.below hbel).at_ es.length hlt
      have htot := tot_mem (ls := ls) es.length hlt
      have hnext : ls.take (es.length + 1) = es.map (·.2.1) ++ [ls[es.length]] := by rw [List.take_succ_eq_append_getElem hlt, HTK.out]
      generalize hL : ls[es.length] = L at *
      have HL := Lib.hid hL
      have HN := Lib.hid hnext
      clear hL hnext
      obtain ⟨k, hkk⟩ : ∃ k, es.length = k := ⟨_, rfl⟩
      have hlt' := hlt
      rw [hkk] at hc hlt' hk
      have HK := Lib.hid hkk
      rw [hkk]
      clear hkk
      have hw : w.heap.size < wr.heap.size := hfill.row.lt
      go_wp2_with fail
      refine (toChunk_any B L d _ (by omega) (by exact hB)).mono ?_
      rintro e w1 ⟨v, rfl, hown, hb1⟩
      have hrow1 := hfill.row.of_block (hb1.block _ hfill.row.lt)
      obtain ⟨u, hu⟩ : ∃ u, w1.cell? ⟨w.heap.size, k, none⟩ = some u := ⟨_, hrow1.cell (by show k < ls.length * 1; omega)⟩
      have hfz := hrow1.frozen k
      have hs1 := hb1.size
      have hfp := hown.fp
      obtain ⟨A', c', rfl, _, _, _⟩ := hown.form
      have hf2 := hfill.snoc1 hb1 rfl hown.ow hfp.1 hfp.2
      have HF2 := Lib.hid hf2
      clear hrow1 hf2 hfill hown hfp
      go_wp2
      go_roundw
      case rel =>
        refine ⟨_, ?_, ?_, ?_, by rw [← HK.out]; exact HF2.out, (below_then hbel hb1).setCell (Nat.le_refl _) _⟩
        · rw [List.length_append]; simp; omega
        · rw [List.length_append, ← HK.out]; simp
        · rw [List.length_append, List.length_singleton, HN.out, List.map_append]; rfl
      case measure => simp [intOf]; have := HK.out; omega
    · have e : es.length = ls.length := by omega
      obtain ⟨h1, h2, h3⟩ := hfill.done e (by unfold maxLen; omega)
      have e2 : es.map (·.2.1) = ls := by rw [← HTK.out, e, List.take_length]
      rw [e2] at h1
      have H1 := Lib.hid h1
      have HE := Lib.hid e
      clear h1 e e2 hfill
      go_wp2
      go_ret
      exact ⟨_, _, rfl, H1.out, h2, h3, hbel⟩
end Go.Proofs.YtfgbipomdfceeaaDoor
