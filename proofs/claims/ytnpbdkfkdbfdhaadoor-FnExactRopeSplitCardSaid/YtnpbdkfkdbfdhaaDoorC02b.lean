/-
  Chapter 2, the laws' helpers on slices of chunks: contracts, the second part. Own work.
  Chapter 2, the laws' marks on slices of chunks: contracts. Own work.
-/
import Derived.Test.YtnpbdkfkdbfdhaaDoorC02
namespace Go.Proofs.YtnpbdkfkdbfdhaaDoor
open Go.RowKit P
set_option linter.unusedVariables false

set_option maxHeartbeats 1000000 in
theorem toChunkS_any (A : Option Addr) (ls : List (List UInt8)) (c : Nat) (w : World) (hn : ls.length + tot ls ≤ 1048576) (hC : Cs w A ls) :
    Calls Tryd.prog 53 #[.slice A ls.length c] w (Gives Lay.chunks wSlice ls w) := by
  have hmk : ∀ W, (Instr.makeSlice 36 (.int .i64 (ls.length : Int)) (.int .i64 (ls.length : Int))).run Tryd.prog W = .ok (.slice (some ⟨W.heap.size, 0, none⟩) ls.length ls.length) (W.alloc (.cells (madeCells #[.slice none 0 0] ls.length) 74)) := fun W => by
    have := run_mk (P := Tryd.prog) 36 74 (.agg #[.slice none 0 0]) 1 24 Tryd.underlying36 Tryd.infoCh ls.length (by omega) (by omega) W
    rw [Nat.mul_one] at this
    exact this
  go_enter Tryd.func53, Tryd.ntmps53
  go_wp2
  go_loopw [4] (fun i wr => ∃ es : List (El (List UInt8)), es.length ≤ ls.length ∧ i = .int .i64 es.length ∧ ls.take es.length = es.map (·.2.1) ∧
      Filling 74 Lay.bytes (fun _ => .slice none 0 0) ls.length wr w.heap.size es ∧ Below w.heap.size w wr)
    (fun i _ => ls.length - (intOf i).toNat)
  case atStart => exact ⟨[], Nat.zero_le _, rfl, by simp, Filling.made1 rfl _ _ _, (Below.refl _ _).alloc (Nat.le_refl _) _⟩
  case round =>
    obtain ⟨es, hk, rfl, htk, hfill, hbel⟩ := hrel
    have HTK := Lib.hid htk
    clear htk
    by_cases hlt : es.length < ls.length
    · obtain ⟨b, off, B, d, rfl, hbl, hc, hld, hdm, hB⟩ := (hC.below hbel).at_ es.length hlt
      have htot := tot_mem (ls := ls) es.length hlt
      have hnext : ls.take (es.length + 1) = es.map (·.2.1) ++ [ls[es.length]] := by rw [List.take_succ_eq_append_getElem hlt, HTK.out]
      generalize hL : ls[es.length] = L at *
      have HL := Lib.hid hL
      have HN := Lib.hid hnext
      clear hL hnext
      obtain ⟨k, hkk⟩ : ∃ k, es.length = k := ⟨_, rfl⟩
      have hlt' := hlt
      rw [hkk] at hc hlt' hk
      have HK := Lib.hid hkk
      rw [hkk]
      clear hkk
      have hw : w.heap.size < wr.heap.size := hfill.row.lt
      go_wp2_with fail
      refine (toChunk_any B L d _ (by omega) (by exact hB)).mono ?_
      rintro e w1 ⟨v, rfl, hown, hb1⟩
      have hrow1 := hfill.row.of_block (hb1.block _ hfill.row.lt)
      obtain ⟨u, hu⟩ : ∃ u, w1.cell? ⟨w.heap.size, k, none⟩ = some u := ⟨_, hrow1.cell (by show k < ls.length * 1; omega)⟩
      have hfz := hrow1.frozen k
      have hs1 := hb1.size
      have hfp := hown.fp
      obtain ⟨A', c', rfl, _, _, _⟩ := hown.form
      have hf2 := hfill.snoc1 hb1 rfl hown.ow hfp.1 hfp.2
      have HF2 := Lib.hid hf2
      clear hrow1 hf2 hfill hown hfp
      go_wp2
      go_roundw
      case rel =>
        refine ⟨_, ?_, ?_, ?_, by rw [← HK.out]; exact HF2.out, (below_then hbel hb1).setCell (Nat.le_refl _) _⟩
        · rw [List.length_append]; simp; omega
        · rw [List.length_append, ← HK.out]; simp
        · rw [List.length_append, List.length_singleton, HN.out, List.map_append]; rfl
      case measure => simp [intOf]; have := HK.out; omega
    · have e : es.length = ls.length := by omega
      obtain ⟨h1, h2, h3⟩ := hfill.done e (by unfold maxLen; omega)
      have e2 : es.map (·.2.1) = ls := by rw [← HTK.out, e, List.take_length]
      rw [e2] at h1
      have H1 := Lib.hid h1
      have HE := Lib.hid e
      clear h1 e e2 hfill
      go_wp2
      go_ret
      exact ⟨_, _, rfl, H1.out, h2, h3, hbel⟩
end Go.Proofs.YtnpbdkfkdbfdhaaDoor

namespace Go.Proofs.YtnpbdkfkdbfdhaaDoor
open Go.RowKit P
set_option linter.unusedVariables false

/-- The marks on chunks, from k on. -/
def marksC (k : Nat) : List (List UInt8) → List (List UInt8)
  | [] => []
  | l :: t => marks k l.length :: marksC (k + l.length) t

theorem marksC_length (k : Nat) (ls : List (List UInt8)) : (marksC k ls).length = ls.length := by
  induction ls generalizing k with
  | nil => rfl
  | cons a t ih => simp [marksC, ih]

theorem marksC_snoc (k : Nat) (ls : List (List UInt8)) (a : List UInt8) : marksC k (ls ++ [a]) = marksC k ls ++ [marks (k + tot ls) a.length] := by
  induction ls generalizing k with
  | nil => simp [marksC, tot]
  | cons b t ih =>
    rw [List.cons_append, marksC, ih, marksC, List.cons_append]
    congr 3
    simp only [tot, List.flatten_cons, List.length_append]
    rw [show k + b.length + t.flatten.length = k + (b.length + t.flatten.length) by omega]

theorem marksC_get (k : Nat) (ls : List (List UInt8)) (i : Nat) (hi : i < ls.length) : (marksC k ls)[i]'(by rw [marksC_length]; exact hi) = marks (k + tot (ls.take i)) (ls[i]).length := by
  induction ls generalizing k i with
  | nil => simp at hi
  | cons a t ih =>
    cases i with
    | zero => simp [marksC, tot]
    | succ i =>
      simp only [marksC, List.getElem_cons_succ, List.take_succ_cons]
      rw [ih (k + a.length) i (by simpa using hi)]
      congr 1
      simp only [tot, List.flatten_cons, List.length_append]
      omega

theorem marksC_tot (k : Nat) (ls : List (List UInt8)) : tot (marksC k ls) = tot ls := by
  induction ls generalizing k with
  | nil => rfl
  | cons a t ih =>
    have := ih (k + a.length)
    unfold tot at this ⊢
    simp only [marksC, List.flatten_cons, List.length_append, marks_length, this]

set_option maxHeartbeats 1000000 in
theorem markChunkS_any (v : Value) (ls : List (List UInt8)) (fp : List Nat) (k : Nat) (w : World) (hk : k + tot ls ≤ 1900000) (hl : ls.length + tot ls ≤ 1100000) (hn : fp.Nodup) (h : Lay.chunks.ow w [v] ls fp) :
    Calls Tryd.prog 55 #[v, .int .i64 k] w fun e w' => e = .returned (.int .i64 ((k + tot ls : Nat) : Int)) ∧ Lay.chunks.ow w' [v] (marksC k ls) fp ∧ Keeps fp w w' := by
  obtain ⟨A, c, rfl, hlc, hcm, hC⟩ := Lay.chunks_rd (Lay.chunks.read h)
  go_enter Tryd.func55, Tryd.ntmps55
  go_wp2
  go_loopw [1, 5] (fun kk i wr => ∃ j : Nat, j ≤ ls.length ∧ i = .int .i64 j ∧ kk = .int .i64 ((k + tot (ls.take j) : Nat) : Int) ∧ Lay.chunks.ow wr [.slice A ls.length c] (marksC k (ls.take j) ++ ls.drop j) fp ∧ Keeps fp w wr) (fun _ i _ => ls.length - (intOf i).toNat)
  case atStart => exact ⟨0, Nat.zero_le _, rfl, by simp [tot], by simpa [marksC] using h, Keeps.refl _ _⟩
  case round =>
    obtain ⟨j, hj, rfl, rfl, how, hke⟩ := hrel
    have hlen : (marksC k (ls.take j) ++ ls.drop j).length = ls.length := by rw [List.length_append, marksC_length, List.length_take, List.length_drop]; omega
    by_cases hlt : j < ls.length
    · obtain ⟨g, c', us, fi, hv, hus, hcell, hgl, hfz, hei, hni, hfi, hback⟩ := Lay.focus how hn j (by omega)
      have hget : (marksC k (ls.take j) ++ ls.drop j)[j]'(by omega) = ls[j] := by
        rw [List.getElem_append_right (by rw [marksC_length, List.length_take]; omega)]
        simp only [marksC_length, List.length_take, List.getElem_drop]
        congr 1
        omega
      have hset : (marksC k (ls.take j) ++ ls.drop j).set j (marks (k + tot (ls.take j)) (ls[j]).length) = marksC k (ls.take (j + 1)) ++ ls.drop (j + 1) := by
        rw [List.take_succ_eq_append_getElem hlt, marksC_snoc, List.append_assoc, List.singleton_append, List.drop_eq_getElem_cons hlt,
          List.set_append_right _ _ (by rw [marksC_length, List.length_take]; omega), marksC_length, List.length_take, show j - min j ls.length = 0 by omega, List.set_cons_zero]
      rw [hget] at hei
      have htk := tot_take ls j hlt
      have htm := tot_mem (ls := ls) j hlt
      have htj : tot (ls.take (j + 1)) ≤ tot ls := by
        have h2 : ls.flatten = (ls.take (j + 1)).flatten ++ (ls.drop (j + 1)).flatten := by rw [← List.flatten_append, List.take_append_drop]
        unfold tot
        rw [h2, List.length_append]
        omega
      have HSET := Lib.hid hset
      have HB := Lib.hid hback
      have HFI := Lib.hid hfi
      have HGT := Lib.hid hget
      clear hset hback hfi hget
      rw [hlen] at hv
      cases hv
      obtain ⟨vi, hvi, howi, hfpi⟩ := hei
      cases hvi
      have hc0 := hcell 0 (by simp)
      simp only [List.getElem_cons_zero, Nat.add_zero] at hc0
      have hc1 : wr.cell? ⟨g, j, none⟩ = some vi := by
        have e : j * Lay.bytes.sz = j := Nat.mul_one j
        rw [e] at hc0
        exact hc0
      clear hc0 hcell
      have hji : (j : Int) < (ls.length : Int) := by omega
      obtain ⟨m, hm⟩ : ∃ m, k + tot (ls.take j) = m := ⟨_, rfl⟩
      have hm1 : m ≤ 2000000 := by omega
      have hm2 : (ls[j]).length ≤ 2000000 := by omega
      have hm3 : k + tot (ls.take (j + 1)) = m + (ls[j]).length := by omega
      rw [hm]
      rw [hm] at HSET
      have HM3 := Lib.hid hm3
      have HFP := Lib.hid hfpi
      clear hm hm3 htk hfpi
      go_wp2_with fail
      refine (markByteS_any vi ls[j] 0 m _ hm1 hm2 (by exact howi)).mono ?_
      rintro e w1 ⟨rfl, hown1, hgr⟩
      have hkb : Keeps fi wr w1 := by rw [HFP.out]; exact Keeps.of_grown hgr
      have how1 := HB.out w1 (marks m (ls[j]).length) hkb ⟨vi, rfl, hown1, HFP.out⟩
      rw [HSET.out] at how1
      have hkb2 := hke.trans (hkb.mono (fun x hx => (HFI.out x hx).1))
      clear hkb hown1 hgr howi how hke hC
      go_wp2
      go_roundw
      case rel => exact ⟨j + 1, by omega, by go_num, by rw [HM3.out]; go_num, how1, hkb2⟩
      case measure => simp [intOf]; omega
    · have e : j = ls.length := by omega
      subst e
      rw [List.take_length, List.drop_length, List.append_nil] at how
      have htk : tot (ls.take ls.length) = tot ls := tot_all ls
      rw [htk]
      clear htk
      go_wp2
      go_ret
      exact ⟨rfl, how, hke⟩

set_option maxHeartbeats 1000000 in
theorem heldChunkS_any (A : Option Addr) (ls : List (List UInt8)) (c k : Nat) (w : World) (hk : k + tot ls ≤ 1900000) (hl : ls.length + tot ls ≤ 1100000) (h : Cs w A (marksC k ls)) :
    Calls Tryd.prog 56 #[.slice A ls.length c, .int .i64 k] w fun e w' => e = .returned (.int .i64 ((k + tot ls : Nat) : Int)) ∧ w' = w := by
  go_enter Tryd.func56, Tryd.ntmps56
  go_wp2
  go_loop [1, 5] (fun kk i => ∃ j : Nat, j ≤ ls.length ∧ i = .int .i64 j ∧ kk = .int .i64 ((k + tot (ls.take j) : Nat) : Int)) (fun _ i => ls.length - (intOf i).toNat)
  case atStart => exact ⟨0, Nat.zero_le _, rfl, by simp [tot]⟩
  case round =>
    obtain ⟨j, hj, rfl, rfl⟩ := hrel
    by_cases hlt : j < ls.length
    · obtain ⟨b, off, B, d, rfl, hbl, hc, hld, hdm, hB⟩ := h.at_ j (by rw [marksC_length]; exact hlt)
      rw [marksC_get k ls j hlt] at hc hB
      rw [marks_length] at hc
      have htk := tot_take ls j hlt
      have htm := tot_mem (ls := ls) j hlt
      have htj : tot (ls.take (j + 1)) ≤ tot ls := by
        have h2 : ls.flatten = (ls.take (j + 1)).flatten ++ (ls.drop (j + 1)).flatten := by rw [← List.flatten_append, List.take_append_drop]
        unfold tot
        rw [h2, List.length_append]
        omega
      obtain ⟨m, hm⟩ : ∃ m, k + tot (ls.take j) = m := ⟨_, rfl⟩
      have hm1 : m ≤ 2000000 := by omega
      have hm2 : (ls[j]).length ≤ 2000000 := by omega
      have hm3 : k + tot (ls.take (j + 1)) = m + (ls[j]).length := by omega
      have hm4 : ¬ ((m + (ls[j]).length : Nat) : Int) < 0 := by omega
      rw [hm] at hB ⊢
      have HM3 := Lib.hid hm3
      clear hm hm3 htk
      go_wp2_with fail
      refine (heldByteS_any B (ls[j]).length d m _ hm1 hm2 (by exact hB)).mono ?_
      rintro e w1 ⟨rfl, rfl⟩
      go_wp2
      go_round
      case rel => exact ⟨j + 1, by omega, by go_num, by rw [HM3.out]; go_num⟩
      case measure => simp [intOf]; omega
    · have e : j = ls.length := by omega
      subst e
      have htk : tot (ls.take ls.length) = tot ls := tot_all ls
      rw [htk]
      clear htk
      go_wp2
      go_ret
      exact ⟨rfl, rfl⟩
end Go.Proofs.YtnpbdkfkdbfdhaaDoor
