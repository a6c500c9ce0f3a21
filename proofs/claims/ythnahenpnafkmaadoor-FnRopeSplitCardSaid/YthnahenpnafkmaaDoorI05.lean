/-
  Chapter 4, the program's ropeFrom: contract. Own work.
-/
import Derived.Test.YthnahenpnafkmaaDoorC04
import Derived.Test.YthnahenpnafkmaaDoorI02g
import Derived.Test.YthnahenpnafkmaaDoorSnoc
import Derived.Deep.RegionLaw
namespace Go.Proofs.YthnahenpnafkmaaDoor
open Go.RowKit P
set_option linter.unusedVariables false
set_option linter.unusedSimpArgs false
set_option maxRecDepth 100000

theorem step_app_ch {P : Program} {ops : Array Oper} {o : Oper} {a : Act} {w : World} {K : Act → World → Prop} {Q : Exit → Act → World → Prop} {X : Prop} (hgd : o.guard = none) (s y : Operand) (t : TypeId)
    (ho : o.op = .call { callee := .builtin .append, args := #[s, y], argTypes := #[t, t] })
    {α : Type} (T : TypeId) (E : Lay α) (z : Value) (size bytes : Nat) (ht : P.underlying t = some (.slice T))
    (hinfo : (P.info? T).map (fun i => (i.zero, i.size, i.bytes)) = some (some z, size, bytes)) (hsz : size = E.sz) (hzs : z.cells.size = size) (hpos : 0 < size) (hby : bytes ≤ 10000)
    (v : Value) (l : List α) (fp : List Nat) (us : List Value) (x : α) (fx : List Nat) (ad : Addr) (c : Nat) (hs : a.eval s = v) (hy : a.eval y = .slice (some ad) 1 c)
    (h : (Lay.slice T E).ow w [v] l fp) (hn : fp.Nodup) (hx : E.ow w us x fx) (hnx : fx.Nodup) (B : Nat) (hB : ∀ k ∈ fp, k < B) (hB2 : ∀ k ∈ fx, B ≤ k)
    (hc : ∀ j u, us[j]? = some u → w.cell? (ad.add j) = some u) (hlen : l.length ≤ 1000000)
    (hK : ∀ v' w' fp', (Lay.slice T E).ow w' [v'] (l ++ [x]) fp' → fp'.Nodup → (∀ k ∈ fp', k ∈ fp ∨ k ∈ fx ∨ k = w.heap.size) → w.grownBy w' v.ownBlock → K (a.put o.dst v') w') : 
    if Region.wanted o (yielded ops a.tmps) = true then Oper.wp P o a w K Q else X := by
  obtain ⟨v', w', fp', hrun, h2, h3, h4, h5⟩ := run_app_one (P := P) t o.type ht hinfo hsz hzs hpos h hn hx hnx B hB hB2 ad c hc hlen hby
  have hw : Region.wanted o (yielded ops a.tmps) = true := by simp [Region.wanted, hgd]
  rw [if_pos hw]
  unfold Oper.wp execOp
  simp only [ho, resolve, invoke, builtin, Sem.run_bind, Sem.run_pure, Result.andThen_ok, List.map_toArray, List.map_cons, List.map_nil, hs, hy, hrun]
  exact hK v' w' fp' h2 h3 h4 h5

theorem ch_own_not {v : Value} {b : Nat} (h : v.ownBlock ≠ some b) : b ∉ v.ownBlock.toList := by
  intro hm
  cases hv : v.ownBlock with
  | none => rw [hv] at hm; simp at hm
  | some c => rw [hv] at hm; simp at hm; exact h (by rw [hv, hm])
theorem ch_own_all {v : Value} {B : Nat} (h : ∀ b, v.ownBlock = some b → B ≤ b) : ∀ k ∈ v.ownBlock.toList, B ≤ k := by
  intro k hm
  cases hv : v.ownBlock with
  | none => rw [hv] at hm; simp at hm
  | some c => rw [hv] at hm; simp at hm; exact h k (by rw [hv, hm])

/-- The slice of chunks' own block is none of the blocks that stand apart from it. -/
theorem chunks_ownBlock {w : World} {v : Value} {l : List (List UInt8)} {fp : List Nat} (h : Lay.chunks.ow w [v] l fp) {b : Nat} (hb : b ∉ fp) : v.ownBlock ≠ some b := by
  obtain ⟨es, _, _, _, rfl⟩ := ow_one h
  intro e
  exact hb (List.mem_append.2 (.inl (by rw [e]; simp)))

/-- What holds between the rounds of ropeFrom. -/
structure RInv (ls : List (List UInt8)) (w wr : World) (k : Nat) (v : Value) (fp : List Nat) : Prop where
  res : Blk wr w.heap.size #[.slice none 0 0] 26
  cell : Blk wr (w.heap.size + 1) #[v] 26
  ow : Lay.chunks.ow wr [v] (ls.take k) fp
  nodup : fp.Nodup
  fresh : ∀ j ∈ fp, w.heap.size + 2 ≤ j
  bel : Below w.heap.size w wr

set_option maxHeartbeats 4000000 in
theorem ropeFrom_any (A : Option Addr) (ls : List (List UInt8)) (c : Nat) (w : World) (hlen : ls.length ≤ 1000000) (hne : ∀ x ∈ ls, 0 < x.length ∧ x.length ≤ 1000000) (hC : Cs w A ls) :
    Calls Tryd.prog 21 #[.slice A ls.length c] w (GivesRo ls w) := by
  have hi0 : Hid (RInv ls w ((w.alloc (.cells #[.slice none 0 0] 26)).alloc (.cells #[.slice none 0 0] 26)) 0 (.slice none 0 0) []) := by
    refine Lib.hid ⟨(Blk.new w _ _).alloc _, by have := Blk.new (w.alloc (.cells #[.slice none 0 0] 26)) #[.slice none 0 0] 26; simpa using this, Lay.slice_nil _ _ _, by simp, by simp, ?_⟩
    exact ((Below.refl w.heap.size w).alloc (Nat.le_refl _) _).alloc (by simp) _
  go_enter Tryd.func21, Tryd.ntmps21
  go_wp2
  go_loopw [8] (fun i wr => ∃ (k : Nat) (v : Value) (fp : List Nat), k ≤ ls.length ∧ i = .int .i64 k ∧ Hid (RInv ls w wr k v fp)) (fun i _ => ls.length - (intOf i).toNat)
  case atStart => exact ⟨0, _, _, Nat.zero_le _, rfl, hi0⟩
  case round =>
    obtain ⟨k, v, fp, hk, rfl, HI⟩ := hrel
    by_cases hlt : k < ls.length
    · obtain ⟨b, off, B, d, rfl, hbl, hc, hld, hdm, hB⟩ := (hC.below HI.out.bel).at_ k hlt
      have hnz := hne ls[k] (List.getElem_mem hlt)
      have hnext : ls.take (k + 1) = ls.take k ++ [ls[k]] := by rw [List.take_succ_eq_append_getElem hlt]
      have htl : (ls.take k).length ≤ 1000000 := by rw [List.length_take]; omega
      have hk0 : (k : Int) < (ls.length : Int) := by omega
      generalize hL : ls[k] = L at *
      obtain ⟨b1, o1, rfl, _, _⟩ := hB 0 hnz.1
      have HN := Lib.hid hnext
      clear hL hnext
      have hsz : w.heap.size + 2 ≤ wr.heap.size := HI.out.cell.lt
      have hal := (Below.refl wr.heap.size wr).alloc (Nat.le_refl _) (.cells #[.slice (some ⟨b1, o1, none⟩) L.length d] 46)
      have HC := Lib.hid (HI.out.cell.below hal)
      have HR := Lib.hid (HI.out.res.below hal)
      have HO := Lib.hid (Lay.chunks.owBelow HI.out.ow hal)
      have HB := Lib.hid (HI.out.bel.alloc HI.out.bel.size (.cells #[.slice (some ⟨b1, o1, none⟩) L.length d] 46))
      have HFP := Lib.hid (fun j hj => Lay.chunks.lt HI.out.ow j hj : ∀ j ∈ fp, j < wr.heap.size)
      have HBs := Lib.hid (hB.below hal)
      have hzz : wr.heap.size < (wr.alloc (.cells #[.slice (some ⟨b1, o1, none⟩) L.length d] 46)).heap.size := by simp
      have hnf : w.heap.size + 1 ∉ fp := fun h => by have := HI.out.fresh _ h; omega
      have HOF := Lib.hid (chunks_ownBlock HI.out.ow hnf)
      have HOR := Lib.hid (chunks_ownBlock HI.out.ow (b := w.heap.size) (fun h => by have := HI.out.fresh _ h; omega))
      have HOV : Hid (∀ b, v.ownBlock = some b → w.heap.size ≤ b) := Lib.hid (fun b hb => by
        obtain ⟨es, _, _, _, e⟩ := ow_one HI.out.ow
        have := HI.out.fresh b (by rw [e, hb]; simp)
        omega)
      have q0 : (wr.alloc (.cells #[.slice (some ⟨b1, o1, none⟩) L.length d] 46)).cell? ⟨wr.heap.size, 0, none⟩ = some (.slice (some ⟨b1, o1, none⟩) L.length d) := (Blk.new wr _ _).cell 0
      have qf : (wr.alloc (.cells #[.slice (some ⟨b1, o1, none⟩) L.length d] 46)).cell? ⟨w.heap.size + 1, 0, none⟩ = some v := HC.out.cell 0
      have hsw : w.heap.size + 2 ≤ (wr.alloc (.cells #[.slice (some ⟨b1, o1, none⟩) L.length d] 46)).heap.size := by simp; omega
      clear hal hnf hB hbl
      go_wp2_with fail
      generalize wr.alloc (.cells #[.slice (some ⟨b1, o1, none⟩) L.length d] 46) = W at *
      go_region_law (first
        | (go_simp; go_at_call 48; refine (bytesClone_any ⟨b1, o1, none⟩ L L.length d _ rfl hnz.2 (by exact HBs.out)).mono ?_; rintro e w5 ⟨v1, rfl, ho1, hb5⟩; have ho1 : Own w5 W.heap.size v1 L := ho1; have hb5 : Below W.heap.size W w5 := ⟨hb5.os, hb5.tape, hb5.output, hb5.size, hb5.block⟩; obtain ⟨A3, c3, rfl, _, _, _⟩ := ho1.form; have hfx0 := ho1.fp; have c5 := Lib.hid (HC.out.below hb5); have r5 := Lib.hid (HR.out.below hb5); have ow5 := Lib.hid (Lay.chunks.owBelow HO.out hb5); have n5 := Lib.hid (HB.out.trans (hb5.mono (by omega))); have rf : w5.cell? ⟨w.heap.size + 1, 0, none⟩ = some v := c5.out.cell 0; have uf : ∀ o, (w5.alloc o).cell? ⟨w.heap.size + 1, 0, none⟩ = some v := fun o => (c5.out.alloc o).cell 0; have hz5 := hb5.size; have hz55 : w.heap.size + 1 < w5.heap.size := Nat.lt_of_lt_of_le hsw hz5; obtain ⟨fx, hfxe⟩ : ∃ fx, (Value.slice A3 L.length c3).ownBlock.toList = fx := ⟨_, rfl⟩; have HX := Lib.hid ((ho1.below ((Below.refl _ _).alloc (Nat.le_refl _) (.cells #[.slice A3 L.length c3] 46))).ow); rw [hfxe] at hfx0 HX; have HNX := Lib.hid hfx0.1; have HFX := Lib.hid hfx0.2; clear ho1 hfx0 hfxe)
        | (refine step_app_ch rfl (.tmp 13) (.tmp 18) 24 rfl 46 Lay.bytes (.agg #[.slice none 0 0]) 1 24 Tryd.underlying24 Tryd.infoCh rfl rfl (by decide) (by decide) v (ls.take k) fp [.slice A3 L.length c3] L fx ⟨w5.heap.size, 0, none⟩ 1 rfl rfl (by exact Lay.chunks.owBelow ow5.out ((Below.refl _ _).alloc (Nat.le_refl _) _)) HI.out.nodup (by exact HX.out) HNX.out W.heap.size (fun j hj => Nat.lt_trans (HFP.out j hj) hzz) HFX.out cell_new1 htl ?_; intro v' w8 fp' how' hnd' hfp' hgr; obtain ⟨B3, d3, rfl, _, _, _⟩ := Lay.chunks_rd (Lay.chunks.read how'); have c8 := Lib.hid ((c5.out.alloc _).of_block ((Keeps.of_grown hgr).block (w.heap.size + 1) (by simp; omega) (ch_own_not HOF.out))); have r8 := Lib.hid ((r5.out.alloc _).of_block ((Keeps.of_grown hgr).block w.heap.size (by simp; omega) (ch_own_not HOR.out))); have n8 := Lib.hid ((n5.out.alloc n5.out.size _).trans ((Keeps.of_grown hgr).below (by simp; omega) (ch_own_all HOV.out))); have mf : w8.cell? ⟨w.heap.size + 1, 0, none⟩ = some v := c8.out.cell 0; have mz : w8.frozen? ⟨w.heap.size + 1, 0, none⟩ = false := c8.out.frozen 0; have HOW := Lib.hid how'; have HND := Lib.hid hnd'; have HFF := Lib.hid hfp'; clear how' hnd' hfp' hgr))
      all_goals
        have HFIN : Hid (RInv ls w (w8.setCell ⟨w.heap.size + 1, 0, none⟩ (.slice B3 (ls.take k ++ [L]).length d3)) (k + 1) (.slice B3 (ls.take k ++ [L]).length d3) fp') := by
          refine Lib.hid ⟨r8.out.setOther (by simp) _, by simpa using c8.out.set 0 (.slice B3 (ls.take k ++ [L]).length d3), ?_, HND.out, fun j hj => ?_, n8.out.setCell (p := ⟨w.heap.size + 1, 0, none⟩) (Nat.le_succ _) _⟩
          · rw [HN.out]
            refine Lay.chunks_setBelow HOW.out (fun hm => ?_) _
            rcases HFF.out _ hm with h1 | h1 | h1
            · have h2 : w.heap.size + 2 ≤ w.heap.size + 1 := HI.out.fresh _ h1; omega
            · have h2 : W.heap.size ≤ w.heap.size + 1 := HFX.out _ h1; omega
            · simp at h1; omega
          · rcases HFF.out _ hj with h1 | h1 | h1
            · exact HI.out.fresh _ h1
            · have := HFX.out _ h1; omega
            · simp at h1; omega
        clear c5 r5 ow5 n5 c8 r8 n8 HOW HND HFF HX HNX HFX
        have hl9 : (ls.take k ++ [L]).length = k + 1 := by rw [List.length_append, List.length_take, List.length_singleton]; omega
        rw [hl9] at HFIN
        go_wp2
        go_roundw
        case rel => exact ⟨k + 1, _, fp', by omega, by go_num, HFIN⟩
        case measure => simp [intOf]; omega
    · have e : k = ls.length := by omega
      subst e
      have how := HI.out.ow
      rw [List.take_length] at how
      obtain ⟨B, d, rfl, hld, hdm, _⟩ := Lay.chunks_rd (Lay.chunks.read how)
      have qv : wr.cell? ⟨w.heap.size + 1, 0, none⟩ = some (.slice B ls.length d) := HI.out.cell.cell 0
      have qr : wr.cell? ⟨w.heap.size, 0, none⟩ = some (.slice none 0 0) := HI.out.res.cell 0
      have qz : wr.frozen? ⟨w.heap.size, 0, none⟩ = false := HI.out.res.frozen 0
      have HOW := Lib.hid how
      clear how
      go_wp2
      refine bodyPost_ret (v := .agg #[.slice B ls.length d]) (by simp [results, Tryd.results21, go_sem, qr]) rfl ?_
      refine ⟨_, fp, rfl, Lay.chunks_setBelow HOW.out (fun hm => ?_) _, HI.out.nodup, fun j hj => by have := HI.out.fresh j hj; omega, HI.out.bel.setCell (p := ⟨w.heap.size, 0, none⟩) (Nat.le_refl _) _⟩
      have := HI.out.fresh _ hm; simp at this; omega
end Go.Proofs.YthnahenpnafkmaaDoor
