/-
  Texts of one claim in one: Setrow, C17, C18, C19, C20, D11, D12, WFnExactDocAt. Own work.
-/
import Derived.Test.YtkplfbhblbinaabGreatDoorQp0
import Derived.Test.YtkplfbhblbinaabGreatDoorQC16
import Derived.Test.YtkplfbhblbinaabGreatDoorQD08
import Derived.Test.YtkplfbhblbinaabGreatDoorQp8
import Derived.Test.YtkplfbhblbinaabGreatDoorQD06
import Derived.Test.YtkplfbhblbinaabGreatDoorQp4
import Derived.Deep.RegionHeld3
import Derived.Deep.DeepCutAuto

/-
  One element of an own slice of anything, put anew: its cells in the row and what it owns. Own work.
-/
namespace Go.Proofs.YtkplfbhblbinaabGreatDoor
open Go.RowKit P
set_option linter.unusedVariables false
set_option linter.unusedSimpArgs false

theorem Lay.put {α : Type} {T : TypeId} {E : Lay α} {w : World} {v : Value} {l : List α} {fp : List Nat} (h : (Lay.slice T E).ow w [v] l fp) (hn : fp.Nodup) (hpos : 0 < E.sz) (i : Nat) (hi : i < l.length) :
    ∃ g c cur us fi, v = .slice (some ⟨g, 0, none⟩) l.length c ∧ us.length = E.sz ∧ Blk w g cur T ∧ l.length * E.sz ≤ cur.size ∧ (∀ j (hj : j < us.length), cur[i * E.sz + j]? = some us[j]) ∧
      E.ow w us l[i] fi ∧ fi.Nodup ∧ g ∈ fp ∧ (∀ k ∈ fi, k ∈ fp ∧ k ≠ g) ∧ ∀ w' x' us' cur', us'.length = E.sz → Keeps (g :: fi) w w' → Blk w' g cur' T → cur'.size = cur.size → (∀ j (hj : j < us'.length), cur'[i * E.sz + j]? = some us'[j]) →
        (∀ q, q < i * E.sz ∨ i * E.sz + E.sz ≤ q → cur'[q]? = cur[q]?) → E.ow w' us' x' fi → (Lay.slice T E).ow w' [v] (l.set i x') fp := by
  obtain ⟨v', es, hv, hl, hrow, hes, hfp⟩ := h
  cases hv
  subst hl
  rw [List.length_map] at hi
  obtain ⟨a, e, b, hab, ha, he⟩ := split_at es i hi
  have hlen : ∀ e ∈ es, (e.1 : List Value).length = E.sz := fun e he => E.len (E.read (hes e he))
  have hei : (es.map (·.2.1))[i]'(by rw [List.length_map]; exact hi) = e.2.1 := by rw [List.getElem_map, ← he]
  have heo := hes e (by rw [he]; exact List.getElem_mem hi)
  rcases hrow.2 with ⟨hv, h0⟩ | ⟨g, cap, cur, hv, _, hh, hnc, hcm, hcs, htk⟩
  · omega
  · subst hv
    have hg : g < w.heap.size := (Array.getElem?_eq_some_iff.1 hh).1
    have hgfp : g ∈ fp := by rw [hfp]; simp [Value.ownBlock]
    rw [hfp, hab, List.flatMap_append, List.flatMap_cons] at hn
    simp only [Value.ownBlock, Option.toList_some, List.singleton_append, List.nodup_cons, List.mem_append, not_or] at hn
    obtain ⟨⟨n1, n2, n3⟩, hn⟩ := hn
    rw [List.nodup_append] at hn
    obtain ⟨na, hn, nd1⟩ := hn
    rw [List.nodup_append] at hn
    obtain ⟨ne, nb, nd2⟩ := hn
    have hcz : es.length * E.sz ≤ cur.size := by rw [hcs]; exact Nat.mul_le_mul_right _ hnc
    refine ⟨g, cap, cur, e.1, e.2.2, by simp, hlen e (by rw [he]; exact List.getElem_mem hi), hh, by rw [List.length_map]; exact hcz, fun j hj => ?_, by rw [hei]; exact heo, ne, hgfp, fun k hk => ⟨?_, fun x => n2 (by rw [← x]; exact hk)⟩, fun w' x' us' cur' hus hke hblk hsz hnew hold hox => ?_⟩
    · have hj' : j < (es[i].1).length := by rw [← he]; exact hj
      have hgt := flat_get E.sz es (·.1) hlen i hi j hj'
      rw [← htk, List.getElem?_take] at hgt
      split at hgt
      · simp only [Array.getElem?_toList] at hgt
        rw [hgt]
        simp only [he]
      · cases hgt
    · rw [hfp, hab, List.flatMap_append, List.flatMap_cons]
      simp [hk]
    · have hset : (es.map (·.2.1)).set i x' = (a ++ (us', x', e.2.2) :: b).map (·.2.1) := by
        rw [hab, List.map_append, List.map_cons, List.set_append_right _ _ (by rw [List.length_map]; omega), List.length_map, ha, Nat.sub_self, List.set_cons_zero, List.map_append, List.map_cons]
      rw [hset]
      have e1 : (a ++ (us', x', e.2.2) :: b).length = es.length := by rw [hab]; simp
      have hla : ∀ f ∈ a, (f.1 : List Value).length = E.sz := fun f hf => hlen f (by rw [hab]; exact List.mem_append.2 (.inl hf))
      have hfa := flat_len E.sz a (·.1) hla
      have hle : (e.1 : List Value).length = E.sz := hlen e (by rw [hab]; simp)
      have hfl := flat_len E.sz es (·.1) hlen
      refine ⟨_, a ++ (us', x', e.2.2) :: b, rfl, rfl, ?_, ?_, ?_⟩
      · rw [e1]
        refine ⟨?_, .inr ⟨g, cap, cur', rfl, Nat.zero_le _, hblk, hnc, hcm, by rw [hsz]; exact hcs, ?_⟩⟩
        · have h9 := hrow.1
          rw [← h9, hab]
          simp [hus, hle]
        · apply List.ext_getElem?
          intro q
          have htq : (cur.toList.take (es.length * E.sz))[q]? = (es.flatMap (·.1))[q]? := by rw [htk]
          rw [List.getElem?_take] at htq ⊢
          rw [List.flatMap_append, List.flatMap_cons]
          rw [hab, List.flatMap_append, List.flatMap_cons] at htq
          simp only [Array.getElem?_toList] at htq ⊢
          by_cases h1 : q < i * E.sz
          · rw [hold q (.inl h1)]
            rw [List.getElem?_append_left (by rw [hfa, ha]; exact h1)] at htq ⊢
            rw [← hab] at htq
            exact htq
          · by_cases h2 : q < i * E.sz + E.sz
            · have hq : q = i * E.sz + (q - i * E.sz) := by omega
              have hin : q < es.length * E.sz := by
                have : (i + 1) * E.sz ≤ es.length * E.sz := Nat.mul_le_mul_right _ hi
                rw [Nat.add_mul, Nat.one_mul] at this
                omega
              rw [if_pos hin]
              have h9 := hnew (q - i * E.sz) (by rw [hus]; omega)
              rw [← hq] at h9
              rw [h9, List.getElem?_append_right (by rw [hfa, ha]; omega), hfa, ha, List.getElem?_append_left (by rw [hus]; omega), List.getElem?_eq_getElem]
            · rw [hold q (.inr (by omega))]
              rw [List.getElem?_append_right (by rw [hfa, ha]; omega), hfa, ha, List.getElem?_append_right (by rw [hle]; omega), hle] at htq
              rw [List.getElem?_append_right (by rw [hfa, ha]; omega), hfa, ha, List.getElem?_append_right (by rw [hus]; omega), hus]
              rw [← hab] at htq
              exact htq
      · intro f hf
        rcases List.mem_append.1 hf with hf | hf
        · refine E.keeps (hes f (by rw [hab]; exact List.mem_append.2 (.inl hf))) hke (fun k hk hk2 => ?_)
          rcases List.mem_cons.1 hk2 with e9 | hk2
          · exact n1 (List.mem_flatMap.2 ⟨f, hf, by rw [← e9]; exact hk⟩)
          · exact nd1 k (List.mem_flatMap.2 ⟨f, hf, hk⟩) k (List.mem_append.2 (.inl hk2)) rfl
        · rcases List.mem_cons.1 hf with rfl | hf
          · exact hox
          · refine E.keeps (hes f (by rw [hab]; exact List.mem_append.2 (.inr (List.mem_cons_of_mem _ hf)))) hke (fun k hk hk2 => ?_)
            rcases List.mem_cons.1 hk2 with e9 | hk2
            · exact n3 (List.mem_flatMap.2 ⟨f, hf, by rw [← e9]; exact hk⟩)
            · exact nd2 k hk2 k (List.mem_flatMap.2 ⟨f, hf, hk⟩) rfl
      · rw [hfp, hab]; simp
end Go.Proofs.YtkplfbhblbinaabGreatDoor

/-
  The laws' marks on lists of commits and of edits, told as owning: contracts. Own work.
-/
namespace Go.Proofs.YtkplfbhblbinaabGreatDoor
open Go.RowKit P
set_option linter.unusedVariables false
set_option linter.unusedSimpArgs false
set_option maxRecDepth 100000

/-- A list behind markCommitS. -/
def mkC (k : Nat) (c : Cm) : Cm := ((k : Int), (k : Int) + 1, (k : Int) + 2, marks (k + 3) c.2.2.2.length)
def nC (k : Nat) (es : List Cm) : Nat := k + 3 * es.length + tot (cputs es)
def markedC (k : Nat) : List Cm → List Cm
  | [] => []
  | c :: t => mkC k c :: markedC (k + 3 + c.2.2.2.length) t
theorem markedC_length (es : List Cm) : ∀ k, (markedC k es).length = es.length := by
  induction es with
  | nil => intro k; rfl
  | cons c t ih => intro k; simp [markedC, ih]
theorem nC_take (k : Nat) (es : List Cm) (j : Nat) (h : j < es.length) : nC k (es.take (j + 1)) = nC k (es.take j) + 3 + es[j].2.2.2.length := by
  have h1 : cputs (es.take (j + 1)) = cputs (es.take j) ++ [es[j].2.2.2] := by
    unfold cputs
    rw [List.take_succ_eq_append_getElem h, List.map_append]
    rfl
  have h2 : (es.take (j + 1)).length = j + 1 := by rw [List.length_take]; omega
  have h3 : (es.take j).length = j := by rw [List.length_take]; omega
  unfold nC tot
  rw [h1, h2, h3, List.flatten_append, List.length_append]
  simp only [List.flatten_cons, List.flatten_nil, List.append_nil]
  omega
theorem nC_le (k : Nat) (es : List Cm) (j : Nat) : nC k (es.take j) ≤ nC k es := by
  unfold nC
  have h2 : (cputs es).flatten = (cputs (es.take j)).flatten ++ (cputs (es.drop j)).flatten := by
    unfold cputs
    rw [← List.flatten_append, ← List.map_append, List.take_append_drop]
  have h3 : (es.take j).length ≤ es.length := by rw [List.length_take]; omega
  unfold tot
  rw [h2, List.length_append]
  omega
theorem markedC_snoc (es : List Cm) : ∀ (k j : Nat) (h : j < es.length), markedC k (es.take (j + 1)) = markedC k (es.take j) ++ [mkC (nC k (es.take j)) es[j]] := by
  induction es with
  | nil => intro k j h; simp at h
  | cons c t ih =>
    intro k j h
    cases j with
    | zero => simp [markedC, nC, tot, cputs]
    | succ j =>
      have h9 := ih (k + 3 + c.2.2.2.length) j (by simpa using h)
      have hn : nC (k + 3 + c.2.2.2.length) (t.take j) = nC k ((c :: t).take (j + 1)) := by
        unfold nC tot cputs
        simp
        omega
      rw [List.take_succ_cons, List.take_succ_cons]
      simp only [markedC, List.getElem_cons_succ, List.cons_append, h9]
      rw [hn]
      rfl
theorem markedC_step (k : Nat) (es : List Cm) (j : Nat) (h : j < es.length) : (markedC k (es.take j) ++ es.drop j).set j (mkC (nC k (es.take j)) es[j]) = markedC k (es.take (j + 1)) ++ es.drop (j + 1) := by
  have hl : (markedC k (es.take j)).length = j := by rw [markedC_length, List.length_take]; omega
  rw [List.drop_eq_getElem_cons h, List.set_append_right _ _ (by omega), hl, Nat.sub_self, List.set_cons_zero, markedC_snoc es k j h, List.append_assoc, List.singleton_append]

set_option maxHeartbeats 4000000 in
theorem markCommitS_any (A : Option Addr) (c : Nat) (es : List Cm) (fp : List Nat) (k : Nat) (w : World) (hk : k + 3 * es.length + tot (cputs es) ≤ 8000000) (hn : fp.Nodup) (h : Lay.commits.ow w [.slice A es.length c] es fp) :
    Calls Tryz.prog 60 #[.slice A es.length c, .int .i64 (k : Int)] w fun e w' => e = .returned (.int .i64 (nC k es : Int)) ∧ Lay.commits.ow w' [.slice A es.length c] (markedC k es) fp ∧ Keeps fp w w' := by
  go_enter Tryz.func60, Tryz.ntmps60
  go_wp2
  go_loopw [1, 5] (fun kk i wr => ∃ j : Nat, j ≤ es.length ∧ i = .int .i64 j ∧ kk = .int .i64 (nC k (es.take j) : Int) ∧ Lay.commits.ow wr [.slice A es.length c] (markedC k (es.take j) ++ es.drop j) fp ∧ Keeps fp w wr) (fun _ i _ => es.length - (intOf i).toNat)
  case atStart => exact ⟨0, Nat.zero_le _, rfl, by simp [nC, tot, cputs], by simpa [markedC] using h, Keeps.refl _ _⟩
  case round =>
    obtain ⟨j, hj, rfl, rfl, how, hke⟩ := hrel
    by_cases hlt : j < es.length
    · have hlE : (markedC k (es.take j) ++ es.drop j).length = es.length := by rw [List.length_append, markedC_length, List.length_take, List.length_drop]; omega
      have hll : j < (markedC k (es.take j) ++ es.drop j).length := by rw [hlE]; exact hlt
      obtain ⟨g, c', cur, us, fi, hv, hus, hblk, hcz, hcell, hoe, hni, hgf, hfi, hput⟩ := Lay.put (E := Lay.commit) how hn (by decide) j hll
      have hmid : (markedC k (es.take j) ++ es.drop j)[j] = es[j] := by
        rw [List.getElem_append_right (by rw [markedC_length, List.length_take]; omega)]
        simp [markedC_length, List.length_take, show min j es.length = j by omega]
      rw [hmid] at hoe
      rw [hlE] at hv hcz
      simp only [Value.slice.injEq, true_and] at hv
      obtain ⟨rfl, rfl⟩ := hv
      obtain ⟨v, hcs, i0, i1, i2, hown, hfp⟩ := commit_ow_inv hoe
      have hstep := markedC_step k es j hlt
      have hntk := nC_take k es j hlt
      have hnle := nC_le k es (j + 1)
      have hnb : nC k es ≤ 8000000 := hk
      obtain ⟨m, hm⟩ : ∃ m, nC k (es.take j) = m := ⟨_, rfl⟩
      rw [hm] at hstep hntk ⊢
      obtain ⟨p, hp⟩ : ∃ p, es[j].2.2.2 = p := ⟨_, rfl⟩
      have hmk : mkC m es[j] = ((m : Int), (m : Int) + 1, (m : Int) + 2, marks (m + 3) p.length) := by unfold mkC; rw [hp]
      rw [hmk] at hstep
      rw [hp] at hown hntk
      have c0 := hcell 0 (by rw [hcs]; simp)
      have c1 := hcell 1 (by rw [hcs]; simp)
      have c2 := hcell 2 (by rw [hcs]; simp)
      have c3 := hcell 3 (by rw [hcs]; simp)
      simp only [hcs, List.getElem_cons_zero, List.getElem_cons_succ] at c0 c1 c2 c3
      have hsz4 : Lay.commit.sz = 4 := rfl
      rw [hsz4] at c0 c1 c2 c3 hput hcz
      have hb4 : j * 4 + 4 ≤ cur.size := by omega
      have u0 : wr.cell? ⟨g, j * 4, none⟩ = some (.int .i64 es[j].1) := (hblk.cell _).trans (by simpa using c0)
      have u1 : wr.cell? ⟨g, j * 4 + 1, none⟩ = some (.int .i64 es[j].2.1) := (hblk.cell _).trans c1
      have u2 : wr.cell? ⟨g, j * 4 + 2, none⟩ = some (.int .i64 es[j].2.2.1) := (hblk.cell _).trans c2
      have u3 : wr.cell? ⟨g, j * 4 + 3, none⟩ = some v := (hblk.cell _).trans c3
      have f0 := hblk.frozen (j * 4)
      have f1 := hblk.frozen (j * 4 + 1)
      have f2 := hblk.frozen (j * 4 + 2)
      have hb2 := (((hblk.set (j * 4) (.int .i64 (m : Int))).set (j * 4 + 1) (.int .i64 ((m : Int) + 1))).set (j * 4 + 2) (.int .i64 ((m : Int) + 2)))
      have hk2 := ((((Keeps.refl (g :: fi) wr).set (List.mem_cons_self ..) (j * 4) (.int .i64 (m : Int))).set (List.mem_cons_self ..) (j * 4 + 1) (.int .i64 ((m : Int) + 1))).set (List.mem_cons_self ..) (j * 4 + 2) (.int .i64 ((m : Int) + 2)))
      have ho2 : Own (((wr.setCell ⟨g, j * 4, none⟩ (.int .i64 (m : Int))).setCell ⟨g, j * 4 + 1, none⟩ (.int .i64 ((m : Int) + 1))).setCell ⟨g, j * 4 + 2, none⟩ (.int .i64 ((m : Int) + 2))) 0 v p := hown.heap (fun q hq => by
        have hne : q ≠ g := (hfi q (by rw [hfp]; exact hq)).2
        rw [Below.heap_setCell _ _ _ _ (by simpa using hne), Below.heap_setCell _ _ _ _ (by simpa using hne), Below.heap_setCell _ _ _ _ (by simpa using hne)])
      have hgl : g < (((wr.setCell ⟨g, j * 4, none⟩ (.int .i64 (m : Int))).setCell ⟨g, j * 4 + 1, none⟩ (.int .i64 ((m : Int) + 1))).setCell ⟨g, j * 4 + 2, none⟩ (.int .i64 ((m : Int) + 2))).heap.size := hb2.lt
      have hmb : m ≤ 8000000 := by omega
      have hpb : p.length ≤ 8000000 := by omega
      have hji : (j : Int) < (es.length : Int) := by omega
      have hw0 : IntKind.i64.wrap ((m : Int) + 1) = (m : Int) + 1 := by rw [IntWalk.i64_in _ ⟨by omega, by omega⟩]; try omega
      have hw1 : IntKind.i64.wrap ((m : Int) + 1 + 1) = (m : Int) + 2 := by rw [IntWalk.i64_in _ ⟨by omega, by omega⟩]; try omega
      have hw2 : IntKind.i64.wrap ((m : Int) + 2 + 1) = ((m + 3 : Nat) : Int) := by rw [IntWalk.i64_in _ ⟨by omega, by omega⟩]; try omega
      have hcv : (((cur.setIfInBounds (j * 4) (.int .i64 (m : Int))).setIfInBounds (j * 4 + 1) (.int .i64 ((m : Int) + 1))).setIfInBounds (j * 4 + 2) (.int .i64 ((m : Int) + 2)))[j * 4 + 3]? = some v := by
        rw [Array.getElem?_setIfInBounds, if_neg (by omega), Array.getElem?_setIfInBounds, if_neg (by omega), Array.getElem?_setIfInBounds, if_neg (by omega)]; exact c3
      have HC3 := Lib.hid hcv
      have HO2 := Lib.hid ho2
      have HB2 := Lib.hid hb2
      have HK2 := Lib.hid hk2
      have HPUT := Lib.hid hput
      have HST := Lib.hid hstep
      have HNT := Lib.hid hntk
      have HKE := Lib.hid hke
      have HFI := Lib.hid hfi
      have HFP := Lib.hid hfp
      clear c0 c1 c2 c3 ho2 hb2 hk2 hput hstep hntk hke hcell hoe hown how hmid hmk hp hcs hfi hfp hblk hm hcv i0 i1 i2
      generalize es[j].1 = y0 at *
      generalize es[j].2.1 = y1 at *
      generalize es[j].2.2.1 = y2 at *
      go_wp2_with fail
      refine (markByteS_big v p 0 (m + 3) _ (by omega) (by omega) (by exact HO2.out)).mono ?_
      rintro e w1 ⟨rfl, how1, hgr⟩
      have hkb := Keeps.of_grown hgr
      have hgv : g ∉ v.ownBlock.toList := fun hq => (HFI.out g (by rw [HFP.out]; exact hq)).2 rfl
      have hb1 := HB2.out.of_block (hkb.block g hgl hgv)
      have hk1 := HK2.out.trans (hkb.mono (fun x hx => List.mem_cons_of_mem _ (by rw [HFP.out]; exact hx)))
      have hmem : ∀ x ∈ g :: fi, x ∈ fp := fun x hx => by
        rcases List.mem_cons.1 hx with e | hx
        · rw [e]; exact hgf
        · exact (HFI.out x hx).1
      have hnew := HPUT.out w1 ((m : Int), (m : Int) + 1, (m : Int) + 2, marks (m + 3) p.length) [.int .i64 (m : Int), .int .i64 ((m : Int) + 1), .int .i64 ((m : Int) + 2), v] _ rfl hk1 hb1 (by simp) (by
          intro q hq
          have hq4 : q < 4 := hq
          match q, hq4 with
          | 0, _ => simp [Array.getElem?_setIfInBounds]; omega
          | 1, _ => simp [Array.getElem?_setIfInBounds]; omega
          | 2, _ => simp [Array.getElem?_setIfInBounds]; omega
          | 3, _ => exact HC3.out) (by
          intro q hq
          rw [Array.getElem?_setIfInBounds, if_neg (by omega), Array.getElem?_setIfInBounds, if_neg (by omega), Array.getElem?_setIfInBounds, if_neg (by omega)]) (by
          rw [HFP.out]
          exact own_commit (p := marks (m + 3) p.length) (base := 0) ⟨by omega, by omega⟩ ⟨by omega, by omega⟩ ⟨by omega, by omega⟩ how1)
      rw [HST.out] at hnew
      have HN := Lib.hid hnew
      have HK9 := Lib.hid (HKE.out.trans (hk1.mono hmem))
      have hnx : m + 3 + p.length = nC k (es.take (j + 1)) := HNT.out.symm
      rw [hnx]
      clear u0 u1 u2 u3 f0 f1 f2 hb1 hk1 hnew hkb how1 hgr hnx hmem
      go_wp2
      go_roundw
      case rel => exact ⟨j + 1, by omega, by go_num, by first | rfl | go_num, HN.out, HK9.out⟩
      case measure => simp [intOf]; omega
    · have e : j = es.length := by omega
      subst e
      rw [List.take_length, List.drop_length, List.append_nil] at how
      rw [List.take_length]
      go_wp2
      go_ret
      exact ⟨rfl, how, hke⟩

/-- A list behind markEditS. -/
def mkEd (k : Nat) (c : Ed) : Ed := ((k : Int), (k : Int) + 1, marks (k + 2) c.2.2.length)
def nEd (k : Nat) (es : List Ed) : Nat := k + 2 * es.length + tot (puts es)
def markedEd (k : Nat) : List Ed → List Ed
  | [] => []
  | c :: t => mkEd k c :: markedEd (k + 2 + c.2.2.length) t
theorem markedEd_length (es : List Ed) : ∀ k, (markedEd k es).length = es.length := by
  induction es with
  | nil => intro k; rfl
  | cons c t ih => intro k; simp [markedEd, ih]
theorem nEd_take (k : Nat) (es : List Ed) (j : Nat) (h : j < es.length) : nEd k (es.take (j + 1)) = nEd k (es.take j) + 2 + es[j].2.2.length := by
  have h1 : puts (es.take (j + 1)) = puts (es.take j) ++ [es[j].2.2] := by
    unfold puts
    rw [List.take_succ_eq_append_getElem h, List.map_append]
    rfl
  have h2 : (es.take (j + 1)).length = j + 1 := by rw [List.length_take]; omega
  have h3 : (es.take j).length = j := by rw [List.length_take]; omega
  unfold nEd tot
  rw [h1, h2, h3, List.flatten_append, List.length_append]
  simp only [List.flatten_cons, List.flatten_nil, List.append_nil]
  omega
theorem nEd_le (k : Nat) (es : List Ed) (j : Nat) : nEd k (es.take j) ≤ nEd k es := by
  unfold nEd
  have h2 : (puts es).flatten = (puts (es.take j)).flatten ++ (puts (es.drop j)).flatten := by
    unfold puts
    rw [← List.flatten_append, ← List.map_append, List.take_append_drop]
  have h3 : (es.take j).length ≤ es.length := by rw [List.length_take]; omega
  unfold tot
  rw [h2, List.length_append]
  omega
theorem markedEd_snoc (es : List Ed) : ∀ (k j : Nat) (h : j < es.length), markedEd k (es.take (j + 1)) = markedEd k (es.take j) ++ [mkEd (nEd k (es.take j)) es[j]] := by
  induction es with
  | nil => intro k j h; simp at h
  | cons c t ih =>
    intro k j h
    cases j with
    | zero => simp [markedEd, nEd, tot, puts]
    | succ j =>
      have h9 := ih (k + 2 + c.2.2.length) j (by simpa using h)
      have hn : nEd (k + 2 + c.2.2.length) (t.take j) = nEd k ((c :: t).take (j + 1)) := by
        unfold nEd tot puts
        simp
        omega
      rw [List.take_succ_cons, List.take_succ_cons]
      simp only [markedEd, List.getElem_cons_succ, List.cons_append, h9]
      rw [hn]
      rfl
theorem markedEd_step (k : Nat) (es : List Ed) (j : Nat) (h : j < es.length) : (markedEd k (es.take j) ++ es.drop j).set j (mkEd (nEd k (es.take j)) es[j]) = markedEd k (es.take (j + 1)) ++ es.drop (j + 1) := by
  have hl : (markedEd k (es.take j)).length = j := by rw [markedEd_length, List.length_take]; omega
  rw [List.drop_eq_getElem_cons h, List.set_append_right _ _ (by omega), hl, Nat.sub_self, List.set_cons_zero, markedEd_snoc es k j h, List.append_assoc, List.singleton_append]

set_option maxHeartbeats 4000000 in
theorem markEditS_ow (A : Option Addr) (c : Nat) (es : List Ed) (fp : List Nat) (k : Nat) (w : World) (hk : k + 2 * es.length + tot (puts es) ≤ 8000000) (hn : fp.Nodup) (h : Lay.edits.ow w [.slice A es.length c] es fp) :
    Calls Tryz.prog 22 #[.slice A es.length c, .int .i64 (k : Int)] w fun e w' => e = .returned (.int .i64 (nEd k es : Int)) ∧ Lay.edits.ow w' [.slice A es.length c] (markedEd k es) fp ∧ Keeps fp w w' := by
  go_enter Tryz.func22, Tryz.ntmps22
  go_wp2
  go_loopw [1, 5] (fun kk i wr => ∃ j : Nat, j ≤ es.length ∧ i = .int .i64 j ∧ kk = .int .i64 (nEd k (es.take j) : Int) ∧ Lay.edits.ow wr [.slice A es.length c] (markedEd k (es.take j) ++ es.drop j) fp ∧ Keeps fp w wr) (fun _ i _ => es.length - (intOf i).toNat)
  case atStart => exact ⟨0, Nat.zero_le _, rfl, by simp [nEd, tot, puts], by simpa [markedEd] using h, Keeps.refl _ _⟩
  case round =>
    obtain ⟨j, hj, rfl, rfl, how, hke⟩ := hrel
    by_cases hlt : j < es.length
    · have hlE : (markedEd k (es.take j) ++ es.drop j).length = es.length := by rw [List.length_append, markedEd_length, List.length_take, List.length_drop]; omega
      have hll : j < (markedEd k (es.take j) ++ es.drop j).length := by rw [hlE]; exact hlt
      obtain ⟨g, c', cur, us, fi, hv, hus, hblk, hcz, hcell, hoe, hni, hgf, hfi, hput⟩ := Lay.put (E := Lay.edit) how hn (by decide) j hll
      have hmid : (markedEd k (es.take j) ++ es.drop j)[j] = es[j] := by
        rw [List.getElem_append_right (by rw [markedEd_length, List.length_take]; omega)]
        simp [markedEd_length, List.length_take, show min j es.length = j by omega]
      rw [hmid] at hoe
      rw [hlE] at hv hcz
      simp only [Value.slice.injEq, true_and] at hv
      obtain ⟨rfl, rfl⟩ := hv
      obtain ⟨v, hcs, hown, hfp⟩ := edit_ow_inv hoe
      have hstep := markedEd_step k es j hlt
      have hntk := nEd_take k es j hlt
      have hnle := nEd_le k es (j + 1)
      have hnb : nEd k es ≤ 8000000 := hk
      obtain ⟨m, hm⟩ : ∃ m, nEd k (es.take j) = m := ⟨_, rfl⟩
      rw [hm] at hstep hntk ⊢
      obtain ⟨p, hp⟩ : ∃ p, es[j].2.2 = p := ⟨_, rfl⟩
      have hmk : mkEd m es[j] = ((m : Int), (m : Int) + 1, marks (m + 2) p.length) := by unfold mkEd; rw [hp]
      rw [hmk] at hstep
      rw [hp] at hown hntk
      have c0 := hcell 0 (by rw [hcs]; simp)
      have c1 := hcell 1 (by rw [hcs]; simp)
      have c2 := hcell 2 (by rw [hcs]; simp)
      simp only [hcs, List.getElem_cons_zero, List.getElem_cons_succ] at c0 c1 c2
      have hsz4 : Lay.edit.sz = 3 := rfl
      rw [hsz4] at c0 c1 c2 hput hcz
      have hb4 : j * 3 + 3 ≤ cur.size := by omega
      have u0 : wr.cell? ⟨g, j * 3, none⟩ = some (.int .i64 es[j].1) := (hblk.cell _).trans (by simpa using c0)
      have u1 : wr.cell? ⟨g, j * 3 + 1, none⟩ = some (.int .i64 es[j].2.1) := (hblk.cell _).trans c1
      have u2 : wr.cell? ⟨g, j * 3 + 2, none⟩ = some v := (hblk.cell _).trans c2
      have f0 := hblk.frozen (j * 3)
      have f1 := hblk.frozen (j * 3 + 1)
      have hb2 := ((hblk.set (j * 3) (.int .i64 (m : Int))).set (j * 3 + 1) (.int .i64 ((m : Int) + 1)))
      have hk2 := (((Keeps.refl (g :: fi) wr).set (List.mem_cons_self ..) (j * 3) (.int .i64 (m : Int))).set (List.mem_cons_self ..) (j * 3 + 1) (.int .i64 ((m : Int) + 1)))
      have ho2 : Own ((wr.setCell ⟨g, j * 3, none⟩ (.int .i64 (m : Int))).setCell ⟨g, j * 3 + 1, none⟩ (.int .i64 ((m : Int) + 1))) 0 v p := hown.heap (fun q hq => by
        have hne : q ≠ g := (hfi q (by rw [hfp]; exact hq)).2
        rw [Below.heap_setCell _ _ _ _ (by simpa using hne), Below.heap_setCell _ _ _ _ (by simpa using hne)])
      have hgl : g < ((wr.setCell ⟨g, j * 3, none⟩ (.int .i64 (m : Int))).setCell ⟨g, j * 3 + 1, none⟩ (.int .i64 ((m : Int) + 1))).heap.size := hb2.lt
      have hmb : m ≤ 8000000 := by omega
      have hpb : p.length ≤ 8000000 := by omega
      have hji : (j : Int) < (es.length : Int) := by omega
      have hw0 : IntKind.i64.wrap ((m : Int) + 1) = (m : Int) + 1 := by rw [IntWalk.i64_in _ ⟨by omega, by omega⟩]; try omega
      have hw1 : IntKind.i64.wrap ((m : Int) + 1 + 1) = ((m + 2 : Nat) : Int) := by rw [IntWalk.i64_in _ ⟨by omega, by omega⟩]; try omega
      have hcv : ((cur.setIfInBounds (j * 3) (.int .i64 (m : Int))).setIfInBounds (j * 3 + 1) (.int .i64 ((m : Int) + 1)))[j * 3 + 2]? = some v := by
        rw [Array.getElem?_setIfInBounds, if_neg (by omega), Array.getElem?_setIfInBounds, if_neg (by omega)]; exact c2
      have HC3 := Lib.hid hcv
      have HO2 := Lib.hid ho2
      have HB2 := Lib.hid hb2
      have HK2 := Lib.hid hk2
      have HPUT := Lib.hid hput
      have HST := Lib.hid hstep
      have HNT := Lib.hid hntk
      have HKE := Lib.hid hke
      have HFI := Lib.hid hfi
      have HFP := Lib.hid hfp
      clear c0 c1 c2 ho2 hb2 hk2 hput hstep hntk hke hcell hoe hown how hmid hmk hp hcs hfi hfp hblk hm hcv
      generalize es[j].1 = y0 at *
      generalize es[j].2.1 = y1 at *
      go_wp2_with fail
      refine (markByteS_big v p 0 (m + 2) _ (by omega) (by omega) (by exact HO2.out)).mono ?_
      rintro e w1 ⟨rfl, how1, hgr⟩
      have hkb := Keeps.of_grown hgr
      have hgv : g ∉ v.ownBlock.toList := fun hq => (HFI.out g (by rw [HFP.out]; exact hq)).2 rfl
      have hb1 := HB2.out.of_block (hkb.block g hgl hgv)
      have hk1 := HK2.out.trans (hkb.mono (fun x hx => List.mem_cons_of_mem _ (by rw [HFP.out]; exact hx)))
      have hmem : ∀ x ∈ g :: fi, x ∈ fp := fun x hx => by
        rcases List.mem_cons.1 hx with e | hx
        · rw [e]; exact hgf
        · exact (HFI.out x hx).1
      have hnew := HPUT.out w1 ((m : Int), (m : Int) + 1, marks (m + 2) p.length) [.int .i64 (m : Int), .int .i64 ((m : Int) + 1), v] _ rfl hk1 hb1 (by simp) (by
          intro q hq
          have hq4 : q < 3 := hq
          match q, hq4 with
          | 0, _ => simp [Array.getElem?_setIfInBounds]; omega
          | 1, _ => simp [Array.getElem?_setIfInBounds]; omega
          | 2, _ => exact HC3.out) (by
          intro q hq
          rw [Array.getElem?_setIfInBounds, if_neg (by omega), Array.getElem?_setIfInBounds, if_neg (by omega)]) (by
          rw [HFP.out]
          exact own_edit (p := marks (m + 2) p.length) (base := 0) ⟨by omega, by omega⟩ ⟨by omega, by omega⟩ how1)
      rw [HST.out] at hnew
      have HN := Lib.hid hnew
      have HK9 := Lib.hid (HKE.out.trans (hk1.mono hmem))
      have hnx : m + 2 + p.length = nEd k (es.take (j + 1)) := HNT.out.symm
      rw [hnx]
      clear u0 u1 u2 f0 f1 hb1 hk1 hnew hkb how1 hgr hnx hmem
      go_wp2
      go_roundw
      case rel => exact ⟨j + 1, by omega, by go_num, by first | rfl | go_num, HN.out, HK9.out⟩
      case measure => simp [intOf]; omega
    · have e : j = es.length := by omega
      subst e
      rw [List.take_length, List.drop_length, List.append_nil] at how
      rw [List.take_length]
      go_wp2
      go_ret
      exact ⟨rfl, how, hke⟩
end Go.Proofs.YtkplfbhblbinaabGreatDoor

/-
  The laws' marks on members, told as owning: contracts. Own work.
-/
namespace Go.Proofs.YtkplfbhblbinaabGreatDoor
open Go.RowKit P
set_option linter.unusedVariables false
set_option linter.unusedSimpArgs false
set_option maxRecDepth 100000

/-- The number behind a member's marks. -/
def nMb (k : Nat) (m : Mb) : Nat := nEd (nEd (k + 3) m.2.2.1) m.2.2.2
def mkM (k : Nat) (m : Mb) : Mb := ((k : Int), ((k : Int) + 1, (k : Int) + 2), (markedEd (k + 3) m.2.2.1, markedEd (nEd (k + 3) m.2.2.1) m.2.2.2))
def markedM (k : Nat) : List Mb → List Mb
  | [] => []
  | m :: t => mkM k m :: markedM (nMb k m) t
def nM (k : Nat) : List Mb → Nat
  | [] => k
  | m :: t => nM (nMb k m) t
theorem markedM_length (es : List Mb) : ∀ k, (markedM k es).length = es.length := by
  induction es with
  | nil => intro k; rfl
  | cons c t ih => intro k; simp [markedM, ih]
theorem nM_snoc (es : List Mb) : ∀ (k j : Nat) (h : j < es.length), nM k (es.take (j + 1)) = nMb (nM k (es.take j)) es[j] := by
  induction es with
  | nil => intro k j h; simp at h
  | cons c t ih =>
    intro k j h
    cases j with
    | zero => simp [nM]
    | succ j =>
      rw [List.take_succ_cons, List.take_succ_cons]
      simp only [nM, List.getElem_cons_succ]
      exact ih (nMb k c) j (by simpa using h)
theorem nMb_eq (k : Nat) (m : Mb) : nMb k m = k + 3 + 2 * m.2.2.1.length + tot (puts m.2.2.1) + 2 * m.2.2.2.length + tot (puts m.2.2.2) := by
  unfold nMb nEd
  omega
theorem nM_le (es : List Mb) : ∀ (k : Nat), nM k es ≤ k + 3 * es.length + 2 * msum es := by
  induction es with
  | nil => intro k; simp [nM]
  | cons c t ih =>
    intro k
    have h1 := ih (nMb k c)
    have h2 := nMb_eq k c
    have h3 : msum (c :: t) = mtot c + msum t := by unfold msum; simp
    have h4 : mtot c = c.2.2.1.length + tot (puts c.2.2.1) + c.2.2.2.length + tot (puts c.2.2.2) := rfl
    simp only [nM, List.length_cons]
    omega
theorem nM_ge (es : List Mb) : ∀ (k : Nat), k ≤ nM k es := by
  induction es with
  | nil => intro k; exact Nat.le_refl _
  | cons c t ih =>
    intro k
    have h1 := ih (nMb k c)
    have h2 := nMb_eq k c
    simp only [nM]
    omega
theorem nM_take_le (es : List Mb) : ∀ (k j : Nat), nM k (es.take j) ≤ nM k es := by
  induction es with
  | nil => intro k j; simp
  | cons c t ih =>
    intro k j
    cases j with
    | zero => exact nM_ge _ _
    | succ j => rw [List.take_succ_cons]; simp only [nM]; exact ih _ _
theorem markedM_snoc (es : List Mb) : ∀ (k j : Nat) (h : j < es.length), markedM k (es.take (j + 1)) = markedM k (es.take j) ++ [mkM (nM k (es.take j)) es[j]] := by
  induction es with
  | nil => intro k j h; simp at h
  | cons c t ih =>
    intro k j h
    cases j with
    | zero => simp [markedM, nM]
    | succ j =>
      rw [List.take_succ_cons, List.take_succ_cons]
      simp only [markedM, List.getElem_cons_succ, List.cons_append, nM]
      rw [ih (nMb k c) j (by simpa using h)]
theorem markedM_step (k : Nat) (es : List Mb) (j : Nat) (h : j < es.length) : (markedM k (es.take j) ++ es.drop j).set j (mkM (nM k (es.take j)) es[j]) = markedM k (es.take (j + 1)) ++ es.drop (j + 1) := by
  have hl : (markedM k (es.take j)).length = j := by rw [markedM_length, List.length_take]; omega
  rw [List.drop_eq_getElem_cons h, List.set_append_right _ _ (by omega), hl, Nat.sub_self, List.set_cons_zero, markedM_snoc es k j h, List.append_assoc, List.singleton_append]
theorem markedEd_len (k : Nat) (es : List Ed) : (markedEd k es).length = es.length := markedEd_length es k

theorem member_ow_inv {w : World} {cs : List Value} {d : Mb} {fp : List Nat} (h : Lay.member.ow w cs d fp) : ∃ A c B e fu fr, cs = [.int .i64 d.1, .int .i64 d.2.1.1, .int .i64 d.2.1.2, .slice A d.2.2.1.length c, .slice B d.2.2.2.length e] ∧
    Lay.edits.ow w [.slice A d.2.2.1.length c] d.2.2.1 fu ∧ Lay.edits.ow w [.slice B d.2.2.2.length e] d.2.2.2 fr ∧ fp = fu ++ fr := by
  obtain ⟨_, _, _, _, rfl, ⟨rfl, _, rfl⟩, ⟨_, _, _, _, rfl, ⟨_, _, _, _, rfl, ⟨rfl, _, rfl⟩, ⟨rfl, _, rfl⟩, rfl⟩, ⟨cu, cr, fu, fr, rfl, hu, hr, rfl⟩, rfl⟩, rfl⟩ := h
  obtain ⟨A, c, rfl, _⟩ := Lay.edits.read hu
  obtain ⟨B, e, rfl, _⟩ := Lay.edits.read hr
  exact ⟨A, c, B, e, fu, fr, rfl, hu, hr, by simp⟩
theorem own_member' {w : World} {s f t : Int} {A B : Option Addr} {u r : List Ed} {c d : Nat} {fp gp : List Nat} (hs : isI s) (hf : isI f) (ht : isI t) (hu : Lay.edits.ow w [.slice A u.length c] u fp) (hr : Lay.edits.ow w [.slice B r.length d] r gp) :
    Lay.member.ow w [.int .i64 s, .int .i64 f, .int .i64 t, .slice A u.length c, .slice B r.length d] (s, (f, t), (u, r)) (fp ++ gp) :=
  ⟨[.int .i64 s], [.int .i64 f, .int .i64 t, .slice A u.length c, .slice B r.length d], [], fp ++ gp, rfl, ⟨rfl, hs, rfl⟩, ⟨[.int .i64 f, .int .i64 t], [.slice A u.length c, .slice B r.length d], [], fp ++ gp, rfl, ⟨[.int .i64 f], [.int .i64 t], [], [], rfl, ⟨rfl, hf, rfl⟩, ⟨rfl, ht, rfl⟩, rfl⟩, ⟨[.slice A u.length c], [.slice B r.length d], fp, gp, rfl, hu, hr, rfl⟩, rfl⟩, rfl⟩

set_option maxHeartbeats 4000000 in
theorem markMemberS_any (A : Option Addr) (c : Nat) (es : List Mb) (fp : List Nat) (k : Nat) (w : World) (hk : k + 3 * es.length + 2 * msum es ≤ 8000000) (hn : fp.Nodup) (h : Lay.members.ow w [.slice A es.length c] es fp) :
    Calls Tryz.prog 61 #[.slice A es.length c, .int .i64 (k : Int)] w fun e w' => e = .returned (.int .i64 (nM k es : Int)) ∧ Lay.members.ow w' [.slice A es.length c] (markedM k es) fp ∧ Keeps fp w w' := by
  go_enter Tryz.func61, Tryz.ntmps61
  go_wp2
  go_loopw [1, 5] (fun kk i wr => ∃ j : Nat, j ≤ es.length ∧ i = .int .i64 j ∧ kk = .int .i64 (nM k (es.take j) : Int) ∧ Lay.members.ow wr [.slice A es.length c] (markedM k (es.take j) ++ es.drop j) fp ∧ Keeps fp w wr) (fun _ i _ => es.length - (intOf i).toNat)
  case atStart => exact ⟨0, Nat.zero_le _, rfl, by simp [nM], by simpa [markedM] using h, Keeps.refl _ _⟩
  case round =>
    obtain ⟨j, hj, rfl, rfl, how, hke⟩ := hrel
    by_cases hlt : j < es.length
    · have hlE : (markedM k (es.take j) ++ es.drop j).length = es.length := by rw [List.length_append, markedM_length, List.length_take, List.length_drop]; omega
      have hll : j < (markedM k (es.take j) ++ es.drop j).length := by rw [hlE]; exact hlt
      obtain ⟨g, c', cur, us, fi, hv, hus, hblk, hcz, hcell, hoe, hni, hgf, hfi, hput⟩ := Lay.put (E := Lay.member) how hn (by decide) j hll
      have hmid : (markedM k (es.take j) ++ es.drop j)[j] = es[j] := by
        rw [List.getElem_append_right (by rw [markedM_length, List.length_take]; omega)]
        simp [markedM_length, List.length_take, show min j es.length = j by omega]
      rw [hmid] at hoe
      rw [hlE] at hv hcz
      simp only [Value.slice.injEq, true_and] at hv
      obtain ⟨rfl, rfl⟩ := hv
      obtain ⟨U, cu, R, cr, fu, fr, hcs, hou, hor, hfp⟩ := member_ow_inv hoe
      have hstep := markedM_step k es j hlt
      have hntk := nM_snoc es k j hlt
      have hnle := nM_take_le es k (j + 1)
      have hnb : nM k es ≤ 8000000 := Nat.le_trans (nM_le es k) hk
      obtain ⟨m, hm⟩ : ∃ m, nM k (es.take j) = m := ⟨_, rfl⟩
      rw [hm] at hstep hntk ⊢
      obtain ⟨u, hu⟩ : ∃ u, es[j].2.2.1 = u := ⟨_, rfl⟩
      obtain ⟨r, hr⟩ : ∃ r, es[j].2.2.2 = r := ⟨_, rfl⟩
      have hmk : mkM m es[j] = ((m : Int), ((m : Int) + 1, (m : Int) + 2), (markedEd (m + 3) u, markedEd (nEd (m + 3) u) r)) := by unfold mkM; rw [hu, hr]
      have hnk : nMb m es[j] = nEd (nEd (m + 3) u) r := by unfold nMb; rw [hu, hr]
      have hmq := nMb_eq m es[j]
      rw [hu, hr] at hmq
      rw [hmk] at hstep
      rw [hnk] at hntk
      rw [hu] at hou
      rw [hr] at hor
      rw [hu, hr] at hcs
      have c0 := hcell 0 (by rw [hcs]; simp)
      have c1 := hcell 1 (by rw [hcs]; simp)
      have c2 := hcell 2 (by rw [hcs]; simp)
      have c3 := hcell 3 (by rw [hcs]; simp)
      have c4 := hcell 4 (by rw [hcs]; simp)
      simp only [hcs, List.getElem_cons_zero, List.getElem_cons_succ] at c0 c1 c2 c3 c4
      have hsz4 : Lay.member.sz = 5 := rfl
      rw [hsz4] at c0 c1 c2 c3 c4 hput hcz
      have hb4 : j * 5 + 5 ≤ cur.size := by omega
      have u0 : wr.cell? ⟨g, j * 5, none⟩ = some (.int .i64 es[j].1) := (hblk.cell _).trans (by simpa using c0)
      have u1 : wr.cell? ⟨g, j * 5 + 1, none⟩ = some (.int .i64 es[j].2.1.1) := (hblk.cell _).trans c1
      have u2 : wr.cell? ⟨g, j * 5 + 2, none⟩ = some (.int .i64 es[j].2.1.2) := (hblk.cell _).trans c2
      have u3 : wr.cell? ⟨g, j * 5 + 3, none⟩ = some (.slice U u.length cu) := (hblk.cell _).trans c3
      have u4 : wr.cell? ⟨g, j * 5 + 4, none⟩ = some (.slice R r.length cr) := (hblk.cell _).trans c4
      have f0 := hblk.frozen (j * 5)
      have f1 := hblk.frozen (j * 5 + 1)
      have f2 := hblk.frozen (j * 5 + 2)
      have hb2 := (((hblk.set (j * 5) (.int .i64 (m : Int))).set (j * 5 + 1) (.int .i64 ((m : Int) + 1))).set (j * 5 + 2) (.int .i64 ((m : Int) + 2)))
      have hk2 := ((((Keeps.refl (g :: fi) wr).set (List.mem_cons_self ..) (j * 5) (.int .i64 (m : Int))).set (List.mem_cons_self ..) (j * 5 + 1) (.int .i64 ((m : Int) + 1))).set (List.mem_cons_self ..) (j * 5 + 2) (.int .i64 ((m : Int) + 2)))
      have hgn : g ∉ fi := fun hq => (hfi g hq).2 rfl
      have hk3 : Keeps [g] wr (((wr.setCell ⟨g, j * 5, none⟩ (.int .i64 (m : Int))).setCell ⟨g, j * 5 + 1, none⟩ (.int .i64 ((m : Int) + 1))).setCell ⟨g, j * 5 + 2, none⟩ (.int .i64 ((m : Int) + 2))) := ((Keeps.refl [g] wr).set (List.mem_singleton.2 rfl) (j * 5) (.int .i64 (m : Int))).set (List.mem_singleton.2 rfl) (j * 5 + 1) (.int .i64 ((m : Int) + 1)) |>.set (List.mem_singleton.2 rfl) (j * 5 + 2) (.int .i64 ((m : Int) + 2))
      have hou2 := Lay.edits.keeps hou hk3 (fun q hq h9 => hgn (by rw [hfp, ← List.mem_singleton.1 h9]; exact List.mem_append.2 (.inl hq)))
      have hor2 := Lay.edits.keeps hor hk3 (fun q hq h9 => hgn (by rw [hfp, ← List.mem_singleton.1 h9]; exact List.mem_append.2 (.inr hq)))
      have hgl : g < (((wr.setCell ⟨g, j * 5, none⟩ (.int .i64 (m : Int))).setCell ⟨g, j * 5 + 1, none⟩ (.int .i64 ((m : Int) + 1))).setCell ⟨g, j * 5 + 2, none⟩ (.int .i64 ((m : Int) + 2))).heap.size := hb2.lt
      have hnd := hni
      rw [hfp, List.nodup_append] at hnd
      obtain ⟨hnu, hnr, hdj⟩ := hnd
      have hmb : m ≤ 8000000 := by omega
      have hji : (j : Int) < (es.length : Int) := by omega
      have hw0 : IntKind.i64.wrap ((m : Int) + 1) = (m : Int) + 1 := by rw [IntWalk.i64_in _ ⟨by omega, by omega⟩]; try omega
      have hw1 : IntKind.i64.wrap ((m : Int) + 1 + 1) = (m : Int) + 2 := by rw [IntWalk.i64_in _ ⟨by omega, by omega⟩]; try omega
      have hw2 : IntKind.i64.wrap ((m : Int) + 2 + 1) = ((m + 3 : Nat) : Int) := by rw [IntWalk.i64_in _ ⟨by omega, by omega⟩]; try omega
      have hcv3 : (((cur.setIfInBounds (j * 5) (.int .i64 (m : Int))).setIfInBounds (j * 5 + 1) (.int .i64 ((m : Int) + 1))).setIfInBounds (j * 5 + 2) (.int .i64 ((m : Int) + 2)))[j * 5 + 3]? = some (.slice U u.length cu) := by
        rw [Array.getElem?_setIfInBounds, if_neg (by omega), Array.getElem?_setIfInBounds, if_neg (by omega), Array.getElem?_setIfInBounds, if_neg (by omega)]; exact c3
      have hcv4 : (((cur.setIfInBounds (j * 5) (.int .i64 (m : Int))).setIfInBounds (j * 5 + 1) (.int .i64 ((m : Int) + 1))).setIfInBounds (j * 5 + 2) (.int .i64 ((m : Int) + 2)))[j * 5 + 4]? = some (.slice R r.length cr) := by
        rw [Array.getElem?_setIfInBounds, if_neg (by omega), Array.getElem?_setIfInBounds, if_neg (by omega), Array.getElem?_setIfInBounds, if_neg (by omega)]; exact c4
      have hbu : m + 3 + 2 * u.length + tot (puts u) ≤ 8000000 := by omega
      have hnu1 : nEd (m + 3) u = m + 3 + 2 * u.length + tot (puts u) := rfl
      have hbr : nEd (m + 3) u + 2 * r.length + tot (puts r) ≤ 8000000 := by rw [hnu1]; omega
      have C3 := Lib.hid hcv3
      have C4 := Lib.hid hcv4
      have HOU := Lib.hid hou2
      have HOR := Lib.hid hor2
      have HB2 := Lib.hid hb2
      have HK2 := Lib.hid hk2
      have HPUT := Lib.hid hput
      have HST := Lib.hid hstep
      have HNT := Lib.hid hntk
      have HKE := Lib.hid hke
      have HFI := Lib.hid hfi
      have HFP := Lib.hid hfp
      have HNU := Lib.hid hnu
      have HNR := Lib.hid hnr
      have HDJ := Lib.hid hdj
      have HBU := Lib.hid hbu
      have HBR := Lib.hid hbr
      have HGN := Lib.hid hgn
      clear c0 c1 c2 c3 c4 hou2 hor2 hb2 hk2 hk3 hput hstep hntk hke hcell hoe hou hor how hmid hmk hnk hmq hu hr hcs hfi hfp hblk hm hcv3 hcv4 hnu hnr hdj hni hbu hbr hnu1 hgn
      generalize es[j].1 = y0 at *
      generalize es[j].2.1.1 = y1 at *
      generalize es[j].2.1.2 = y2 at *
      go_wp2_with fail
      refine (markEditS_ow U cu u fu (m + 3) _ HBU.out HNU.out (by exact HOU.out)).mono ?_
      rintro e w1 ⟨rfl, hou1, hke1⟩
      have hgu : g ∉ fu := fun hq => HGN.out (by rw [HFP.out]; exact List.mem_append.2 (.inl hq))
      have hb1 := HB2.out.of_block (hke1.block g hgl hgu)
      have hor1 := Lay.edits.keeps HOR.out hke1 (fun q hq h9 => HDJ.out q h9 q hq rfl)
      have hk1 := HK2.out.trans (hke1.mono (fun x hx => List.mem_cons_of_mem _ (by rw [HFP.out]; exact List.mem_append.2 (.inl hx))))
      have HB1 := Lib.hid hb1
      have HK1 := Lib.hid hk1
      have HO1 := Lib.hid hou1
      have HR1 := Lib.hid hor1
      have hgl1 := hb1.lt
      obtain ⟨n1, hn1⟩ : ∃ n, nEd (m + 3) u = n := ⟨_, rfl⟩
      have HN1 := Lib.hid hn1
      have hbr := HBR.out
      rw [hn1] at hbr ⊢
      have u4 : w1.cell? ⟨g, j * 5 + 4, none⟩ = some (.slice R r.length cr) := (hb1.cell _).trans C4.out
      clear u0 u1 u2 u3 f0 f1 f2 hb1 hk1 hou1 hor1 hke1 hn1
      go_wp2_with fail
      refine (markEditS_ow R cr r fr n1 _ hbr HNR.out (by exact HR1.out)).mono ?_
      rintro e w2 ⟨rfl, hor2, hke2⟩
      have hgr : g ∉ fr := fun hq => HGN.out (by rw [HFP.out]; exact List.mem_append.2 (.inr hq))
      have hb3 := HB1.out.of_block (hke2.block g hgl1 hgr)
      have hou3 := Lay.edits.keeps HO1.out hke2 (fun q hq h9 => HDJ.out q hq q h9 rfl)
      have hk3 := HK1.out.trans (hke2.mono (fun x hx => List.mem_cons_of_mem _ (by rw [HFP.out]; exact List.mem_append.2 (.inr hx))))
      have hmem : ∀ x ∈ g :: fi, x ∈ fp := fun x hx => by
        rcases List.mem_cons.1 hx with e | hx
        · rw [e]; exact hgf
        · exact (HFI.out x hx).1
      have hlu : u.length = (markedEd (m + 3) u).length := (markedEd_len _ _).symm
      have hlr : r.length = (markedEd n1 r).length := (markedEd_len _ _).symm
      have hnew := HPUT.out w2 ((m : Int), ((m : Int) + 1, (m : Int) + 2), (markedEd (m + 3) u, markedEd n1 r)) [.int .i64 (m : Int), .int .i64 ((m : Int) + 1), .int .i64 ((m : Int) + 2), .slice U u.length cu, .slice R r.length cr] _ rfl hk3 hb3 (by simp) (by
          intro q hq
          have hq4 : q < 5 := hq
          match q, hq4 with
          | 0, _ => simp [Array.getElem?_setIfInBounds]; omega
          | 1, _ => simp [Array.getElem?_setIfInBounds]; omega
          | 2, _ => simp [Array.getElem?_setIfInBounds]; omega
          | 3, _ => exact C3.out
          | 4, _ => exact C4.out) (by
          intro q hq
          rw [Array.getElem?_setIfInBounds, if_neg (by omega), Array.getElem?_setIfInBounds, if_neg (by omega), Array.getElem?_setIfInBounds, if_neg (by omega)]) (by
          rw [HFP.out]
          have h1 := hou3
          have h2 := hor2
          rw [hlu] at h1 ⊢
          rw [hlr] at h2 ⊢
          exact own_member' ⟨by omega, by omega⟩ ⟨by omega, by omega⟩ ⟨by omega, by omega⟩ h1 h2)
      have hst := HST.out
      rw [HN1.out] at hst
      rw [hst] at hnew
      have HN := Lib.hid hnew
      have HK9 := Lib.hid (HKE.out.trans (hk3.mono hmem))
      have hnx : nEd n1 r = nM k (es.take (j + 1)) := by rw [← HN1.out]; exact HNT.out.symm
      rw [hnx]
      clear u4 hb3 hk3 hnew hou3 hor2 hke2 hnx hmem hst hlu hlr
      go_wp2
      go_roundw
      case rel => exact ⟨j + 1, by omega, by go_num, by first | rfl | go_num, HN.out, HK9.out⟩
      case measure => simp [intOf]; omega
    · have e : j = es.length := by omega
      subst e
      rw [List.take_length, List.drop_length, List.append_nil] at how
      rw [List.take_length]
      go_wp2
      go_ret
      exact ⟨rfl, how, hke⟩
end Go.Proofs.YtkplfbhblbinaabGreatDoor

/-
  The laws' reading of marks on commits, members and documents: contracts. Own work.
-/
namespace Go.Proofs.YtkplfbhblbinaabGreatDoor
open Go.RowKit P
set_option linter.unusedVariables false
set_option linter.unusedSimpArgs false
set_option maxRecDepth 100000

end Go.Proofs.YtkplfbhblbinaabGreatDoor

/-
  Chapter 10, the laws' marks on documents: contracts. Own work.
-/
namespace Go.Proofs.YtkplfbhblbinaabGreatDoor
open Go.RowKit P
set_option linter.unusedVariables false
set_option linter.unusedSimpArgs false
set_option maxRecDepth 100000

/-- The numbers behind the parts of a marked document. -/
def nD1 (k : Nat) (d : Dc) : Nat := k + d.start.length
def nD2 (k : Nat) (d : Dc) : Nat := nD1 k d + d.text.length
def nD3 (k : Nat) (d : Dc) : Nat := nC (nD2 k d) d.log
def nD4 (k : Nat) (d : Dc) : Nat := nM (nD3 k d) d.mem
def nD5 (k : Nat) (d : Dc) : Nat := nD4 k d + 4 * d.lea.length
/-- A bound on what marks a document takes. -/
def wD (k : Nat) (d : Dc) : Nat := k + d.start.length + d.text.length + (3 * d.log.length + tot (cputs d.log)) + (3 * d.mem.length + 2 * msum d.mem) + 4 * d.lea.length
theorem nD_le (k : Nat) (d : Dc) : nD1 k d ≤ nD2 k d ∧ nD2 k d ≤ nD3 k d ∧ nD3 k d ≤ nD4 k d ∧ nD4 k d ≤ nD5 k d ∧ nD5 k d ≤ wD k d ∧ nD3 k d + 3 * d.mem.length + 2 * msum d.mem ≤ wD k d ∧ nD2 k d + 3 * d.log.length + tot (cputs d.log) ≤ wD k d := by
  have h1 := nM_le d.mem (nD3 k d)
  have h2 := nM_ge d.mem (nD3 k d)
  unfold nD5 nD4 wD
  unfold nD3 nC nD2 nD1 at *
  refine ⟨?_, ?_, ?_, ?_, ?_, ?_, ?_⟩ <;> omega
/-- What a marked document reads as. -/
structure MkdD (w : World) (a : Da) (d : Dc) (k : Nat) : Prop where
  s : Bs w a.s (marks k d.start.length)
  t : Bs w a.t (marks (nD1 k d) d.text.length)
  l : Cms w a.l (markedC (nD2 k d) d.log)
  m : Mbs w a.m (markedM (nD3 k d) d.mem)
  e : Ll w a.e (marksL (nD4 k d) d.lea.length)
theorem bytes_own {w : World} {A : Option Addr} {l : List UInt8} {c : Nat} {fp : List Nat} (h : Lay.bytes.ow w [.slice A l.length c] l fp) : Own w 0 (.slice A l.length c) l ∧ fp = (Value.slice A l.length c).ownBlock.toList := by
  obtain ⟨v, e, ho, rfl⟩ := h
  simp only [List.cons.injEq, and_true] at e
  subst e
  exact ⟨ho, rfl⟩
theorem commits_cms {w : World} {A : Option Addr} {es : List Cm} {n c : Nat} {fp : List Nat} (h : Lay.commits.ow w [.slice A n c] es fp) : Cms w A es := by
  obtain ⟨A', c', e, _, _, h5⟩ := Lay.commits.read h
  simp only [List.cons.injEq, Value.slice.injEq, and_true] at e
  rw [e.1]
  exact h5
theorem members_mbs {w : World} {A : Option Addr} {es : List Mb} {n c : Nat} {fp : List Nat} (h : Lay.members.ow w [.slice A n c] es fp) : Mbs w A es := by
  obtain ⟨A', c', e, _, _, h5⟩ := Lay.members.read h
  simp only [List.cons.injEq, Value.slice.injEq, and_true] at e
  rw [e.1]
  exact h5

theorem marksL_in_wide {k n : Nat} (hk : k ≤ 8000000) (hn : n ≤ 1100000) : ∀ l ∈ marksL k n, leIn l := by
  intro l hl
  obtain ⟨i, hi, rfl⟩ := List.mem_map.1 hl
  have := List.mem_range.1 hi
  unfold leIn isI mk4
  simp only
  omega
set_option maxHeartbeats 4000000 in
theorem markLeaseS_wide (A : Option Addr) (c : Nat) (es : List Le) (fp : List Nat) (base k : Nat) (w : World) (hk : k ≤ 8000000) (hl : es.length ≤ 1100000) (h : OwL w base A es c fp) :
    Calls Tryz.prog 62 #[.slice A es.length c, .int .i64 (k : Int)] w fun e w' => e = .returned (.int .i64 ((k + 4 * es.length : Nat) : Int)) ∧ Ll w' A (marksL k es.length) ∧ Keeps fp w w' := by
  rcases rowL_of h with rfl | ⟨g, rfl, rfl, hrow, _⟩
  · go_enter Tryz.func62, Tryz.ntmps62
    go_wp2
    go_loopw [1, 5] (fun kk i wr => kk = .int .i64 (k : Int) ∧ i = .int .i64 0 ∧ wr = w) (fun _ _ _ => 0)
    case atStart => exact ⟨rfl, rfl, rfl⟩
    case round =>
      obtain ⟨rfl, rfl, rfl⟩ := hrel
      go_wp2
      go_ret
      exact ⟨by simp, Sl.nil _ _ _ _, Keeps.refl _ _⟩
  · clear h
    go_enter Tryz.func62, Tryz.ntmps62
    go_wp2
    go_loopw [1, 5] (fun kk i wr => ∃ j : Nat, j ≤ es.length ∧ i = .int .i64 j ∧ kk = .int .i64 ((k + 4 * j : Nat) : Int) ∧ RowL wr g (marksL k j ++ es.drop j) ∧ Keeps [g] w wr) (fun _ i _ => es.length - (intOf i).toNat)
    case atStart => exact ⟨0, Nat.zero_le _, rfl, rfl, by simpa [marksL] using hrow, Keeps.refl _ _⟩
    case round =>
      obtain ⟨j, hj, rfl, rfl, hr, hke⟩ := hrel
      by_cases hlt : j < es.length
      · have hll : j < (marksL k j ++ es.drop j).length := by rw [List.length_append, marksL_length, List.length_drop]; omega
        obtain ⟨u0, u1, u2, u3⟩ := hr.cells j hll
        have f0 := hr.frozen (j * 4)
        have f1 := hr.frozen (j * 4 + 1)
        have f2 := hr.frozen (j * 4 + 2)
        have f3 := hr.frozen (j * 4 + 3)
        have hnew := hr.set4 j hll ((k + 4 * j : Nat) : Int) ((k + 4 * j + 1 : Nat) : Int) ((k + 4 * j + 2 : Nat) : Int) ((k + 4 * j + 3 : Nat) : Int)
        rw [show ((((k + 4 * j : Nat) : Int), ((k + 4 * j + 1 : Nat) : Int), ((k + 4 * j + 2 : Nat) : Int), ((k + 4 * j + 3 : Nat) : Int)) : Le) = mk4 k j from rfl, marksL_step k es j hlt] at hnew
        have hkn := (((hke.put (List.mem_singleton.2 rfl) (j * 4) (.int .i64 ((k + 4 * j : Nat) : Int))).put (List.mem_singleton.2 rfl) (j * 4 + 1) (.int .i64 ((k + 4 * j + 1 : Nat) : Int))).put (List.mem_singleton.2 rfl) (j * 4 + 2) (.int .i64 ((k + 4 * j + 2 : Nat) : Int))).put (List.mem_singleton.2 rfl) (j * 4 + 3) (.int .i64 ((k + 4 * j + 3 : Nat) : Int))
        have HN := Lib.hid hnew
        have HK := Lib.hid hkn
        generalize (marksL k j ++ es.drop j)[j] = o at *
        clear hnew hkn hr hke hll
        go_wp2
        go_roundw
        case rel => exact ⟨j + 1, by omega, by go_num, by go_num, HN.out, HK.out⟩
        case measure => simp [intOf]; omega
      · have e : j = es.length := by omega
        subst e
        rw [List.drop_length, List.append_nil] at hr
        go_wp2
        go_ret
        exact ⟨rfl, hr.ll (marksL_in_wide hk hl), hke⟩

theorem OwD.range {w : World} {base : Nat} {a : Da} {d : Dc} {fs ft fl fm fe : List Nat} (h : OwD w base a d fs ft fl fm fe) : ∀ k ∈ fs ++ (ft ++ (fl ++ (fm ++ fe))), base ≤ k ∧ k < w.heap.size := fun x hx => by
  refine ⟨h.lo x hx, ?_⟩
  rcases List.mem_append.1 hx with h1 | hx
  · exact Lay.bytes.lt h.s x h1
  rcases List.mem_append.1 hx with h1 | hx
  · exact Lay.bytes.lt h.t x h1
  rcases List.mem_append.1 hx with h1 | hx
  · exact Lay.commits.lt h.l x h1
  rcases List.mem_append.1 hx with h1 | h1
  · exact Lay.members.lt h.m x h1
  · exact Lay.leases.lt h.e x h1
theorem wD_le (k : Nat) (d : Dc) : wD k d ≤ k + 4 * dtot d := by
  unfold wD dtot
  omega

set_option maxHeartbeats 8000000 in
theorem markDoc_any (a : Da) (d : Dc) (fs ft fl fm fe : List Nat) (base k : Nat) (w : World) (hk : wD k d ≤ 4400000) (hO : OwD w base a d fs ft fl fm fe) :
    Calls Tryz.prog 16 #[.agg #[.slice a.s d.start.length a.cs, .slice a.t d.text.length a.ct, .slice a.l d.log.length a.cl, .int .i64 d.clock, .slice a.m d.mem.length a.cm, .slice a.e d.lea.length a.ce], .int .i64 (k : Int)] w fun e w' => e = .returned (.int .i64 (nD5 k d : Int)) ∧ MkdD w' a d k ∧ Keeps (fs ++ (ft ++ (fl ++ (fm ++ fe)))) w w' := by
  have hal := (Below.refl w.heap.size w).alloc (Nat.le_refl _) (.cells #[.slice a.s d.start.length a.cs, .slice a.t d.text.length a.ct, .slice a.l d.log.length a.cl, .int .i64 d.clock, .slice a.m d.mem.length a.cm, .slice a.e d.lea.length a.ce] 34)
  have BX := Lib.hid (Blk.new w #[.slice a.s d.start.length a.cs, .slice a.t d.text.length a.ct, .slice a.l d.log.length a.cl, .int .i64 d.clock, .slice a.m d.mem.length a.cm, .slice a.e d.lea.length a.ce] 34)
  have H0 := Lib.hid (hO.below hal)
  obtain ⟨g1, g2, g3, g4, g5, g6, g7⟩ := nD_le k d
  have hg1 : nD1 k d = k + d.start.length := rfl
  have hg2 : nD2 k d = nD1 k d + d.text.length := rfl
  have hnd := hO.nd
  have hlt0 : ∀ x ∈ fs ++ (ft ++ (fl ++ (fm ++ fe))), x < w.heap.size := fun x hx => by
    rcases List.mem_append.1 hx with h | hx
    · exact Lay.bytes.lt hO.s x h
    rcases List.mem_append.1 hx with h | hx
    · exact Lay.bytes.lt hO.t x h
    rcases List.mem_append.1 hx with h | hx
    · exact Lay.commits.lt hO.l x h
    rcases List.mem_append.1 hx with h | h
    · exact Lay.members.lt hO.m x h
    · exact Lay.leases.lt hO.e x h
  have hd : (fs.Nodup ∧ (∀ x ∈ fs, x ∉ ft ∧ x ∉ fl ∧ x ∉ fm ∧ x ∉ fe)) ∧ (∀ x ∈ ft, x ∉ fl ∧ x ∉ fm ∧ x ∉ fe) ∧ (fl.Nodup ∧ ∀ x ∈ fl, x ∉ fm ∧ x ∉ fe) ∧ (fm.Nodup ∧ ∀ x ∈ fm, x ∉ fe) ∧ fe.Nodup := by
    simp only [List.nodup_append, List.mem_append] at hnd
    obtain ⟨a1, ⟨b1, ⟨c1, ⟨d1, e1, d2⟩, c2⟩, b2⟩, a2⟩ := hnd
    exact ⟨⟨a1, fun x hx => ⟨fun h => a2 x hx x (.inl h) rfl, fun h => a2 x hx x (.inr (.inl h)) rfl, fun h => a2 x hx x (.inr (.inr (.inl h))) rfl, fun h => a2 x hx x (.inr (.inr (.inr h))) rfl⟩⟩,
      fun x hx => ⟨fun h => b2 x hx x (.inl h) rfl, fun h => b2 x hx x (.inr (.inl h)) rfl, fun h => b2 x hx x (.inr (.inr h)) rfl⟩,
      ⟨c1, fun x hx => ⟨fun h => c2 x hx x (.inl h) rfl, fun h => c2 x hx x (.inr h) rfl⟩⟩, ⟨d1, fun x hx h => d2 x hx x h rfl⟩, e1⟩
  obtain ⟨⟨_, ds⟩, dt, ⟨nl, dl⟩, ⟨nm, dm⟩, ne⟩ := hd
  have DS := Lib.hid ds
  have DT := Lib.hid dt
  have DL := Lib.hid dl
  have DM := Lib.hid dm
  have NL := Lib.hid nl
  have NM := Lib.hid nm
  have NE := Lib.hid ne
  have HLT := Lib.hid hlt0
  have hL0 := hO.lo
  have HOE := Lib.hid hO.e
  have HK := Lib.hid (Keeps.of_below (fp := fs ++ (ft ++ (fl ++ (fm ++ fe)))) hal)
  obtain ⟨o1, e1⟩ := bytes_own H0.out.s
  obtain ⟨o2, e2⟩ := bytes_own H0.out.t
  have O1 := Lib.hid o1
  have O2 := Lib.hid o2
  have O3 := Lib.hid H0.out.l
  have O4 := Lib.hid H0.out.m
  have O5 := Lib.hid H0.out.e
  have E1 := Lib.hid e1
  have E2 := Lib.hid e2
  have hbx : ∀ x ∈ fs ++ (ft ++ (fl ++ (fm ++ fe))), x ≠ w.heap.size := fun x hx h => by have := hlt0 x hx; omega
  have HBX := Lib.hid hbx
  have p0 := BX.out.cell 0
  clear hal hO H0 hnd ds dt dl dm nl nm ne hlt0 o1 o2 e1 e2 hbx hL0
  go_enter Tryz.func16, Tryz.ntmps16
  go_wp2_with fail
  generalize w.alloc (.cells #[.slice a.s d.start.length a.cs, .slice a.t d.text.length a.ct, .slice a.l d.log.length a.cl, .int .i64 d.clock, .slice a.m d.mem.length a.cm, .slice a.e d.lea.length a.ce] 34) = W at *
  refine (markByteS_big _ d.start 0 k _ (by omega) (by omega) (by exact O1.out)).mono ?_
  rintro e w1 ⟨rfl, how, hgr⟩
  have hk1 : Keeps fs W w1 := by rw [E1.out]; exact Keeps.of_grown hgr
  have M1 := Lib.hid how
  have BX := Lib.hid (BX.out.of_block (hk1.block _ BX.out.lt (fun h => HBX.out _ (List.mem_append.2 (.inl h)) rfl)))
  have O2 := Lib.hid (O2.out.keeps hk1 (fun x hx h => (DS.out x h).1 (by rw [E2.out]; exact hx)))
  have O3 := Lib.hid (Lay.commits.keeps O3.out hk1 (fun x hx h => (DS.out x h).2.1 hx))
  have O4 := Lib.hid (Lay.members.keeps O4.out hk1 (fun x hx h => (DS.out x h).2.2.1 hx))
  have O5 := Lib.hid (Lay.leases.keeps O5.out hk1 (fun x hx h => (DS.out x h).2.2.2 hx))
  have HK := Lib.hid (HK.out.trans (hk1.mono (fun x hx => List.mem_append.2 (.inl hx))))
  rw [show ((k + d.start.length : Nat) : Int) = ((nD1 k d : Nat) : Int) from rfl]
  clear p0 how hgr hk1 O1
  obtain ⟨k1, hk1⟩ : ∃ x, nD1 k d = x := ⟨_, rfl⟩
  rw [hk1] at hg2 ⊢
  have HK1 := Lib.hid hk1
  have p1 := BX.out.cell 1
  go_wp2_with fail
  refine (markByteS_big _ d.text 0 k1 _ (by omega) (by omega) (by exact O2.out)).mono ?_
  rintro e w2 ⟨rfl, how, hgr⟩
  have hk2 : Keeps ft w1 w2 := by rw [E2.out]; exact Keeps.of_grown hgr
  have M2 := Lib.hid how
  have M1 := Lib.hid (M1.out.keeps hk2 (fun x hx h => (DS.out x (by rw [E1.out]; exact hx)).1 h))
  have BX := Lib.hid (BX.out.of_block (hk2.block _ BX.out.lt (fun h => HBX.out _ (List.mem_append.2 (.inr (List.mem_append.2 (.inl h)))) rfl)))
  have O3 := Lib.hid (Lay.commits.keeps O3.out hk2 (fun x hx h => (DT.out x h).1 hx))
  have O4 := Lib.hid (Lay.members.keeps O4.out hk2 (fun x hx h => (DT.out x h).2.1 hx))
  have O5 := Lib.hid (Lay.leases.keeps O5.out hk2 (fun x hx h => (DT.out x h).2.2 hx))
  have HK := Lib.hid (HK.out.trans (hk2.mono (fun x hx => List.mem_append.2 (.inr (List.mem_append.2 (.inl hx))))))
  rw [show ((k1 + d.text.length : Nat) : Int) = ((nD2 k d : Nat) : Int) by rw [hg2]]
  clear p1 how hgr hk2 O2
  obtain ⟨k2, hk2⟩ : ∃ x, nD2 k d = x := ⟨_, rfl⟩
  rw [hk2] at g7 ⊢
  have HK2 := Lib.hid hk2
  have p2 := BX.out.cell 2
  go_wp2_with fail
  refine (markCommitS_any a.l a.cl d.log fl k2 _ (by omega) NL.out O3.out).mono ?_
  rintro e w3 ⟨rfl, how, hk3⟩
  have M3 := Lib.hid how
  have M1 := Lib.hid (M1.out.keeps hk3 (fun x hx h => (DS.out x (by rw [E1.out]; exact hx)).2.1 h))
  have M2 := Lib.hid (M2.out.keeps hk3 (fun x hx h => (DT.out x (by rw [E2.out]; exact hx)).1 h))
  have BX := Lib.hid (BX.out.of_block (hk3.block _ BX.out.lt (fun h => HBX.out _ (by simp [h]) rfl)))
  have O4 := Lib.hid (Lay.members.keeps O4.out hk3 (fun x hx h => (DL.out x h).1 hx))
  have O5 := Lib.hid (Lay.leases.keeps O5.out hk3 (fun x hx h => (DL.out x h).2 hx))
  have HK := Lib.hid (HK.out.trans (hk3.mono (fun x hx => by simp [hx])))
  rw [show ((nC k2 d.log : Nat) : Int) = ((nD3 k d : Nat) : Int) by rw [← HK2.out]; rfl]
  clear p2 how hk3 O3
  obtain ⟨k3, hk3⟩ : ∃ x, nD3 k d = x := ⟨_, rfl⟩
  rw [hk3] at g6 ⊢
  have HK3 := Lib.hid hk3
  have p4 := BX.out.cell 4
  go_wp2_with fail
  refine (markMemberS_any a.m a.cm d.mem fm k3 _ (by omega) NM.out O4.out).mono ?_
  rintro e w4 ⟨rfl, how, hk4⟩
  have M4 := Lib.hid how
  have M1 := Lib.hid (M1.out.keeps hk4 (fun x hx h => (DS.out x (by rw [E1.out]; exact hx)).2.2.1 h))
  have M2 := Lib.hid (M2.out.keeps hk4 (fun x hx h => (DT.out x (by rw [E2.out]; exact hx)).2.1 h))
  have M3 := Lib.hid (Lay.commits.keeps M3.out hk4 (fun x hx h => (DL.out x hx).1 h))
  have BX := Lib.hid (BX.out.of_block (hk4.block _ BX.out.lt (fun h => HBX.out _ (by simp [h]) rfl)))
  have O5 := Lib.hid (Lay.leases.keeps O5.out hk4 (fun x hx h => DM.out x h hx))
  have HK := Lib.hid (HK.out.trans (hk4.mono (fun x hx => by simp [hx])))
  rw [show ((nM k3 d.mem : Nat) : Int) = ((nD4 k d : Nat) : Int) by rw [← HK3.out]; rfl]
  clear p4 how hk4 O4
  obtain ⟨k4, hk4⟩ : ∃ x, nD4 k d = x := ⟨_, rfl⟩
  rw [hk4] at g4 ⊢
  have HK4 := Lib.hid hk4
  have hg5 : nD5 k d = nD4 k d + 4 * d.lea.length := rfl
  have p5 := BX.out.cell 5
  go_wp2_with fail
  refine (markLeaseS_wide a.e a.ce d.lea fe 0 k4 _ (by omega) (by omega) ⟨O5.out, NE.out, fun x hx => Nat.zero_le _⟩).mono ?_
  rintro e w5 ⟨rfl, hml, hk5⟩
  have M5 := Lib.hid hml
  have M1 := Lib.hid (M1.out.keeps hk5 (fun x hx h => (DS.out x (by rw [E1.out]; exact hx)).2.2.2 h))
  have M2 := Lib.hid (M2.out.keeps hk5 (fun x hx h => (DT.out x (by rw [E2.out]; exact hx)).2.2 h))
  have M3 := Lib.hid (Lay.commits.keeps M3.out hk5 (fun x hx h => (DL.out x hx).2 h))
  have M4 := Lib.hid (Lay.members.keeps M4.out hk5 (fun x hx h => DM.out x hx h))
  have HK := Lib.hid (HK.out.trans (hk5.mono (fun x hx => by simp [hx])))
  rw [show ((k4 + 4 * d.lea.length : Nat) : Int) = ((nD5 k d : Nat) : Int) by rw [hg5, hk4]]
  have MD : MkdD w5 a d k := ⟨own_bs9 M1.out, by rw [HK1.out]; exact own_bs9 M2.out, by rw [HK2.out]; exact commits_cms M3.out, by rw [HK3.out]; exact members_mbs M4.out, by rw [HK4.out]; exact M5.out⟩
  have HMD := Lib.hid MD
  clear p5 hml hk5 O5 MD
  go_wp2
  go_ret
  refine ⟨ret_int ?_, HMD.out, HK.out⟩
  have h8 := HK4.out
  omega

end Go.Proofs.YtkplfbhblbinaabGreatDoor

/-
  Chapter 10, a document's version and the text at it: the program's contracts. Own work.
-/
namespace Go.Proofs.YtkplfbhblbinaabGreatDoor
open Go.RowKit P
set_option linter.unusedVariables false
set_option linter.unusedSimpArgs false
set_option maxRecDepth 100000

/-- Whether a document is valid and has a version. -/
def verIn (d : Dc) (v : Int) : Bool := decide (0 ≤ v) && decide (v ≤ (d.log.length : Int))
def verOk (d : Dc) (v : Int) : Bool := docOk d && verIn d v
/-- The text at a version. -/
def atT (d : Dc) (v : Int) : List UInt8 := if verOk d v = true then edsText d.start ((logE d.log).take v.toNat) else []
/-- Where a document's log lies, so that it can be cut. -/
def PlL (a : Da) : Prop := (a.l = none → a.cl = 0) ∧ ∀ x, a.l = some x → ∃ g, x = ⟨g, 0, none⟩
theorem OwD.plain {w : World} {base : Nat} {a : Da} {d : Dc} {fs ft fl fm fe : List Nat} (h : OwD w base a d fs ft fl fm fe) : PlL a := by
  obtain ⟨es, _, hrow, _, _⟩ := ow_one h.l
  rcases hrow.2 with ⟨hv, _⟩ | ⟨g, cap, cur, hv, _⟩
  · simp only [Value.slice.injEq] at hv
    exact ⟨fun _ => hv.2.2, fun x hx => (by rw [hv.1] at hx; cases hx)⟩
  · simp only [Value.slice.injEq] at hv
    exact ⟨fun h0 => (by rw [hv.1] at h0; cases h0), fun x hx => ⟨g, (by rw [hv.1] at hx; exact (Option.some.inj hx).symm)⟩⟩
theorem Cms.take {w : World} {A : Option Addr} {es : List Cm} (h : Cms w A es) (n : Nat) : Cms w A (es.take n) := by
  intro k hk
  rw [List.length_take] at hk
  obtain ⟨b, off, us, hA, hlt, hl, hc, hr⟩ := h k (by omega)
  exact ⟨b, off, us, hA, hlt, hl, hc, by rw [List.getElem_take]; exact hr⟩

theorem slcC_head (a : Da) (n k : Nat) (hP : PlL a) (hk : k ≤ n) (hc : n ≤ a.cl) (hc9 : a.cl ≤ maxLen) : ∀ W, (Instr.slice 30 (.slice a.l n a.cl) none (some (.int .i64 (k : Int))) none).run Tryz.prog W = .ok (.slice a.l k a.cl) W := by
  intro W
  unfold maxLen at hc9
  have hz : ∀ W, (Go.sizeOf 72).run Tryz.prog W = .ok 4 W := fun W => by kernel_rfl
  have ht' : Tryz.prog.underlying 30 = some (.slice (Tryz.prog.elem 30)) := by simp [Program.elem, Tryz.underlying30]
  have he : Tryz.prog.elem 30 = 72 := by simp [Program.elem, Tryz.underlying30]
  rw [run_slice_h W 30 _ _ _ ht' .i64 _ (by omega) (by omega), he, hz]
  cases hA : a.l with
  | none =>
    have h0 := hP.1 hA
    have hk0 : k = 0 := by omega
    rw [h0, hk0]
    simp [Result.andThen, sliced]
  | some x =>
    obtain ⟨g, rfl⟩ := hP.2 x hA
    simp [Result.andThen, sliced, Addr.add]

set_option maxHeartbeats 2000000 in
theorem version_any (a : Da) (d : Dc) (w : World) :
    Calls Tryz.prog 106 #[.agg #[.slice a.s d.start.length a.cs, .slice a.t d.text.length a.ct, .slice a.l d.log.length a.cl, .int .i64 d.clock, .slice a.m d.mem.length a.cm, .slice a.e d.lea.length a.ce]] w fun e w' => e = .returned (.int .i64 (d.log.length : Int)) ∧ Below w.heap.size w w' := by
  have hal := (Below.refl w.heap.size w).alloc (Nat.le_refl _) (.cells #[.slice a.s d.start.length a.cs, .slice a.t d.text.length a.ct, .slice a.l d.log.length a.cl, .int .i64 d.clock, .slice a.m d.mem.length a.cm, .slice a.e d.lea.length a.ce] 34)
  have p2 := (Blk.new w #[.slice a.s d.start.length a.cs, .slice a.t d.text.length a.ct, .slice a.l d.log.length a.cl, .int .i64 d.clock, .slice a.m d.mem.length a.cm, .slice a.e d.lea.length a.ce] 34).cell 2
  go_enter Tryz.func106, Tryz.ntmps106
  go_wp2
  go_ret
  exact ⟨rfl, hal⟩

set_option maxHeartbeats 4000000 in
theorem hasVersion_any (a : Da) (d : Dc) (v : Int) (w : World) :
    Calls Tryz.prog 58 #[.agg #[.slice a.s d.start.length a.cs, .slice a.t d.text.length a.ct, .slice a.l d.log.length a.cl, .int .i64 d.clock, .slice a.m d.mem.length a.cm, .slice a.e d.lea.length a.ce], .int .i64 v] w fun e w' => e = .returned (.bool (verIn d v)) ∧ Below w.heap.size w w' := by
  have hal := (Below.refl w.heap.size w).alloc (Nat.le_refl _) (.cells #[.slice a.s d.start.length a.cs, .slice a.t d.text.length a.ct, .slice a.l d.log.length a.cl, .int .i64 d.clock, .slice a.m d.mem.length a.cm, .slice a.e d.lea.length a.ce] 34)
  have BX := Blk.new w #[.slice a.s d.start.length a.cs, .slice a.t d.text.length a.ct, .slice a.l d.log.length a.cl, .int .i64 d.clock, .slice a.m d.mem.length a.cm, .slice a.e d.lea.length a.ce] 34
  have p0 := BX.cell 0
  have p1 := BX.cell 1
  have p2 := BX.cell 2
  have p3 := BX.cell 3
  have p4 := BX.cell 4
  have p5 := BX.cell 5
  obtain ⟨z, hz⟩ : ∃ z, decide (v ≤ (d.log.length : Int)) = z := ⟨_, rfl⟩
  by_cases h0 : 0 ≤ v
  · have e1 : decide (v ≥ 0) = true := decide_eq_true h0
    have hv : verIn d v = z := by unfold verIn; rw [decide_eq_true h0, hz]; rfl
    rw [hv]
    clear hv
    go_enter Tryz.func58, Tryz.ntmps58
    go_wp2_with fail
    refine (version_any a d _).mono ?_
    rintro e w1 ⟨rfl, hb⟩
    have hb9 := below_then hal hb
    go_wp2
    go_ret
    exact ⟨ret_bool (by first | exact hz | rfl), hb9⟩
  · have e1 : decide (v ≥ 0) = false := decide_eq_false (by omega)
    have hv : verIn d v = false := by unfold verIn; rw [decide_eq_false h0]; rfl
    rw [hv]
    clear hv
    go_enter Tryz.func58, Tryz.ntmps58
    go_wp2
    go_ret
    exact ⟨rfl, hal⟩

theorem editsOf_any' (A : Option Addr) (lg : List Cm) (c n : Nat) (w : World) (hn : lg.length = n) (hl : lg.length ≤ 1000) (hE : Cms w A lg) :
    Calls Tryz.prog 65 #[.slice A n c] w (EsOf lg w) := by
  subst hn
  exact editsOf_any A lg c w hl hE

set_option maxHeartbeats 8000000 in
theorem textAt_any (a : Da) (d : Dc) (v : Nat) (w : World) (hv : v ≤ d.log.length) (hl6 : d.log.length ≤ 60) (hP : PlL a) (hT : Tab w) (hD : RdD w a d) :
    Calls Tryz.prog 59 #[.agg #[.slice a.s d.start.length a.cs, .slice a.t d.text.length a.ct, .slice a.l d.log.length a.cl, .int .i64 d.clock, .slice a.m d.mem.length a.cm, .slice a.e d.lea.length a.ce], .int .i64 (v : Int)] w fun e w' => ∃ u, e = .returned u ∧ Own w' w.heap.size u (edsText d.start (logE (d.log.take v))) ∧ Below w.heap.size w w' := by
  have hal := (Below.refl w.heap.size w).alloc (Nat.le_refl _) (.cells #[.slice a.s d.start.length a.cs, .slice a.t d.text.length a.ct, .slice a.l d.log.length a.cl, .int .i64 d.clock, .slice a.m d.mem.length a.cm, .slice a.e d.lea.length a.ce] 34)
  have BX := Lib.hid (Blk.new w #[.slice a.s d.start.length a.cs, .slice a.t d.text.length a.ct, .slice a.l d.log.length a.cl, .int .i64 d.clock, .slice a.m d.mem.length a.cm, .slice a.e d.lea.length a.ce] 34)
  have HD := Lib.hid (hD.below hal)
  have HT := Lib.hid (hT.below hal)
  have HB := Lib.hid hal
  have HN := Lib.hid (show d.start.length ≤ a.cs ∧ a.cs ≤ 9223372036854775807 from ⟨hD.hs.1, by have h := hD.hs.2; unfold maxLen at h; omega⟩)
  have hsl := slcC_head a d.log.length v hP hv hD.hl.1 hD.hl.2
  obtain ⟨L, hL⟩ : ∃ L, d.log.take v = L := ⟨_, rfl⟩
  have hLl : L.length = v := by rw [← hL, List.length_take]; omega
  have HL := Lib.hid hLl
  have HC := Lib.hid (show Cms (w.alloc (.cells #[.slice a.s d.start.length a.cs, .slice a.t d.text.length a.ct, .slice a.l d.log.length a.cl, .int .i64 d.clock, .slice a.m d.mem.length a.cm, .slice a.e d.lea.length a.ce] 34)) a.l L by rw [← hL]; exact HD.out.l.take v)
  have hL6 : L.length ≤ 60 := by omega
  have hzw : (w.alloc (.cells #[.slice a.s d.start.length a.cs, .slice a.t d.text.length a.ct, .slice a.l d.log.length a.cl, .int .i64 d.clock, .slice a.m d.mem.length a.cm, .slice a.e d.lea.length a.ce] 34)).heap.size = w.heap.size + 1 := by simp
  rw [hL]
  have hlx := BX.out.lt
  have p0 := BX.out.cell 0
  have p1 := BX.out.cell 1
  have p2 := BX.out.cell 2
  have p3 := BX.out.cell 3
  have p4 := BX.out.cell 4
  have p5 := BX.out.cell 5
  clear hD hT hal hL hLl
  go_enter Tryz.func59, Tryz.ntmps59
  go_upto_region 1 with fail
  generalize w.alloc (.cells #[.slice a.s d.start.length a.cs, .slice a.t d.text.length a.ct, .slice a.l d.log.length a.cl, .int .i64 d.clock, .slice a.m d.mem.length a.cm, .slice a.e d.lea.length a.ce] 34) = W at *
  refine wp_region_held_drew (S := (fun V => V.cell? ⟨w.heap.size, 0, none⟩ = some (.slice a.s d.start.length a.cs) ∧ V.cell? ⟨w.heap.size, 1, none⟩ = some (.slice a.t d.text.length a.ct) ∧ V.cell? ⟨w.heap.size, 2, none⟩ = some (.slice a.l d.log.length a.cl) ∧ V.cell? ⟨w.heap.size, 3, none⟩ = some (.int .i64 d.clock) ∧ V.cell? ⟨w.heap.size, 4, none⟩ = some (.slice a.m d.mem.length a.cm) ∧ V.cell? ⟨w.heap.size, 5, none⟩ = some (.slice a.e d.lea.length a.ce))) (by kernel_rfl) (by exact ⟨p0, p1, p2, p3, p4, p5⟩) (fun hHeld => ?_)
  refine wpAnyH_take (i := 0) (oi := ?_) (v := ?_) ?_ ?_ ?_ ?_ ?_ ?_ (by exact hHeld) ?_
  rotate_left 2
  · (simp only [List.getElem?_toArray, List.getElem?_cons_zero]; try rfl)
  · kernel_rfl
  · kernel_rfl
  · kernel_rfl
  · exact fun _ _ _ h => h
  · refine Or.inl ⟨by rfl, ?_⟩
    (intro V hSV; (try dsimp only at hSV); obtain ⟨q0, q1, q2, q3, q4, q5⟩ := hSV; go_simp; try with_reducible rfl)
  (try simp only [Act.put, List.setIfInBounds_toArray, List.set_cons_zero, List.set_cons_succ])
  refine wpAnyH_take (i := 1) (oi := ?_) (v := ?_) ?_ ?_ ?_ ?_ ?_ ?_ (by exact hHeld) ?_
  rotate_left 2
  · (simp only [List.getElem?_toArray, List.getElem?_cons_zero, List.getElem?_cons_succ]; try rfl)
  · kernel_rfl
  · kernel_rfl
  · kernel_rfl
  · exact fun _ _ _ h => h
  · refine Or.inl ⟨by rfl, ?_⟩
    (intro V hSV; (try dsimp only at hSV); obtain ⟨q0, q1, q2, q3, q4, q5⟩ := hSV; go_simp; try with_reducible rfl)
  (try simp only [Act.put, List.setIfInBounds_toArray, List.set_cons_zero, List.set_cons_succ])
  refine wpAnyH_take (i := 2) (oi := ?_) (v := ?_) ?_ ?_ ?_ ?_ ?_ ?_ (by exact hHeld) ?_
  rotate_left 2
  · (simp only [List.getElem?_toArray, List.getElem?_cons_zero, List.getElem?_cons_succ]; try rfl)
  · kernel_rfl
  · kernel_rfl
  · kernel_rfl
  · exact fun _ _ _ h => h
  · refine Or.inl ⟨by rfl, ?_⟩
    (intro V hSV; (try dsimp only at hSV); obtain ⟨q0, q1, q2, q3, q4, q5⟩ := hSV; go_simp; try with_reducible rfl)
  (try simp only [Act.put, List.setIfInBounds_toArray, List.set_cons_zero, List.set_cons_succ])
  refine wpAnyH_take (i := 3) (oi := ?_) (v := ?_) ?_ ?_ ?_ ?_ ?_ ?_ (by exact hHeld) ?_
  rotate_left 2
  · (simp only [List.getElem?_toArray, List.getElem?_cons_zero, List.getElem?_cons_succ]; try rfl)
  · kernel_rfl
  · kernel_rfl
  · kernel_rfl
  · exact fun _ _ _ h => h
  · refine Or.inl ⟨by rfl, ?_⟩
    (intro V hSV; (try dsimp only at hSV); obtain ⟨q0, q1, q2, q3, q4, q5⟩ := hSV; go_simp; try with_reducible rfl)
  (try simp only [Act.put, List.setIfInBounds_toArray, List.set_cons_zero, List.set_cons_succ])
  refine wpAnyH_take (i := 4) (oi := ?_) (v := ?_) ?_ ?_ ?_ ?_ ?_ ?_ (by exact hHeld) ?_
  rotate_left 2
  · (simp only [List.getElem?_toArray, List.getElem?_cons_zero, List.getElem?_cons_succ]; try rfl)
  · kernel_rfl
  · kernel_rfl
  · kernel_rfl
  · exact fun _ _ _ h => h
  · refine Or.inl ⟨by rfl, ?_⟩
    (intro V hSV; (try dsimp only at hSV); obtain ⟨q0, q1, q2, q3, q4, q5⟩ := hSV; go_simp; try with_reducible rfl)
  (try simp only [Act.put, List.setIfInBounds_toArray, List.set_cons_zero, List.set_cons_succ])
  refine wpAnyH_take (i := 5) (oi := ?_) (v := ?_) ?_ ?_ ?_ ?_ ?_ ?_ (by exact hHeld) ?_
  rotate_left 2
  · (simp only [List.getElem?_toArray, List.getElem?_cons_zero, List.getElem?_cons_succ]; try rfl)
  · kernel_rfl
  · kernel_rfl
  · kernel_rfl
  · exact fun _ _ _ h => h
  · refine Or.inl ⟨by rfl, ?_⟩
    (intro V hSV; (try dsimp only at hSV); obtain ⟨q0, q1, q2, q3, q4, q5⟩ := hSV; go_simp; try with_reducible rfl)
  (try simp only [Act.put, List.setIfInBounds_toArray, List.set_cons_zero, List.set_cons_succ])
  refine wpAnyH_ready (rs := [6]) (by kernel_rfl) (by simp) ?_
  refine AllReadyH.cons rfl (fun K hK => ?_) AllReadyH.nil
  go_simp
  refine (editsOf_any' a.l L a.cl v _ HL.out (by omega) (by first | exact HC.out | exact HC.out.below (bsk4 _))).mono ?_
  rintro e w2 ⟨E, ce, rfl, hec, hem, hEE, hb⟩
  have hb : Below W.heap.size W w2 := ⟨hb.os, hb.tape, hb.output, hb.size, hb.block⟩
  have HE := Lib.hid hEE
  have HD2 := Lib.hid (HD.out.below hb)
  have HT2 := Lib.hid (HT.out.below hb)
  have HB1 := Lib.hid hb
  have hec9 : (logE L).length ≤ 9223372036854775807 := by rw [logE_length]; omega
  clear hEE hb
  go_wp2_with fail
  refine hK.out _ _ (by exact ⟨((HB1.out).cell (p := ⟨w.heap.size, 0, none⟩) hlx).trans p0, ((HB1.out).cell (p := ⟨w.heap.size, 1, none⟩) hlx).trans p1, ((HB1.out).cell (p := ⟨w.heap.size, 2, none⟩) hlx).trans p2, ((HB1.out).cell (p := ⟨w.heap.size, 3, none⟩) hlx).trans p3, ((HB1.out).cell (p := ⟨w.heap.size, 4, none⟩) hlx).trans p4, ((HB1.out).cell (p := ⟨w.heap.size, 5, none⟩) hlx).trans p5⟩) (fun hHeld => ?_)
  clear hK K
  (try simp only [Act.put, List.setIfInBounds_toArray, List.set_cons_zero, List.set_cons_succ])
  refine wpAnyH_ready (rs := [7]) (by kernel_rfl) (by simp) ?_
  refine AllReadyH.cons rfl (fun K hK => ?_) AllReadyH.nil
  go_simp
  refine (implEditsDo_any' a.s d.start a.cs E (logE L) ce L.length _ HN.out.1 HN.out.2 (logE_length L).symm hec9 (by exact HT2.out) (by exact HD2.out.s) (by exact HE.out)).mono ?_
  rintro e w3 ⟨u, rfl, hown, hb⟩
  have hb : Below w2.heap.size w2 w3 := ⟨hb.os, hb.tape, hb.output, hb.size, hb.block⟩
  have HB2 := Lib.hid (below_then HB1.out hb)
  have HO := Lib.hid hown
  clear hown hb
  go_wp2_with fail
  refine hK.out _ _ (by exact ⟨((HB2.out).cell (p := ⟨w.heap.size, 0, none⟩) hlx).trans p0, ((HB2.out).cell (p := ⟨w.heap.size, 1, none⟩) hlx).trans p1, ((HB2.out).cell (p := ⟨w.heap.size, 2, none⟩) hlx).trans p2, ((HB2.out).cell (p := ⟨w.heap.size, 3, none⟩) hlx).trans p3, ((HB2.out).cell (p := ⟨w.heap.size, 4, none⟩) hlx).trans p4, ((HB2.out).cell (p := ⟨w.heap.size, 5, none⟩) hlx).trans p5⟩) (fun hHeld => ?_)
  clear hK K
  (try simp only [Act.put, List.setIfInBounds_toArray, List.set_cons_zero, List.set_cons_succ])
  refine wpAnyH_take (i := 8) (oi := ?_) (v := ?_) ?_ ?_ ?_ ?_ ?_ ?_ (by exact hHeld) ?_
  rotate_left 2
  · (simp only [List.getElem?_toArray, List.getElem?_cons_zero, List.getElem?_cons_succ]; try rfl)
  · kernel_rfl
  · kernel_rfl
  · kernel_rfl
  · exact fun _ _ _ h => h
  · refine Or.inl ⟨by rfl, ?_⟩
    (intro V hSV; (try dsimp only at hSV); obtain ⟨q0, q1, q2, q3, q4, q5⟩ := hSV; go_simp; try with_reducible rfl)
  (try simp only [Act.put, List.setIfInBounds_toArray, List.set_cons_zero, List.set_cons_succ])
  refine wpAnyH_take (i := 9) (oi := ?_) (v := ?_) ?_ ?_ ?_ ?_ ?_ ?_ (by exact hHeld) ?_
  rotate_left 2
  · (simp only [List.getElem?_toArray, List.getElem?_cons_zero, List.getElem?_cons_succ]; try rfl)
  · kernel_rfl
  · kernel_rfl
  · kernel_rfl
  · exact fun _ _ _ h => h
  · refine Or.inl ⟨by rfl, ?_⟩
    (intro V hSV; (try dsimp only at hSV); obtain ⟨q0, q1, q2, q3, q4, q5⟩ := hSV; go_simp; try with_reducible rfl)
  (try simp only [Act.put, List.setIfInBounds_toArray, List.set_cons_zero, List.set_cons_succ])
  refine wpAnyH_take (i := 10) (oi := ?_) (v := ?_) ?_ ?_ ?_ ?_ ?_ ?_ (by exact hHeld) ?_
  rotate_left 2
  · (simp only [List.getElem?_toArray, List.getElem?_cons_zero, List.getElem?_cons_succ]; try rfl)
  · kernel_rfl
  · kernel_rfl
  · kernel_rfl
  · exact fun _ _ _ h => h
  · refine Or.inl ⟨by rfl, ?_⟩
    (intro V hSV; (try dsimp only at hSV); obtain ⟨q0, q1, q2, q3, q4, q5⟩ := hSV; go_simp; try with_reducible rfl)
  (try simp only [Act.put, List.setIfInBounds_toArray, List.set_cons_zero, List.set_cons_succ])
  refine wpAnyH_take (i := 11) (oi := ?_) (v := ?_) ?_ ?_ ?_ ?_ ?_ ?_ (by exact hHeld) ?_
  rotate_left 2
  · (simp only [List.getElem?_toArray, List.getElem?_cons_zero, List.getElem?_cons_succ]; try rfl)
  · kernel_rfl
  · kernel_rfl
  · kernel_rfl
  · exact fun _ _ _ h => h
  · refine Or.inl ⟨by rfl, ?_⟩
    (intro V hSV; (try dsimp only at hSV); obtain ⟨q0, q1, q2, q3, q4, q5⟩ := hSV; go_simp; try with_reducible rfl)
  (try simp only [Act.put, List.setIfInBounds_toArray, List.set_cons_zero, List.set_cons_succ])
  refine wpAnyH_take (i := 12) (oi := ?_) (v := ?_) ?_ ?_ ?_ ?_ ?_ ?_ (by exact hHeld) ?_
  rotate_left 2
  · (simp only [List.getElem?_toArray, List.getElem?_cons_zero, List.getElem?_cons_succ]; try rfl)
  · kernel_rfl
  · kernel_rfl
  · kernel_rfl
  · exact fun _ _ _ h => h
  · refine Or.inl ⟨by rfl, ?_⟩
    (intro V hSV; (try dsimp only at hSV); obtain ⟨q0, q1, q2, q3, q4, q5⟩ := hSV; go_simp; try with_reducible rfl)
  (try simp only [Act.put, List.setIfInBounds_toArray, List.set_cons_zero, List.set_cons_succ])
  refine wpAnyH_done (by kernel_rfl) ?_ _
  clear hHeld hlx p0 p1 p2 p3 p4 p5
  have HB := Lib.hid (below_then HB.out HB2.out)
  have hzz : w.heap.size ≤ w2.heap.size := by have := HB1.out.size; omega
  obtain ⟨X, c5, e5, _, _, _⟩ := HO.out.form
  subst e5
  have HO9 := Lib.hid (HO.out.mono hzz)
  clear HO HB1 HB2 HE HD2 HT2
  go_wp2
  go_ret
  exact ⟨_, rfl, HO9.out, HB.out⟩

/-- What a text at a version ends in. -/
def GivesAt (d : Dc) (v : Int) (w : World) (e : Ending) (w' : World) : Prop := ∃ u, e = .returned (.tuple #[u, .bool (verOk d v)]) ∧ Own w' w.heap.size u (atT d v) ∧ Below w.heap.size w w'
theorem GivesAt.no {d : Dc} {v : Int} {w w' : World} (h : verOk d v = false) (hb : Below w.heap.size w w') : GivesAt d v w (.returned (.tuple #[.slice none 0 0, .bool false])) w' :=
  ⟨.slice none 0 0, by rw [h], by unfold atT; rw [if_neg (by rw [h]; simp)]; exact Own.nil _ _, hb⟩
theorem docOk_log {d : Dc} (h : docOk d = true) : d.log.length ≤ 60 := by
  cases hl : decide (d.log.length ≤ 60)
  · have h9 := of_decide_eq_false hl
    rw [docOk_long (by omega)] at h; cases h
  · exact of_decide_eq_true hl
theorem GivesAt.yes {d : Dc} {v : Int} {w w' : World} {u : Value} (h : verOk d v = true) (ho : Own w' w.heap.size u (edsText d.start (logE (d.log.take v.toNat)))) (hb : Below w.heap.size w w') : GivesAt d v w (.returned (.tuple #[u, .bool true])) w' :=
  ⟨u, by rw [h], by unfold atT; rw [if_pos h]; have e : (logE d.log).take v.toNat = logE (d.log.take v.toNat) := by unfold logE; rw [List.map_take]
                    rw [e]; exact ho, hb⟩

set_option maxHeartbeats 8000000 in
theorem implDocAt_any (a : Da) (d : Dc) (v : Int) (w : World) (hP : PlL a) (hT : Tab w) (hD : RdD w a d) :
    Calls Tryz.prog 14 #[.agg #[.slice a.s d.start.length a.cs, .slice a.t d.text.length a.ct, .slice a.l d.log.length a.cl, .int .i64 d.clock, .slice a.m d.mem.length a.cm, .slice a.e d.lea.length a.ce], .int .i64 v] w (GivesAt d v w) := by
  have hal := (Below.refl w.heap.size w).alloc (Nat.le_refl _) (.cells #[.slice a.s d.start.length a.cs, .slice a.t d.text.length a.ct, .slice a.l d.log.length a.cl, .int .i64 d.clock, .slice a.m d.mem.length a.cm, .slice a.e d.lea.length a.ce] 34)
  have BX := Lib.hid (Blk.new w #[.slice a.s d.start.length a.cs, .slice a.t d.text.length a.ct, .slice a.l d.log.length a.cl, .int .i64 d.clock, .slice a.m d.mem.length a.cm, .slice a.e d.lea.length a.ce] 34)
  have HK := Lib.hid (show ∀ W, Below w.heap.size w W → Tab W ∧ RdD W a d from fun W h => ⟨hT.below h, hD.below h⟩)
  have HB := Lib.hid hal
  obtain ⟨q1, h1⟩ : ∃ q, docOk d = q := ⟨_, rfl⟩
  obtain ⟨q2, h2⟩ : ∃ q, verIn d v = q := ⟨_, rfl⟩
  have HV := Lib.hid (show verOk d v = (q1 && q2) by rw [← h1, ← h2]; rfl)
  have H1 := Lib.hid h1
  have H2 := Lib.hid h2
  clear hD hT hal h1 h2
  have p0 := BX.out.cell 0
  have p1 := BX.out.cell 1
  have p2 := BX.out.cell 2
  have p3 := BX.out.cell 3
  have p4 := BX.out.cell 4
  have p5 := BX.out.cell 5
  go_enter Tryz.func14, Tryz.ntmps14
  go_wp2_with fail
  generalize w.alloc (.cells #[.slice a.s d.start.length a.cs, .slice a.t d.text.length a.ct, .slice a.l d.log.length a.cl, .int .i64 d.clock, .slice a.m d.mem.length a.cm, .slice a.e d.lea.length a.ce] 34) = W at *
  refine (implDocOk_any a d _ (HK.out _ HB.out).1 (HK.out _ HB.out).2).mono ?_
  rintro e w1 ⟨rfl, hb⟩
  rw [H1.out]
  have BX := Lib.hid (BX.out.below hb)
  have HB := Lib.hid (below_then HB.out hb)
  clear hb p0 p1 p2 p3 p4 p5
  cases q1
  · have hn := GivesAt.no (show verOk d v = false by rw [HV.out]; rfl) HB.out
    have HN := Lib.hid hn
    clear hn
    go_wp2
    go_ret2
    exact HN.out
  have p0 := BX.out.cell 0
  have p1 := BX.out.cell 1
  have p2 := BX.out.cell 2
  have p3 := BX.out.cell 3
  have p4 := BX.out.cell 4
  have p5 := BX.out.cell 5
  go_wp2_with fail
  refine (hasVersion_any a d v _).mono ?_
  rintro e w2 ⟨rfl, hb⟩
  rw [H2.out]
  have BX := Lib.hid (BX.out.below hb)
  have HB := Lib.hid (below_then HB.out hb)
  clear hb p0 p1 p2 p3 p4 p5
  cases q2
  · have hn := GivesAt.no (show verOk d v = false by rw [HV.out]; rfl) HB.out
    have HN := Lib.hid hn
    clear hn
    go_wp2
    go_ret2
    exact HN.out
  have hv01 := H2.out
  unfold verIn at hv01
  rw [Bool.and_eq_true] at hv01
  have hv0 := of_decide_eq_true hv01.1
  have hv1 := of_decide_eq_true hv01.2
  have hl6 := docOk_log H1.out
  obtain ⟨n, rfl⟩ : ∃ n : Nat, v = (n : Int) := ⟨v.toNat, by omega⟩
  have hn9 : n ≤ d.log.length := by omega
  clear hv01
  have p0 := BX.out.cell 0
  have p1 := BX.out.cell 1
  have p2 := BX.out.cell 2
  have p3 := BX.out.cell 3
  have p4 := BX.out.cell 4
  have p5 := BX.out.cell 5
  go_wp2_with fail
  refine (textAt_any a d n _ hn9 hl6 hP (HK.out _ HB.out).1 (HK.out _ HB.out).2).mono ?_
  rintro e w3 ⟨u, rfl, ho, hb⟩
  have hz := HB.out.size
  have hy := GivesAt.yes (w := w) (v := (n : Int)) (d := d) (show verOk d (n : Int) = true by rw [HV.out]; rfl) (by rw [Int.toNat_natCast]; exact ho.mono hz) (below_then HB.out hb)
  have HY := Lib.hid hy
  clear ho hb hy p0 p1 p2 p3 p4 p5
  go_wp2
  go_ret2
  exact HY.out
end Go.Proofs.YtkplfbhblbinaabGreatDoor

/-
  Chapter 10, a document's version and the text at it: the model's contracts. Own work.
-/
namespace Go.Proofs.YtkplfbhblbinaabGreatDoor
open Go.RowKit P
set_option linter.unusedVariables false
set_option linter.unusedSimpArgs false
set_option maxRecDepth 100000

/-- What a list of the edits of a log ends in, told with where it lies. -/
def EsOfP (lg : List Cm) (w : World) (e : Ending) (w' : World) : Prop := ∃ A c, e = .returned (.slice A lg.length c) ∧ lg.length ≤ c ∧ c ≤ maxLen ∧ Es w' A (logE lg) ∧ ((A = none → c = 0) ∧ ∀ x, A = some x → ∃ g, x = ⟨g, 0, none⟩) ∧ Below w.heap.size w w'
theorem EsOfP.mk {lg : List Cm} {w w' : World} {v : Value} {base : Nat} (h : OwnR w w' base v (logE lg)) (hb : Below w.heap.size w w') : EsOfP lg w (.returned v) w' := by
  obtain ⟨A, c, e, h1, h2, h3⟩ := h.es hb
  rw [logE_length] at h1
  obtain ⟨L, _, hrow, _⟩ := h
  subst e
  refine ⟨A, c, by rw [logE_length], h1, h2, h3, ?_, hb⟩
  rcases hrow.2 with ⟨hv, _⟩ | ⟨g, cap, cur, hv, _⟩
  · simp only [Value.slice.injEq] at hv
    exact ⟨fun _ => hv.2.2, fun x hx => (by rw [hv.1] at hx; cases hx)⟩
  · simp only [Value.slice.injEq] at hv
    exact ⟨fun h0 => (by rw [hv.1] at h0; cases h0), fun x hx => ⟨g, (by rw [hv.1] at hx; exact (Option.some.inj hx).symm)⟩⟩

set_option maxHeartbeats 4000000 in
theorem l10LogP_any (a : Da) (d : Dc) (w : World) (hl : d.log.length ≤ 1000) (hD : RdD w a d) :
    Calls Tryz.prog 39 #[.agg #[.slice a.s d.start.length a.cs, .slice a.t d.text.length a.ct, .slice a.l d.log.length a.cl, .int .i64 d.clock, .slice a.m d.mem.length a.cm, .slice a.e d.lea.length a.ce]] w (EsOfP d.log w) := by
  have hal := ((Below.refl w.heap.size w).alloc (Nat.le_refl _) (.cells #[.slice a.s d.start.length a.cs, .slice a.t d.text.length a.ct, .slice a.l d.log.length a.cl, .int .i64 d.clock, .slice a.m d.mem.length a.cm, .slice a.e d.lea.length a.ce] 34)).alloc (by simp) (.cells #[] 70)
  have BX := Lib.hid ((Blk.new w #[.slice a.s d.start.length a.cs, .slice a.t d.text.length a.ct, .slice a.l d.log.length a.cl, .int .i64 d.clock, .slice a.m d.mem.length a.cm, .slice a.e d.lea.length a.ce] 34).alloc (.cells #[] 70))
  have hsz : (w.alloc (.cells #[.slice a.s d.start.length a.cs, .slice a.t d.text.length a.ct, .slice a.l d.log.length a.cl, .int .i64 d.clock, .slice a.m d.mem.length a.cm, .slice a.e d.lea.length a.ce] 34)).heap.size = w.heap.size + 1 := by simp
  have HO0 : Hid (OwnR w ((w.alloc (.cells #[.slice a.s d.start.length a.cs, .slice a.t d.text.length a.ct, .slice a.l d.log.length a.cl, .int .i64 d.clock, .slice a.m d.mem.length a.cm, .slice a.e d.lea.length a.ce] 34)).alloc (.cells #[] 70)) (w.heap.size + 1) (.slice (some ⟨w.heap.size + 1, 0, none⟩) 0 0) []) := Lib.hid (by have h9 := OwnR.empty w (w.alloc (.cells #[.slice a.s d.start.length a.cs, .slice a.t d.text.length a.ct, .slice a.l d.log.length a.cl, .int .i64 d.clock, .slice a.m d.mem.length a.cm, .slice a.e d.lea.length a.ce] 34)); rw [hsz] at h9; exact h9)
  have HB := Lib.hid hal
  have HL := Lib.hid hD.l
  have hn9 := hD.n9.2.2.1
  clear hal hD hsz
  go_enter Tryz.func39, Tryz.ntmps39
  go_wp2
  go_loopw [3, 4] (fun v i wr => ∃ k : Nat, k ≤ d.log.length ∧ i = .int .i64 k ∧ OwnR w wr (w.heap.size + 1) v (logE (d.log.take k)) ∧ Below w.heap.size w wr ∧ Blk wr w.heap.size #[.slice a.s d.start.length a.cs, .slice a.t d.text.length a.ct, .slice a.l d.log.length a.cl, .int .i64 d.clock, .slice a.m d.mem.length a.cm, .slice a.e d.lea.length a.ce] 34) (fun _ i _ => d.log.length - (intOf i).toNat)
  case atStart => exact ⟨0, Nat.zero_le _, rfl, HO0.out, HB.out, BX.out⟩
  case round =>
    obtain ⟨k, hk, rfl, hown, hb, bx⟩ := hrel
    have p2 := bx.cell 2
    by_cases hlt : k < d.log.length
    · obtain ⟨b, off, s, x, m, B, p, dd, hA, hbl, hek, k0, k1, k2, k3, hs, ha, hm, hpd, hdm, hBp⟩ := HL.out.at_ k hlt
      clear p2
      have hi0 : (0 : Int) ≤ (k : Int) := by omega
      have p2 : wr.cell? ⟨w.heap.size, 2, none⟩ = some (.slice (some ⟨b, off, none⟩) d.log.length a.cl) := by rw [← hA]; exact bx.cell 2
      have j1 := (hb.cell (p := ⟨b, off + k * 4 + 1, none⟩) hbl).trans k1
      have j2 := (hb.cell (p := ⟨b, off + k * 4 + 2, none⟩) hbl).trans k2
      have j3 := (hb.cell (p := ⟨b, off + k * 4 + 3, none⟩) hbl).trans k3
      have hnx := logE_take d.log k hlt hek
      have HN := Lib.hid hnx
      have hrd : Lay.edit.rd w [.int .i64 x, .int .i64 m, .slice B p.length dd] (x, m, p) := rd_edit ha hm hpd hdm hBp
      have HRD := Lib.hid (show ∀ e ∈ [([Value.int .i64 x, .int .i64 m, .slice B p.length dd], ((x, m, p) : Ed))], Lay.edit.rd w e.1 e.2 from fun e he => by rw [List.mem_singleton.1 he]; exact hrd)
      have hki : (k : Int) < (d.log.length : Int) := by omega
      have hlen : (logE (d.log.take k)).length ≤ 1000 := by rw [logE_length, List.length_take]; omega
      obtain ⟨l, hll⟩ : ∃ l, logE (d.log.take k) = l := ⟨_, rfl⟩
      rw [hll] at hown hlen HN
      have HO := Lib.hid hown
      have BX := Lib.hid bx
      have hbs := hb.size
      have hbl9 := bx.lt
      clear hnx hrd hek hll hown k0 k1 k2 k3 hs ha hm hpd hdm hBp hA bx
      go_upto_region 5 with fail
      go_wp2_with (at_builtin; go_must (refine wpList_app_R (W0 := w) rfl _ _ rfl (w.heap.size + 1) _ l [([Value.int .i64 x, .int .i64 m, .slice B p.length dd], ((x, m, p) : Ed))] _ 1 1 rfl rfl rfl (by exact HO.out.below (by (repeat (first | exact Below.refl _ _ | assumption | refine Below.setCell ?_ (by first | (simp; done) | (simp; omega) | omega) _ | refine Below.drew ?_ | refine below_drewN ?_ _ | refine Below.alloc ?_ (by first | (simp; done) | (simp; omega) | omega) _)))) HRD.out (by intro j u hu; have h9 := @cell_new3 (wr) 70 (.int .i64 x) (.int .i64 m) (.slice B p.length dd) j u (by simpa using hu); first | exact h9 | simpa using h9) (by simp; omega) (by simp; omega) ?_))
      intro v4 w4 hown4 hg4 _
      have hb4 : Below w.heap.size w w4 := Below.grown (by (repeat (first | exact Below.refl _ _ | assumption | refine Below.setCell ?_ (by first | (simp; done) | (simp; omega) | omega) _ | refine Below.drew ?_ | refine below_drewN ?_ _ | refine Below.alloc ?_ (by first | (simp; done) | (simp; omega) | omega) _))) hg4 (by simp; omega) (fun x hx => by have := (HO.out.lt x hx).1; omega)
      have BX4 := Lib.hid ((BX.out.alloc _).of_block (hg4.block _ (by simp; omega) (fun e => by have := (HO.out.lt _ e.symm).1; omega)))
      have HO4 := Lib.hid (show OwnR w w4 (w.heap.size + 1) v4 (logE (d.log.take (k + 1))) by rw [HN.out]; exact hown4)
      clear hown4 hg4 j1 j2 j3 p2
      go_wp2
      go_roundw
      case rel => exact ⟨k + 1, by omega, by go_num, HO4.out, hb4, BX4.out⟩
      case measure => simp [intOf]; omega
    · have e : k = d.log.length := by omega
      subst e
      rw [List.take_length] at hown
      have HE := Lib.hid (EsOfP.mk hown hb)
      go_wp2
      go_ret
      exact HE.out

theorem Es.take' {w : World} {A : Option Addr} {es : List Ed} (h : Es w A es) (n : Nat) : Es w A (es.take n) := by
  intro k hk
  rw [List.length_take] at hk
  obtain ⟨b, off, us, hA, hlt, hl, hc, hr⟩ := h k (by omega)
  exact ⟨b, off, us, hA, hlt, hl, hc, by rw [List.getElem_take]; exact hr⟩

theorem slcEd_head (A : Option Addr) (n c k : Nat) (hP : (A = none → c = 0) ∧ ∀ x, A = some x → ∃ g, x = ⟨g, 0, none⟩) (hk : k ≤ n) (hc : n ≤ c) (hc9 : c ≤ maxLen) : ∀ W, (Instr.slice 44 (.slice A n c) none (some (.int .i64 (k : Int))) none).run Tryz.prog W = .ok (.slice A k c) W := by
  intro W
  unfold maxLen at hc9
  have hz : ∀ W, (Go.sizeOf 70).run Tryz.prog W = .ok 3 W := fun W => by kernel_rfl
  have ht' : Tryz.prog.underlying 44 = some (.slice (Tryz.prog.elem 44)) := by simp [Program.elem, Tryz.underlying44]
  have he : Tryz.prog.elem 44 = 70 := by simp [Program.elem, Tryz.underlying44]
  rw [run_slice_h W 44 _ _ _ ht' .i64 _ (by omega) (by omega), he, hz]
  cases hA : A with
  | none =>
    have h0 := hP.1 hA
    have hk0 : k = 0 := by omega
    rw [h0, hk0]
    simp [Result.andThen, sliced]
  | some x =>
    obtain ⟨g, rfl⟩ := hP.2 x hA
    simp [Result.andThen, sliced, Addr.add]

set_option maxHeartbeats 8000000 in
theorem l10Version_any (a : Da) (d : Dc) (v : Int) (w : World) (hD : RdD w a d) :
    Calls Tryz.prog 57 #[.agg #[.slice a.s d.start.length a.cs, .slice a.t d.text.length a.ct, .slice a.l d.log.length a.cl, .int .i64 d.clock, .slice a.m d.mem.length a.cm, .slice a.e d.lea.length a.ce], .int .i64 v] w fun e w' => e = .returned (.bool (verOk d v)) ∧ Below w.heap.size w w' := by
  have hal := (Below.refl w.heap.size w).alloc (Nat.le_refl _) (.cells #[.slice a.s d.start.length a.cs, .slice a.t d.text.length a.ct, .slice a.l d.log.length a.cl, .int .i64 d.clock, .slice a.m d.mem.length a.cm, .slice a.e d.lea.length a.ce] 34)
  have BX := Lib.hid (Blk.new w #[.slice a.s d.start.length a.cs, .slice a.t d.text.length a.ct, .slice a.l d.log.length a.cl, .int .i64 d.clock, .slice a.m d.mem.length a.cm, .slice a.e d.lea.length a.ce] 34)
  have HD := Lib.hid (hD.below hal)
  have HB := Lib.hid hal
  obtain ⟨R, hR⟩ : ∃ R, verOk d v = R := ⟨_, rfl⟩
  obtain ⟨q1, h1⟩ : ∃ q, docOk d = q := ⟨_, rfl⟩
  obtain ⟨q2, h2⟩ : ∃ q, verIn d v = q := ⟨_, rfl⟩
  have HV := Lib.hid (show R = (q1 && q2) by rw [← hR, ← h1, ← h2]; rfl)
  have H1 := Lib.hid h1
  have H2 := Lib.hid h2
  rw [hR]
  clear hD hal h1 h2 hR
  have p0 := BX.out.cell 0
  have p1 := BX.out.cell 1
  have p2 := BX.out.cell 2
  have p3 := BX.out.cell 3
  have p4 := BX.out.cell 4
  have p5 := BX.out.cell 5
  go_enter Tryz.func57, Tryz.ntmps57
  go_wp2_with fail
  generalize w.alloc (.cells #[.slice a.s d.start.length a.cs, .slice a.t d.text.length a.ct, .slice a.l d.log.length a.cl, .int .i64 d.clock, .slice a.m d.mem.length a.cm, .slice a.e d.lea.length a.ce] 34) = W at *
  refine (specDocOk_any a d _ HD.out).mono ?_
  rintro e w1 ⟨rfl, hb⟩
  rw [H1.out]
  have BX := Lib.hid (BX.out.below hb)
  have HB := Lib.hid (below_then HB.out hb)
  clear hb p0 p1 p2 p3 p4 p5
  cases q1
  · have e : R = false := by rw [HV.out]; rfl
    subst e
    go_wp2
    go_ret
    exact ⟨rfl, HB.out⟩
  by_cases h0 : 0 ≤ v
  · have e1 : decide (v ≥ 0) = true := decide_eq_true h0
    have p2 := BX.out.cell 2
    have hv : R = decide (v ≤ (d.log.length : Int)) := by rw [HV.out, ← H2.out]; unfold verIn; rw [decide_eq_true h0]; rfl
    subst hv
    go_wp2
    go_ret
    exact ⟨rfl, HB.out⟩
  · have e1 : decide (v ≥ 0) = false := decide_eq_false (by omega)
    have e : R = false := by rw [HV.out, ← H2.out]; unfold verIn; rw [decide_eq_false h0]; rfl
    subst e
    go_wp2
    go_ret
    exact ⟨rfl, HB.out⟩

set_option maxHeartbeats 16000000 in
theorem specDocAt_any (a : Da) (d : Dc) (v : Int) (w : World) (hD : RdD w a d) :
    Calls Tryz.prog 13 #[.agg #[.slice a.s d.start.length a.cs, .slice a.t d.text.length a.ct, .slice a.l d.log.length a.cl, .int .i64 d.clock, .slice a.m d.mem.length a.cm, .slice a.e d.lea.length a.ce], .int .i64 v] w (GivesAt d v w) := by
  have hal := (Below.refl w.heap.size w).alloc (Nat.le_refl _) (.cells #[.slice a.s d.start.length a.cs, .slice a.t d.text.length a.ct, .slice a.l d.log.length a.cl, .int .i64 d.clock, .slice a.m d.mem.length a.cm, .slice a.e d.lea.length a.ce] 34)
  have BX := Lib.hid (Blk.new w #[.slice a.s d.start.length a.cs, .slice a.t d.text.length a.ct, .slice a.l d.log.length a.cl, .int .i64 d.clock, .slice a.m d.mem.length a.cm, .slice a.e d.lea.length a.ce] 34)
  have HK := Lib.hid (show ∀ W, Below w.heap.size w W → RdD W a d from fun W h => hD.below h)
  have HB := Lib.hid hal
  have HNN := Lib.hid (show d.start.length ≤ a.cs ∧ a.cs ≤ 9223372036854775807 from ⟨hD.hs.1, by have h := hD.hs.2; unfold maxLen at h; omega⟩)
  obtain ⟨q, hq⟩ : ∃ q, verOk d v = q := ⟨_, rfl⟩
  have HV := Lib.hid hq
  clear hD hal hq
  have p0 := BX.out.cell 0
  have p1 := BX.out.cell 1
  have p2 := BX.out.cell 2
  have p3 := BX.out.cell 3
  have p4 := BX.out.cell 4
  have p5 := BX.out.cell 5
  go_enter Tryz.func13, Tryz.ntmps13
  go_wp2_with fail
  generalize w.alloc (.cells #[.slice a.s d.start.length a.cs, .slice a.t d.text.length a.ct, .slice a.l d.log.length a.cl, .int .i64 d.clock, .slice a.m d.mem.length a.cm, .slice a.e d.lea.length a.ce] 34) = W at *
  refine (l10Version_any a d v _ (HK.out _ HB.out)).mono ?_
  rintro e w1 ⟨rfl, hb⟩
  rw [HV.out]
  have BX := Lib.hid (BX.out.below hb)
  have HB := Lib.hid (below_then HB.out hb)
  clear hb p0 p1 p2 p3 p4 p5
  cases q
  · have hn := GivesAt.no HV.out HB.out
    have HN := Lib.hid hn
    clear hn
    go_wp2
    go_ret2
    exact HN.out
  have hv01 := HV.out
  unfold verOk at hv01
  rw [Bool.and_eq_true] at hv01
  have hl6 := docOk_log hv01.1
  have hv02 := hv01.2
  unfold verIn at hv02
  rw [Bool.and_eq_true] at hv02
  have hv0 := of_decide_eq_true hv02.1
  have hv1 := of_decide_eq_true hv02.2
  obtain ⟨n, rfl⟩ : ∃ n : Nat, v = (n : Int) := ⟨v.toNat, by omega⟩
  have hn9 : n ≤ d.log.length := by omega
  have HTL := Lib.hid (show ((logE d.log).take n).length = n by rw [List.length_take, logE_length]; omega)
  have HD := Lib.hid (HK.out _ HB.out)
  have hlx := BX.out.lt
  clear hv01 hv02
  have p0 := BX.out.cell 0
  have p1 := BX.out.cell 1
  have p2 := BX.out.cell 2
  have p3 := BX.out.cell 3
  have p4 := BX.out.cell 4
  have p5 := BX.out.cell 5
  go_upto_region 3 with fail
  refine wp_region_held_drew (S := (fun V => V.cell? ⟨w.heap.size, 0, none⟩ = some (.slice a.s d.start.length a.cs) ∧ V.cell? ⟨w.heap.size, 1, none⟩ = some (.slice a.t d.text.length a.ct) ∧ V.cell? ⟨w.heap.size, 2, none⟩ = some (.slice a.l d.log.length a.cl) ∧ V.cell? ⟨w.heap.size, 3, none⟩ = some (.int .i64 d.clock) ∧ V.cell? ⟨w.heap.size, 4, none⟩ = some (.slice a.m d.mem.length a.cm) ∧ V.cell? ⟨w.heap.size, 5, none⟩ = some (.slice a.e d.lea.length a.ce))) (by kernel_rfl) (by exact ⟨p0, p1, p2, p3, p4, p5⟩) (fun hHeld => ?_)
  refine wpAnyH_take (i := 0) (oi := ?_) (v := ?_) ?_ ?_ ?_ ?_ ?_ ?_ (by exact hHeld) ?_
  rotate_left 2
  · (simp only [List.getElem?_toArray, List.getElem?_cons_zero]; try rfl)
  · kernel_rfl
  · kernel_rfl
  · kernel_rfl
  · exact fun _ _ _ h => h
  · refine Or.inl ⟨by rfl, ?_⟩
    (intro V hSV; (try dsimp only at hSV); obtain ⟨q0, q1, q2, q3, q4, q5⟩ := hSV; go_simp; try with_reducible rfl)
  (try simp only [Act.put, List.setIfInBounds_toArray, List.set_cons_zero, List.set_cons_succ])
  refine wpAnyH_take (i := 1) (oi := ?_) (v := ?_) ?_ ?_ ?_ ?_ ?_ ?_ (by exact hHeld) ?_
  rotate_left 2
  · (simp only [List.getElem?_toArray, List.getElem?_cons_zero, List.getElem?_cons_succ]; try rfl)
  · kernel_rfl
  · kernel_rfl
  · kernel_rfl
  · exact fun _ _ _ h => h
  · refine Or.inl ⟨by rfl, ?_⟩
    (intro V hSV; (try dsimp only at hSV); obtain ⟨q0, q1, q2, q3, q4, q5⟩ := hSV; go_simp; try with_reducible rfl)
  (try simp only [Act.put, List.setIfInBounds_toArray, List.set_cons_zero, List.set_cons_succ])
  refine wpAnyH_take (i := 2) (oi := ?_) (v := ?_) ?_ ?_ ?_ ?_ ?_ ?_ (by exact hHeld) ?_
  rotate_left 2
  · (simp only [List.getElem?_toArray, List.getElem?_cons_zero, List.getElem?_cons_succ]; try rfl)
  · kernel_rfl
  · kernel_rfl
  · kernel_rfl
  · exact fun _ _ _ h => h
  · refine Or.inl ⟨by rfl, ?_⟩
    (intro V hSV; (try dsimp only at hSV); obtain ⟨q0, q1, q2, q3, q4, q5⟩ := hSV; go_simp; try with_reducible rfl)
  (try simp only [Act.put, List.setIfInBounds_toArray, List.set_cons_zero, List.set_cons_succ])
  refine wpAnyH_take (i := 4) (oi := ?_) (v := ?_) ?_ ?_ ?_ ?_ ?_ ?_ (by exact hHeld) ?_
  rotate_left 2
  · (simp only [List.getElem?_toArray, List.getElem?_cons_zero, List.getElem?_cons_succ]; try rfl)
  · kernel_rfl
  · kernel_rfl
  · kernel_rfl
  · exact fun _ _ _ h => h
  · refine Or.inl ⟨by rfl, ?_⟩
    (intro V hSV; (try dsimp only at hSV); obtain ⟨q0, q1, q2, q3, q4, q5⟩ := hSV; go_simp; try with_reducible rfl)
  (try simp only [Act.put, List.setIfInBounds_toArray, List.set_cons_zero, List.set_cons_succ])
  refine wpAnyH_ready (rs := [3]) (by kernel_rfl) (by simp) ?_
  refine AllReadyH.cons rfl (fun K hK => ?_) AllReadyH.nil
  go_simp
  refine (l10LogP_any a d _ (by omega) (by first | exact HD.out | exact HD.out.below (bsk4 _))).mono ?_
  rintro e w2 ⟨E, ce, rfl, hec, hem, hEE, hpl, hb⟩
  have hb : Below w1.heap.size w1 w2 := ⟨hb.os, hb.tape, hb.output, hb.size, hb.block⟩
  have hsl := slcEd_head E d.log.length ce n hpl hn9 hec hem
  have HE := Lib.hid (hEE.take' n)
  have HD2 := Lib.hid (HD.out.below hb)
  have HB1 := Lib.hid hb
  clear hEE hb hpl
  go_wp2_with fail
  refine hK.out _ _ (by exact ⟨((HB1.out).cell (p := ⟨w.heap.size, 0, none⟩) hlx).trans p0, ((HB1.out).cell (p := ⟨w.heap.size, 1, none⟩) hlx).trans p1, ((HB1.out).cell (p := ⟨w.heap.size, 2, none⟩) hlx).trans p2, ((HB1.out).cell (p := ⟨w.heap.size, 3, none⟩) hlx).trans p3, ((HB1.out).cell (p := ⟨w.heap.size, 4, none⟩) hlx).trans p4, ((HB1.out).cell (p := ⟨w.heap.size, 5, none⟩) hlx).trans p5⟩) (fun hHeld => ?_)
  clear hK K
  (try simp only [Act.put, List.setIfInBounds_toArray, List.set_cons_zero, List.set_cons_succ])
  refine wpAnyH_take (i := 5) (oi := ?_) (v := ?_) ?_ ?_ ?_ ?_ ?_ ?_ (by exact hHeld) ?_
  rotate_left 2
  · (simp only [List.getElem?_toArray, List.getElem?_cons_zero, List.getElem?_cons_succ]; try rfl)
  · kernel_rfl
  · kernel_rfl
  · kernel_rfl
  · exact fun _ _ _ h => h
  · refine Or.inl ⟨by rfl, ?_⟩
    (intro V hSV; (try dsimp only at hSV); obtain ⟨q0, q1, q2, q3, q4, q5⟩ := hSV; go_simp; try with_reducible rfl)
  (try simp only [Act.put, List.setIfInBounds_toArray, List.set_cons_zero, List.set_cons_succ])
  refine wpAnyH_ready (rs := [6]) (by kernel_rfl) (by simp) ?_
  refine AllReadyH.cons rfl (fun K hK => ?_) AllReadyH.nil
  go_simp
  refine (specEditsDo_any' a.s d.start a.cs E ((logE d.log).take n) ce n _ HNN.out.1 HNN.out.2 HTL.out.symm (by rw [HTL.out]; omega) (by exact HD2.out.s) (by exact HE.out)).mono ?_
  rintro e w3 ⟨u, rfl, hown, hb⟩
  have hb : Below w2.heap.size w2 w3 := ⟨hb.os, hb.tape, hb.output, hb.size, hb.block⟩
  have HB2 := Lib.hid (below_then HB1.out hb)
  have HO := Lib.hid hown
  clear hown hb
  go_wp2_with fail
  refine hK.out _ _ (by exact ⟨((HB2.out).cell (p := ⟨w.heap.size, 0, none⟩) hlx).trans p0, ((HB2.out).cell (p := ⟨w.heap.size, 1, none⟩) hlx).trans p1, ((HB2.out).cell (p := ⟨w.heap.size, 2, none⟩) hlx).trans p2, ((HB2.out).cell (p := ⟨w.heap.size, 3, none⟩) hlx).trans p3, ((HB2.out).cell (p := ⟨w.heap.size, 4, none⟩) hlx).trans p4, ((HB2.out).cell (p := ⟨w.heap.size, 5, none⟩) hlx).trans p5⟩) (fun hHeld => ?_)
  clear hK K
  (try simp only [Act.put, List.setIfInBounds_toArray, List.set_cons_zero, List.set_cons_succ])
  refine wpAnyH_take (i := 7) (oi := ?_) (v := ?_) ?_ ?_ ?_ ?_ ?_ ?_ (by exact hHeld) ?_
  rotate_left 2
  · (simp only [List.getElem?_toArray, List.getElem?_cons_zero, List.getElem?_cons_succ]; try rfl)
  · kernel_rfl
  · kernel_rfl
  · kernel_rfl
  · exact fun _ _ _ h => h
  · refine Or.inl ⟨by rfl, ?_⟩
    (intro V hSV; (try dsimp only at hSV); obtain ⟨q0, q1, q2, q3, q4, q5⟩ := hSV; go_simp; try with_reducible rfl)
  (try simp only [Act.put, List.setIfInBounds_toArray, List.set_cons_zero, List.set_cons_succ])
  refine wpAnyH_take (i := 8) (oi := ?_) (v := ?_) ?_ ?_ ?_ ?_ ?_ ?_ (by exact hHeld) ?_
  rotate_left 2
  · (simp only [List.getElem?_toArray, List.getElem?_cons_zero, List.getElem?_cons_succ]; try rfl)
  · kernel_rfl
  · kernel_rfl
  · kernel_rfl
  · exact fun _ _ _ h => h
  · refine Or.inl ⟨by rfl, ?_⟩
    (intro V hSV; (try dsimp only at hSV); obtain ⟨q0, q1, q2, q3, q4, q5⟩ := hSV; go_simp; try with_reducible rfl)
  (try simp only [Act.put, List.setIfInBounds_toArray, List.set_cons_zero, List.set_cons_succ])
  refine wpAnyH_take (i := 9) (oi := ?_) (v := ?_) ?_ ?_ ?_ ?_ ?_ ?_ (by exact hHeld) ?_
  rotate_left 2
  · (simp only [List.getElem?_toArray, List.getElem?_cons_zero, List.getElem?_cons_succ]; try rfl)
  · kernel_rfl
  · kernel_rfl
  · kernel_rfl
  · exact fun _ _ _ h => h
  · refine Or.inl ⟨by rfl, ?_⟩
    (intro V hSV; (try dsimp only at hSV); obtain ⟨q0, q1, q2, q3, q4, q5⟩ := hSV; go_simp; try with_reducible rfl)
  (try simp only [Act.put, List.setIfInBounds_toArray, List.set_cons_zero, List.set_cons_succ])
  refine wpAnyH_take (i := 10) (oi := ?_) (v := ?_) ?_ ?_ ?_ ?_ ?_ ?_ (by exact hHeld) ?_
  rotate_left 2
  · (simp only [List.getElem?_toArray, List.getElem?_cons_zero, List.getElem?_cons_succ]; try rfl)
  · kernel_rfl
  · kernel_rfl
  · kernel_rfl
  · exact fun _ _ _ h => h
  · refine Or.inl ⟨by rfl, ?_⟩
    (intro V hSV; (try dsimp only at hSV); obtain ⟨q0, q1, q2, q3, q4, q5⟩ := hSV; go_simp; try with_reducible rfl)
  (try simp only [Act.put, List.setIfInBounds_toArray, List.set_cons_zero, List.set_cons_succ])
  refine wpAnyH_take (i := 11) (oi := ?_) (v := ?_) ?_ ?_ ?_ ?_ ?_ ?_ (by exact hHeld) ?_
  rotate_left 2
  · (simp only [List.getElem?_toArray, List.getElem?_cons_zero, List.getElem?_cons_succ]; try rfl)
  · kernel_rfl
  · kernel_rfl
  · kernel_rfl
  · exact fun _ _ _ h => h
  · refine Or.inl ⟨by rfl, ?_⟩
    (intro V hSV; (try dsimp only at hSV); obtain ⟨q0, q1, q2, q3, q4, q5⟩ := hSV; go_simp; try with_reducible rfl)
  (try simp only [Act.put, List.setIfInBounds_toArray, List.set_cons_zero, List.set_cons_succ])
  refine wpAnyH_done (by kernel_rfl) ?_ _
  clear hHeld hlx p0 p1 p2 p3 p4 p5 hsl
  have hz1 := HB.out.size
  have hz2 := HB1.out.size
  have HB9 := Lib.hid (below_then HB.out HB2.out)
  have he : (logE d.log).take n = logE (d.log.take n) := by unfold logE; rw [List.map_take]
  have ho9 := HO.out
  rw [he] at ho9
  have hy := GivesAt.yes (w := w) (v := (n : Int)) (d := d) HV.out (by rw [Int.toNat_natCast]; exact ho9.mono (Nat.le_trans hz1 hz2)) HB9.out
  have HY := Lib.hid hy
  clear ho9 hy he
  go_wp2
  go_ret2
  exact HY.out
end Go.Proofs.YtkplfbhblbinaabGreatDoor

/-
  FnExactDocAt, its walk. Own work.
-/
namespace Go.Proofs.YtkplfbhblbinaabGreatDoor.fnExactDocAt
open Go.ChangeShapes Go.WideShapes Go.ChangeAt Go.RowKit P
set_option linter.unusedVariables false
set_option maxRecDepth 100000

set_option maxHeartbeats 16000000 in
theorem walk (b0 : Da) (d0 : Dc) (a1 : Int) (hb1 : -9223372036854775808 ≤ a1 ∧ a1 ≤ 9223372036854775807) (w : World) (hR0 : RdD w b0 d0) (hT : Tab w) :
    Calls Tryz.prog 4 #[.agg #[.slice b0.s d0.start.length b0.cs, .slice b0.t d0.text.length b0.ct, .slice b0.l d0.log.length b0.cl, .int .i64 d0.clock, .slice b0.m d0.mem.length b0.cm, .slice b0.e d0.lea.length b0.ce], .int .i64 a1] w fun e w' => e = .returned (.bool true) ∧ Below w.heap.size w w' := by
  have AX := Lib.hid (Blk.new w #[.slice b0.s d0.start.length b0.cs, .slice b0.t d0.text.length b0.ct, .slice b0.l d0.log.length b0.cl, .int .i64 d0.clock, .slice b0.m d0.mem.length b0.cm, .slice b0.e d0.lea.length b0.ce] 27)
  have HB := Lib.hid ((Below.refl w.heap.size w).alloc (Nat.le_refl _) (.cells #[.slice b0.s d0.start.length b0.cs, .slice b0.t d0.text.length b0.ct, .slice b0.l d0.log.length b0.cl, .int .i64 d0.clock, .slice b0.m d0.mem.length b0.cm, .slice b0.e d0.lea.length b0.ce] 27))
  obtain ⟨R, hRe⟩ : ∃ R, atT d0 a1 = R := ⟨_, rfl⟩
  obtain ⟨z, hze⟩ : ∃ z, verOk d0 a1 = z := ⟨_, rfl⟩
  have HZE := Lib.hid hze
  have HRE := Lib.hid hRe
  have hzz : (z != z) = false := by simp
  have hR4 : R.length ≤ 400 := by
    rw [← hRe]
    unfold atT
    by_cases h : verOk d0 a1 = true
    · rw [if_pos h]; exact edsText_len _ _
    · rw [if_neg h]; simp
  have hR9 : R.length ≤ 9223372036854775807 := by omega
  clear hRe hze hb1
  go_enter Tryz.func4, Tryz.ntmps4
  have HR := Lib.hid (hR0.below HB.out)
  have p0 := AX.out.cell 0
  have p1 := AX.out.cell 1
  have p2 := AX.out.cell 2
  have p3 := AX.out.cell 3
  have p4 := AX.out.cell 4
  have p5 := AX.out.cell 5
  go_wp2_with fail
  refine (szDoc_any b0 d0 1048576 _ (by omega) (by omega) HR.out).mono ?_
  rintro e s0 ⟨⟨q0, rfl, hq0⟩, hb⟩
  have z1 := hb.size
  have AX := Lib.hid (AX.out.below hb)
  have HB := Lib.hid (below_then HB.out hb)
  clear hb HR
  have zAX : w.heap.size < s0.heap.size := AX.out.lt
  clear p0 p1 p2 p3 p4 p5
  by_cases hneg : q0 < 0
  · go_wp2
    go_ret
    exact ⟨rfl, HB.out⟩
  have hsz : dtot d0 ≤ 1048576 := by omega
  clear hq0
  have HR := Lib.hid (hR0.below HB.out)
  have p0 := AX.out.cell 0
  have p1 := AX.out.cell 1
  have p2 := AX.out.cell 2
  have p3 := AX.out.cell 3
  have p4 := AX.out.cell 4
  have p5 := AX.out.cell 5
  go_wp2_with fail
  refine (toDoc_any b0 d0 _ hsz HR.out).mono ?_
  rintro e m1 ⟨ma, mfs, mft, mfl, mfm, mfe, rfl, ho, hb⟩
  have z2 := hb.size
  have AX := Lib.hid (AX.out.below hb)
  have HB := Lib.hid (below_then HB.out hb)
  have mO := Lib.hid (ho.below (Below.refl _ _))
  have Rm := Lib.hid ho.range
  clear ho HR
  clear hb
  clear p0 p1 p2 p3 p4 p5
  go_wp2_with fail
  refine (specDocAt_any ma d0 a1 _ mO.out.rd).mono ?_
  rintro e m2 hgv
  unfold GivesAt at hgv
  rw [HRE.out, HZE.out] at hgv
  obtain ⟨v, rfl, hown, hb⟩ := hgv
  obtain ⟨OA, Oc, rfl, Oh, Ok, _, _, _⟩ := own_plain9 hown
  have RO := Lib.hid hown.range
  have z3 := hb.size
  have AX := Lib.hid (AX.out.below hb)
  have mO := Lib.hid (mO.out.below hb)
  have HB := Lib.hid (below_then HB.out hb)
  have O := Lib.hid (hown.below (Below.refl _ _))
  clear hown
  clear hb
  clear mO Rm
  have HR := Lib.hid (hR0.below HB.out)
  have p0 := AX.out.cell 0
  have p1 := AX.out.cell 1
  have p2 := AX.out.cell 2
  have p3 := AX.out.cell 3
  have p4 := AX.out.cell 4
  have p5 := AX.out.cell 5
  go_wp2_with fail
  refine (toDoc_any b0 d0 _ hsz HR.out).mono ?_
  rintro e x1 ⟨xa, xfs, xft, xfl, xfm, xfe, rfl, ho, hb⟩
  have z4 := hb.size
  have AX := Lib.hid (AX.out.below hb)
  have O := Lib.hid (O.out.below hb)
  have HB := Lib.hid (below_then HB.out hb)
  have xO := Lib.hid (ho.below (Below.refl _ _))
  have Rx := Lib.hid ho.range
  clear ho HR
  clear hb
  clear p0 p1 p2 p3 p4 p5
  have hal := (Below.refl x1.heap.size x1).alloc (Nat.le_refl _) (.cells #[.slice xa.s d0.start.length xa.cs, .slice xa.t d0.text.length xa.ct, .slice xa.l d0.log.length xa.cl, .int .i64 d0.clock, .slice xa.m d0.mem.length xa.cm, .slice xa.e d0.lea.length xa.ce] 34)
  have hbx := Blk.new x1 #[.slice xa.s d0.start.length xa.cs, .slice xa.t d0.text.length xa.ct, .slice xa.l d0.log.length xa.cl, .int .i64 d0.clock, .slice xa.m d0.mem.length xa.cm, .slice xa.e d0.lea.length xa.ce] 34
  have zbx : x1.heap.size < (x1.alloc (.cells #[.slice xa.s d0.start.length xa.cs, .slice xa.t d0.text.length xa.ct, .slice xa.l d0.log.length xa.cl, .int .i64 d0.clock, .slice xa.m d0.mem.length xa.cm, .slice xa.e d0.lea.length xa.ce] 34)).heap.size := by simp
  have AX := Lib.hid (AX.out.below hal)
  have O := Lib.hid (O.out.below hal)
  have xO := Lib.hid (xO.out.below hal)
  have HB := Lib.hid (below_then HB.out hal)
  have z5 := hal.size
  have XB := Lib.hid hbx
  clear hbx hal
  have HT := Lib.hid (hT.below HB.out)
  have q0 := XB.out.cell 0
  have q1 := XB.out.cell 1
  have q2 := XB.out.cell 2
  have q3 := XB.out.cell 3
  have q4 := XB.out.cell 4
  have q5 := XB.out.cell 5
  go_wp2_with fail
  generalize x1.alloc (.cells #[.slice xa.s d0.start.length xa.cs, .slice xa.t d0.text.length xa.ct, .slice xa.l d0.log.length xa.cl, .int .i64 d0.clock, .slice xa.m d0.mem.length xa.cm, .slice xa.e d0.lea.length xa.ce] 34) = xw at *
  refine (implDocAt_any xa d0 a1 _ xO.out.plain (by exact HT.out) xO.out.rd).mono ?_
  rintro e g1 hgv
  unfold GivesAt at hgv
  rw [HRE.out, HZE.out] at hgv
  obtain ⟨v, rfl, hown, hb⟩ := hgv
  obtain ⟨GA, Gc, rfl, Gh, Gk, _, _, _⟩ := own_plain9 hown
  have RG := Lib.hid hown.range
  have z6 := hb.size
  have AX := Lib.hid (AX.out.below hb)
  have O := Lib.hid (O.out.below hb)
  have xO := Lib.hid (xO.out.below hb)
  have XB := Lib.hid (XB.out.below hb)
  have HB := Lib.hid (below_then HB.out hb)
  have G := Lib.hid (hown.below (Below.refl _ _))
  clear hown
  clear hb
  clear q0 q1 q2 q3 q4 q5
  clear HT
  go_wp2_with fail
  refine (eqByteS_any GA OA R R Gc Oc _ hR9 (by exact own_bs9 G.out) (by exact own_bs9 O.out)).mono ?_
  rintro e v ⟨rfl, nn, rfl⟩
  rw [decide_eq_true (rfl : R = R)]
  have hb := below_drewN (Below.refl g1.heap.size g1) nn
  have z7 := hb.size
  have AX := Lib.hid (AX.out.below hb)
  have O := Lib.hid (O.out.below hb)
  have xO := Lib.hid (xO.out.below hb)
  have XB := Lib.hid (XB.out.below hb)
  have G := Lib.hid (G.out.below hb)
  have HB := Lib.hid (below_then HB.out hb)
  clear hb
  generalize g1.drewN nn = v0 at *
  have HR := Lib.hid (hR0.below HB.out)
  have p0 := AX.out.cell 0
  have p1 := AX.out.cell 1
  have p2 := AX.out.cell 2
  have p3 := AX.out.cell 3
  have p4 := AX.out.cell 4
  have p5 := AX.out.cell 5
  have q0 := XB.out.cell 0
  have q1 := XB.out.cell 1
  have q2 := XB.out.cell 2
  have q3 := XB.out.cell 3
  have q4 := XB.out.cell 4
  have q5 := XB.out.cell 5
  have zA := AX.out.lt
  have zX := XB.out.lt
  have xO1 := xO
  go_wp2_with fail
  refine wp_region_held_drew (S := (fun V => V.cell? ⟨w.heap.size, 0, none⟩ = some (.slice b0.s d0.start.length b0.cs) ∧ V.cell? ⟨w.heap.size, 1, none⟩ = some (.slice b0.t d0.text.length b0.ct) ∧ V.cell? ⟨w.heap.size, 2, none⟩ = some (.slice b0.l d0.log.length b0.cl) ∧ V.cell? ⟨w.heap.size, 3, none⟩ = some (.int .i64 d0.clock) ∧ V.cell? ⟨w.heap.size, 4, none⟩ = some (.slice b0.m d0.mem.length b0.cm) ∧ V.cell? ⟨w.heap.size, 5, none⟩ = some (.slice b0.e d0.lea.length b0.ce) ∧ V.cell? ⟨x1.heap.size, 0, none⟩ = some (.slice xa.s d0.start.length xa.cs) ∧ V.cell? ⟨x1.heap.size, 1, none⟩ = some (.slice xa.t d0.text.length xa.ct) ∧ V.cell? ⟨x1.heap.size, 2, none⟩ = some (.slice xa.l d0.log.length xa.cl) ∧ V.cell? ⟨x1.heap.size, 3, none⟩ = some (.int .i64 d0.clock) ∧ V.cell? ⟨x1.heap.size, 4, none⟩ = some (.slice xa.m d0.mem.length xa.cm) ∧ V.cell? ⟨x1.heap.size, 5, none⟩ = some (.slice xa.e d0.lea.length xa.ce))) (by kernel_rfl) (by exact ⟨p0, p1, p2, p3, p4, p5, q0, q1, q2, q3, q4, q5⟩) (fun hHeld => ?_)
  refine wpAnyH_take (i := 0) (oi := ?_) (v := ?_) ?_ ?_ ?_ ?_ ?_ ?_ (by exact hHeld) ?_
  rotate_left 2
  · (simp only [List.getElem?_toArray, List.getElem?_cons_zero]; try rfl)
  · kernel_rfl
  · kernel_rfl
  · kernel_rfl
  · exact fun _ _ _ h => h
  · refine Or.inl ⟨by rfl, ?_⟩
    (intro V hSV; (try dsimp only at hSV); obtain ⟨q0, q1, q2, q3, q4, q5, q6, q7, q8, q9, q10, q11⟩ := hSV; go_simp; try with_reducible rfl)
  (try simp only [Act.put, List.setIfInBounds_toArray, List.set_cons_zero, List.set_cons_succ])
  refine wpAnyH_take (i := 1) (oi := ?_) (v := ?_) ?_ ?_ ?_ ?_ ?_ ?_ (by exact hHeld) ?_
  rotate_left 2
  · (simp only [List.getElem?_toArray, List.getElem?_cons_zero, List.getElem?_cons_succ]; try rfl)
  · kernel_rfl
  · kernel_rfl
  · kernel_rfl
  · exact fun _ _ _ h => h
  · refine Or.inl ⟨by rfl, ?_⟩
    (intro V hSV; (try dsimp only at hSV); obtain ⟨q0, q1, q2, q3, q4, q5, q6, q7, q8, q9, q10, q11⟩ := hSV; go_simp; try with_reducible rfl)
  (try simp only [Act.put, List.setIfInBounds_toArray, List.set_cons_zero, List.set_cons_succ])
  refine wpAnyH_ready (rs := [2]) (by kernel_rfl) (by simp) ?_
  refine AllReadyH.cons rfl (fun K hK => ?_) AllReadyH.nil
  go_simp
  refine (toDoc_any b0 d0 _ hsz (by first | exact HR.out | exact HR.out.below (bsk4 _))).mono ?_
  rintro e y1 ⟨ya, yfs, yft, yfl, yfm, yfe, rfl, ho, hby1⟩
  have hby1 : Below v0.heap.size v0 y1 := ⟨hby1.os, hby1.tape, hby1.output, hby1.size, hby1.block⟩
  have hbR := hby1
  have yO := Lib.hid ho.rd
  have xO2 := Lib.hid (xO1.out.below hby1)
  clear ho
  go_wp2_with fail
  refine hK.out _ _ (by exact ⟨((hbR).cell (p := ⟨w.heap.size, 0, none⟩) zA).trans p0, ((hbR).cell (p := ⟨w.heap.size, 1, none⟩) zA).trans p1, ((hbR).cell (p := ⟨w.heap.size, 2, none⟩) zA).trans p2, ((hbR).cell (p := ⟨w.heap.size, 3, none⟩) zA).trans p3, ((hbR).cell (p := ⟨w.heap.size, 4, none⟩) zA).trans p4, ((hbR).cell (p := ⟨w.heap.size, 5, none⟩) zA).trans p5, ((hbR).cell (p := ⟨x1.heap.size, 0, none⟩) zX).trans q0, ((hbR).cell (p := ⟨x1.heap.size, 1, none⟩) zX).trans q1, ((hbR).cell (p := ⟨x1.heap.size, 2, none⟩) zX).trans q2, ((hbR).cell (p := ⟨x1.heap.size, 3, none⟩) zX).trans q3, ((hbR).cell (p := ⟨x1.heap.size, 4, none⟩) zX).trans q4, ((hbR).cell (p := ⟨x1.heap.size, 5, none⟩) zX).trans q5⟩) (fun hHeld => ?_)
  clear hK K
  (try simp only [Act.put, List.setIfInBounds_toArray, List.set_cons_zero, List.set_cons_succ])
  refine wpAnyH_ready (rs := [3]) (by kernel_rfl) (by simp) ?_
  refine AllReadyH.cons rfl (fun K hK => ?_) AllReadyH.nil
  go_simp
  refine (eqDoc_any xa ya d0 d0 _ (by first | exact xO2.out.rd | exact xO2.out.rd.below (bsk4 _)) (by first | exact yO.out | exact yO.out.below (bsk4 _))).mono ?_
  rintro e y2 ⟨rfl, hby2⟩
  rw [decide_eq_true (rfl : d0 = d0)]
  have hby2 : Below y1.heap.size y1 y2 := ⟨hby2.os, hby2.tape, hby2.output, hby2.size, hby2.block⟩
  have hbR := below_then hbR hby2
  go_wp2_with fail
  refine hK.out _ _ (by exact ⟨((hbR).cell (p := ⟨w.heap.size, 0, none⟩) zA).trans p0, ((hbR).cell (p := ⟨w.heap.size, 1, none⟩) zA).trans p1, ((hbR).cell (p := ⟨w.heap.size, 2, none⟩) zA).trans p2, ((hbR).cell (p := ⟨w.heap.size, 3, none⟩) zA).trans p3, ((hbR).cell (p := ⟨w.heap.size, 4, none⟩) zA).trans p4, ((hbR).cell (p := ⟨w.heap.size, 5, none⟩) zA).trans p5, ((hbR).cell (p := ⟨x1.heap.size, 0, none⟩) zX).trans q0, ((hbR).cell (p := ⟨x1.heap.size, 1, none⟩) zX).trans q1, ((hbR).cell (p := ⟨x1.heap.size, 2, none⟩) zX).trans q2, ((hbR).cell (p := ⟨x1.heap.size, 3, none⟩) zX).trans q3, ((hbR).cell (p := ⟨x1.heap.size, 4, none⟩) zX).trans q4, ((hbR).cell (p := ⟨x1.heap.size, 5, none⟩) zX).trans q5⟩) (fun hHeld => ?_)
  clear hK K
  (try simp only [Act.put, List.setIfInBounds_toArray, List.set_cons_zero, List.set_cons_succ])
  refine wpAnyH_take (i := 4) (oi := ?_) (v := ?_) ?_ ?_ ?_ ?_ ?_ ?_ (by exact hHeld) ?_
  rotate_left 2
  · (simp only [List.getElem?_toArray, List.getElem?_cons_zero, List.getElem?_cons_succ]; try rfl)
  · kernel_rfl
  · kernel_rfl
  · kernel_rfl
  · exact fun _ _ _ h => h
  · refine Or.inl ⟨by rfl, ?_⟩
    (intro V hSV; (try dsimp only at hSV); obtain ⟨q0, q1, q2, q3, q4, q5, q6, q7, q8, q9, q10, q11⟩ := hSV; go_simp; try with_reducible rfl)
  (try simp only [Act.put, List.setIfInBounds_toArray, List.set_cons_zero, List.set_cons_succ])
  refine wpAnyH_done (by kernel_rfl) ?_ _
  clear hHeld yO xO1 xO2 HR zA zX hby1 hby2
  clear p0 p1 p2 p3 p4 p5
  clear q0 q1 q2 q3 q4 q5
  have z8 := hbR.size
  have AX := Lib.hid (AX.out.below hbR)
  have O := Lib.hid (O.out.below hbR)
  have xO := Lib.hid (xO.out.below hbR)
  have XB := Lib.hid (XB.out.below hbR)
  have G := Lib.hid (G.out.below hbR)
  have HB := Lib.hid (below_then HB.out hbR)
  clear hbR
  have hwd : wD 1 d0 ≤ 4400000 := by have := wD_le 1 d0; omega
  have q0 := XB.out.cell 0
  have q1 := XB.out.cell 1
  have q2 := XB.out.cell 2
  have q3 := XB.out.cell 3
  have q4 := XB.out.cell 4
  have q5 := XB.out.cell 5
  go_wp2_with fail
  refine (markDoc_any xa d0 _ _ _ _ _ _ 1 _ hwd (by exact xO.out)).mono ?_
  rintro e k1 ⟨rfl, _, hke⟩
  clear q0 q1 q2 q3 q4 q5
  have AX := Lib.hid (AX.out.of_block (hke.block _ AX.out.lt (fun h => by have h1 := Rx.out _ h; omega)))
  have O := Lib.hid (O.out.keeps hke (fun b hb h => by have h1 := Rx.out b h; have h2 := RO.out b hb; omega))
  have G := Lib.hid (G.out.keeps hke (fun b hb h => by have h1 := Rx.out b h; have h2 := RG.out b hb; omega))
  have HB := Lib.hid (HB.out.trans (hke.below (B := w.heap.size) HB.out.size (fun k hk => by have h1 := Rx.out k hk; omega)))
  have z9 := hke.size
  clear hke xO XB
  obtain ⟨K, hK, hK0⟩ : ∃ K : Int, ((nD5 1 d0 : Nat) : Int) = K ∧ ¬ K < 0 := ⟨_, rfl, by omega⟩
  have hKd : decide (K < 0) = false := decide_eq_false hK0
  rw [hK]
  clear hK hK0
  go_wp2_with fail
  refine (eqByteS_any GA OA R R Gc Oc _ hR9 (by exact own_bs9 G.out) (by exact own_bs9 O.out)).mono ?_
  rintro e v ⟨rfl, nn, rfl⟩
  rw [decide_eq_true (rfl : R = R)]
  have hb := below_drewN (Below.refl k1.heap.size k1) nn
  have z10 := hb.size
  have AX := Lib.hid (AX.out.below hb)
  have O := Lib.hid (O.out.below hb)
  have G := Lib.hid (G.out.below hb)
  have HB := Lib.hid (below_then HB.out hb)
  clear hb
  generalize k1.drewN nn = v2 at *
  clear hKd
  obtain ⟨K2, hK2, hK20⟩ : ∃ K : Int, ((1 + R.length : Nat) : Int) = K ∧ ¬ K < 0 := ⟨_, rfl, by omega⟩
  have hKd2 : decide (K2 < 0) = false := decide_eq_false hK20
  have hKn2 : (K2 != K2) = false := by simp
  have HK2 := Lib.hid hK2
  clear hK2 hK20
  go_wp2_with fail
  refine (markByteS_any _ R _ 1 _ (by omega) (by omega) (by exact G.out)).mono ?_
  rintro e k2 ⟨rfl, how, hgr⟩
  have hke := Keeps.of_grown hgr
  rw [HK2.out]
  have AX := Lib.hid (AX.out.of_block (hke.block _ AX.out.lt (fun h => by have h1 := RG.out _ h; omega)))
  have O := Lib.hid (O.out.keeps hke (fun b hb h => by have h1 := RG.out b h; have h2 := RO.out b hb; omega))
  have HB := Lib.hid (HB.out.trans (hke.below (B := w.heap.size) HB.out.size (fun k hk => by have h1 := RG.out k hk; omega)))
  have z11 := hke.size
  have G := Lib.hid how
  clear hke hgr how
  go_wp2_with fail
  refine (heldByteS_any GA R.length Gc 1 _ (by omega) (by omega) (by exact own_bs9 G.out)).mono ?_
  rintro e k3 ⟨rfl, rfl⟩
  rw [HK2.out]
  have HR := Lib.hid (hR0.below HB.out)
  have p0 := AX.out.cell 0
  have p1 := AX.out.cell 1
  have p2 := AX.out.cell 2
  have p3 := AX.out.cell 3
  have p4 := AX.out.cell 4
  have p5 := AX.out.cell 5
  go_wp2_with fail
  refine (toDoc_any b0 d0 _ hsz HR.out).mono ?_
  rintro e y1 ⟨ya, yfs, yft, yfl, yfm, yfe, rfl, ho, hb⟩
  have z12 := hb.size
  have AX := Lib.hid (AX.out.below hb)
  have O := Lib.hid (O.out.below hb)
  have G := Lib.hid (G.out.below hb)
  have HB := Lib.hid (below_then HB.out hb)
  have yO := Lib.hid (ho.below (Below.refl _ _))
  have Ry := Lib.hid ho.range
  clear ho HR
  clear hb
  clear p0 p1 p2 p3 p4 p5
  have HT := Lib.hid (hT.below HB.out)
  go_wp2_with fail
  refine (implDocAt_any ya d0 a1 _ yO.out.plain (by exact HT.out) yO.out.rd).mono ?_
  rintro e h1 hgv
  unfold GivesAt at hgv
  rw [HRE.out, HZE.out] at hgv
  obtain ⟨v, rfl, hown, hb⟩ := hgv
  obtain ⟨HA, Hc, rfl, Hh, Hk, _, _, _⟩ := own_plain9 hown
  have RH := Lib.hid hown.range
  have z13 := hb.size
  have AX := Lib.hid (AX.out.below hb)
  have O := Lib.hid (O.out.below hb)
  have G := Lib.hid (G.out.below hb)
  have yO := Lib.hid (yO.out.below hb)
  have HB := Lib.hid (below_then HB.out hb)
  have H := Lib.hid (hown.below (Below.refl _ _))
  clear hown
  clear hb
  clear HT
  go_wp2_with fail
  refine (eqByteS_any HA OA R R Hc Oc _ hR9 (by exact own_bs9 H.out) (by exact own_bs9 O.out)).mono ?_
  rintro e v ⟨rfl, nn, rfl⟩
  rw [decide_eq_true (rfl : R = R)]
  have hb := below_drewN (Below.refl h1.heap.size h1) nn
  have z14 := hb.size
  have AX := Lib.hid (AX.out.below hb)
  have O := Lib.hid (O.out.below hb)
  have G := Lib.hid (G.out.below hb)
  have yO := Lib.hid (yO.out.below hb)
  have H := Lib.hid (H.out.below hb)
  have HB := Lib.hid (below_then HB.out hb)
  clear hb
  generalize h1.drewN nn = v3 at *
  go_wp2_with fail
  refine (heldByteS_any GA R.length Gc 1 _ (by omega) (by omega) (by exact own_bs9 G.out)).mono ?_
  rintro e k4 ⟨rfl, rfl⟩
  rw [HK2.out]
  go_wp2
  go_ret
  exact ⟨rfl, HB.out⟩

end Go.Proofs.YtkplfbhblbinaabGreatDoor.fnExactDocAt
