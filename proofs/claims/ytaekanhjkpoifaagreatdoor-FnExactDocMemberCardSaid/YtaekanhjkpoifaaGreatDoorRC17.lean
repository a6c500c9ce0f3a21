/-
 The laws' marks on lists of commits and of edits, told as owning: contracts. Own work.
-/
import Derived.Test.YtaekanhjkpoifaaGreatDoorRC16
import Derived.Test.YtaekanhjkpoifaaGreatDoorRp0
namespace Go.Proofs.YtaekanhjkpoifaaGreatDoor
open Go.RowKit P
set_option linter.unusedVariables false
set_option linter.unusedSimpArgs false
set_option maxRecDepth 100000

/-- A list behind markCommitS. -/
def mkC (k : Nat) (c : Cm) : Cm := ((k : Int), (k : Int) + 1, (k : Int) + 2, marks (k + 3) c.2.2.2.length)
def nC (k : Nat) (es : List Cm) : Nat := k + 3 * es.length + tot (cputs es)
def markedC (k : Nat) : List Cm → List Cm
 | [] => []
 | c :: t => mkC k c :: markedC (k + 3 + c.2.2.2.length) t
theorem markedC_length (es : List Cm) : ∀ k, (markedC k es).length = es.length := by
 induction es with
 | nil => intro k; rfl
 | cons c t ih => intro k; simp [markedC, ih]
theorem nC_take (k : Nat) (es : List Cm) (j : Nat) (h : j < es.length) : nC k (es.take (j + 1)) = nC k (es.take j) + 3 + es[j].2.2.2.length := by
 have h1 : cputs (es.take (j + 1)) = cputs (es.take j) ++ [es[j].2.2.2] := by
  unfold cputs
  rw [List.take_succ_eq_append_getElem h, List.map_append]
  rfl
 have h2 : (es.take (j + 1)).length = j + 1 := by rw [List.length_take]; omega
 have h3 : (es.take j).length = j := by rw [List.length_take]; omega
 unfold nC tot
 rw [h1, h2, h3, List.flatten_append, List.length_append]
 simp only [List.flatten_cons, List.flatten_nil, List.append_nil]
 omega
theorem nC_le (k : Nat) (es : List Cm) (j : Nat) : nC k (es.take j) ≤ nC k es := by
 unfold nC
 have h2 : (cputs es).flatten = (cputs (es.take j)).flatten ++ (cputs (es.drop j)).flatten := by
  unfold cputs
  rw [← List.flatten_append, ← List.map_append, List.take_append_drop]
 have h3 : (es.take j).length ≤ es.length := by rw [List.length_take]; omega
 unfold tot
 rw [h2, List.length_append]
 omega
theorem markedC_snoc (es : List Cm) : ∀ (k j : Nat) (h : j < es.length), markedC k (es.take (j + 1)) = markedC k (es.take j) ++ [mkC (nC k (es.take j)) es[j]] := by
 induction es with
 | nil => intro k j h; simp at h
 | cons c t ih =>
  intro k j h
  cases j with
  | zero => simp [markedC, nC, tot, cputs]
  | succ j =>
   have h9 := ih (k + 3 + c.2.2.2.length) j (by simpa using h)
   have hn : nC (k + 3 + c.2.2.2.length) (t.take j) = nC k ((c :: t).take (j + 1)) := by
    unfold nC tot cputs
    simp
    omega
   rw [List.take_succ_cons, List.take_succ_cons]
   simp only [markedC, List.getElem_cons_succ, List.cons_append, h9]
   rw [hn]
   rfl
theorem markedC_step (k : Nat) (es : List Cm) (j : Nat) (h : j < es.length) : (markedC k (es.take j) ++ es.drop j).set j (mkC (nC k (es.take j)) es[j]) = markedC k (es.take (j + 1)) ++ es.drop (j + 1) := by
 have hl : (markedC k (es.take j)).length = j := by rw [markedC_length, List.length_take]; omega
 rw [List.drop_eq_getElem_cons h, List.set_append_right _ _ (by omega), hl, Nat.sub_self, List.set_cons_zero, markedC_snoc es k j h, List.append_assoc, List.singleton_append]

set_option maxHeartbeats 4000000 in
theorem markCommitS_any (A : Option Addr) (c : Nat) (es : List Cm) (fp : List Nat) (k : Nat) (w : World) (hk : k + 3 * es.length + tot (cputs es) ≤ 8000000) (hn : fp.Nodup) (h : Lay.commits.ow w [.slice A es.length c] es fp) :
  Calls Tryz.prog 44 #[.slice A es.length c, .int .i64 (k : Int)] w fun e w' => e = .returned (.int .i64 (nC k es : Int)) ∧ Lay.commits.ow w' [.slice A es.length c] (markedC k es) fp ∧ Keeps fp w w' := by
 go_enter Tryz.func44, Tryz.ntmps44
 go_wp2
 go_loopw [1, 5] (fun kk i wr => ∃ j : Nat, j ≤ es.length ∧ i = .int .i64 j ∧ kk = .int .i64 (nC k (es.take j) : Int) ∧ Lay.commits.ow wr [.slice A es.length c] (markedC k (es.take j) ++ es.drop j) fp ∧ Keeps fp w wr) (fun _ i _ => es.length - (intOf i).toNat)
 case atStart => exact ⟨0, Nat.zero_le _, rfl, by simp [nC, tot, cputs], by simpa [markedC] using h, Keeps.refl _ _⟩
 case round =>
  obtain ⟨j, hj, rfl, rfl, how, hke⟩ := hrel
  by_cases hlt : j < es.length
  ·have hlE : (markedC k (es.take j) ++ es.drop j).length = es.length := by rw [List.length_append, markedC_length, List.length_take, List.length_drop]; omega
   have hll : j < (markedC k (es.take j) ++ es.drop j).length := by rw [hlE]; exact hlt
   obtain ⟨g, c', cur, us, fi, hv, hus, hblk, hcz, hcell, hoe, hni, hgf, hfi, hput⟩ := Lay.put (E := Lay.commit) how hn (by decide) j hll
   have hmid : (markedC k (es.take j) ++ es.drop j)[j] = es[j] := by
    rw [List.getElem_append_right (by rw [markedC_length, List.length_take]; omega)]
    simp [markedC_length, List.length_take, show min j es.length = j by omega]
   rw [hmid] at hoe
   rw [hlE] at hv hcz
   simp only [Value.slice.injEq, true_and] at hv
   obtain ⟨rfl, rfl⟩ := hv
   obtain ⟨v, hcs, i0, i1, i2, hown, hfp⟩ := commit_ow_inv hoe
   have hstep := markedC_step k es j hlt
   have hntk := nC_take k es j hlt
   have hnle := nC_le k es (j + 1)
   have hnb : nC k es ≤ 8000000 := hk
   obtain ⟨m, hm⟩ : ∃ m, nC k (es.take j) = m := ⟨_, rfl⟩
   rw [hm] at hstep hntk ⊢
   obtain ⟨p, hp⟩ : ∃ p, es[j].2.2.2 = p := ⟨_, rfl⟩
   have hmk : mkC m es[j] = ((m : Int), (m : Int) + 1, (m : Int) + 2, marks (m + 3) p.length) := by unfold mkC; rw [hp]
   rw [hmk] at hstep
   rw [hp] at hown hntk
   have c0 := hcell 0 (by rw [hcs]; simp)
   have c1 := hcell 1 (by rw [hcs]; simp)
   have c2 := hcell 2 (by rw [hcs]; simp)
   have c3 := hcell 3 (by rw [hcs]; simp)
   simp only [hcs, List.getElem_cons_zero, List.getElem_cons_succ] at c0 c1 c2 c3
   have hsz4 : Lay.commit.sz = 4 := rfl
   rw [hsz4] at c0 c1 c2 c3 hput hcz
   have hb4 : j * 4 + 4 ≤ cur.size := by omega
   have u0 : wr.cell? ⟨g, j * 4, none⟩ = some (.int .i64 es[j].1) := (hblk.cell _).trans (by simpa using c0)
   have u1 : wr.cell? ⟨g, j * 4 + 1, none⟩ = some (.int .i64 es[j].2.1) := (hblk.cell _).trans c1
   have u2 : wr.cell? ⟨g, j * 4 + 2, none⟩ = some (.int .i64 es[j].2.2.1) := (hblk.cell _).trans c2
   have u3 : wr.cell? ⟨g, j * 4 + 3, none⟩ = some v := (hblk.cell _).trans c3
   have f0 := hblk.frozen (j * 4)
   have f1 := hblk.frozen (j * 4 + 1)
   have f2 := hblk.frozen (j * 4 + 2)
   have hb2 := (((hblk.set (j * 4) (.int .i64 (m : Int))).set (j * 4 + 1) (.int .i64 ((m : Int) + 1))).set (j * 4 + 2) (.int .i64 ((m : Int) + 2)))
   have hk2 := ((((Keeps.refl (g :: fi) wr).set (List.mem_cons_self ..) (j * 4) (.int .i64 (m : Int))).set (List.mem_cons_self ..) (j * 4 + 1) (.int .i64 ((m : Int) + 1))).set (List.mem_cons_self ..) (j * 4 + 2) (.int .i64 ((m : Int) + 2)))
   have ho2 : Own (((wr.setCell ⟨g, j * 4, none⟩ (.int .i64 (m : Int))).setCell ⟨g, j * 4 + 1, none⟩ (.int .i64 ((m : Int) + 1))).setCell ⟨g, j * 4 + 2, none⟩ (.int .i64 ((m : Int) + 2))) 0 v p := hown.heap (fun q hq => by
    have hne : q ≠ g := (hfi q (by rw [hfp]; exact hq)).2
    rw [Below.heap_setCell _ _ _ _ (by simpa using hne), Below.heap_setCell _ _ _ _ (by simpa using hne), Below.heap_setCell _ _ _ _ (by simpa using hne)])
   have hgl : g < (((wr.setCell ⟨g, j * 4, none⟩ (.int .i64 (m : Int))).setCell ⟨g, j * 4 + 1, none⟩ (.int .i64 ((m : Int) + 1))).setCell ⟨g, j * 4 + 2, none⟩ (.int .i64 ((m : Int) + 2))).heap.size := hb2.lt
   have hmb : m ≤ 8000000 := by omega
   have hpb : p.length ≤ 8000000 := by omega
   have hji : (j : Int) < (es.length : Int) := by omega
   have hw0 : IntKind.i64.wrap ((m : Int) + 1) = (m : Int) + 1 := by rw [IntWalk.i64_in _ ⟨by omega, by omega⟩]; try omega
   have hw1 : IntKind.i64.wrap ((m : Int) + 1 + 1) = (m : Int) + 2 := by rw [IntWalk.i64_in _ ⟨by omega, by omega⟩]; try omega
   have hw2 : IntKind.i64.wrap ((m : Int) + 2 + 1) = ((m + 3 : Nat) : Int) := by rw [IntWalk.i64_in _ ⟨by omega, by omega⟩]; try omega
   have hcv : (((cur.setIfInBounds (j * 4) (.int .i64 (m : Int))).setIfInBounds (j * 4 + 1) (.int .i64 ((m : Int) + 1))).setIfInBounds (j * 4 + 2) (.int .i64 ((m : Int) + 2)))[j * 4 + 3]? = some v := by
    rw [Array.getElem?_setIfInBounds, if_neg (by omega), Array.getElem?_setIfInBounds, if_neg (by omega), Array.getElem?_setIfInBounds, if_neg (by omega)]; exact c3
   have HC3 := Lib.hid hcv
   have HO2 := Lib.hid ho2
   have HB2 := Lib.hid hb2
   have HK2 := Lib.hid hk2
   have HPUT := Lib.hid hput
   have HST := Lib.hid hstep
   have HNT := Lib.hid hntk
   have HKE := Lib.hid hke
   have HFI := Lib.hid hfi
   have HFP := Lib.hid hfp
   clear c0 c1 c2 c3 ho2 hb2 hk2 hput hstep hntk hke hcell hoe hown how hmid hmk hp hcs hfi hfp hblk hm hcv i0 i1 i2
   generalize es[j].1 = y0 at *
   generalize es[j].2.1 = y1 at *
   generalize es[j].2.2.1 = y2 at *
   go_wp2_with fail
   refine (markByteS_big v p 0 (m + 3) _ (by omega) (by omega) (by exact HO2.out)).mono ?_
   rintro e w1 ⟨rfl, how1, hgr⟩
   have hkb := Keeps.of_grown hgr
   have hgv : g ∉ v.ownBlock.toList := fun hq => (HFI.out g (by rw [HFP.out]; exact hq)).2 rfl
   have hb1 := HB2.out.of_block (hkb.block g hgl hgv)
   have hk1 := HK2.out.trans (hkb.mono (fun x hx => List.mem_cons_of_mem _ (by rw [HFP.out]; exact hx)))
   have hmem : ∀ x ∈ g :: fi, x ∈ fp := fun x hx => by
    rcases List.mem_cons.1 hx with e | hx
    ·rw [e]; exact hgf
    ·exact (HFI.out x hx).1
   have hnew := HPUT.out w1 ((m : Int), (m : Int) + 1, (m : Int) + 2, marks (m + 3) p.length) [.int .i64 (m : Int), .int .i64 ((m : Int) + 1), .int .i64 ((m : Int) + 2), v] _ rfl hk1 hb1 (by simp) (by
     intro q hq
     have hq4 : q < 4 := hq
     match q, hq4 with
     | 0, _ => simp [Array.getElem?_setIfInBounds]; omega
     | 1, _ => simp [Array.getElem?_setIfInBounds]; omega
     | 2, _ => simp [Array.getElem?_setIfInBounds]; omega
     | 3, _ => exact HC3.out) (by
     intro q hq
     rw [Array.getElem?_setIfInBounds, if_neg (by omega), Array.getElem?_setIfInBounds, if_neg (by omega), Array.getElem?_setIfInBounds, if_neg (by omega)]) (by
     rw [HFP.out]
     exact own_commit (p := marks (m + 3) p.length) (base := 0) ⟨by omega, by omega⟩ ⟨by omega, by omega⟩ ⟨by omega, by omega⟩ how1)
   rw [HST.out] at hnew
   have HN := Lib.hid hnew
   have HK9 := Lib.hid (HKE.out.trans (hk1.mono hmem))
   have hnx : m + 3 + p.length = nC k (es.take (j + 1)) := HNT.out.symm
   rw [hnx]
   clear u0 u1 u2 u3 f0 f1 f2 hb1 hk1 hnew hkb how1 hgr hnx hmem
   go_wp2
   go_roundw
   case rel => exact ⟨j + 1, by omega, by go_num, by first | rfl | go_num, HN.out, HK9.out⟩
   case measure => simp [intOf]; omega
  ·have e : j = es.length := by omega
   subst e
   rw [List.take_length, List.drop_length, List.append_nil] at how
   rw [List.take_length]
   go_wp2
   go_ret
   exact ⟨rfl, how, hke⟩

/-- A list behind markEditS. -/
def mkEd (k : Nat) (c : Ed) : Ed := ((k : Int), (k : Int) + 1, marks (k + 2) c.2.2.length)
def nEd (k : Nat) (es : List Ed) : Nat := k + 2 * es.length + tot (puts es)
def markedEd (k : Nat) : List Ed → List Ed
 | [] => []
 | c :: t => mkEd k c :: markedEd (k + 2 + c.2.2.length) t
theorem markedEd_length (es : List Ed) : ∀ k, (markedEd k es).length = es.length := by
 induction es with
 | nil => intro k; rfl
 | cons c t ih => intro k; simp [markedEd, ih]
theorem nEd_take (k : Nat) (es : List Ed) (j : Nat) (h : j < es.length) : nEd k (es.take (j + 1)) = nEd k (es.take j) + 2 + es[j].2.2.length := by
 have h1 : puts (es.take (j + 1)) = puts (es.take j) ++ [es[j].2.2] := by
  unfold puts
  rw [List.take_succ_eq_append_getElem h, List.map_append]
  rfl
 have h2 : (es.take (j + 1)).length = j + 1 := by rw [List.length_take]; omega
 have h3 : (es.take j).length = j := by rw [List.length_take]; omega
 unfold nEd tot
 rw [h1, h2, h3, List.flatten_append, List.length_append]
 simp only [List.flatten_cons, List.flatten_nil, List.append_nil]
 omega
theorem nEd_le (k : Nat) (es : List Ed) (j : Nat) : nEd k (es.take j) ≤ nEd k es := by
 unfold nEd
 have h2 : (puts es).flatten = (puts (es.take j)).flatten ++ (puts (es.drop j)).flatten := by
  unfold puts
  rw [← List.flatten_append, ← List.map_append, List.take_append_drop]
 have h3 : (es.take j).length ≤ es.length := by rw [List.length_take]; omega
 unfold tot
 rw [h2, List.length_append]
 omega
theorem markedEd_snoc (es : List Ed) : ∀ (k j : Nat) (h : j < es.length), markedEd k (es.take (j + 1)) = markedEd k (es.take j) ++ [mkEd (nEd k (es.take j)) es[j]] := by
 induction es with
 | nil => intro k j h; simp at h
 | cons c t ih =>
  intro k j h
  cases j with
  | zero => simp [markedEd, nEd, tot, puts]
  | succ j =>
   have h9 := ih (k + 2 + c.2.2.length) j (by simpa using h)
   have hn : nEd (k + 2 + c.2.2.length) (t.take j) = nEd k ((c :: t).take (j + 1)) := by
    unfold nEd tot puts
    simp
    omega
   rw [List.take_succ_cons, List.take_succ_cons]
   simp only [markedEd, List.getElem_cons_succ, List.cons_append, h9]
   rw [hn]
   rfl
theorem markedEd_step (k : Nat) (es : List Ed) (j : Nat) (h : j < es.length) : (markedEd k (es.take j) ++ es.drop j).set j (mkEd (nEd k (es.take j)) es[j]) = markedEd k (es.take (j + 1)) ++ es.drop (j + 1) := by
 have hl : (markedEd k (es.take j)).length = j := by rw [markedEd_length, List.length_take]; omega
 rw [List.drop_eq_getElem_cons h, List.set_append_right _ _ (by omega), hl, Nat.sub_self, List.set_cons_zero, markedEd_snoc es k j h, List.append_assoc, List.singleton_append]

set_option maxHeartbeats 4000000 in
theorem markEditS_ow (A : Option Addr) (c : Nat) (es : List Ed) (fp : List Nat) (k : Nat) (w : World) (hk : k + 2 * es.length + tot (puts es) ≤ 8000000) (hn : fp.Nodup) (h : Lay.edits.ow w [.slice A es.length c] es fp) :
  Calls Tryz.prog 13 #[.slice A es.length c, .int .i64 (k : Int)] w fun e w' => e = .returned (.int .i64 (nEd k es : Int)) ∧ Lay.edits.ow w' [.slice A es.length c] (markedEd k es) fp ∧ Keeps fp w w' := by
 go_enter Tryz.func13, Tryz.ntmps13
 go_wp2
 go_loopw [1, 5] (fun kk i wr => ∃ j : Nat, j ≤ es.length ∧ i = .int .i64 j ∧ kk = .int .i64 (nEd k (es.take j) : Int) ∧ Lay.edits.ow wr [.slice A es.length c] (markedEd k (es.take j) ++ es.drop j) fp ∧ Keeps fp w wr) (fun _ i _ => es.length - (intOf i).toNat)
 case atStart => exact ⟨0, Nat.zero_le _, rfl, by simp [nEd, tot, puts], by simpa [markedEd] using h, Keeps.refl _ _⟩
 case round =>
  obtain ⟨j, hj, rfl, rfl, how, hke⟩ := hrel
  by_cases hlt : j < es.length
  ·have hlE : (markedEd k (es.take j) ++ es.drop j).length = es.length := by rw [List.length_append, markedEd_length, List.length_take, List.length_drop]; omega
   have hll : j < (markedEd k (es.take j) ++ es.drop j).length := by rw [hlE]; exact hlt
   obtain ⟨g, c', cur, us, fi, hv, hus, hblk, hcz, hcell, hoe, hni, hgf, hfi, hput⟩ := Lay.put (E := Lay.edit) how hn (by decide) j hll
   have hmid : (markedEd k (es.take j) ++ es.drop j)[j] = es[j] := by
    rw [List.getElem_append_right (by rw [markedEd_length, List.length_take]; omega)]
    simp [markedEd_length, List.length_take, show min j es.length = j by omega]
   rw [hmid] at hoe
   rw [hlE] at hv hcz
   simp only [Value.slice.injEq, true_and] at hv
   obtain ⟨rfl, rfl⟩ := hv
   obtain ⟨v, hcs, hown, hfp⟩ := edit_ow_inv hoe
   have hstep := markedEd_step k es j hlt
   have hntk := nEd_take k es j hlt
   have hnle := nEd_le k es (j + 1)
   have hnb : nEd k es ≤ 8000000 := hk
   obtain ⟨m, hm⟩ : ∃ m, nEd k (es.take j) = m := ⟨_, rfl⟩
   rw [hm] at hstep hntk ⊢
   obtain ⟨p, hp⟩ : ∃ p, es[j].2.2 = p := ⟨_, rfl⟩
   have hmk : mkEd m es[j] = ((m : Int), (m : Int) + 1, marks (m + 2) p.length) := by unfold mkEd; rw [hp]
   rw [hmk] at hstep
   rw [hp] at hown hntk
   have c0 := hcell 0 (by rw [hcs]; simp)
   have c1 := hcell 1 (by rw [hcs]; simp)
   have c2 := hcell 2 (by rw [hcs]; simp)
   simp only [hcs, List.getElem_cons_zero, List.getElem_cons_succ] at c0 c1 c2
   have hsz4 : Lay.edit.sz = 3 := rfl
   rw [hsz4] at c0 c1 c2 hput hcz
   have hb4 : j * 3 + 3 ≤ cur.size := by omega
   have u0 : wr.cell? ⟨g, j * 3, none⟩ = some (.int .i64 es[j].1) := (hblk.cell _).trans (by simpa using c0)
   have u1 : wr.cell? ⟨g, j * 3 + 1, none⟩ = some (.int .i64 es[j].2.1) := (hblk.cell _).trans c1
   have u2 : wr.cell? ⟨g, j * 3 + 2, none⟩ = some v := (hblk.cell _).trans c2
   have f0 := hblk.frozen (j * 3)
   have f1 := hblk.frozen (j * 3 + 1)
   have hb2 := ((hblk.set (j * 3) (.int .i64 (m : Int))).set (j * 3 + 1) (.int .i64 ((m : Int) + 1)))
   have hk2 := (((Keeps.refl (g :: fi) wr).set (List.mem_cons_self ..) (j * 3) (.int .i64 (m : Int))).set (List.mem_cons_self ..) (j * 3 + 1) (.int .i64 ((m : Int) + 1)))
   have ho2 : Own ((wr.setCell ⟨g, j * 3, none⟩ (.int .i64 (m : Int))).setCell ⟨g, j * 3 + 1, none⟩ (.int .i64 ((m : Int) + 1))) 0 v p := hown.heap (fun q hq => by
    have hne : q ≠ g := (hfi q (by rw [hfp]; exact hq)).2
    rw [Below.heap_setCell _ _ _ _ (by simpa using hne), Below.heap_setCell _ _ _ _ (by simpa using hne)])
   have hgl : g < ((wr.setCell ⟨g, j * 3, none⟩ (.int .i64 (m : Int))).setCell ⟨g, j * 3 + 1, none⟩ (.int .i64 ((m : Int) + 1))).heap.size := hb2.lt
   have hmb : m ≤ 8000000 := by omega
   have hpb : p.length ≤ 8000000 := by omega
   have hji : (j : Int) < (es.length : Int) := by omega
   have hw0 : IntKind.i64.wrap ((m : Int) + 1) = (m : Int) + 1 := by rw [IntWalk.i64_in _ ⟨by omega, by omega⟩]; try omega
   have hw1 : IntKind.i64.wrap ((m : Int) + 1 + 1) = ((m + 2 : Nat) : Int) := by rw [IntWalk.i64_in _ ⟨by omega, by omega⟩]; try omega
   have hcv : ((cur.setIfInBounds (j * 3) (.int .i64 (m : Int))).setIfInBounds (j * 3 + 1) (.int .i64 ((m : Int) + 1)))[j * 3 + 2]? = some v := by
    rw [Array.getElem?_setIfInBounds, if_neg (by omega), Array.getElem?_setIfInBounds, if_neg (by omega)]; exact c2
   have HC3 := Lib.hid hcv
   have HO2 := Lib.hid ho2
   have HB2 := Lib.hid hb2
   have HK2 := Lib.hid hk2
   have HPUT := Lib.hid hput
   have HST := Lib.hid hstep
   have HNT := Lib.hid hntk
   have HKE := Lib.hid hke
   have HFI := Lib.hid hfi
   have HFP := Lib.hid hfp
   clear c0 c1 c2 ho2 hb2 hk2 hput hstep hntk hke hcell hoe hown how hmid hmk hp hcs hfi hfp hblk hm hcv
   generalize es[j].1 = y0 at *
   generalize es[j].2.1 = y1 at *
   go_wp2_with fail
   refine (markByteS_big v p 0 (m + 2) _ (by omega) (by omega) (by exact HO2.out)).mono ?_
   rintro e w1 ⟨rfl, how1, hgr⟩
   have hkb := Keeps.of_grown hgr
   have hgv : g ∉ v.ownBlock.toList := fun hq => (HFI.out g (by rw [HFP.out]; exact hq)).2 rfl
   have hb1 := HB2.out.of_block (hkb.block g hgl hgv)
   have hk1 := HK2.out.trans (hkb.mono (fun x hx => List.mem_cons_of_mem _ (by rw [HFP.out]; exact hx)))
   have hmem : ∀ x ∈ g :: fi, x ∈ fp := fun x hx => by
    rcases List.mem_cons.1 hx with e | hx
    ·rw [e]; exact hgf
    ·exact (HFI.out x hx).1
   have hnew := HPUT.out w1 ((m : Int), (m : Int) + 1, marks (m + 2) p.length) [.int .i64 (m : Int), .int .i64 ((m : Int) + 1), v] _ rfl hk1 hb1 (by simp) (by
     intro q hq
     have hq4 : q < 3 := hq
     match q, hq4 with
     | 0, _ => simp [Array.getElem?_setIfInBounds]; omega
     | 1, _ => simp [Array.getElem?_setIfInBounds]; omega
     | 2, _ => exact HC3.out) (by
     intro q hq
     rw [Array.getElem?_setIfInBounds, if_neg (by omega), Array.getElem?_setIfInBounds, if_neg (by omega)]) (by
     rw [HFP.out]
     exact own_edit (p := marks (m + 2) p.length) (base := 0) ⟨by omega, by omega⟩ ⟨by omega, by omega⟩ how1)
   rw [HST.out] at hnew
   have HN := Lib.hid hnew
   have HK9 := Lib.hid (HKE.out.trans (hk1.mono hmem))
   have hnx : m + 2 + p.length = nEd k (es.take (j + 1)) := HNT.out.symm
   rw [hnx]
   clear u0 u1 u2 f0 f1 hb1 hk1 hnew hkb how1 hgr hnx hmem
   go_wp2
   go_roundw
   case rel => exact ⟨j + 1, by omega, by go_num, by first | rfl | go_num, HN.out, HK9.out⟩
   case measure => simp [intOf]; omega
  ·have e : j = es.length := by omega
   subst e
   rw [List.take_length, List.drop_length, List.append_nil] at how
   rw [List.take_length]
   go_wp2
   go_ret
   exact ⟨rfl, how, hke⟩
end Go.Proofs.YtaekanhjkpoifaaGreatDoor
