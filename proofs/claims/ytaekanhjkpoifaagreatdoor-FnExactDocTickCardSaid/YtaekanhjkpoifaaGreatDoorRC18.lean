/-
 The laws' marks on members, told as owning: contracts. Own work.
-/
import Derived.Test.YtaekanhjkpoifaaGreatDoorRC17
namespace Go.Proofs.YtaekanhjkpoifaaGreatDoor
open Go.RowKit P
set_option linter.unusedVariables false
set_option linter.unusedSimpArgs false
set_option maxRecDepth 100000

/-- The number behind a member's marks. -/
def nMb (k : Nat) (m : Mb) : Nat := nEd (nEd (k + 3) m.2.2.1) m.2.2.2
def mkM (k : Nat) (m : Mb) : Mb := ((k : Int), ((k : Int) + 1, (k : Int) + 2), (markedEd (k + 3) m.2.2.1, markedEd (nEd (k + 3) m.2.2.1) m.2.2.2))
def markedM (k : Nat) : List Mb → List Mb
 | [] => []
 | m :: t => mkM k m :: markedM (nMb k m) t
def nM (k : Nat) : List Mb → Nat
 | [] => k
 | m :: t => nM (nMb k m) t
theorem markedM_length (es : List Mb) : ∀ k, (markedM k es).length = es.length := by
 induction es with
 | nil => intro k; rfl
 | cons c t ih => intro k; simp [markedM, ih]
theorem nM_snoc (es : List Mb) : ∀ (k j : Nat) (h : j < es.length), nM k (es.take (j + 1)) = nMb (nM k (es.take j)) es[j] := by
 induction es with
 | nil => intro k j h; simp at h
 | cons c t ih =>
  intro k j h
  cases j with
  | zero => simp [nM]
  | succ j =>
   rw [List.take_succ_cons, List.take_succ_cons]
   simp only [nM, List.getElem_cons_succ]
   exact ih (nMb k c) j (by simpa using h)
theorem nMb_eq (k : Nat) (m : Mb) : nMb k m = k + 3 + 2 * m.2.2.1.length + tot (puts m.2.2.1) + 2 * m.2.2.2.length + tot (puts m.2.2.2) := by
 unfold nMb nEd
 omega
theorem nM_le (es : List Mb) : ∀ (k : Nat), nM k es ≤ k + 3 * es.length + 2 * msum es := by
 induction es with
 | nil => intro k; simp [nM]
 | cons c t ih =>
  intro k
  have h1 := ih (nMb k c)
  have h2 := nMb_eq k c
  have h3 : msum (c :: t) = mtot c + msum t := by unfold msum; simp
  have h4 : mtot c = c.2.2.1.length + tot (puts c.2.2.1) + c.2.2.2.length + tot (puts c.2.2.2) := rfl
  simp only [nM, List.length_cons]
  omega
theorem nM_ge (es : List Mb) : ∀ (k : Nat), k ≤ nM k es := by
 induction es with
 | nil => intro k; exact Nat.le_refl _
 | cons c t ih =>
  intro k
  have h1 := ih (nMb k c)
  have h2 := nMb_eq k c
  simp only [nM]
  omega
theorem nM_take_le (es : List Mb) : ∀ (k j : Nat), nM k (es.take j) ≤ nM k es := by
 induction es with
 | nil => intro k j; simp
 | cons c t ih =>
  intro k j
  cases j with
  | zero => exact nM_ge _ _
  | succ j => rw [List.take_succ_cons]; simp only [nM]; exact ih _ _
theorem markedM_snoc (es : List Mb) : ∀ (k j : Nat) (h : j < es.length), markedM k (es.take (j + 1)) = markedM k (es.take j) ++ [mkM (nM k (es.take j)) es[j]] := by
 induction es with
 | nil => intro k j h; simp at h
 | cons c t ih =>
  intro k j h
  cases j with
  | zero => simp [markedM, nM]
  | succ j =>
   rw [List.take_succ_cons, List.take_succ_cons]
   simp only [markedM, List.getElem_cons_succ, List.cons_append, nM]
   rw [ih (nMb k c) j (by simpa using h)]
theorem markedM_step (k : Nat) (es : List Mb) (j : Nat) (h : j < es.length) : (markedM k (es.take j) ++ es.drop j).set j (mkM (nM k (es.take j)) es[j]) = markedM k (es.take (j + 1)) ++ es.drop (j + 1) := by
 have hl : (markedM k (es.take j)).length = j := by rw [markedM_length, List.length_take]; omega
 rw [List.drop_eq_getElem_cons h, List.set_append_right _ _ (by omega), hl, Nat.sub_self, List.set_cons_zero, markedM_snoc es k j h, List.append_assoc, List.singleton_append]
theorem markedEd_len (k : Nat) (es : List Ed) : (markedEd k es).length = es.length := markedEd_length es k

theorem member_ow_inv {w : World} {cs : List Value} {d : Mb} {fp : List Nat} (h : Lay.member.ow w cs d fp) : ∃ A c B e fu fr, cs = [.int .i64 d.1, .int .i64 d.2.1.1, .int .i64 d.2.1.2, .slice A d.2.2.1.length c, .slice B d.2.2.2.length e] ∧
  Lay.edits.ow w [.slice A d.2.2.1.length c] d.2.2.1 fu ∧ Lay.edits.ow w [.slice B d.2.2.2.length e] d.2.2.2 fr ∧ fp = fu ++ fr := by
 obtain ⟨_, _, _, _, rfl, ⟨rfl, _, rfl⟩, ⟨_, _, _, _, rfl, ⟨_, _, _, _, rfl, ⟨rfl, _, rfl⟩, ⟨rfl, _, rfl⟩, rfl⟩, ⟨cu, cr, fu, fr, rfl, hu, hr, rfl⟩, rfl⟩, rfl⟩ := h
 obtain ⟨A, c, rfl, _⟩ := Lay.edits.read hu
 obtain ⟨B, e, rfl, _⟩ := Lay.edits.read hr
 exact ⟨A, c, B, e, fu, fr, rfl, hu, hr, by simp⟩
theorem own_member' {w : World} {s f t : Int} {A B : Option Addr} {u r : List Ed} {c d : Nat} {fp gp : List Nat} (hs : isI s) (hf : isI f) (ht : isI t) (hu : Lay.edits.ow w [.slice A u.length c] u fp) (hr : Lay.edits.ow w [.slice B r.length d] r gp) :
  Lay.member.ow w [.int .i64 s, .int .i64 f, .int .i64 t, .slice A u.length c, .slice B r.length d] (s, (f, t), (u, r)) (fp ++ gp) :=
 ⟨[.int .i64 s], [.int .i64 f, .int .i64 t, .slice A u.length c, .slice B r.length d], [], fp ++ gp, rfl, ⟨rfl, hs, rfl⟩, ⟨[.int .i64 f, .int .i64 t], [.slice A u.length c, .slice B r.length d], [], fp ++ gp, rfl, ⟨[.int .i64 f], [.int .i64 t], [], [], rfl, ⟨rfl, hf, rfl⟩, ⟨rfl, ht, rfl⟩, rfl⟩, ⟨[.slice A u.length c], [.slice B r.length d], fp, gp, rfl, hu, hr, rfl⟩, rfl⟩, rfl⟩

set_option maxHeartbeats 4000000 in
theorem markMemberS_any (A : Option Addr) (c : Nat) (es : List Mb) (fp : List Nat) (k : Nat) (w : World) (hk : k + 3 * es.length + 2 * msum es ≤ 8000000) (hn : fp.Nodup) (h : Lay.members.ow w [.slice A es.length c] es fp) :
  Calls Tryz.prog 45 #[.slice A es.length c, .int .i64 (k : Int)] w fun e w' => e = .returned (.int .i64 (nM k es : Int)) ∧ Lay.members.ow w' [.slice A es.length c] (markedM k es) fp ∧ Keeps fp w w' := by
 go_enter Tryz.func45, Tryz.ntmps45
 go_wp2
 go_loopw [1, 5] (fun kk i wr => ∃ j : Nat, j ≤ es.length ∧ i = .int .i64 j ∧ kk = .int .i64 (nM k (es.take j) : Int) ∧ Lay.members.ow wr [.slice A es.length c] (markedM k (es.take j) ++ es.drop j) fp ∧ Keeps fp w wr) (fun _ i _ => es.length - (intOf i).toNat)
 case atStart => exact ⟨0, Nat.zero_le _, rfl, by simp [nM], by simpa [markedM] using h, Keeps.refl _ _⟩
 case round =>
  obtain ⟨j, hj, rfl, rfl, how, hke⟩ := hrel
  by_cases hlt : j < es.length
  ·have hlE : (markedM k (es.take j) ++ es.drop j).length = es.length := by rw [List.length_append, markedM_length, List.length_take, List.length_drop]; omega
   have hll : j < (markedM k (es.take j) ++ es.drop j).length := by rw [hlE]; exact hlt
   obtain ⟨g, c', cur, us, fi, hv, hus, hblk, hcz, hcell, hoe, hni, hgf, hfi, hput⟩ := Lay.put (E := Lay.member) how hn (by decide) j hll
   have hmid : (markedM k (es.take j) ++ es.drop j)[j] = es[j] := by
    rw [List.getElem_append_right (by rw [markedM_length, List.length_take]; omega)]
    simp [markedM_length, List.length_take, show min j es.length = j by omega]
   rw [hmid] at hoe
   rw [hlE] at hv hcz
   simp only [Value.slice.injEq, true_and] at hv
   obtain ⟨rfl, rfl⟩ := hv
   obtain ⟨U, cu, R, cr, fu, fr, hcs, hou, hor, hfp⟩ := member_ow_inv hoe
   have hstep := markedM_step k es j hlt
   have hntk := nM_snoc es k j hlt
   have hnle := nM_take_le es k (j + 1)
   have hnb : nM k es ≤ 8000000 := Nat.le_trans (nM_le es k) hk
   obtain ⟨m, hm⟩ : ∃ m, nM k (es.take j) = m := ⟨_, rfl⟩
   rw [hm] at hstep hntk ⊢
   obtain ⟨u, hu⟩ : ∃ u, es[j].2.2.1 = u := ⟨_, rfl⟩
   obtain ⟨r, hr⟩ : ∃ r, es[j].2.2.2 = r := ⟨_, rfl⟩
   have hmk : mkM m es[j] = ((m : Int), ((m : Int) + 1, (m : Int) + 2), (markedEd (m + 3) u, markedEd (nEd (m + 3) u) r)) := by unfold mkM; rw [hu, hr]
   have hnk : nMb m es[j] = nEd (nEd (m + 3) u) r := by unfold nMb; rw [hu, hr]
   have hmq := nMb_eq m es[j]
   rw [hu, hr] at hmq
   rw [hmk] at hstep
   rw [hnk] at hntk
   rw [hu] at hou
   rw [hr] at hor
   rw [hu, hr] at hcs
   have c0 := hcell 0 (by rw [hcs]; simp)
   have c1 := hcell 1 (by rw [hcs]; simp)
   have c2 := hcell 2 (by rw [hcs]; simp)
   have c3 := hcell 3 (by rw [hcs]; simp)
   have c4 := hcell 4 (by rw [hcs]; simp)
   simp only [hcs, List.getElem_cons_zero, List.getElem_cons_succ] at c0 c1 c2 c3 c4
   have hsz4 : Lay.member.sz = 5 := rfl
   rw [hsz4] at c0 c1 c2 c3 c4 hput hcz
   have hb4 : j * 5 + 5 ≤ cur.size := by omega
   have u0 : wr.cell? ⟨g, j * 5, none⟩ = some (.int .i64 es[j].1) := (hblk.cell _).trans (by simpa using c0)
   have u1 : wr.cell? ⟨g, j * 5 + 1, none⟩ = some (.int .i64 es[j].2.1.1) := (hblk.cell _).trans c1
   have u2 : wr.cell? ⟨g, j * 5 + 2, none⟩ = some (.int .i64 es[j].2.1.2) := (hblk.cell _).trans c2
   have u3 : wr.cell? ⟨g, j * 5 + 3, none⟩ = some (.slice U u.length cu) := (hblk.cell _).trans c3
   have u4 : wr.cell? ⟨g, j * 5 + 4, none⟩ = some (.slice R r.length cr) := (hblk.cell _).trans c4
   have f0 := hblk.frozen (j * 5)
   have f1 := hblk.frozen (j * 5 + 1)
   have f2 := hblk.frozen (j * 5 + 2)
   have hb2 := (((hblk.set (j * 5) (.int .i64 (m : Int))).set (j * 5 + 1) (.int .i64 ((m : Int) + 1))).set (j * 5 + 2) (.int .i64 ((m : Int) + 2)))
   have hk2 := ((((Keeps.refl (g :: fi) wr).set (List.mem_cons_self ..) (j * 5) (.int .i64 (m : Int))).set (List.mem_cons_self ..) (j * 5 + 1) (.int .i64 ((m : Int) + 1))).set (List.mem_cons_self ..) (j * 5 + 2) (.int .i64 ((m : Int) + 2)))
   have hgn : g ∉ fi := fun hq => (hfi g hq).2 rfl
   have hk3 : Keeps [g] wr (((wr.setCell ⟨g, j * 5, none⟩ (.int .i64 (m : Int))).setCell ⟨g, j * 5 + 1, none⟩ (.int .i64 ((m : Int) + 1))).setCell ⟨g, j * 5 + 2, none⟩ (.int .i64 ((m : Int) + 2))) := ((Keeps.refl [g] wr).set (List.mem_singleton.2 rfl) (j * 5) (.int .i64 (m : Int))).set (List.mem_singleton.2 rfl) (j * 5 + 1) (.int .i64 ((m : Int) + 1)) |>.set (List.mem_singleton.2 rfl) (j * 5 + 2) (.int .i64 ((m : Int) + 2))
   have hou2 := Lay.edits.keeps hou hk3 (fun q hq h9 => hgn (by rw [hfp, ← List.mem_singleton.1 h9]; exact List.mem_append.2 (.inl hq)))
   have hor2 := Lay.edits.keeps hor hk3 (fun q hq h9 => hgn (by rw [hfp, ← List.mem_singleton.1 h9]; exact List.mem_append.2 (.inr hq)))
   have hgl : g < (((wr.setCell ⟨g, j * 5, none⟩ (.int .i64 (m : Int))).setCell ⟨g, j * 5 + 1, none⟩ (.int .i64 ((m : Int) + 1))).setCell ⟨g, j * 5 + 2, none⟩ (.int .i64 ((m : Int) + 2))).heap.size := hb2.lt
   have hnd := hni
   rw [hfp, List.nodup_append] at hnd
   obtain ⟨hnu, hnr, hdj⟩ := hnd
   have hmb : m ≤ 8000000 := by omega
   have hji : (j : Int) < (es.length : Int) := by omega
   have hw0 : IntKind.i64.wrap ((m : Int) + 1) = (m : Int) + 1 := by rw [IntWalk.i64_in _ ⟨by omega, by omega⟩]; try omega
   have hw1 : IntKind.i64.wrap ((m : Int) + 1 + 1) = (m : Int) + 2 := by rw [IntWalk.i64_in _ ⟨by omega, by omega⟩]; try omega
   have hw2 : IntKind.i64.wrap ((m : Int) + 2 + 1) = ((m + 3 : Nat) : Int) := by rw [IntWalk.i64_in _ ⟨by omega, by omega⟩]; try omega
   have hcv3 : (((cur.setIfInBounds (j * 5) (.int .i64 (m : Int))).setIfInBounds (j * 5 + 1) (.int .i64 ((m : Int) + 1))).setIfInBounds (j * 5 + 2) (.int .i64 ((m : Int) + 2)))[j * 5 + 3]? = some (.slice U u.length cu) := by
    rw [Array.getElem?_setIfInBounds, if_neg (by omega), Array.getElem?_setIfInBounds, if_neg (by omega), Array.getElem?_setIfInBounds, if_neg (by omega)]; exact c3
   have hcv4 : (((cur.setIfInBounds (j * 5) (.int .i64 (m : Int))).setIfInBounds (j * 5 + 1) (.int .i64 ((m : Int) + 1))).setIfInBounds (j * 5 + 2) (.int .i64 ((m : Int) + 2)))[j * 5 + 4]? = some (.slice R r.length cr) := by
    rw [Array.getElem?_setIfInBounds, if_neg (by omega), Array.getElem?_setIfInBounds, if_neg (by omega), Array.getElem?_setIfInBounds, if_neg (by omega)]; exact c4
   have hbu : m + 3 + 2 * u.length + tot (puts u) ≤ 8000000 := by omega
   have hnu1 : nEd (m + 3) u = m + 3 + 2 * u.length + tot (puts u) := rfl
   have hbr : nEd (m + 3) u + 2 * r.length + tot (puts r) ≤ 8000000 := by rw [hnu1]; omega
   have C3 := Lib.hid hcv3
   have C4 := Lib.hid hcv4
   have HOU := Lib.hid hou2
   have HOR := Lib.hid hor2
   have HB2 := Lib.hid hb2
   have HK2 := Lib.hid hk2
   have HPUT := Lib.hid hput
   have HST := Lib.hid hstep
   have HNT := Lib.hid hntk
   have HKE := Lib.hid hke
   have HFI := Lib.hid hfi
   have HFP := Lib.hid hfp
   have HNU := Lib.hid hnu
   have HNR := Lib.hid hnr
   have HDJ := Lib.hid hdj
   have HBU := Lib.hid hbu
   have HBR := Lib.hid hbr
   have HGN := Lib.hid hgn
   clear c0 c1 c2 c3 c4 hou2 hor2 hb2 hk2 hk3 hput hstep hntk hke hcell hoe hou hor how hmid hmk hnk hmq hu hr hcs hfi hfp hblk hm hcv3 hcv4 hnu hnr hdj hni hbu hbr hnu1 hgn
   generalize es[j].1 = y0 at *
   generalize es[j].2.1.1 = y1 at *
   generalize es[j].2.1.2 = y2 at *
   go_wp2_with fail
   refine (markEditS_ow U cu u fu (m + 3) _ HBU.out HNU.out (by exact HOU.out)).mono ?_
   rintro e w1 ⟨rfl, hou1, hke1⟩
   have hgu : g ∉ fu := fun hq => HGN.out (by rw [HFP.out]; exact List.mem_append.2 (.inl hq))
   have hb1 := HB2.out.of_block (hke1.block g hgl hgu)
   have hor1 := Lay.edits.keeps HOR.out hke1 (fun q hq h9 => HDJ.out q h9 q hq rfl)
   have hk1 := HK2.out.trans (hke1.mono (fun x hx => List.mem_cons_of_mem _ (by rw [HFP.out]; exact List.mem_append.2 (.inl hx))))
   have HB1 := Lib.hid hb1
   have HK1 := Lib.hid hk1
   have HO1 := Lib.hid hou1
   have HR1 := Lib.hid hor1
   have hgl1 := hb1.lt
   obtain ⟨n1, hn1⟩ : ∃ n, nEd (m + 3) u = n := ⟨_, rfl⟩
   have HN1 := Lib.hid hn1
   have hbr := HBR.out
   rw [hn1] at hbr ⊢
   have u4 : w1.cell? ⟨g, j * 5 + 4, none⟩ = some (.slice R r.length cr) := (hb1.cell _).trans C4.out
   clear u0 u1 u2 u3 f0 f1 f2 hb1 hk1 hou1 hor1 hke1 hn1
   go_wp2_with fail
   refine (markEditS_ow R cr r fr n1 _ hbr HNR.out (by exact HR1.out)).mono ?_
   rintro e w2 ⟨rfl, hor2, hke2⟩
   have hgr : g ∉ fr := fun hq => HGN.out (by rw [HFP.out]; exact List.mem_append.2 (.inr hq))
   have hb3 := HB1.out.of_block (hke2.block g hgl1 hgr)
   have hou3 := Lay.edits.keeps HO1.out hke2 (fun q hq h9 => HDJ.out q hq q h9 rfl)
   have hk3 := HK1.out.trans (hke2.mono (fun x hx => List.mem_cons_of_mem _ (by rw [HFP.out]; exact List.mem_append.2 (.inr hx))))
   have hmem : ∀ x ∈ g :: fi, x ∈ fp := fun x hx => by
    rcases List.mem_cons.1 hx with e | hx
    ·rw [e]; exact hgf
    ·exact (HFI.out x hx).1
   have hlu : u.length = (markedEd (m + 3) u).length := (markedEd_len _ _).symm
   have hlr : r.length = (markedEd n1 r).length := (markedEd_len _ _).symm
   have hnew := HPUT.out w2 ((m : Int), ((m : Int) + 1, (m : Int) + 2), (markedEd (m + 3) u, markedEd n1 r)) [.int .i64 (m : Int), .int .i64 ((m : Int) + 1), .int .i64 ((m : Int) + 2), .slice U u.length cu, .slice R r.length cr] _ rfl hk3 hb3 (by simp) (by
     intro q hq
     have hq4 : q < 5 := hq
     match q, hq4 with
     | 0, _ => simp [Array.getElem?_setIfInBounds]; omega
     | 1, _ => simp [Array.getElem?_setIfInBounds]; omega
     | 2, _ => simp [Array.getElem?_setIfInBounds]; omega
     | 3, _ => exact C3.out
     | 4, _ => exact C4.out) (by
     intro q hq
     rw [Array.getElem?_setIfInBounds, if_neg (by omega), Array.getElem?_setIfInBounds, if_neg (by omega), Array.getElem?_setIfInBounds, if_neg (by omega)]) (by
     rw [HFP.out]
     have h1 := hou3
     have h2 := hor2
     rw [hlu] at h1 ⊢
     rw [hlr] at h2 ⊢
     exact own_member' ⟨by omega, by omega⟩ ⟨by omega, by omega⟩ ⟨by omega, by omega⟩ h1 h2)
   have hst := HST.out
   rw [HN1.out] at hst
   rw [hst] at hnew
   have HN := Lib.hid hnew
   have HK9 := Lib.hid (HKE.out.trans (hk3.mono hmem))
   have hnx : nEd n1 r = nM k (es.take (j + 1)) := by rw [← HN1.out]; exact HNT.out.symm
   rw [hnx]
   clear u4 hb3 hk3 hnew hou3 hor2 hke2 hnx hmem hst hlu hlr
   go_wp2
   go_roundw
   case rel => exact ⟨j + 1, by omega, by go_num, by first | rfl | go_num, HN.out, HK9.out⟩
   case measure => simp [intOf]; omega
  ·have e : j = es.length := by omega
   subst e
   rw [List.take_length, List.drop_length, List.append_nil] at how
   rw [List.take_length]
   go_wp2
   go_ret
   exact ⟨rfl, how, hke⟩
end Go.Proofs.YtaekanhjkpoifaaGreatDoor
