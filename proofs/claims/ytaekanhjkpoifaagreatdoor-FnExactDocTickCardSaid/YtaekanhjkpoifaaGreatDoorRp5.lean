/-
  Texts of one claim in one: C14, C14e, I08a, I08, Cur11. Own work.
-/
import Derived.Test.YtaekanhjkpoifaaGreatDoorRC07
import Derived.Test.YtaekanhjkpoifaaGreatDoorRp4
import Derived.Deep.RegionWith
import Derived.Deep.RegionHeld3
import Derived.Test.YtaekanhjkpoifaaGreatDoorRI01f
import Derived.Test.YtaekanhjkpoifaaGreatDoorRp1
import Derived.Test.YtaekanhjkpoifaaGreatDoorRp3
import Derived.Test.YtaekanhjkpoifaaGreatDoorRS08
import Derived.Test.YtaekanhjkpoifaaGreatDoorRC05

/-
 Chapter 10, the laws' helpers on commits: layouts and contracts (sizes, copies, equality, marks). Own work.
-/
namespace Go.Proofs.YtaekanhjkpoifaaGreatDoor
open Go.RowKit P
set_option linter.unusedVariables false
set_option linter.unusedSimpArgs false
set_option maxRecDepth 100000

/-- A commit: the session and the edit. -/
abbrev Cm := Int × Ed
def Lay.commit : Lay Cm := Lay.pair Lay.int Lay.edit
def Lay.commits : Lay (List Cm) := Lay.slice 102 Lay.commit
/-- The slice of commits that starts at A. -/
def Cms (w : World) (A : Option Addr) (es : List Cm) : Prop := Sl 4 Lay.commit.rd w A es
theorem Cms.below {w w' : World} {A : Option Addr} {es : List Cm} (h : Cms w A es) (hb : Below w.heap.size w w') : Cms w' A es := Sl.below (E := Lay.commit) h hb
theorem Lay.commit_rd {w : World} {cs : List Value} {s a m : Int} {p : List UInt8} (h : Lay.commit.rd w cs (s, a, m, p)) : ∃ B d, cs = [.int .i64 s, .int .i64 a, .int .i64 m, .slice B p.length d] ∧ isI s ∧ isI a ∧ isI m ∧ p.length ≤ d ∧ d ≤ maxLen ∧ Bs w B p := by
 obtain ⟨c1, c2, rfl, ⟨rfl, hs⟩, c3, c4, rfl, ⟨rfl, ha⟩, c5, c6, rfl, ⟨rfl, hm⟩, B, d, rfl, h1, h2, hB⟩ := h
 exact ⟨B, d, rfl, hs, ha, hm, h1, h2, hB⟩
theorem Cms.at_ {w : World} {A : Option Addr} {es : List Cm} (h : Cms w A es) (k : Nat) (hk : k < es.length) :
  ∃ b off s a m B p d, A = some ⟨b, off, none⟩ ∧ b < w.heap.size ∧ es[k] = (s, a, m, p) ∧ w.cell? ⟨b, off + k * 4, none⟩ = some (.int .i64 s) ∧ w.cell? ⟨b, off + k * 4 + 1, none⟩ = some (.int .i64 a) ∧ w.cell? ⟨b, off + k * 4 + 2, none⟩ = some (.int .i64 m) ∧ w.cell? ⟨b, off + k * 4 + 3, none⟩ = some (.slice B p.length d) ∧
   isI s ∧ isI a ∧ isI m ∧ p.length ≤ d ∧ d ≤ maxLen ∧ Bs w B p := by
 obtain ⟨b, off, us, hA, hlt, hus, hc, hr⟩ := h k hk
 obtain ⟨⟨s, a, m, p⟩, he⟩ : ∃ e, es[k] = e := ⟨_, rfl⟩
 rw [he] at hr
 obtain ⟨B, d, rfl, hs, ha, hm, h1, h2, hB⟩ := Lay.commit_rd hr
 refine ⟨b, off, s, a, m, B, p, d, hA, hlt, he, ?_, ?_, ?_, ?_, hs, ha, hm, h1, h2, hB⟩
 ·have := hc 0 (by simp); simpa using this
 ·have := hc 1 (by simp); simpa [Nat.add_assoc] using this
 ·have := hc 2 (by simp); simpa [Nat.add_assoc] using this
 ·have := hc 3 (by simp); simpa [Nat.add_assoc] using this
theorem Tryz.infoCm : (Tryz.prog.info? 102).map (fun i => (i.zero, i.size, i.bytes)) = some (some (.agg #[.int .i64 0, .int .i64 0, .int .i64 0, .slice none 0 0]), 4, 48) := by kernel_rfl
/-- A commit of the call's own. -/
theorem own_commit {w : World} {base : Nat} {v : Value} {p : List UInt8} {s a m : Int} (hs : isI s) (ha : isI a) (hm : isI m) (h : Own w base v p) :
  Lay.commit.ow w [.int .i64 s, .int .i64 a, .int .i64 m, v] (s, a, m, p) v.ownBlock.toList :=
 ⟨[.int .i64 s], [.int .i64 a, .int .i64 m, v], [], v.ownBlock.toList, rfl, ⟨rfl, hs, rfl⟩, own_edit ha hm h, rfl⟩
theorem commit_ow_inv {w : World} {cs : List Value} {d : Cm} {fp : List Nat} (h : Lay.commit.ow w cs d fp) : ∃ v, cs = [.int .i64 d.1, .int .i64 d.2.1, .int .i64 d.2.2.1, v] ∧ isI d.1 ∧ isI d.2.1 ∧ isI d.2.2.1 ∧ Own w 0 v d.2.2.2 ∧ fp = v.ownBlock.toList := by
 obtain ⟨c0, c9, f0, f9, rfl, ⟨rfl, i0, rfl⟩, ⟨c1, c2, f1, f2, rfl, ⟨rfl, i1, rfl⟩, ⟨c3, c4, f3, f4, rfl, ⟨rfl, i2, rfl⟩, ⟨v, rfl, ho, rfl⟩, rfl⟩, rfl⟩, rfl⟩ := h
 exact ⟨v, rfl, i0, i1, i2, ho, by simp⟩

/-- What the commits of a list put. -/
def cputs (es : List Cm) : List (List UInt8) := es.map (·.2.2.2)
theorem cputs_length (es : List Cm) : (cputs es).length = es.length := List.length_map _
theorem cputs_get (es : List Cm) (k : Nat) (hk : k < es.length) : (cputs es)[k]'(by rw [cputs_length]; exact hk) = es[k].2.2.2 := by unfold cputs; rw [List.getElem_map]

set_option maxHeartbeats 400000 in
theorem szCommit_any (s a m : Int) (A : Option Addr) (n c : Nat) (left : Int) (w : World) (hn : n ≤ 9223372036854775807) (h0 : 0 ≤ left) (h1 : left ≤ 1048576) :
  Calls Tryz.prog 64 #[.agg #[.int .i64 s, .int .i64 a, .int .i64 m, .slice A n c], .int .i64 left] w fun e w' => (∃ r : Int, e = .returned (.int .i64 r) ∧ ((r = -1 ∧ left < n) ∨ (0 ≤ r ∧ r = left - n))) ∧ Below w.heap.size w w' := by
 go_enter Tryz.func64, Tryz.ntmps64
 go_wp2_with fail
 refine (szEdit_any a m A n c left _ hn h0 h1).mono ?_
 rintro e w1 ⟨⟨r, rfl, hr⟩, hb1⟩
 have hb2 : Below w.heap.size w w1 := by first | exact hb1 | exact below_skip hb1
 by_cases hneg : r < 0
 ·go_wp2
  go_ret
  exact ⟨⟨_, rfl, .inl ⟨rfl, by omega⟩⟩, hb2⟩
 ·go_wp2
  go_ret
  exact ⟨⟨_, rfl, by omega⟩, hb2⟩

set_option maxHeartbeats 1000000 in
theorem szCommitS_any (A : Option Addr) (es : List Cm) (c : Nat) (left : Int) (w : World) (hn : es.length ≤ 9223372036854775807) (h0 : 0 ≤ left) (h1 : left ≤ 1048576) (hE : Cms w A es) :
  Calls Tryz.prog 24 #[.slice A es.length c, .int .i64 left] w fun e w' => (∃ r : Int, e = .returned (.int .i64 r) ∧ (r < 0 ∨ (0 ≤ r ∧ r + es.length + tot (cputs es) ≤ left))) ∧ Below w.heap.size w w' := by
 by_cases h : left - (es.length : Int) < 0
 ·go_enter Tryz.func24, Tryz.ntmps24
  go_wp2
  go_ret
  exact ⟨⟨_, rfl, .inl (by omega)⟩, Below.refl _ _⟩
 ·go_enter Tryz.func24, Tryz.ntmps24
  go_wp2
  go_loopw [1, 5] (fun lf i wr => ∃ k : Nat, ∃ r : Int, k ≤ es.length ∧ i = .int .i64 k ∧ lf = .int .i64 r ∧ 0 ≤ r ∧ r ≤ 1048576 ∧ es.length + tot ((cputs es).take k) + r ≤ left ∧ Below w.heap.size w wr) (fun _ i _ => es.length - (intOf i).toNat)
  case atStart => exact ⟨0, left - es.length, Nat.zero_le _, rfl, rfl, by omega, by omega, by simp [tot]; omega, Below.refl _ _⟩
  case round =>
   obtain ⟨k, r, hk, rfl, rfl, hr0, hr1, hr2, hb⟩ := hrel
   by_cases hlt : k < es.length
   ·obtain ⟨b, off, s, a, m, B, p, d, rfl, hbl, hek, k0, k1, k2, k3, hs, ha, hm, hpd, hdm, hBp⟩ := (hE.below hb).at_ k hlt
    have htk := tot_take (cputs es) k (by rw [cputs_length]; exact hlt)
    rw [cputs_get es k hlt, hek] at htk
    have HT := Lib.hid htk
    have hp9 : p.length ≤ 9223372036854775807 := by unfold maxLen at hdm; omega
    clear htk hek hs ha hm
    go_wp2_with fail
    refine (szCommit_any s a m B p.length d r _ hp9 hr0 hr1).mono ?_
    rintro e w1 ⟨⟨q, rfl, hq⟩, hb1⟩
    have hb2 := below_then hb hb1
    clear k0 k1 k2 k3
    by_cases hneg : q < 0
    ·go_wp2
     go_ret
     exact ⟨⟨_, rfl, .inl (by omega)⟩, hb2⟩
    ·go_wp2
     go_roundw
     case rel => exact ⟨k + 1, q, by omega, by go_num, rfl, by omega, by omega, by rw [HT.out]; omega, hb2⟩
     case measure => simp [intOf]; omega
   ·have e : k = es.length := by omega
    subst e
    rw [← cputs_length es, tot_all] at hr2
    rw [cputs_length] at hr2
    go_wp2
    go_ret
    exact ⟨⟨_, rfl, .inr ⟨hr0, by omega⟩⟩, hb⟩

set_option maxHeartbeats 4000000 in
theorem toCommit_any (s a m : Int) (A : Option Addr) (l : List UInt8) (c : Nat) (w : World) (hl : l.length ≤ 1048576) (h : Bs w A l) :
  Calls Tryz.prog 67 #[.agg #[.int .i64 s, .int .i64 a, .int .i64 m, .slice A l.length c]] w fun e w' => ∃ v, e = .returned (.agg #[.int .i64 s, .int .i64 a, .int .i64 m, v]) ∧ Own w' w.heap.size v l ∧ Below w.heap.size w w' := by
 have hal := (((Below.refl w.heap.size w).alloc (Nat.le_refl _) (.cells #[.int .i64 s, .int .i64 a, .int .i64 m, .slice A l.length c] 92)).alloc (by simp) (.cells #[.int .i64 0, .int .i64 0, .int .i64 0, .slice none 0 0] 102)).alloc (by simp; omega) (.cells #[.int .i64 s, .int .i64 0, .int .i64 0, .slice none 0 0] 102)
 have hbx := ((Blk.new w #[.int .i64 s, .int .i64 a, .int .i64 m, .slice A l.length c] 92).alloc (.cells #[.int .i64 0, .int .i64 0, .int .i64 0, .slice none 0 0] 102)).alloc (.cells #[.int .i64 s, .int .i64 0, .int .i64 0, .slice none 0 0] 102)
 have hb1 := (Blk.new (w.alloc (.cells #[.int .i64 s, .int .i64 a, .int .i64 m, .slice A l.length c] 92)) #[.int .i64 0, .int .i64 0, .int .i64 0, .slice none 0 0] 102).alloc (.cells #[.int .i64 s, .int .i64 0, .int .i64 0, .slice none 0 0] 102)
 have hb2 := Blk.new ((w.alloc (.cells #[.int .i64 s, .int .i64 a, .int .i64 m, .slice A l.length c] 92)).alloc (.cells #[.int .i64 0, .int .i64 0, .int .i64 0, .slice none 0 0] 102)) #[.int .i64 s, .int .i64 0, .int .i64 0, .slice none 0 0] 102
 simp only [World.size_alloc] at hb1 hb2
 have HB := Lib.hid hal
 have BX := Lib.hid hbx
 have R1 := Lib.hid hb1
 have R2 := Lib.hid hb2
 have HL := Lib.hid (h.below hal)
 have hzw : ((((w.alloc (.cells #[.int .i64 s, .int .i64 a, .int .i64 m, .slice A l.length c] 92)).alloc (.cells #[.int .i64 0, .int .i64 0, .int .i64 0, .slice none 0 0] 102)).alloc (.cells #[.int .i64 s, .int .i64 0, .int .i64 0, .slice none 0 0] 102))).heap.size = w.heap.size + 3 := by simp
 have p1 := BX.out.cell 1
 have p2 := BX.out.cell 2
 have p3 := BX.out.cell 3
 clear hal hbx hb1 hb2 h
 go_enter Tryz.func67, Tryz.ntmps67
 go_wp2_with fail
 generalize ((w.alloc (.cells #[.int .i64 s, .int .i64 a, .int .i64 m, .slice A l.length c] 92)).alloc (.cells #[.int .i64 0, .int .i64 0, .int .i64 0, .slice none 0 0] 102)).alloc (.cells #[.int .i64 s, .int .i64 0, .int .i64 0, .slice none 0 0] 102) = W at *
 refine (toEdit_any a m A l c _ hl HL.out).mono ?_
 rintro e w3 ⟨v, rfl, ho3, hbl3⟩
 obtain ⟨A3, c3, e3, _, _, _⟩ := ho3.form
 subst e3
 have HR3 := Lib.hid ho3.range
 have HO3 := Lib.hid ho3
 have HB3 := Lib.hid (below_then HB.out hbl3)
 have R13 := Lib.hid (R1.out.below hbl3)
 have R23 := Lib.hid (R2.out.below hbl3)
 have hz3 := hbl3.size
 clear ho3 hbl3 p1 p2 p3 BX R1 R2 HB HL
 have hk := ((((((((Keeps.refl [w.heap.size + 1, w.heap.size + 2] w3).set (g := w.heap.size + 2) (by simp) 1 (.int .i64 a)).set (g := w.heap.size + 2) (by simp) 2 (.int .i64 m)).set (g := w.heap.size + 2) (by simp) 3 (.slice A3 l.length c3)).set (g := w.heap.size + 1) (by simp) 0 (.int .i64 s)).set (g := w.heap.size + 1) (by simp) 1 (.int .i64 a)).set (g := w.heap.size + 1) (by simp) 2 (.int .i64 m)).set (g := w.heap.size + 1) (by simp) 3 (.slice A3 l.length c3))
 have HO9 := Lib.hid (HO3.out.keeps hk (fun k hk => by have := (HR3.out k hk).1; simp; omega))
 have HB9 := Lib.hid (((((((HB3.out.setCell (p := ⟨w.heap.size + 2, 1, none⟩) (by simp) (.int .i64 a)).setCell (p := ⟨w.heap.size + 2, 2, none⟩) (by simp) (.int .i64 m)).setCell (p := ⟨w.heap.size + 2, 3, none⟩) (by simp) (.slice A3 l.length c3)).setCell (p := ⟨w.heap.size + 1, 0, none⟩) (by simp) (.int .i64 s)).setCell (p := ⟨w.heap.size + 1, 1, none⟩) (by simp) (.int .i64 a)).setCell (p := ⟨w.heap.size + 1, 2, none⟩) (by simp) (.int .i64 m)).setCell (p := ⟨w.heap.size + 1, 3, none⟩) (by simp) (.slice A3 l.length c3))
 have q0 := R23.out.cell 0
 have r0 := R13.out.cell 0
 have g0 := R23.out.frozen 0
 have k0 := R13.out.frozen 0
 have q1 := R23.out.cell 1
 have r1 := R13.out.cell 1
 have g1 := R23.out.frozen 1
 have k1 := R13.out.frozen 1
 have q2 := R23.out.cell 2
 have r2 := R13.out.cell 2
 have g2 := R23.out.frozen 2
 have k2 := R13.out.frozen 2
 have q3 := R23.out.cell 3
 have r3 := R13.out.cell 3
 have g3 := R23.out.frozen 3
 have k3 := R13.out.frozen 3
 clear hk R13 R23
 go_wp2
 refine bodyPost_ret (v := .agg #[.int .i64 s, .int .i64 a, .int .i64 m, .slice A3 l.length c3]) (by simp [results, Tryz.results67, go_sem, q0, q1, q2, q3, r0, r1, r2, r3]) rfl ?_
 exact ⟨_, rfl, HO9.out.mono (by omega), HB9.out⟩

set_option maxHeartbeats 4000000 in
theorem toCommitS_any (A : Option Addr) (es : List Cm) (c : Nat) (w : World) (hn : es.length + tot (cputs es) ≤ 1048576) (hE : Cms w A es) :
  Calls Tryz.prog 31 #[.slice A es.length c] w (Gives Lay.commits wSlice es w) := by
 have hmk : ∀ W, (Instr.makeSlice 32 (.int .i64 (es.length : Int)) (.int .i64 (es.length : Int))).run Tryz.prog W = .ok (.slice (some ⟨W.heap.size, 0, none⟩) es.length es.length) (W.alloc (.cells (madeCells #[.int .i64 0, .int .i64 0, .int .i64 0, .slice none 0 0] (es.length * 4)) 102)) := fun W =>
  run_mk (P := Tryz.prog) 32 102 (.agg #[.int .i64 0, .int .i64 0, .int .i64 0, .slice none 0 0]) 4 48 Tryz.underlying32 Tryz.infoCm es.length (by omega) (by omega) W
 go_enter Tryz.func31, Tryz.ntmps31
 go_wp2
 go_loopw [4] (fun i wr => ∃ L : List (El Cm), L.length ≤ es.length ∧ i = .int .i64 L.length ∧ es.take L.length = L.map (·.2.1) ∧
   Filling 102 Lay.commit (fun j => (#[.int .i64 0, .int .i64 0, .int .i64 0, .slice none 0 0] : Array Value)[j % 4]!) es.length wr w.heap.size L ∧ Below w.heap.size w wr)
  (fun i _ => es.length - (intOf i).toNat)
 case atStart => exact ⟨[], Nat.zero_le _, rfl, by simp, Filling.made #[.int .i64 0, .int .i64 0, .int .i64 0, .slice none 0 0] _ _, (Below.refl _ _).alloc (Nat.le_refl _) _⟩
 case round =>
  obtain ⟨L, hk, rfl, htk, hfill, hbel⟩ := hrel
  have HTK := Lib.hid htk
  clear htk
  by_cases hlt : L.length < es.length
  ·obtain ⟨b, off, s, a, m, B, p, d, rfl, hbl, hek, k0, k1, k2, k3, hs, ha, hm, hpd, hdm, hBp⟩ := (hE.below hbel).at_ L.length hlt
   have htot := tot_mem (ls := cputs es) L.length (by rw [cputs_length]; exact hlt)
   rw [cputs_get es L.length hlt, hek] at htot
   have hnext : es.take (L.length + 1) = L.map (·.2.1) ++ [(s, a, m, p)] := by rw [List.take_succ_eq_append_getElem hlt, HTK.out, hek]
   have HN := Lib.hid hnext
   have hp4 : p.length ≤ 1048576 := by simp only at htot; omega
   have HS := Lib.hid hs
   have HA := Lib.hid ha
   have HM := Lib.hid hm
   clear hnext hek htot hs ha hm
   obtain ⟨k, hkk⟩ : ∃ k, L.length = k := ⟨_, rfl⟩
   have hlt' := hlt
   rw [hkk] at k0 k1 k2 k3 hlt' hk
   have HK := Lib.hid hkk
   rw [hkk]
   clear hkk
   have hw : w.heap.size < wr.heap.size := hfill.row.lt
   have hki : (k : Int) < (es.length : Int) := by omega
   go_wp2_with fail
   refine (toCommit_any s a m B p d _ hp4 (by exact hBp)).mono ?_
   rintro e w1 ⟨v, rfl, hown, hb1⟩
   have hrow1 := hfill.row.of_block (hb1.block _ hfill.row.lt)
   obtain ⟨u0, hu0⟩ : ∃ u, w1.cell? ⟨w.heap.size, k * 4, none⟩ = some u := ⟨_, hrow1.cell (by show k * 4 < es.length * 4; omega)⟩
   obtain ⟨u1, hu1⟩ : ∃ u, w1.cell? ⟨w.heap.size, k * 4 + 1, none⟩ = some u := ⟨_, hrow1.cell (by show k * 4 + 1 < es.length * 4; omega)⟩
   obtain ⟨u2, hu2⟩ : ∃ u, w1.cell? ⟨w.heap.size, k * 4 + 2, none⟩ = some u := ⟨_, hrow1.cell (by show k * 4 + 2 < es.length * 4; omega)⟩
   obtain ⟨u3, hu3⟩ : ∃ u, w1.cell? ⟨w.heap.size, k * 4 + 3, none⟩ = some u := ⟨_, hrow1.cell (by show k * 4 + 3 < es.length * 4; omega)⟩
   have hfz0 := hrow1.frozen (k * 4)
   have hfz1 := hrow1.frozen (k * 4 + 1)
   have hfz2 := hrow1.frozen (k * 4 + 2)
   have hfz3 := hrow1.frozen (k * 4 + 3)
   have hs1 := hb1.size
   have hfp := hown.fp
   obtain ⟨A', c', rfl, _, _, _⟩ := hown.form
   have hr2 := (((hrow1.set (k * 4) (.int .i64 s)).set (k * 4 + 1) (.int .i64 a)).set (k * 4 + 2) (.int .i64 m)).set (k * 4 + 3) (.slice A' p.length c')
   have hf2 := hfill.snoc hb1 (own_commit HS.out HA.out HM.out hown) hfp.1 hfp.2 (hr2.congr (by
    intro j hj
    have hs : Lay.commit.sz = 4 := rfl
    rw [hs, HK.out]
    by_cases c3 : j = k * 4 + 3
    ·subst c3; simp
    ·by_cases c2 : j = k * 4 + 2
     ·subst c2; simp
     ·by_cases c1 : j = k * 4 + 1
      ·subst c1; simp
      ·by_cases c0 : j = k * 4
       ·subst c0; simp
       ·rw [if_neg c3, if_neg c2, if_neg c1, if_neg c0, if_neg (by omega)])) (fun q hq => by rw [Below.heap_setCell _ _ _ _ hq, Below.heap_setCell _ _ _ _ hq, Below.heap_setCell _ _ _ _ hq, Below.heap_setCell _ _ _ _ hq]) (by simp)
   have HF2 := Lib.hid hf2
   clear hrow1 hf2 hr2 hfill hown hfp k0 k1 k2 k3
   go_wp2
   go_roundw
   case rel =>
    refine ⟨_, ?_, ?_, ?_, by have h9 := HF2.out; exact h9, ((((below_then hbel hb1).setCell (p := ⟨w.heap.size, k * 4, none⟩) (Nat.le_refl _) _).setCell (p := ⟨w.heap.size, k * 4 + 1, none⟩) (Nat.le_refl _) _).setCell (p := ⟨w.heap.size, k * 4 + 2, none⟩) (Nat.le_refl _) _).setCell (p := ⟨w.heap.size, k * 4 + 3, none⟩) (Nat.le_refl _) _⟩
    ·rw [List.length_append]; simp; omega
    ·rw [List.length_append, ← HK.out]; simp
    ·rw [List.length_append, List.length_singleton, HN.out, List.map_append]; rfl
   case measure => simp [intOf]; have := HK.out; omega
  ·have e : L.length = es.length := by omega
   obtain ⟨h1, h2, h3⟩ := hfill.done e (by unfold maxLen; omega)
   have e2 : L.map (·.2.1) = es := by rw [← HTK.out, e, List.take_length]
   rw [e2] at h1
   have H1 := Lib.hid h1
   have HE := Lib.hid e
   clear h1 e e2 hfill
   go_wp2
   go_ret
   exact ⟨_, _, rfl, H1.out, h2, h3, hbel⟩

set_option maxHeartbeats 1000000 in
theorem eqCommit_any (s a m s' a' m' : Int) (A B : Option Addr) (l r : List UInt8) (c d : Nat) (w : World) (hl : l.length ≤ 9223372036854775807) (hA : Bs w A l) (hB : Bs w B r) :
  Calls Tryz.prog 76 #[.agg #[.int .i64 s, .int .i64 a, .int .i64 m, .slice A l.length c], .agg #[.int .i64 s', .int .i64 a', .int .i64 m', .slice B r.length d]] w fun e w' => e = .returned (.bool (decide (s = s' ∧ a = a' ∧ m = m' ∧ l = r))) ∧ Below w.heap.size w w' := by
 have hb0 := (((Below.refl w.heap.size w).alloc (Nat.le_refl _) (.cells #[.int .i64 s, .int .i64 a, .int .i64 m, .slice A l.length c] 102))).alloc (by simp) (.cells #[.int .i64 s', .int .i64 a', .int .i64 m', .slice B r.length d] 102)
 have hA2 := hA.below hb0
 have hB2 := hB.below hb0
 by_cases h1 : s = s'
 ·have e1 : (s != s') = false := by simp [h1]
  generalize hq : decide (a = a' ∧ m = m' ∧ l = r) = q
  have HQ := Lib.hid hq
  have HR : Hid (decide (s = s' ∧ a = a' ∧ m = m' ∧ l = r) = q) := Lib.hid (by rw [← hq]; simp [h1])
  clear hq h1
  go_enter Tryz.func76, Tryz.ntmps76
  go_wp2_with fail
  refine (eqEdit_any a m a' m' A B l r c d _ hl (by exact hA2) (by exact hB2)).mono ?_
  rintro e w1 ⟨rfl, hb1⟩
  rw [HQ.out]
  have hfin := below_then hb0 hb1
  cases q
  all_goals
   go_wp2
   go_ret
   exact ⟨ret_bool HR.out.symm, hfin⟩
 ·have HR : Hid (decide (s = s' ∧ a = a' ∧ m = m' ∧ l = r) = false) := Lib.hid (by simp [h1])
  have e1 : (s != s') = true := by simpa using h1
  clear h1
  go_enter Tryz.func76, Tryz.ntmps76
  go_wp2
  go_ret
  exact ⟨ret_bool HR.out.symm, hb0⟩
end Go.Proofs.YtaekanhjkpoifaaGreatDoor

/-
 Chapter 10, the laws' equality of lists (eqCommitS): contract. Own work.
-/
namespace Go.Proofs.YtaekanhjkpoifaaGreatDoor
open Go.RowKit P
set_option linter.unusedVariables false
set_option linter.unusedSimpArgs false
set_option maxRecDepth 100000

set_option maxHeartbeats 4000000 in
theorem eqCommitS_any (A B : Option Addr) (es fs : List Cm) (c d : Nat) (w : World) (hl : es.length ≤ 9223372036854775807) (hA : Cms w A es) (hB : Cms w B fs) :
  Calls Tryz.prog 40 #[.slice A es.length c, .slice B fs.length d] w fun e w' => e = .returned (.bool (decide (es = fs))) ∧ Below w.heap.size w w' := by
 by_cases hlen : es.length = fs.length
 ·have hne : ((es.length : Int) != (fs.length : Int)) = false := by simp [hlen]
  have HLEN := Lib.hid hlen
  have hle : es.length ≤ fs.length := by omega
  clear hlen
  go_enter Tryz.func40, Tryz.ntmps40
  go_wp2
  go_loopw [5] (fun i wr => ∃ k : Nat, k ≤ es.length ∧ i = .int .i64 k ∧ es.take k = fs.take k ∧ Below w.heap.size w wr)
   (fun i _ => es.length - (intOf i).toNat)
  case atStart => exact ⟨0, Nat.zero_le _, rfl, by simp, Below.refl _ _⟩
  case round =>
   obtain ⟨k, hk, rfl, htake, hb⟩ := hrel
   by_cases hlt : k < es.length
   ·have hlt2 : k < fs.length := by omega
    obtain ⟨b1, off1, s, a, m, B1, p, d1, rfl, hbl1, hek1, k0, k1, k2, k3, _, _, _, hpd1, hdm1, hB1⟩ := (hA.below hb).at_ k hlt
    obtain ⟨b2, off2, s', a', m', B2, q, d2, rfl, hbl2, hek2, s0', s1', s2', s3', _, _, _, hpd2, hdm2, hB2⟩ := (hB.below hb).at_ k hlt2
    have HT := Lib.hid htake
    clear htake
    have hst : es.take (k + 1) = fs.take (k + 1) ↔ (s = s' ∧ a = a' ∧ m = m' ∧ p = q) := by
     rw [List.take_succ_eq_append_getElem hlt, List.take_succ_eq_append_getElem hlt2, HT.out, List.append_cancel_left_eq, hek1, hek2]
     simp only [List.cons.injEq, and_true, Prod.mk.injEq]
    have HS := Lib.hid hst
    clear hst hek1 hek2
    have hi0 : (0 : Int) ≤ (k : Int) := by omega
    have hi1 : (k : Int) < (es.length : Int) := by omega
    have hi2 : (k : Int) < (fs.length : Int) := by omega
    have hdm9 : p.length ≤ 9223372036854775807 := by unfold maxLen at hdm1; omega
    have HB1 := Lib.hid hB1
    have HB2 := Lib.hid hB2
    generalize hq : decide (s = s' ∧ a = a' ∧ m = m' ∧ p = q) = z
    have HQ := Lib.hid hq
    clear hq hB1 hB2
    go_wp2_with fail
    refine wp_region_held_drew (S := (fun V => V.cell? ⟨b1, off1 + k * 4, none⟩ = some (.int .i64 s) ∧ V.cell? ⟨b1, off1 + k * 4 + 1, none⟩ = some (.int .i64 a) ∧ V.cell? ⟨b1, off1 + k * 4 + 2, none⟩ = some (.int .i64 m) ∧ V.cell? ⟨b1, off1 + k * 4 + 3, none⟩ = some (.slice B1 p.length d1) ∧ V.cell? ⟨b2, off2 + k * 4, none⟩ = some (.int .i64 s') ∧ V.cell? ⟨b2, off2 + k * 4 + 1, none⟩ = some (.int .i64 a') ∧ V.cell? ⟨b2, off2 + k * 4 + 2, none⟩ = some (.int .i64 m') ∧ V.cell? ⟨b2, off2 + k * 4 + 3, none⟩ = some (.slice B2 q.length d2))) (by kernel_rfl) (by exact ⟨k0, k1, k2, k3, s0', s1', s2', s3'⟩) (fun hHeld => ?_)
    refine wpAnyH_take (i := 0) (oi := ?_) (v := ?_) ?_ ?_ ?_ ?_ ?_ ?_ (by exact hHeld) ?_
    rotate_left 2
    ·(simp only [List.getElem?_toArray, List.getElem?_cons_zero]; try rfl)
    ·kernel_rfl
    ·kernel_rfl
    ·kernel_rfl
    ·exact fun _ _ _ h => h
    ·refine Or.inl ⟨by rfl, ?_⟩
     (intro V hSV; (try dsimp only at hSV); obtain ⟨q0, q1, q2, q3, q4, q5, q6, q7⟩ := hSV; go_simp; try with_reducible rfl)
    (try simp only [LY9])
    refine wpAnyH_take (i := 1) (oi := ?_) (v := ?_) ?_ ?_ ?_ ?_ ?_ ?_ (by exact hHeld) ?_
    rotate_left 2
    ·(simp only [LX9]; try rfl)
    ·kernel_rfl
    ·kernel_rfl
    ·kernel_rfl
    ·exact fun _ _ _ h => h
    ·refine Or.inl ⟨by rfl, ?_⟩
     (intro V hSV; (try dsimp only at hSV); obtain ⟨q0, q1, q2, q3, q4, q5, q6, q7⟩ := hSV; go_simp; try with_reducible rfl)
    (try simp only [LY9])
    refine wpAnyH_take (i := 2) (oi := ?_) (v := ?_) ?_ ?_ ?_ ?_ ?_ ?_ (by exact hHeld) ?_
    rotate_left 2
    ·(simp only [LX9]; try rfl)
    ·kernel_rfl
    ·kernel_rfl
    ·kernel_rfl
    ·exact fun _ _ _ h => h
    ·refine Or.inl ⟨by rfl, ?_⟩
     (intro V hSV; (try dsimp only at hSV); obtain ⟨q0, q1, q2, q3, q4, q5, q6, q7⟩ := hSV; go_simp; try with_reducible rfl)
    (try simp only [LY9])
    refine wpAnyH_take (i := 3) (oi := ?_) (v := ?_) ?_ ?_ ?_ ?_ ?_ ?_ (by exact hHeld) ?_
    rotate_left 2
    ·(simp only [LX9]; try rfl)
    ·kernel_rfl
    ·kernel_rfl
    ·kernel_rfl
    ·exact fun _ _ _ h => h
    ·refine Or.inl ⟨by rfl, ?_⟩
     (intro V hSV; (try dsimp only at hSV); obtain ⟨q0, q1, q2, q3, q4, q5, q6, q7⟩ := hSV; go_simp; try with_reducible rfl)
    (try simp only [LY9])
    refine wpAnyH_take (i := 4) (oi := ?_) (v := ?_) ?_ ?_ ?_ ?_ ?_ ?_ (by exact hHeld) ?_
    rotate_left 2
    ·(simp only [LX9]; try rfl)
    ·kernel_rfl
    ·kernel_rfl
    ·kernel_rfl
    ·exact fun _ _ _ h => h
    ·refine Or.inl ⟨by rfl, ?_⟩
     (intro V hSV; (try dsimp only at hSV); obtain ⟨q0, q1, q2, q3, q4, q5, q6, q7⟩ := hSV; go_simp; try with_reducible rfl)
    (try simp only [LY9])
    refine wpAnyH_take (i := 5) (oi := ?_) (v := ?_) ?_ ?_ ?_ ?_ ?_ ?_ (by exact hHeld) ?_
    rotate_left 2
    ·(simp only [LX9]; try rfl)
    ·kernel_rfl
    ·kernel_rfl
    ·kernel_rfl
    ·exact fun _ _ _ h => h
    ·refine Or.inl ⟨by rfl, ?_⟩
     (intro V hSV; (try dsimp only at hSV); obtain ⟨q0, q1, q2, q3, q4, q5, q6, q7⟩ := hSV; go_simp; try with_reducible rfl)
    (try simp only [LY9])
    refine wpAnyH_take (i := 6) (oi := ?_) (v := ?_) ?_ ?_ ?_ ?_ ?_ ?_ (by exact hHeld) ?_
    rotate_left 2
    ·(simp only [LX9]; try rfl)
    ·kernel_rfl
    ·kernel_rfl
    ·kernel_rfl
    ·exact fun _ _ _ h => h
    ·refine Or.inl ⟨by rfl, ?_⟩
     (intro V hSV; (try dsimp only at hSV); obtain ⟨q0, q1, q2, q3, q4, q5, q6, q7⟩ := hSV; go_simp; try with_reducible rfl)
    (try simp only [LY9])
    refine wpAnyH_take (i := 7) (oi := ?_) (v := ?_) ?_ ?_ ?_ ?_ ?_ ?_ (by exact hHeld) ?_
    rotate_left 2
    ·(simp only [LX9]; try rfl)
    ·kernel_rfl
    ·kernel_rfl
    ·kernel_rfl
    ·exact fun _ _ _ h => h
    ·refine Or.inl ⟨by rfl, ?_⟩
     (intro V hSV; (try dsimp only at hSV); obtain ⟨q0, q1, q2, q3, q4, q5, q6, q7⟩ := hSV; go_simp; try with_reducible rfl)
    (try simp only [LY9])
    refine wpAnyH_ready (rs := [8]) (by kernel_rfl) (by simp) ?_
    refine AllReadyH.cons rfl (fun K hK => ?_) AllReadyH.nil
    go_simp
    refine (eqCommit_any s a m s' a' m' B1 B2 p q d1 d2 _ hdm9 (by have h9 := HB1.out; exact h9) (by have h9 := HB2.out; exact h9)).mono ?_
    rintro e w1 ⟨rfl, hb1⟩
    rw [HQ.out]
    have hb1 : Below wr.heap.size wr w1 := ⟨hb1.os, hb1.tape, hb1.output, hb1.size, hb1.block⟩
    go_wp2_with fail
    refine hK.out _ _ (by exact ⟨((hb1).cell (p := ⟨b1, off1 + k * 4, none⟩) hbl1).trans k0, ((hb1).cell (p := ⟨b1, off1 + k * 4 + 1, none⟩) hbl1).trans k1, ((hb1).cell (p := ⟨b1, off1 + k * 4 + 2, none⟩) hbl1).trans k2, ((hb1).cell (p := ⟨b1, off1 + k * 4 + 3, none⟩) hbl1).trans k3, ((hb1).cell (p := ⟨b2, off2 + k * 4, none⟩) hbl2).trans s0', ((hb1).cell (p := ⟨b2, off2 + k * 4 + 1, none⟩) hbl2).trans s1', ((hb1).cell (p := ⟨b2, off2 + k * 4 + 2, none⟩) hbl2).trans s2', ((hb1).cell (p := ⟨b2, off2 + k * 4 + 3, none⟩) hbl2).trans s3'⟩) (fun hHeld => ?_)
    clear hK K
    (try simp only [LY9])
    refine wpAnyH_take (i := 9) (oi := ?_) (v := ?_) ?_ ?_ ?_ ?_ ?_ ?_ (by exact hHeld) ?_
    rotate_left 2
    ·(simp only [LX9]; try rfl)
    ·kernel_rfl
    ·kernel_rfl
    ·kernel_rfl
    ·exact fun _ _ _ h => h
    ·refine Or.inl ⟨by rfl, ?_⟩
     (intro V hSV; (try dsimp only at hSV); obtain ⟨q0, q1, q2, q3, q4, q5, q6, q7⟩ := hSV; go_simp; try with_reducible rfl)
    (try simp only [LY9])
    refine wpAnyH_done (by kernel_rfl) ?_ _
    have hb9 := below_then hb hb1
    cases z
    ·go_wp2
     go_ret
     have : es ≠ fs := by
      intro e
      have h1 := of_decide_eq_false HQ.out
      have h2 := HS.out.1 (by rw [e])
      exact h1 h2
     exact ⟨by simp [this], hb9⟩
    ·go_wp2
     go_roundw
     case rel => exact ⟨k + 1, by omega, by go_num, HS.out.2 (of_decide_eq_true HQ.out), hb9⟩
     case measure => simp [intOf]; omega
   ·go_wp2
    go_ret
    have e1 : k = es.length := by omega
    subst e1
    rw [List.take_length] at htake
    have e2 : es = fs := by rw [htake, HLEN.out, List.take_length]
    exact ⟨by simp [e2], hb⟩
 ·have hne : ((es.length : Int) != (fs.length : Int)) = true := by simp; omega
  go_enter Tryz.func40, Tryz.ntmps40
  go_wp2
  go_ret
  exact ⟨by simp; intro e; exact hlen (by rw [e]), Below.refl _ _⟩
end Go.Proofs.YtaekanhjkpoifaaGreatDoor

/-
 Chapter 5, the program's EditOk and the methods under it: contracts. Own work.
-/
namespace Go.Proofs.YtaekanhjkpoifaaGreatDoor
open Go.RowKit P
set_option linter.unusedVariables false
set_option linter.unusedSimpArgs false
set_option maxRecDepth 100000

theorem wrap_end {l : List UInt8} {a m : Int} (hm : 0 ≤ m) (hm2 : m ≤ 9223372036854775807) (hl : l.length ≤ 400) (ha : isBound l a = true) : isBound l (IntKind.i64.wrap (a + m)) = isBound l (a + m) := by
 have h := isBound_range ha
 by_cases h1 : a + m ≤ 9223372036854775807
 ·rw [IntWalk.i64_in _ ⟨by omega, h1⟩]
 ·rw [isBound_out _ (a + m) (by omega), isBound_out]
  left
  rw [IntKind.wrap_i64]
  omega

/-- Whether the edit cuts whole code points out of a text. -/
def edWhole (l : List UInt8) (a m : Int) : Bool := decide (0 ≤ m) && (isBound l a && isBound l (a + m))

set_option maxHeartbeats 2000000 in
theorem cutsWhole_any (a m : Int) (Ap : Option Addr) (n cp : Nat) (A : Option Addr) (l : List UInt8) (c : Nat) (w : World) (hl : l.length ≤ 400) (hm9 : m ≤ 9223372036854775807) (hA : Bs w A l) :
  Calls Tryz.prog 152 #[.agg #[.int .i64 a, .int .i64 m, .slice Ap n cp], .slice A l.length c] w fun e w' => e = .returned (.bool (edWhole l a m)) ∧ Below w.heap.size w w' := by
 have hb0 := (Below.refl w.heap.size w).alloc (Nat.le_refl _) (.cells #[.int .i64 a, .int .i64 m, .slice Ap n cp] 71)
 have bE := EBox.new w a m Ap n cp
 obtain ⟨q1, hq1⟩ : ∃ q, isBound l a = q := ⟨_, rfl⟩
 obtain ⟨z, hz⟩ : ∃ z, IntKind.i64.wrap (a + m) = z := ⟨_, rfl⟩
 obtain ⟨q2, hq2⟩ : ∃ q, isBound l z = q := ⟨_, rfl⟩
 obtain ⟨R, hR⟩ : ∃ R, edWhole l a m = R := ⟨_, rfl⟩
 have F0 : m < 0 → R = false := fun h => by rw [← hR]; unfold edWhole; rw [decide_eq_false (by omega)]; rfl
 have F1 : q1 = false → R = false := fun h => by rw [← hR]; unfold edWhole; rw [hq1, h]; simp
 have F2 : 0 ≤ m → q1 = true → R = q2 := fun h0 h => by
  rw [← hR, ← hq2, ← hz, wrap_end h0 hm9 hl (hq1.trans h)]
  unfold edWhole
  rw [decide_eq_true h0, hq1, h]; simp
 have HQ1 := Lib.hid hq1
 have HQ2 := Lib.hid hq2
 have G0 := Lib.hid F0
 have G1 := Lib.hid F1
 have G2 := Lib.hid F2
 have HZ := Lib.hid hz
 rw [hR]
 clear hq1 hq2 hR hz F0 F1 F2
 by_cases hneg : m < 0
 ·have e1 := G0.out hneg
  have hg : (decide (m ≥ 0)) = false := decide_eq_false (by omega)
  go_enter Tryz.func152, Tryz.ntmps152
  go_wp2
  go_ret
  exact ⟨ret_bool e1.symm, hb0⟩
 have hm0 : 0 ≤ m := by omega
 go_enter Tryz.func152, Tryz.ntmps152
 go_wp2_with fail
 generalize w.alloc (.cells #[.int .i64 a, .int .i64 m, .slice Ap n cp] 71) = W1 at *
 refine (isBoundary_any A l c a _ (by omega) (by exact hA.below hb0)).mono ?_
 rintro e w2 ⟨rfl, rfl⟩
 rw [HQ1.out]
 have k0 := bE.c0
 have k1 := bE.c1
 have k2 := bE.c2
 cases q1
 ·have e1 := G1.out rfl
  go_wp2
  go_ret
  exact ⟨ret_bool e1.symm, hb0⟩
 have e1 := G2.out hm0 rfl
 go_wp2_with fail
 refine (edEnd_any a m z Ap n cp _ HZ.out).mono ?_
 rintro e w3 ⟨rfl, hb3⟩
 have hb3 := below_then hb0 hb3
 clear k0 k1 k2
 go_wp2_with fail
 refine (isBoundary_any A l c _ _ (by omega) (by exact hA.below hb3)).mono ?_
 rintro e w4 ⟨rfl, rfl⟩
 rw [HQ2.out]
 go_wp2
 go_ret
 exact ⟨ret_bool e1.symm, hb3⟩

/-- Whether an edit fits a text, apart from the length of the result. -/
def edFits (l : List UInt8) (a m : Int) (p : List UInt8) : Bool := isText p && edWhole l a m

set_option maxHeartbeats 2000000 in
theorem fits_any (a m : Int) (Ap : Option Addr) (p : List UInt8) (cp : Nat) (A : Option Addr) (l : List UInt8) (c : Nat) (w : World) (hl : l.length ≤ 400) (hpc : p.length ≤ cp) (hcp9 : cp ≤ 9223372036854775807) (hm9 : m ≤ 9223372036854775807) (hT : Tab w) (hA : Bs w A l) (hP : Bs w Ap p) :
  Calls Tryz.prog 132 #[.agg #[.int .i64 a, .int .i64 m, .slice Ap p.length cp], .slice A l.length c] w fun e w' => e = .returned (.bool (edFits l a m p)) ∧ Below w.heap.size w w' := by
 obtain ⟨q1, hq1⟩ : ∃ q, edWhole l a m = q := ⟨_, rfl⟩
 obtain ⟨q3, hq3⟩ : ∃ q, isText p = q := ⟨_, rfl⟩
 rw [show edFits l a m p = (q3 && q1) by rw [← hq1, ← hq3]; rfl]
 have HQ1 := Lib.hid hq1
 have HQ3 := Lib.hid hq3
 have hal := (Below.refl w.heap.size w).alloc (Nat.le_refl _) (.cells #[.int .i64 a, .int .i64 m, .slice Ap p.length cp] 71)
 have bE := EBox.new w a m Ap p.length cp
 clear hq1 hq3
 go_enter Tryz.func132, Tryz.ntmps132
 go_wp2_with fail
 generalize w.alloc (.cells #[.int .i64 a, .int .i64 m, .slice Ap p.length cp] 71) = W1 at *
 refine (textOk_any Ap p cp _ hpc hcp9 (by exact hT.below hal) (by exact hP.below hal)).mono ?_
 rintro e w3 ⟨rfl, n3, rfl⟩
 rw [HQ3.out]
 have hb1 := below_drewN (Below.refl W1.heap.size W1) n3
 have bE := bE.below hb1
 have hb3 := below_then hal hb1
 generalize W1.drewN n3 = w3 at *
 clear hb1 hal
 have k0 := bE.c0
 have k1 := bE.c1
 have k2 := bE.c2
 cases q3
 ·go_wp2
  go_ret
  exact ⟨rfl, hb3⟩
 go_wp2_with fail
 refine (cutsWhole_any a m Ap p.length cp A l c _ hl hm9 (by exact hA.below hb3)).mono ?_
 rintro e w4 ⟨rfl, hb4⟩
 rw [HQ1.out]
 have hb4 := below_then hb3 hb4
 clear k0 k1 k2
 go_wp2
 go_ret
 exact ⟨rfl, hb4⟩

set_option maxHeartbeats 2000000 in
theorem implEditOk_any (A : Option Addr) (l : List UInt8) (c : Nat) (a m : Int) (Ap : Option Addr) (p : List UInt8) (cp : Nat) (w : World) (hl : l.length ≤ c) (hc9 : c ≤ 9223372036854775807) (hpc : p.length ≤ cp) (hcp9 : cp ≤ 9223372036854775807) (hm9 : m ≤ 9223372036854775807) (hT : Tab w) (hA : Bs w A l) (hP : Bs w Ap p) :
  Calls Tryz.prog 162 #[.slice A l.length c, .agg #[.int .i64 a, .int .i64 m, .slice Ap p.length cp]] w fun e w' => e = .returned (.bool (edOk l a m p)) ∧ Below w.heap.size w w' := by
 obtain ⟨q0, hq0⟩ : ∃ q, isText l = q := ⟨_, rfl⟩
 obtain ⟨q1, hq1⟩ : ∃ q, edFits l a m p = q := ⟨_, rfl⟩
 obtain ⟨R, hR⟩ : ∃ R, edOk l a m p = R := ⟨_, rfl⟩
 have hRq : R = (q0 && (q1 && decide ((l.length : Int) - m + p.length ≤ 400))) := by
  rw [← hR, ← hq0, ← hq1]
  unfold edOk edFits edWhole
  cases decide (0 ≤ m) <;> cases isText l <;> cases isText p <;> simp
 have hlen0 : q0 = true → l.length ≤ 400 := fun h => isText_len (hq0.trans h)
 have hrg : q1 = true → 0 ≤ m ∧ m ≤ (l.length : Int) ∧ p.length ≤ 400 := fun h => by
  rw [← hq1] at h
  unfold edFits edWhole at h
  simp only [Bool.and_eq_true, decide_eq_true_eq] at h
  have g1 := isBound_range h.2.2.1
  have g2 := isBound_range h.2.2.2
  have g3 := isText_len h.1
  omega
 have F0 : q0 = false → R = false := fun h => by rw [hRq, h]; rfl
 have F1 : q1 = false → R = false := fun h => by rw [hRq, h]; simp
 have F6 : q0 = true → q1 = true → R = decide ((l.length : Int) - m + p.length ≤ 400) := fun h1 h2 => by rw [hRq, h1, h2]; simp
 have HQ0 := Lib.hid hq0
 have HQ1 := Lib.hid hq1
 have HRG := Lib.hid hrg
 have HL0 := Lib.hid hlen0
 have G0 := Lib.hid F0
 have G1 := Lib.hid F1
 have G6 := Lib.hid F6
 have hal := (Below.refl w.heap.size w).alloc (Nat.le_refl _) (.cells #[.int .i64 a, .int .i64 m, .slice Ap p.length cp] 71)
 have bE := EBox.new w a m Ap p.length cp
 rw [hR]
 clear hq0 hq1 hR hRq hrg hlen0 F0 F1 F6
 go_enter Tryz.func162, Tryz.ntmps162
 go_wp2_with fail
 generalize w.alloc (.cells #[.int .i64 a, .int .i64 m, .slice Ap p.length cp] 71) = W1 at *
 refine (textOk_any A l c _ hl hc9 (by exact hT.below hal) (by exact hA.below hal)).mono ?_
 rintro e w2 ⟨rfl, n2, rfl⟩
 rw [HQ0.out]
 have hb1 := below_drewN (Below.refl W1.heap.size W1) n2
 have bE := bE.below hb1
 have hb2 := below_then hal hb1
 generalize W1.drewN n2 = w2 at *
 have k0 := bE.c0
 have k1 := bE.c1
 have k2 := bE.c2
 clear hb1 hal
 cases q0
 ·have e1 := G0.out rfl
  go_wp2
  go_ret
  exact ⟨ret_bool e1.symm, hb2⟩
 have hl4 := HL0.out rfl
 go_wp2_with fail
 refine (fits_any a m Ap p cp A l c _ hl4 hpc hcp9 hm9 (by exact hT.below hb2) (by exact hA.below hb2) (by exact hP.below hb2)).mono ?_
 rintro e w4 ⟨rfl, hb4⟩
 rw [HQ1.out]
 have bE := bE.below hb4
 have hb4 := below_then hb2 hb4
 clear hb2 k0 k1 k2
 have k0 := bE.c0
 have k1 := bE.c1
 have k2 := bE.c2
 cases q1
 ·have e1 := G1.out rfl
  go_wp2
  go_ret
  exact ⟨ret_bool e1.symm, hb4⟩
 obtain ⟨hm0, hm4, hp4⟩ := HRG.out rfl
 have e1 := G6.out (by trivial) (by trivial)
 go_wp2
 go_ret
 exact ⟨ret_bool e1.symm, hb4⟩
end Go.Proofs.YtaekanhjkpoifaaGreatDoor

/-
 Chapter 5, the program's methods after and back, whereOk, EditDo and EditBack: contracts. Own work.
 Chapter 5, the program's whereOk, EditDo and EditBack: contracts. Own work.
-/
namespace Go.Proofs.YtaekanhjkpoifaaGreatDoor
open Go.RowKit P
set_option linter.unusedVariables false
set_option linter.unusedSimpArgs false
set_option maxRecDepth 100000

set_option maxHeartbeats 4000000 in
theorem edAfter_any (A : Option Addr) (l : List UInt8) (c : Nat) (a m : Int) (Ap : Option Addr) (p : List UInt8) (cp : Nat) (w : World) (hl : l.length ≤ c) (hc9 : c ≤ 9223372036854775807) (hpc : p.length ≤ cp) (hPl : Pl A c) (hA : Bs w A l) (hP : Bs w Ap p)
  (ha : 0 ≤ a) (hm : 0 ≤ m) (ham : a + m ≤ l.length) (hl4 : l.length ≤ 500000) (hp4 : p.length ≤ 500000) :
  Calls Tryz.prog 148 #[.agg #[.int .i64 a, .int .i64 m, .slice Ap p.length cp], .slice A l.length c] w (Makes w (edText l a m p)) := by
 have hb0 := (Below.refl w.heap.size w).alloc (Nat.le_refl _) (.cells #[.int .i64 a, .int .i64 m, .slice Ap p.length cp] 71)
 have bE := EBox.new w a m Ap p.length cp
 obtain ⟨T, hT⟩ : ∃ T, edText l a m p = T := ⟨_, rfl⟩
 obtain ⟨k1, hk1⟩ : ∃ k : Nat, a = (k : Int) := ⟨a.toNat, by omega⟩
 obtain ⟨k2, hk2⟩ : ∃ k : Nat, a + m = (k : Int) := ⟨(a + m).toNat, by omega⟩
 have hT1 : l.take k1 ++ (p ++ l.drop k2) = T := by
  rw [← hT]; unfold edText; rw [show a.toNat = k1 by omega, show (a + m).toNat = k2 by omega]
 have hlen1 : (l.take k1).length = k1 := by rw [List.length_take]; omega
 have hlen2 : (l.drop k2).length = l.length - k2 := by rw [List.length_drop]
 have hs1 : ∀ W, (Instr.slice 22 (.slice A l.length c) none (some (.int .i64 a)) none).run Tryz.prog W = .ok (.slice A k1 c) W := fun W => by
  rw [hk1]
  exact slc_head A l.length c k1 hPl.1 hPl.2 (by omega) W
 obtain ⟨A2, hs2', hB2, _, _⟩ := slc_tail A l.length c k2 w l hPl.1 hPl.2 rfl (by omega) hl hc9 hA
 have hs2 : ∀ W, (Instr.slice 22 (.slice A l.length c) (some (.int .i64 (a + m))) none none).run Tryz.prog W = .ok (.slice A2 (l.length - k2) (c - k2)) W := fun W => by
  rw [hk2]
  exact hs2' W
 have hB1 := hA.head9 k1 (by omega)
 obtain ⟨X, hX⟩ : ∃ X, l.take k1 = X := ⟨_, rfl⟩
 obtain ⟨Y, hY⟩ : ∃ Y, l.drop k2 = Y := ⟨_, rfl⟩
 rw [hX] at hB1 hlen1 hT1
 rw [hY] at hB2 hlen2 hT1
 have hk1c : k1 ≤ c := by omega
 have hk2c : l.length - k2 ≤ c - k2 := by omega
 have hk14 : k1 ≤ 500000 := by omega
 have hwr : IntKind.i64.wrap (a + m) = a + m := IntWalk.i64_in _ ⟨by omega, by omega⟩
 have HB1 := Lib.hid hB1
 have HB2 := Lib.hid hB2
 have HT1 := Lib.hid hT1
 have HL1 := Lib.hid hlen1
 have HL2 := Lib.hid hlen2
 have HWR := Lib.hid hwr
 rw [hT]
 clear hT hX hY hB1 hB2 hT1 hlen1 hlen2 hk1 hk2 hs2' hwr
 go_enter Tryz.func148, Tryz.ntmps148
 go_wp2_with fail
 generalize w.alloc (.cells #[.int .i64 a, .int .i64 m, .slice Ap p.length cp] 71) = W1 at *
 have k0 := bE.c0
 have k1' := bE.c1
 have k2' := bE.c2
 have HBE := Lib.hid bE.blk
 have HB0 := Lib.hid hb0
 have hconc : ∀ (W : World), Below w.heap.size w W → Calls Tryz.prog 163 #[.slice (some ⟨W.heap.size, 0, none⟩) 3 3] (W.alloc (.cells #[.slice A k1 c, .slice Ap p.length cp, .slice A2 (l.length - k2) (c - k2)] 22)) fun e w' => ∃ v, e = .returned v ∧ Own w' W.heap.size v T ∧ Below W.heap.size W w' := fun W hW => by
  have := concatBy3_e A Ap A2 X p Y c cp (c - k2) W (by rw [HL1.out]; exact hk1c) hpc (by rw [HL2.out]; exact hk2c) (by rw [HL1.out, HL2.out]; omega) (HB1.out.below hW) (hP.below hW) (HB2.out.below hW)
  rw [HL1.out, HL2.out, HT1.out] at this
  exact this
 have HC := Lib.hid hconc
 clear bE hb0 hconc
 go_region_held3 (fun V => V.cell? ⟨w.heap.size, 0, none⟩ = some (.int .i64 a) ∧ V.cell? ⟨w.heap.size, 1, none⟩ = some (.int .i64 m) ∧ V.cell? ⟨w.heap.size, 2, none⟩ = some (.slice Ap p.length cp))
  (first | exact ⟨k0, k1', k2'⟩ | exact ⟨HE3.out.cell 0, HE3.out.cell 1, HE3.out.cell 2⟩ | exact ⟨HE4.out.cell 0, HE4.out.cell 1, HE4.out.cell 2⟩ | go_keep) (first
  | (go_at_call 164; refine (edEnd_any a m (a + m) Ap p.length cp _ HWR.out).mono ?_; rintro e w3 ⟨rfl, hb3⟩; have hb3 : Below W1.heap.size W1 w3 := ⟨hb3.os, hb3.tape, hb3.output, hb3.size, hb3.block⟩; have HE3 := Lib.hid (HBE.out.below hb3); have HB3 := Lib.hid (below_then HB0.out hb3); clear hb3)
  | (go_at_call 163; refine (HC.out w3 HB3.out).mono ?_; rintro e w4 ⟨v4, rfl, hown4, hb4⟩; have HE4 := Lib.hid (HE3.out.below hb4); have HO4 := Lib.hid hown4; have HB4 := Lib.hid (below_then HB3.out hb4); clear hown4 hb4))
 have hsz := HB3.out.size
 go_wp2
 go_ret
 exact ⟨v4, rfl, HO4.out.mono hsz, HB4.out⟩

end Go.Proofs.YtaekanhjkpoifaaGreatDoor

namespace Go.Proofs.YtaekanhjkpoifaaGreatDoor
open Go.RowKit P
set_option linter.unusedVariables false
set_option linter.unusedSimpArgs false
set_option maxRecDepth 100000

set_option maxHeartbeats 4000000 in
theorem whereDo_any (A : Option Addr) (l : List UInt8) (c : Nat) (a m : Int) (Ap : Option Addr) (p : List UInt8) (cp : Nat) (w : World) (hl : l.length ≤ c) (hc9 : c ≤ 9223372036854775807) (hpc : p.length ≤ cp) (hcp9 : cp ≤ 9223372036854775807) (hm9 : m ≤ 9223372036854775807) (hPl : Pl A c) (hT : Tab w) (hA : Bs w A l) (hP : Bs w Ap p) :
  Calls Tryz.prog 147 #[.slice A l.length c, .agg #[.int .i64 a, .int .i64 m, .slice Ap p.length cp], .func (.func 148) #[.agg #[.int .i64 a, .int .i64 m, .slice Ap p.length cp]] #[]] w (MakesE (edDo l a m p) (edOk l a m p) w) := by
 obtain ⟨q, hq⟩ : ∃ q, edOk l a m p = q := ⟨_, rfl⟩
 obtain ⟨T, hT'⟩ : ∃ T, edDo l a m p = T := ⟨_, rfl⟩
 have hal := (Below.refl w.heap.size w).alloc (Nat.le_refl _) (.cells #[.int .i64 a, .int .i64 m, .slice Ap p.length cp] 71)
 have HQ := Lib.hid hq
 have HT := Lib.hid hT'
 rw [hT', hq]
 clear hq hT'
 go_enter Tryz.func147, Tryz.ntmps147
 go_wp2_with fail
 generalize w.alloc (.cells #[.int .i64 a, .int .i64 m, .slice Ap p.length cp] 71) = W1 at *
 refine (implEditOk_any A l c a m Ap p cp _ hl hc9 hpc hcp9 hm9 (by exact hT.below hal) (by exact hA.below hal) (by exact hP.below hal)).mono ?_
 rintro e w2 ⟨rfl, hb2⟩
 rw [HQ.out]
 have hb2 := below_then hal hb2
 clear hal
 cases q
 ·have hT0 : T = [] := by
   rw [← HT.out]; unfold edDo; rw [HQ.out]; rfl
  go_wp2
  go_ret2
  exact ⟨.slice none 0 0, rfl, by rw [hT0]; exact Own.nil _ _, hb2⟩
 have hr := edOk_range HQ.out
 have hT1 : edText l a m p = T := by rw [← HT.out]; unfold edDo; rw [HQ.out]; rfl
 have HT1 := Lib.hid hT1
 clear hT1
 go_wp2_with fail
 refine (edAfter_any A l c a m Ap p cp _ hl hc9 hpc hPl (by exact hA.below hb2) (by exact hP.below hb2) (by omega) (by omega) (by omega) (by omega) (by omega)).mono ?_
 rintro e w3 ⟨v3, rfl, hown3, hb3⟩
 rw [HT1.out] at hown3
 have hown3 := hown3.mono (base' := w.heap.size) hb2.size
 have hb3 := below_then hb2 hb3
 go_wp2
 go_ret2
 exact ⟨v3, rfl, hown3, hb3⟩

set_option maxHeartbeats 4000000 in
theorem implEditDo_any (A : Option Addr) (l : List UInt8) (c : Nat) (a m : Int) (Ap : Option Addr) (p : List UInt8) (cp : Nat) (w : World) (hl : l.length ≤ c) (hc9 : c ≤ 9223372036854775807) (hpc : p.length ≤ cp) (hcp9 : cp ≤ 9223372036854775807) (hm9 : m ≤ 9223372036854775807) (hPl : Pl A c) (hT : Tab w) (hA : Bs w A l) (hP : Bs w Ap p) :
  Calls Tryz.prog 126 #[.slice A l.length c, .agg #[.int .i64 a, .int .i64 m, .slice Ap p.length cp]] w (MakesE (edDo l a m p) (edOk l a m p) w) := by
 obtain ⟨q, hq⟩ : ∃ q, edOk l a m p = q := ⟨_, rfl⟩
 obtain ⟨T, hT'⟩ : ∃ T, edDo l a m p = T := ⟨_, rfl⟩
 have hal := (Below.refl w.heap.size w).alloc (Nat.le_refl _) (.cells #[.int .i64 a, .int .i64 m, .slice Ap p.length cp] 71)
 have HQ := Lib.hid hq
 have HT := Lib.hid hT'
 rw [hT', hq]
 clear hq hT'
 go_enter Tryz.func126, Tryz.ntmps126
 go_wp2_with fail
 generalize w.alloc (.cells #[.int .i64 a, .int .i64 m, .slice Ap p.length cp] 71) = W1 at *
 refine (whereDo_any A l c a m Ap p cp _ hl hc9 hpc hcp9 hm9 hPl (by exact hT.below hal) (by exact hA.below hal) (by exact hP.below hal)).mono ?_
 rintro e w3 ⟨v3, rfl, hown3, hb3⟩
 rw [HQ.out]
 rw [HT.out] at hown3
 have hown3 := hown3.mono (base' := w.heap.size) hal.size
 have hb3 := below_then hal hb3
 go_wp2
 go_ret2
 exact ⟨v3, rfl, hown3, hb3⟩

end Go.Proofs.YtaekanhjkpoifaaGreatDoor

/-
 Chapter 5, EditsDo of the model and of the program: contracts. Own work.
 Chapter 5's draws: a list of edits that fit one behind the other. Own work.
-/
namespace Go.Proofs.YtaekanhjkpoifaaGreatDoor
open Go.RowKit P
set_option linter.unusedVariables false
set_option linter.unusedSimpArgs false
set_option maxRecDepth 100000

/-- What a call ends in that makes bytes of its own, and counts. -/
def MakesN (l : List UInt8) (n : Int) (w : World) (e : Ending) (w' : World) : Prop := ∃ v, e = .returned (.tuple #[v, .int .i64 n]) ∧ Own w' w.heap.size v l ∧ Below w.heap.size w w'

theorem edsRun_step {t : List UInt8} {es : List Ed} {k : Nat} (hk : k < es.length) {a m : Int} {p : List UInt8} (he : es[k] = (a, m, p)) (hok : edOk t a m p = true) :
  edsRun t (es.drop k) = ((edsRun (edText t a m p) (es.drop (k + 1))).1, (edsRun (edText t a m p) (es.drop (k + 1))).2 + 1) := by
 rw [List.drop_eq_getElem_cons hk, he]
 show (if edOk t a m p = true then _ else _) = _
 rw [if_pos hok]
theorem edsRun_stop {t : List UInt8} {es : List Ed} {k : Nat} (hk : k < es.length) {a m : Int} {p : List UInt8} (he : es[k] = (a, m, p)) (hok : edOk t a m p = false) : edsRun t (es.drop k) = (t, 0) := by
 rw [List.drop_eq_getElem_cons hk, he]
 show (if edOk t a m p = true then _ else _) = _
 rw [if_neg (by rw [hok]; decide)]

/-- How far the edits have got: now is the text behind the first k of them. -/
structure EdRun (l : List UInt8) (es : List Ed) (k : Nat) (now : List UInt8) : Prop where
 t : (edsRun now (es.drop k)).1 = (edsRun l es).1
 n : (edsRun now (es.drop k)).2 + k = (edsRun l es).2
 x : isText now = true
theorem EdRun.start {l : List UInt8} (es : List Ed) (h : isText l = true) : EdRun l es 0 l := ⟨rfl, rfl, h⟩
theorem EdRun.step {l : List UInt8} {es : List Ed} {k : Nat} {now : List UInt8} (h : EdRun l es k now) (hk : k < es.length) {a m : Int} {p : List UInt8} (he : es[k] = (a, m, p)) (hok : edOk now a m p = true) : EdRun l es (k + 1) (edText now a m p) := by
 have h1 := h.t
 have h2 := h.n
 rw [edsRun_step hk he hok] at h1 h2
 exact ⟨h1, by simp only at h2; omega, edText_ok hok⟩
theorem EdRun.stop {l : List UInt8} {es : List Ed} {k : Nat} {now : List UInt8} (h : EdRun l es k now) (hk : k < es.length) {a m : Int} {p : List UInt8} (he : es[k] = (a, m, p)) (hok : edOk now a m p = false) : (edsRun l es).1 = now ∧ (edsRun l es).2 = k := by
 have h1 := h.t
 have h2 := h.n
 rw [edsRun_stop hk he hok] at h1 h2
 exact ⟨h1.symm, by simp only at h2; omega⟩
theorem EdRun.done {l : List UInt8} {es : List Ed} {k : Nat} {now : List UInt8} (h : EdRun l es k now) (hk : k = es.length) : (edsRun l es).1 = now ∧ (edsRun l es).2 = es.length := by
 have h1 := h.t
 have h2 := h.n
 rw [hk, List.drop_length] at h1 h2
 exact ⟨h1.symm, by simp only [edsRun] at h2; omega⟩

set_option maxHeartbeats 8000000 in
theorem specEditsDo_any (A : Option Addr) (l : List UInt8) (c : Nat) (B : Option Addr) (es : List Ed) (d : Nat) (w : World) (hl : l.length ≤ c) (hc9 : c ≤ 9223372036854775807) (hn9 : es.length ≤ 9223372036854775807) (hA : Bs w A l) (hE : Es w B es) :
  Calls Tryz.prog 80 #[.slice A l.length c, .slice B es.length d] w (MakesN (edsText l es) (edsN l es) w) := by
 obtain ⟨q, hq⟩ : ∃ q, isText l = q := ⟨_, rfl⟩
 have HQ := Lib.hid hq
 cases q
 ·have e1 : edsText l es = [] := by unfold edsText; rw [hq]; rfl
  have e2 : edsN l es = -1 := by unfold edsN; rw [hq]; rfl
  rw [e1, e2]
  clear hq e1 e2
  go_enter Tryz.func80, Tryz.ntmps80
  go_wp2_with fail
  refine (specTextOk_any A l c _ hl hc9 (by exact hA)).mono ?_
  rintro e w1 ⟨rfl, hb1⟩
  rw [HQ.out]
  go_wp2
  go_ret2
  exact ⟨.slice none 0 0, rfl, Own.nil _ _, hb1⟩
 have e1 : edsText l es = (edsRun l es).1 := by unfold edsText; rw [hq]; rfl
 have e2 : edsN l es = ((edsRun l es).2 : Int) := by unfold edsN; rw [hq]; rfl
 have hl4 := isText_len hq
 have hst := Lib.hid (EdRun.start es hq)
 rw [e1, e2]
 clear hq e1 e2
 go_enter Tryz.func80, Tryz.ntmps80
 go_wp2_with fail
 refine (specTextOk_any A l c _ hl hc9 (by exact hA)).mono ?_
 rintro e w1 ⟨rfl, hb1⟩
 rw [HQ.out]
 have hown0 : Own (w1.alloc (.cells #[] 5)) w1.heap.size (.slice (some ⟨w1.heap.size, 0, none⟩) 0 0) [] := World.ownsRow_made w1 #[] 0 (Nat.le_refl _) (by unfold maxLen; omega) rfl
 have hal := (Below.refl w1.heap.size w1).alloc (Nat.le_refl _) (.cells #[] 5)
 have hA1 := (hA.below hb1).below hal
 have HAL := Lib.hid hal
 have HO0 := Lib.hid hown0
 clear hal hown0
 go_wp2_with (at_builtin; go_must (refine wpList_app_bytes rfl _ _ rfl w1.heap.size _ [] l A l.length c rfl rfl rfl HO0.out hA1 ?c1 ?c2 ?_))
 case c1 => simp; omega
 case c2 => simp
 intro v4 w4 hown4 hg4 _
 have hb4 := HAL.out.grown hg4 (by simp) (fun x hx => (World.ownsRow.lt HO0.out x hx).1)
 have hb4 := below_then hb1 hb4
 have hown4 := hown4.mono (base' := w.heap.size) hb1.size
 obtain ⟨A4, c4, rfl, hc4, hc49, hB4, hp4, hq4⟩ := own_plain9 hown4
 clear hA1 HAL HO0 hg4 hb1
 go_wp2
 go_loopw [6, 7] (fun at_ i wr => ∃ (k : Nat) (now : List UInt8) (A' : Option Addr) (c' : Nat), i = .int .i64 k ∧ k ≤ es.length ∧ at_ = .slice A' now.length c' ∧ Own wr w.heap.size (.slice A' now.length c') now ∧ Hid (EdRun l es k now) ∧ Below w.heap.size w wr) (fun _ i _ => es.length - (intOf i).toNat)
 case atStart => exact ⟨0, l, A4, c4, rfl, Nat.zero_le _, rfl, hown4, hst, hb4⟩
 case round =>
  obtain ⟨k, now, A', c', rfl, hk, rfl, hown, HR, hb⟩ := hrel
  by_cases hlt : k < es.length
  ·obtain ⟨b, off, a, m, Bp, p, dp, rfl, hbl, hek, k0, k1, k2, ha, hm, hpd, hdm, hBp⟩ := (hE.below hb).at_ k hlt
   have hd9 : dp ≤ 9223372036854775807 := by unfold maxLen at hdm; omega
   obtain ⟨A5, c5, e5, hc5, hc59, hB5, hp5, hq5⟩ := own_plain9 hown
   simp only [Value.slice.injEq, true_and] at e5
   obtain ⟨rfl, rfl⟩ := e5
   have hPl : Pl A' c' := by unfold Pl; exact ⟨hp5, hq5⟩
   obtain ⟨z, hz⟩ : ∃ z, edOk now a m p = z := ⟨_, rfl⟩
   have HZ := Lib.hid hz
   have HEK := Lib.hid hek
   have hnl := isText_len HR.out.x
   clear hz hek
   go_wp2_with fail
   refine (specEditDo_any A' now c' a m Bp p dp _ hc5 hc59 hpd hd9 hPl (by exact hB5) (by exact hBp)).mono ?_
   rintro e w5 ⟨v5, rfl, hown5, hb5⟩
   rw [HZ.out]
   have hown' := hown.below hb5
   have hs5 := hb.size
   have hb := below_then hb hb5
   cases z
   ·have hst := HR.out.stop hlt HEK.out HZ.out
    have HS := Lib.hid hst
    clear hst k0 k1 k2
    obtain ⟨A6, c6, rfl, _, _, _⟩ := hown5.form
    go_wp2
    go_ret2
    exact ⟨.slice A' now.length c', by rw [HS.out.2]; rfl, by rw [HS.out.1]; exact hown', hb⟩
   ·have hst := HR.out.step hlt HEK.out HZ.out
    have hD : edDo now a m p = edText now a m p := by unfold edDo; rw [HZ.out, if_pos rfl]
    rw [hD] at hown5
    obtain ⟨nx, hnx⟩ : ∃ nx, edText now a m p = nx := ⟨_, rfl⟩
    rw [hnx] at hown5 hst
    have hown5 := hown5.mono (base' := w.heap.size) hs5
    have HS := Lib.hid hst
    obtain ⟨A6, c6, rfl, _, _, _⟩ := hown5.form
    clear hst hD hnx k0 k1 k2
    go_wp2
    go_roundw
    case rel => exact ⟨k + 1, nx, A6, c6, by go_num, by omega, rfl, hown5, HS, hb⟩
    case measure => simp [intOf]; omega
  ·have e : k = es.length := by omega
   have hst := HR.out.done e
   have HS := Lib.hid hst
   clear hst e
   go_wp2
   go_ret2
   exact ⟨.slice A' now.length c', by rw [HS.out.2]; rfl, by rw [HS.out.1]; exact hown, hb⟩

set_option maxHeartbeats 8000000 in
theorem implEditsDo_any (A : Option Addr) (l : List UInt8) (c : Nat) (B : Option Addr) (es : List Ed) (d : Nat) (w : World) (hl : l.length ≤ c) (hc9 : c ≤ 9223372036854775807) (hn9 : es.length ≤ 9223372036854775807) (hT : Tab w) (hA : Bs w A l) (hE : Es w B es) :
  Calls Tryz.prog 101 #[.slice A l.length c, .slice B es.length d] w (MakesN (edsText l es) (edsN l es) w) := by
 obtain ⟨q, hq⟩ : ∃ q, isText l = q := ⟨_, rfl⟩
 have HQ := Lib.hid hq
 cases q
 ·have e1 : edsText l es = [] := by unfold edsText; rw [hq]; rfl
  have e2 : edsN l es = -1 := by unfold edsN; rw [hq]; rfl
  rw [e1, e2]
  clear hq e1 e2
  go_enter Tryz.func101, Tryz.ntmps101
  go_wp2_with fail
  refine (textOk_any A l c _ hl hc9 (by exact hT) (by exact hA)).mono ?_
  rintro e w1 ⟨rfl, n1, rfl⟩
  rw [HQ.out]
  go_wp2
  go_ret2
  exact ⟨.slice none 0 0, rfl, Own.nil _ _, below_of_drewN w n1⟩
 have e1 : edsText l es = (edsRun l es).1 := by unfold edsText; rw [hq]; rfl
 have e2 : edsN l es = ((edsRun l es).2 : Int) := by unfold edsN; rw [hq]; rfl
 have hl4 := isText_len hq
 have hst := Lib.hid (EdRun.start es hq)
 rw [e1, e2]
 clear hq e1 e2
 go_enter Tryz.func101, Tryz.ntmps101
 go_wp2_with fail
 refine (textOk_any A l c _ hl hc9 (by exact hT) (by exact hA)).mono ?_
 rintro e w1 ⟨rfl, n1, rfl⟩
 rw [HQ.out]
 have hb1 := below_of_drewN w n1
 generalize w.drewN n1 = w1 at *
 go_wp2_with fail
 refine (bytesClone_opt A l l.length c _ rfl (by omega) (by exact hA.below hb1)).mono ?_
 rintro e w4 ⟨v4, rfl, hown4, hb4⟩
 have hb4 := below_then hb1 hb4
 have hown4 := hown4.mono (base' := w.heap.size) hb1.size
 obtain ⟨A4, c4, rfl, hc4, hc49, hB4, hp4, hq4⟩ := own_plain9 hown4
 clear hb1
 go_wp2
 go_loopw [6, 18] (fun at_ i wr => ∃ (k : Nat) (now : List UInt8) (A' : Option Addr) (c' : Nat), i = .int .i64 k ∧ k ≤ es.length ∧ at_ = .slice A' now.length c' ∧ Own wr w.heap.size (.slice A' now.length c') now ∧ Hid (EdRun l es k now) ∧ Below w.heap.size w wr) (fun _ i _ => es.length - (intOf i).toNat)
 case atStart => exact ⟨0, l, A4, c4, rfl, Nat.zero_le _, rfl, hown4, hst, hb4⟩
 case round =>
  obtain ⟨k, now, A', c', rfl, hk, rfl, hown, HR, hb⟩ := hrel
  by_cases hlt : k < es.length
  ·obtain ⟨b, off, a, m, Bp, p, dp, rfl, hbl, hek, k0, k1, k2, ha, hm, hpd, hdm, hBp⟩ := (hE.below hb).at_ k hlt
   have hd9 : dp ≤ 9223372036854775807 := by unfold maxLen at hdm; omega
   obtain ⟨A5, c5, e5, hc5, hc59, hB5, hp5, hq5⟩ := own_plain9 hown
   simp only [Value.slice.injEq, true_and] at e5
   obtain ⟨rfl, rfl⟩ := e5
   have hPl : Pl A' c' := by unfold Pl; exact ⟨hp5, hq5⟩
   obtain ⟨z, hz⟩ : ∃ z, edOk now a m p = z := ⟨_, rfl⟩
   have HZ := Lib.hid hz
   have HEK := Lib.hid hek
   have hnl := isText_len HR.out.x
   clear hz hek
   have hal := (Below.refl wr.heap.size wr).alloc (Nat.le_refl _) (.cells #[.int .i64 a, .int .i64 m, .slice Bp p.length dp] 71)
   have bX := EBox.new wr a m Bp p.length dp
   have x0 := bX.c0
   have x1 := bX.c1
   have x2 := bX.c2
   have hB5 := hB5.below hal
   have hBp := hBp.below hal
   have hown := hown.below hal
   have hs4 := hal.size
   have hb' := below_then hb hal
   have hTb := hT.below hb'
   go_wp2_with fail
   refine (implEditDo_any A' now c' a m Bp p dp _ hc5 hc59 hpd hd9 hm.2 hPl (by exact hTb) (by exact hB5) (by exact hBp)).mono ?_
   rintro e w5 ⟨v5, rfl, hown5, hb5⟩
   rw [HZ.out]
   have hown' := hown.below hb5
   have hs5 := hb'.size
   have hb := below_then hb' hb5
   clear x0 x1 x2 hTb
   cases z
   ·have hst := HR.out.stop hlt HEK.out HZ.out
    have HS := Lib.hid hst
    clear hst k0 k1 k2
    obtain ⟨A6, c6, rfl, _, _, _⟩ := hown5.form
    go_wp2
    go_ret2
    exact ⟨.slice A' now.length c', by rw [HS.out.2]; rfl, by rw [HS.out.1]; exact hown', hb⟩
   ·have hst := HR.out.step hlt HEK.out HZ.out
    have hD : edDo now a m p = edText now a m p := by unfold edDo; rw [HZ.out, if_pos rfl]
    rw [hD] at hown5
    obtain ⟨nx, hnx⟩ : ∃ nx, edText now a m p = nx := ⟨_, rfl⟩
    rw [hnx] at hown5 hst
    have hown5 := hown5.mono (base' := w.heap.size) hs5
    have HS := Lib.hid hst
    obtain ⟨A6, c6, rfl, _, _, _⟩ := hown5.form
    clear hst hD hnx k0 k1 k2
    go_wp2
    go_roundw
    case rel => exact ⟨k + 1, nx, A6, c6, by go_num, by omega, rfl, hown5, HS, hb⟩
    case measure => simp [intOf]; omega
  ·have e : k = es.length := by omega
   have hst := HR.out.done e
   have HS := Lib.hid hst
   clear hst e
   go_wp2
   go_ret2
   exact ⟨.slice A' now.length c', by rw [HS.out.2]; rfl, by rw [HS.out.1]; exact hown, hb⟩
end Go.Proofs.YtaekanhjkpoifaaGreatDoor

namespace Go.Proofs.YtaekanhjkpoifaaGreatDoor
open Go.RowKit P
set_option linter.unusedVariables false
set_option linter.unusedSimpArgs false
set_option maxRecDepth 100000

/-- What a draw of two rows of bytes ends in. -/
def DrawsBB (w : World) (e : Ending) (w' : World) : Prop :=
 ∃ A l c B r d, e = .returned (.tuple #[.slice A l.length c, .slice B r.length d]) ∧ l.length ≤ 401 ∧ l.length ≤ c ∧ c ≤ 9223372036854775807 ∧ Pl A c ∧ Bs w' A l ∧ r.length ≤ 401 ∧ r.length ≤ d ∧ d ≤ 9223372036854775807 ∧ Pl B d ∧ Bs w' B r ∧ Below w.heap.size w w'

end Go.Proofs.YtaekanhjkpoifaaGreatDoor
