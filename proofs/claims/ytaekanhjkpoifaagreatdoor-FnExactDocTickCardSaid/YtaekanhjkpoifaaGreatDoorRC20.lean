/-
 Chapter 10, the laws' marks on documents: contracts. Own work.
-/
import Derived.Test.YtaekanhjkpoifaaGreatDoorRp10
namespace Go.Proofs.YtaekanhjkpoifaaGreatDoor
open Go.RowKit P
set_option linter.unusedVariables false
set_option linter.unusedSimpArgs false
set_option maxRecDepth 100000

/-- The numbers behind the parts of a marked document. -/
def nD1 (k : Nat) (d : Dc) : Nat := k + d.start.length
def nD2 (k : Nat) (d : Dc) : Nat := nD1 k d + d.text.length
def nD3 (k : Nat) (d : Dc) : Nat := nC (nD2 k d) d.log
def nD4 (k : Nat) (d : Dc) : Nat := nM (nD3 k d) d.mem
def nD5 (k : Nat) (d : Dc) : Nat := nD4 k d + 4 * d.lea.length
/-- A bound on what marks a document takes. -/
def wD (k : Nat) (d : Dc) : Nat := k + d.start.length + d.text.length + (3 * d.log.length + tot (cputs d.log)) + (3 * d.mem.length + 2 * msum d.mem) + 4 * d.lea.length
theorem nD_le (k : Nat) (d : Dc) : nD1 k d ≤ nD2 k d ∧ nD2 k d ≤ nD3 k d ∧ nD3 k d ≤ nD4 k d ∧ nD4 k d ≤ nD5 k d ∧ nD5 k d ≤ wD k d ∧ nD3 k d + 3 * d.mem.length + 2 * msum d.mem ≤ wD k d ∧ nD2 k d + 3 * d.log.length + tot (cputs d.log) ≤ wD k d := by
 have h1 := nM_le d.mem (nD3 k d)
 have h2 := nM_ge d.mem (nD3 k d)
 unfold nD5 nD4 wD
 unfold nD3 nC nD2 nD1 at *
 refine ⟨?_, ?_, ?_, ?_, ?_, ?_, ?_⟩ <;> omega
/-- What a marked document reads as. -/
structure MkdD (w : World) (a : Da) (d : Dc) (k : Nat) : Prop where
 s : Bs w a.s (marks k d.start.length)
 t : Bs w a.t (marks (nD1 k d) d.text.length)
 l : Cms w a.l (markedC (nD2 k d) d.log)
 m : Mbs w a.m (markedM (nD3 k d) d.mem)
 e : Ll w a.e (marksL (nD4 k d) d.lea.length)
theorem MkdD.below {w w' : World} {a : Da} {d : Dc} {k : Nat} (h : MkdD w a d k) (hb : Below w.heap.size w w') : MkdD w' a d k := ⟨h.s.below hb, h.t.below hb, h.l.below hb, h.m.below hb, h.e.below hb⟩

theorem bytes_own {w : World} {A : Option Addr} {l : List UInt8} {c : Nat} {fp : List Nat} (h : Lay.bytes.ow w [.slice A l.length c] l fp) : Own w 0 (.slice A l.length c) l ∧ fp = (Value.slice A l.length c).ownBlock.toList := by
 obtain ⟨v, e, ho, rfl⟩ := h
 simp only [List.cons.injEq, and_true] at e
 subst e
 exact ⟨ho, rfl⟩
theorem commits_cms {w : World} {A : Option Addr} {es : List Cm} {n c : Nat} {fp : List Nat} (h : Lay.commits.ow w [.slice A n c] es fp) : Cms w A es := by
 obtain ⟨A', c', e, _, _, h5⟩ := Lay.commits.read h
 simp only [List.cons.injEq, Value.slice.injEq, and_true] at e
 rw [e.1]
 exact h5
theorem members_mbs {w : World} {A : Option Addr} {es : List Mb} {n c : Nat} {fp : List Nat} (h : Lay.members.ow w [.slice A n c] es fp) : Mbs w A es := by
 obtain ⟨A', c', e, _, _, h5⟩ := Lay.members.read h
 simp only [List.cons.injEq, Value.slice.injEq, and_true] at e
 rw [e.1]
 exact h5

theorem marksL_in_wide {k n : Nat} (hk : k ≤ 8000000) (hn : n ≤ 1100000) : ∀ l ∈ marksL k n, leIn l := by
 intro l hl
 obtain ⟨i, hi, rfl⟩ := List.mem_map.1 hl
 have := List.mem_range.1 hi
 unfold leIn isI mk4
 simp only
 omega
set_option maxHeartbeats 4000000 in
theorem markLeaseS_wide (A : Option Addr) (c : Nat) (es : List Le) (fp : List Nat) (base k : Nat) (w : World) (hk : k ≤ 8000000) (hl : es.length ≤ 1100000) (h : OwL w base A es c fp) :
  Calls Tryz.prog 46 #[.slice A es.length c, .int .i64 (k : Int)] w fun e w' => e = .returned (.int .i64 ((k + 4 * es.length : Nat) : Int)) ∧ Ll w' A (marksL k es.length) ∧ Keeps fp w w' := by
 rcases rowL_of h with rfl | ⟨g, rfl, rfl, hrow, _⟩
 ·go_enter Tryz.func46, Tryz.ntmps46
  go_wp2
  go_loopw [1, 5] (fun kk i wr => kk = .int .i64 (k : Int) ∧ i = .int .i64 0 ∧ wr = w) (fun _ _ _ => 0)
  case atStart => exact ⟨rfl, rfl, rfl⟩
  case round =>
   obtain ⟨rfl, rfl, rfl⟩ := hrel
   go_wp2
   go_ret
   exact ⟨by simp, Sl.nil _ _ _ _, Keeps.refl _ _⟩
 ·clear h
  go_enter Tryz.func46, Tryz.ntmps46
  go_wp2
  go_loopw [1, 5] (fun kk i wr => ∃ j : Nat, j ≤ es.length ∧ i = .int .i64 j ∧ kk = .int .i64 ((k + 4 * j : Nat) : Int) ∧ RowL wr g (marksL k j ++ es.drop j) ∧ Keeps [g] w wr) (fun _ i _ => es.length - (intOf i).toNat)
  case atStart => exact ⟨0, Nat.zero_le _, rfl, rfl, by simpa [marksL] using hrow, Keeps.refl _ _⟩
  case round =>
   obtain ⟨j, hj, rfl, rfl, hr, hke⟩ := hrel
   by_cases hlt : j < es.length
   ·have hll : j < (marksL k j ++ es.drop j).length := by rw [List.length_append, marksL_length, List.length_drop]; omega
    obtain ⟨u0, u1, u2, u3⟩ := hr.cells j hll
    have f0 := hr.frozen (j * 4)
    have f1 := hr.frozen (j * 4 + 1)
    have f2 := hr.frozen (j * 4 + 2)
    have f3 := hr.frozen (j * 4 + 3)
    have hnew := hr.set4 j hll ((k + 4 * j : Nat) : Int) ((k + 4 * j + 1 : Nat) : Int) ((k + 4 * j + 2 : Nat) : Int) ((k + 4 * j + 3 : Nat) : Int)
    rw [show ((((k + 4 * j : Nat) : Int), ((k + 4 * j + 1 : Nat) : Int), ((k + 4 * j + 2 : Nat) : Int), ((k + 4 * j + 3 : Nat) : Int)) : Le) = mk4 k j from rfl, marksL_step k es j hlt] at hnew
    have hkn := (((hke.put (List.mem_singleton.2 rfl) (j * 4) (.int .i64 ((k + 4 * j : Nat) : Int))).put (List.mem_singleton.2 rfl) (j * 4 + 1) (.int .i64 ((k + 4 * j + 1 : Nat) : Int))).put (List.mem_singleton.2 rfl) (j * 4 + 2) (.int .i64 ((k + 4 * j + 2 : Nat) : Int))).put (List.mem_singleton.2 rfl) (j * 4 + 3) (.int .i64 ((k + 4 * j + 3 : Nat) : Int))
    have HN := Lib.hid hnew
    have HK := Lib.hid hkn
    generalize (marksL k j ++ es.drop j)[j] = o at *
    clear hnew hkn hr hke hll
    go_wp2
    go_roundw
    case rel => exact ⟨j + 1, by omega, by go_num, by go_num, HN.out, HK.out⟩
    case measure => simp [intOf]; omega
   ·have e : j = es.length := by omega
    subst e
    rw [List.drop_length, List.append_nil] at hr
    go_wp2
    go_ret
    exact ⟨rfl, hr.ll (marksL_in_wide hk hl), hke⟩

theorem OwD.range {w : World} {base : Nat} {a : Da} {d : Dc} {fs ft fl fm fe : List Nat} (h : OwD w base a d fs ft fl fm fe) : ∀ k ∈ fs ++ (ft ++ (fl ++ (fm ++ fe))), base ≤ k ∧ k < w.heap.size := fun x hx => by
 refine ⟨h.lo x hx, ?_⟩
 rcases List.mem_append.1 hx with h1 | hx
 ·exact Lay.bytes.lt h.s x h1
 rcases List.mem_append.1 hx with h1 | hx
 ·exact Lay.bytes.lt h.t x h1
 rcases List.mem_append.1 hx with h1 | hx
 ·exact Lay.commits.lt h.l x h1
 rcases List.mem_append.1 hx with h1 | h1
 ·exact Lay.members.lt h.m x h1
 ·exact Lay.leases.lt h.e x h1
theorem wD_le (k : Nat) (d : Dc) : wD k d ≤ k + 4 * dtot d := by
 unfold wD dtot
 omega

set_option maxHeartbeats 8000000 in
theorem markDoc_any (a : Da) (d : Dc) (fs ft fl fm fe : List Nat) (base k : Nat) (w : World) (hk : wD k d ≤ 4400000) (hO : OwD w base a d fs ft fl fm fe) :
  Calls Tryz.prog 12 #[.agg #[.slice a.s d.start.length a.cs, .slice a.t d.text.length a.ct, .slice a.l d.log.length a.cl, .int .i64 d.clock, .slice a.m d.mem.length a.cm, .slice a.e d.lea.length a.ce], .int .i64 (k : Int)] w fun e w' => e = .returned (.int .i64 (nD5 k d : Int)) ∧ MkdD w' a d k ∧ Keeps (fs ++ (ft ++ (fl ++ (fm ++ fe)))) w w' := by
 have hal := (Below.refl w.heap.size w).alloc (Nat.le_refl _) (.cells #[.slice a.s d.start.length a.cs, .slice a.t d.text.length a.ct, .slice a.l d.log.length a.cl, .int .i64 d.clock, .slice a.m d.mem.length a.cm, .slice a.e d.lea.length a.ce] 36)
 have BX := Lib.hid (Blk.new w #[.slice a.s d.start.length a.cs, .slice a.t d.text.length a.ct, .slice a.l d.log.length a.cl, .int .i64 d.clock, .slice a.m d.mem.length a.cm, .slice a.e d.lea.length a.ce] 36)
 have H0 := Lib.hid (hO.below hal)
 obtain ⟨g1, g2, g3, g4, g5, g6, g7⟩ := nD_le k d
 have hg1 : nD1 k d = k + d.start.length := rfl
 have hg2 : nD2 k d = nD1 k d + d.text.length := rfl
 have hnd := hO.nd
 have hlt0 : ∀ x ∈ fs ++ (ft ++ (fl ++ (fm ++ fe))), x < w.heap.size := fun x hx => by
  rcases List.mem_append.1 hx with h | hx
  ·exact Lay.bytes.lt hO.s x h
  rcases List.mem_append.1 hx with h | hx
  ·exact Lay.bytes.lt hO.t x h
  rcases List.mem_append.1 hx with h | hx
  ·exact Lay.commits.lt hO.l x h
  rcases List.mem_append.1 hx with h | h
  ·exact Lay.members.lt hO.m x h
  ·exact Lay.leases.lt hO.e x h
 have hd : (fs.Nodup ∧ (∀ x ∈ fs, x ∉ ft ∧ x ∉ fl ∧ x ∉ fm ∧ x ∉ fe)) ∧ (∀ x ∈ ft, x ∉ fl ∧ x ∉ fm ∧ x ∉ fe) ∧ (fl.Nodup ∧ ∀ x ∈ fl, x ∉ fm ∧ x ∉ fe) ∧ (fm.Nodup ∧ ∀ x ∈ fm, x ∉ fe) ∧ fe.Nodup := by
  simp only [List.nodup_append, List.mem_append] at hnd
  obtain ⟨a1, ⟨b1, ⟨c1, ⟨d1, e1, d2⟩, c2⟩, b2⟩, a2⟩ := hnd
  exact ⟨⟨a1, fun x hx => ⟨fun h => a2 x hx x (.inl h) rfl, fun h => a2 x hx x (.inr (.inl h)) rfl, fun h => a2 x hx x (.inr (.inr (.inl h))) rfl, fun h => a2 x hx x (.inr (.inr (.inr h))) rfl⟩⟩,
   fun x hx => ⟨fun h => b2 x hx x (.inl h) rfl, fun h => b2 x hx x (.inr (.inl h)) rfl, fun h => b2 x hx x (.inr (.inr h)) rfl⟩,
   ⟨c1, fun x hx => ⟨fun h => c2 x hx x (.inl h) rfl, fun h => c2 x hx x (.inr h) rfl⟩⟩, ⟨d1, fun x hx h => d2 x hx x h rfl⟩, e1⟩
 obtain ⟨⟨_, ds⟩, dt, ⟨nl, dl⟩, ⟨nm, dm⟩, ne⟩ := hd
 have DS := Lib.hid ds
 have DT := Lib.hid dt
 have DL := Lib.hid dl
 have DM := Lib.hid dm
 have NL := Lib.hid nl
 have NM := Lib.hid nm
 have NE := Lib.hid ne
 have HLT := Lib.hid hlt0
 have hL0 := hO.lo
 have HOE := Lib.hid hO.e
 have HK := Lib.hid (Keeps.of_below (fp := fs ++ (ft ++ (fl ++ (fm ++ fe)))) hal)
 obtain ⟨o1, e1⟩ := bytes_own H0.out.s
 obtain ⟨o2, e2⟩ := bytes_own H0.out.t
 have O1 := Lib.hid o1
 have O2 := Lib.hid o2
 have O3 := Lib.hid H0.out.l
 have O4 := Lib.hid H0.out.m
 have O5 := Lib.hid H0.out.e
 have E1 := Lib.hid e1
 have E2 := Lib.hid e2
 have hbx : ∀ x ∈ fs ++ (ft ++ (fl ++ (fm ++ fe))), x ≠ w.heap.size := fun x hx h => by have := hlt0 x hx; omega
 have HBX := Lib.hid hbx
 have p0 := BX.out.cell 0
 clear hal hO H0 hnd ds dt dl dm nl nm ne hlt0 o1 o2 e1 e2 hbx hL0
 go_enter Tryz.func12, Tryz.ntmps12
 go_wp2_with fail
 generalize w.alloc (.cells #[.slice a.s d.start.length a.cs, .slice a.t d.text.length a.ct, .slice a.l d.log.length a.cl, .int .i64 d.clock, .slice a.m d.mem.length a.cm, .slice a.e d.lea.length a.ce] 36) = W at *
 refine (markByteS_big _ d.start 0 k _ (by omega) (by omega) (by exact O1.out)).mono ?_
 rintro e w1 ⟨rfl, how, hgr⟩
 have hk1 : Keeps fs W w1 := by rw [E1.out]; exact Keeps.of_grown hgr
 have M1 := Lib.hid how
 have BX := Lib.hid (BX.out.of_block (hk1.block _ BX.out.lt (fun h => HBX.out _ (List.mem_append.2 (.inl h)) rfl)))
 have O2 := Lib.hid (O2.out.keeps hk1 (fun x hx h => (DS.out x h).1 (by rw [E2.out]; exact hx)))
 have O3 := Lib.hid (Lay.commits.keeps O3.out hk1 (fun x hx h => (DS.out x h).2.1 hx))
 have O4 := Lib.hid (Lay.members.keeps O4.out hk1 (fun x hx h => (DS.out x h).2.2.1 hx))
 have O5 := Lib.hid (Lay.leases.keeps O5.out hk1 (fun x hx h => (DS.out x h).2.2.2 hx))
 have HK := Lib.hid (HK.out.trans (hk1.mono (fun x hx => List.mem_append.2 (.inl hx))))
 rw [show ((k + d.start.length : Nat) : Int) = ((nD1 k d : Nat) : Int) from rfl]
 clear p0 how hgr hk1 O1
 obtain ⟨k1, hk1⟩ : ∃ x, nD1 k d = x := ⟨_, rfl⟩
 rw [hk1] at hg2 ⊢
 have HK1 := Lib.hid hk1
 have p1 := BX.out.cell 1
 go_wp2_with fail
 refine (markByteS_big _ d.text 0 k1 _ (by omega) (by omega) (by exact O2.out)).mono ?_
 rintro e w2 ⟨rfl, how, hgr⟩
 have hk2 : Keeps ft w1 w2 := by rw [E2.out]; exact Keeps.of_grown hgr
 have M2 := Lib.hid how
 have M1 := Lib.hid (M1.out.keeps hk2 (fun x hx h => (DS.out x (by rw [E1.out]; exact hx)).1 h))
 have BX := Lib.hid (BX.out.of_block (hk2.block _ BX.out.lt (fun h => HBX.out _ (List.mem_append.2 (.inr (List.mem_append.2 (.inl h)))) rfl)))
 have O3 := Lib.hid (Lay.commits.keeps O3.out hk2 (fun x hx h => (DT.out x h).1 hx))
 have O4 := Lib.hid (Lay.members.keeps O4.out hk2 (fun x hx h => (DT.out x h).2.1 hx))
 have O5 := Lib.hid (Lay.leases.keeps O5.out hk2 (fun x hx h => (DT.out x h).2.2 hx))
 have HK := Lib.hid (HK.out.trans (hk2.mono (fun x hx => List.mem_append.2 (.inr (List.mem_append.2 (.inl hx))))))
 rw [show ((k1 + d.text.length : Nat) : Int) = ((nD2 k d : Nat) : Int) by rw [hg2]]
 clear p1 how hgr hk2 O2
 obtain ⟨k2, hk2⟩ : ∃ x, nD2 k d = x := ⟨_, rfl⟩
 rw [hk2] at g7 ⊢
 have HK2 := Lib.hid hk2
 have p2 := BX.out.cell 2
 go_wp2_with fail
 refine (markCommitS_any a.l a.cl d.log fl k2 _ (by omega) NL.out O3.out).mono ?_
 rintro e w3 ⟨rfl, how, hk3⟩
 have M3 := Lib.hid how
 have M1 := Lib.hid (M1.out.keeps hk3 (fun x hx h => (DS.out x (by rw [E1.out]; exact hx)).2.1 h))
 have M2 := Lib.hid (M2.out.keeps hk3 (fun x hx h => (DT.out x (by rw [E2.out]; exact hx)).1 h))
 have BX := Lib.hid (BX.out.of_block (hk3.block _ BX.out.lt (fun h => HBX.out _ (by simp [h]) rfl)))
 have O4 := Lib.hid (Lay.members.keeps O4.out hk3 (fun x hx h => (DL.out x h).1 hx))
 have O5 := Lib.hid (Lay.leases.keeps O5.out hk3 (fun x hx h => (DL.out x h).2 hx))
 have HK := Lib.hid (HK.out.trans (hk3.mono (fun x hx => by simp [hx])))
 rw [show ((nC k2 d.log : Nat) : Int) = ((nD3 k d : Nat) : Int) by rw [← HK2.out]; rfl]
 clear p2 how hk3 O3
 obtain ⟨k3, hk3⟩ : ∃ x, nD3 k d = x := ⟨_, rfl⟩
 rw [hk3] at g6 ⊢
 have HK3 := Lib.hid hk3
 have p4 := BX.out.cell 4
 go_wp2_with fail
 refine (markMemberS_any a.m a.cm d.mem fm k3 _ (by omega) NM.out O4.out).mono ?_
 rintro e w4 ⟨rfl, how, hk4⟩
 have M4 := Lib.hid how
 have M1 := Lib.hid (M1.out.keeps hk4 (fun x hx h => (DS.out x (by rw [E1.out]; exact hx)).2.2.1 h))
 have M2 := Lib.hid (M2.out.keeps hk4 (fun x hx h => (DT.out x (by rw [E2.out]; exact hx)).2.1 h))
 have M3 := Lib.hid (Lay.commits.keeps M3.out hk4 (fun x hx h => (DL.out x hx).1 h))
 have BX := Lib.hid (BX.out.of_block (hk4.block _ BX.out.lt (fun h => HBX.out _ (by simp [h]) rfl)))
 have O5 := Lib.hid (Lay.leases.keeps O5.out hk4 (fun x hx h => DM.out x h hx))
 have HK := Lib.hid (HK.out.trans (hk4.mono (fun x hx => by simp [hx])))
 rw [show ((nM k3 d.mem : Nat) : Int) = ((nD4 k d : Nat) : Int) by rw [← HK3.out]; rfl]
 clear p4 how hk4 O4
 obtain ⟨k4, hk4⟩ : ∃ x, nD4 k d = x := ⟨_, rfl⟩
 rw [hk4] at g4 ⊢
 have HK4 := Lib.hid hk4
 have hg5 : nD5 k d = nD4 k d + 4 * d.lea.length := rfl
 have p5 := BX.out.cell 5
 go_wp2_with fail
 refine (markLeaseS_wide a.e a.ce d.lea fe 0 k4 _ (by omega) (by omega) ⟨O5.out, NE.out, fun x hx => Nat.zero_le _⟩).mono ?_
 rintro e w5 ⟨rfl, hml, hk5⟩
 have M5 := Lib.hid hml
 have M1 := Lib.hid (M1.out.keeps hk5 (fun x hx h => (DS.out x (by rw [E1.out]; exact hx)).2.2.2 h))
 have M2 := Lib.hid (M2.out.keeps hk5 (fun x hx h => (DT.out x (by rw [E2.out]; exact hx)).2.2 h))
 have M3 := Lib.hid (Lay.commits.keeps M3.out hk5 (fun x hx h => (DL.out x hx).2 h))
 have M4 := Lib.hid (Lay.members.keeps M4.out hk5 (fun x hx h => DM.out x hx h))
 have HK := Lib.hid (HK.out.trans (hk5.mono (fun x hx => by simp [hx])))
 rw [show ((k4 + 4 * d.lea.length : Nat) : Int) = ((nD5 k d : Nat) : Int) by rw [hg5, hk4]]
 have MD : MkdD w5 a d k := ⟨own_bs9 M1.out, by rw [HK1.out]; exact own_bs9 M2.out, by rw [HK2.out]; exact commits_cms M3.out, by rw [HK3.out]; exact members_mbs M4.out, by rw [HK4.out]; exact M5.out⟩
 have HMD := Lib.hid MD
 clear p5 hml hk5 O5 MD
 go_wp2
 go_ret
 refine ⟨ret_int ?_, HMD.out, HK.out⟩
 have h8 := HK4.out
 omega

set_option maxHeartbeats 8000000 in
theorem heldDoc_any (a : Da) (d : Dc) (k : Nat) (w : World) (hk : wD k d ≤ 380000) (hM : MkdD w a d k) :
  Calls Tryz.prog 17 #[.agg #[.slice a.s d.start.length a.cs, .slice a.t d.text.length a.ct, .slice a.l d.log.length a.cl, .int .i64 d.clock, .slice a.m d.mem.length a.cm, .slice a.e d.lea.length a.ce], .int .i64 (k : Int)] w fun e w' => e = .returned (.int .i64 (nD5 k d : Int)) ∧ Below w.heap.size w w' := by
 have hal := (Below.refl w.heap.size w).alloc (Nat.le_refl _) (.cells #[.slice a.s d.start.length a.cs, .slice a.t d.text.length a.ct, .slice a.l d.log.length a.cl, .int .i64 d.clock, .slice a.m d.mem.length a.cm, .slice a.e d.lea.length a.ce] 36)
 have BX := Lib.hid (Blk.new w #[.slice a.s d.start.length a.cs, .slice a.t d.text.length a.ct, .slice a.l d.log.length a.cl, .int .i64 d.clock, .slice a.m d.mem.length a.cm, .slice a.e d.lea.length a.ce] 36)
 have HM := Lib.hid (hM.below hal)
 have HB := Lib.hid hal
 obtain ⟨g1, g2, g3, g4, g5, g6, g7⟩ := nD_le k d
 obtain ⟨b0, b1, b2, b3⟩ : k ≤ 380000 ∧ d.start.length ≤ 380000 ∧ d.text.length ≤ 380000 ∧ d.lea.length ≤ 380000 := by
  have h9 := hk
  unfold wD at h9
  omega
 have hg1 : nD1 k d = k + d.start.length := rfl
 have hg2 : nD2 k d = nD1 k d + d.text.length := rfl
 have hg5 : nD5 k d = nD4 k d + 4 * d.lea.length := rfl
 obtain ⟨k1, hk1⟩ : ∃ x, nD1 k d = x := ⟨_, rfl⟩
 obtain ⟨k2, hk2⟩ : ∃ x, nD2 k d = x := ⟨_, rfl⟩
 obtain ⟨k3, hk3⟩ : ∃ x, nD3 k d = x := ⟨_, rfl⟩
 obtain ⟨k4, hk4⟩ : ∃ x, nD4 k d = x := ⟨_, rfl⟩
 obtain ⟨k5, hk5⟩ : ∃ x, nD5 k d = x := ⟨_, rfl⟩
 have f3 : nC k2 d.log = k3 := by rw [← hk2, ← hk3]; rfl
 have f4 : nM k3 d.mem = k4 := by rw [← hk3, ← hk4]; rfl
 have HD := Lib.hid (show ∀ W, Below w.heap.size w W → Bs W a.s (marks k d.start.length) ∧ Bs W a.t (marks k1 d.text.length) ∧ Cms W a.l (markedC k2 d.log) ∧ Mbs W a.m (markedM k3 d.mem) ∧ Ll W a.e (marksL k4 d.lea.length) from fun W h => by
  have h9 := hM.below h
  rw [← hk1, ← hk2, ← hk3, ← hk4]
  exact ⟨h9.s, h9.t, h9.l, h9.m, h9.e⟩)
 rw [hk1, hk2] at g1
 rw [hk2, hk3] at g2
 rw [hk3, hk4] at g3
 rw [hk4, hk5] at g4
 rw [hk5] at g5
 rw [hk3] at g6
 rw [hk2] at g7
 rw [hk1] at hg1
 rw [hk2, hk1] at hg2
 rw [hk5, hk4] at hg5
 rw [hk5]
 have G1 := Lib.hid (show k + d.start.length = k1 by omega)
 have G2 := Lib.hid (show k1 + d.text.length = k2 by omega)
 have G5 := Lib.hid (show k4 + 4 * d.lea.length = k5 by omega)
 have F3 := Lib.hid f3
 have F4 := Lib.hid f4
 have hn1 : ¬ (k1 : Int) < 0 := by omega
 have hn2 : ¬ (k2 : Int) < 0 := by omega
 have hn3 : ¬ (k3 : Int) < 0 := by omega
 have hn4 : ¬ (k4 : Int) < 0 := by omega
 have hn5 : ¬ (k5 : Int) < 0 := by omega
 have p0 := BX.out.cell 0
 clear hM hal hk1 hk2 hk3 hk4 hk5 hg1 hg2 hg5 f3 f4 HM
 go_enter Tryz.func17, Tryz.ntmps17
 go_wp2_with fail
 generalize w.alloc (.cells #[.slice a.s d.start.length a.cs, .slice a.t d.text.length a.ct, .slice a.l d.log.length a.cl, .int .i64 d.clock, .slice a.m d.mem.length a.cm, .slice a.e d.lea.length a.ce] 36) = W at *
 refine (heldByteS_any a.s d.start.length a.cs k _ (by omega) (by omega) (HD.out _ HB.out).1).mono ?_
 rintro e w1 ⟨rfl, rfl⟩
 rw [G1.out]
 clear p0
 have p1 := BX.out.cell 1
 go_wp2_with fail
 refine (heldByteS_any a.t d.text.length a.ct k1 _ (by omega) (by omega) (HD.out _ HB.out).2.1).mono ?_
 rintro e w2 ⟨rfl, rfl⟩
 rw [G2.out]
 clear p1
 have p2 := BX.out.cell 2
 go_wp2_with fail
 refine (heldCommitS_any a.l d.log a.cl k2 _ (by rw [F3.out]; omega) (HD.out _ HB.out).2.2.1).mono ?_
 rintro e w3 ⟨rfl, hb⟩
 rw [F3.out]
 have BX := Lib.hid (BX.out.below hb)
 have HB := Lib.hid (below_then HB.out hb)
 clear p2 hb
 have p4 := BX.out.cell 4
 go_wp2_with fail
 refine (heldMemberS_any a.m d.mem a.cm k3 _ (by rw [F4.out]; omega) (HD.out _ HB.out).2.2.2.1).mono ?_
 rintro e w4 ⟨rfl, hb⟩
 rw [F4.out]
 have BX := Lib.hid (BX.out.below hb)
 have HB := Lib.hid (below_then HB.out hb)
 clear p4 hb
 have p5 := BX.out.cell 5
 go_wp2_with fail
 refine (heldLeaseS_any a.e d.lea.length a.ce k4 _ (by omega) (by omega) (HD.out _ HB.out).2.2.2.2).mono ?_
 rintro e w5 ⟨rfl, rfl⟩
 rw [G5.out]
 clear p5
 go_wp2
 go_ret
 exact ⟨rfl, HB.out⟩
end Go.Proofs.YtaekanhjkpoifaaGreatDoor
