/-
 Chapter 10, the laws' helpers on members: layouts and contracts (sizes, copies, equality). Own work.
-/
import Derived.Test.YtaekanhjkpoifaaGreatDoorRp5
import Derived.Test.YtaekanhjkpoifaaGreatDoorRC11
namespace Go.Proofs.YtaekanhjkpoifaaGreatDoor
open Go.RowKit P
set_option linter.unusedVariables false
set_option linter.unusedSimpArgs false
set_option maxRecDepth 100000

/-- A member: the session, the selection, the stack. -/
abbrev Mb := Int × (Int × Int) × (List Ed × List Ed)
instance decEds : DecidableEq (List Ed × List Ed) := instDecidableEqProd
instance decMb : DecidableEq Mb := instDecidableEqProd
instance decMbs : DecidableEq (List Mb) := inferInstance
def Lay.selL : Lay (Int × Int) := Lay.pair Lay.int Lay.int
def Lay.stackL : Lay (List Ed × List Ed) := Lay.pair Lay.edits Lay.edits
def Lay.member : Lay Mb := Lay.pair Lay.int (Lay.pair Lay.selL Lay.stackL)
def Lay.members : Lay (List Mb) := Lay.slice 50 Lay.member
/-- The slice of members that starts at A. -/
def Mbs (w : World) (A : Option Addr) (es : List Mb) : Prop := Sl 5 Lay.member.rd w A es
theorem Mbs.below {w w' : World} {A : Option Addr} {es : List Mb} (h : Mbs w A es) (hb : Below w.heap.size w w') : Mbs w' A es := Sl.below (E := Lay.member) h hb
theorem Lay.member_rd {w : World} {cs : List Value} {s f t : Int} {u r : List Ed} (h : Lay.member.rd w cs (s, (f, t), (u, r))) : ∃ B c C d, cs = [.int .i64 s, .int .i64 f, .int .i64 t, .slice B u.length c, .slice C r.length d] ∧ isI s ∧ isI f ∧ isI t ∧ u.length ≤ c ∧ c ≤ maxLen ∧ r.length ≤ d ∧ d ≤ maxLen ∧ Es w B u ∧ Es w C r := by
 obtain ⟨c1, c2, rfl, ⟨rfl, hs⟩, c3, c4, rfl, ⟨c5, c6, rfl, ⟨rfl, hf⟩, rfl, ht⟩, c7, c8, rfl, ⟨B, c, rfl, h1, h2, hB⟩, C, d, rfl, h3, h4, hC⟩ := h
 exact ⟨B, c, C, d, rfl, hs, hf, ht, h1, h2, h3, h4, hB, hC⟩
theorem Mbs.at_ {w : World} {A : Option Addr} {es : List Mb} (h : Mbs w A es) (k : Nat) (hk : k < es.length) :
  ∃ b off s f t B u c C r d, A = some ⟨b, off, none⟩ ∧ b < w.heap.size ∧ es[k] = (s, (f, t), (u, r)) ∧ w.cell? ⟨b, off + k * 5, none⟩ = some (.int .i64 s) ∧ w.cell? ⟨b, off + k * 5 + 1, none⟩ = some (.int .i64 f) ∧ w.cell? ⟨b, off + k * 5 + 2, none⟩ = some (.int .i64 t) ∧
   w.cell? ⟨b, off + k * 5 + 3, none⟩ = some (.slice B u.length c) ∧ w.cell? ⟨b, off + k * 5 + 4, none⟩ = some (.slice C r.length d) ∧ isI s ∧ isI f ∧ isI t ∧ u.length ≤ c ∧ c ≤ maxLen ∧ r.length ≤ d ∧ d ≤ maxLen ∧ Es w B u ∧ Es w C r := by
 obtain ⟨b, off, us, hA, hlt, hus, hc, hr⟩ := h k hk
 obtain ⟨⟨s, ⟨f, t⟩, ⟨u, r⟩⟩, he⟩ : ∃ e, es[k] = e := ⟨_, rfl⟩
 rw [he] at hr
 obtain ⟨B, c, C, d, rfl, hs, hf, ht, h1, h2, h3, h4, hB, hC⟩ := Lay.member_rd hr
 refine ⟨b, off, s, f, t, B, u, c, C, r, d, hA, hlt, he, ?_, ?_, ?_, ?_, ?_, hs, hf, ht, h1, h2, h3, h4, hB, hC⟩
 ·have := hc 0 (by simp); simpa using this
 ·have := hc 1 (by simp); simpa [Nat.add_assoc] using this
 ·have := hc 2 (by simp); simpa [Nat.add_assoc] using this
 ·have := hc 3 (by simp); simpa [Nat.add_assoc] using this
 ·have := hc 4 (by simp); simpa [Nat.add_assoc] using this
theorem Tryz.infoMb : (Tryz.prog.info? 50).map (fun i => (i.zero, i.size, i.bytes)) = some (some (.agg #[.int .i64 0, .int .i64 0, .int .i64 0, .slice none 0 0, .slice none 0 0]), 5, 72) := by kernel_rfl
/-- A member of the call's own. -/
theorem own_member {w : World} {base : Nat} {s f t : Int} {A B : Option Addr} {u r : List Ed} {c d : Nat} {fp gp : List Nat} (hs : isI s) (hf : isI f) (ht : isI t) (h : OwS w base A u c fp B r d gp) :
  Lay.member.ow w [.int .i64 s, .int .i64 f, .int .i64 t, .slice A u.length c, .slice B r.length d] (s, (f, t), (u, r)) (fp ++ gp) :=
 ⟨[.int .i64 s], [.int .i64 f, .int .i64 t, .slice A u.length c, .slice B r.length d], [], fp ++ gp, rfl, ⟨rfl, hs, rfl⟩, ⟨[.int .i64 f, .int .i64 t], [.slice A u.length c, .slice B r.length d], [], fp ++ gp, rfl, ⟨[.int .i64 f], [.int .i64 t], [], [], rfl, ⟨rfl, hf, rfl⟩, ⟨rfl, ht, rfl⟩, rfl⟩, ⟨[.slice A u.length c], [.slice B r.length d], fp, gp, rfl, h.u.ow, h.r.ow, rfl⟩, rfl⟩, rfl⟩
theorem OwS.nodup {w : World} {base : Nat} {A B : Option Addr} {u r : List Ed} {c d : Nat} {fp gp : List Nat} (h : OwS w base A u c fp B r d gp) : (fp ++ gp).Nodup := by
 rw [List.nodup_append]
 exact ⟨h.u.nd, h.r.nd, fun a ha b hb e => h.dis a ha (by rw [e]; exact hb)⟩
theorem OwS.lo {w : World} {base : Nat} {A B : Option Addr} {u r : List Ed} {c d : Nat} {fp gp : List Nat} (h : OwS w base A u c fp B r d gp) : ∀ k ∈ fp ++ gp, base ≤ k := by
 intro k hk
 rcases List.mem_append.1 hk with h1 | h1
 ·exact h.u.lo k h1
 ·exact h.r.lo k h1

/-- What the stacks of members hold. -/
def mtot (m : Mb) : Nat := m.2.2.1.length + tot (puts m.2.2.1) + m.2.2.2.length + tot (puts m.2.2.2)
def msum (es : List Mb) : Nat := (es.map mtot).sum
theorem msum_take (es : List Mb) (k : Nat) (hk : k < es.length) : msum (es.take (k + 1)) = msum (es.take k) + mtot es[k] := by
 unfold msum
 rw [List.take_succ_eq_append_getElem hk, List.map_append, List.sum_append]
 simp
theorem msum_mem (es : List Mb) (k : Nat) (hk : k < es.length) : mtot es[k] ≤ msum es := by
 unfold msum
 have h : es = es.take k ++ es[k] :: es.drop (k + 1) := by rw [← List.drop_eq_getElem_cons hk, List.take_append_drop]
 have h2 : (es.map mtot).sum = ((es.take k).map mtot).sum + (mtot es[k] + ((es.drop (k + 1)).map mtot).sum) := by
  conv => lhs; rw [h]
  rw [List.map_append, List.sum_append, List.map_cons, List.sum_cons]
 omega

set_option maxHeartbeats 400000 in
theorem szMember_any (s f t : Int) (A : Option Addr) (u : List Ed) (c : Nat) (B : Option Addr) (r : List Ed) (d : Nat) (left : Int) (w : World) (hu9 : u.length ≤ 9223372036854775807) (hr9 : r.length ≤ 9223372036854775807) (h0 : 0 ≤ left) (h1 : left ≤ 1048576) (hU : Es w A u) (hR : Es w B r) :
  Calls Tryz.prog 65 #[.agg #[.int .i64 s, .int .i64 f, .int .i64 t, .slice A u.length c, .slice B r.length d], .int .i64 left] w fun e w' => (∃ q : Int, e = .returned (.int .i64 q) ∧ (q < 0 ∨ (0 ≤ q ∧ q + mtot (s, (f, t), (u, r)) ≤ left))) ∧ Below w.heap.size w w' := by
 have hal := (Below.refl w.heap.size w).alloc (Nat.le_refl _) (.cells #[.int .i64 s, .int .i64 f, .int .i64 t, .slice A u.length c, .slice B r.length d] 99)
 have HU := Lib.hid (hU.below hal)
 have HR := Lib.hid (hR.below hal)
 have HM := Lib.hid (show ∀ q : Int, q + u.length + tot (puts u) + r.length + tot (puts r) ≤ left → q + mtot (s, (f, t), (u, r)) ≤ left from fun q h => by unfold mtot; simp only; omega)
 clear hU hR
 go_enter Tryz.func65, Tryz.ntmps65
 go_wp2_with fail
 refine (szStack_any A u c B r d left _ hu9 hr9 h0 h1 (by first | exact HU.out | exact hU) (by first | exact HR.out | exact hR)).mono ?_
 rintro e w1 ⟨⟨q, rfl, hq⟩, hb1⟩
 have hb2 : Below w.heap.size w w1 := by first | exact hb1 | exact below_skip hb1
 by_cases hneg : q < 0
 ·go_wp2
  go_ret
  exact ⟨⟨_, rfl, .inl (by omega)⟩, hb2⟩
 ·have hq2 : 0 ≤ q ∧ q + mtot (s, (f, t), (u, r)) ≤ left := by
   rcases hq with h | h
   ·omega
   ·exact ⟨h.1, HM.out q h.2⟩
  go_wp2
  go_ret
  exact ⟨⟨_, rfl, .inr hq2⟩, hb2⟩

set_option maxHeartbeats 1000000 in
theorem szMemberS_any (A : Option Addr) (es : List Mb) (c : Nat) (left : Int) (w : World) (hn : es.length ≤ 9223372036854775807) (h0 : 0 ≤ left) (h1 : left ≤ 1048576) (hE : Mbs w A es) :
  Calls Tryz.prog 25 #[.slice A es.length c, .int .i64 left] w fun e w' => (∃ r : Int, e = .returned (.int .i64 r) ∧ (r < 0 ∨ (0 ≤ r ∧ r + es.length + msum es ≤ left))) ∧ Below w.heap.size w w' := by
 by_cases h : left - (es.length : Int) < 0
 ·go_enter Tryz.func25, Tryz.ntmps25
  go_wp2
  go_ret
  exact ⟨⟨_, rfl, .inl (by omega)⟩, Below.refl _ _⟩
 ·go_enter Tryz.func25, Tryz.ntmps25
  go_wp2
  go_loopw [1, 5] (fun lf i wr => ∃ k : Nat, ∃ r : Int, k ≤ es.length ∧ i = .int .i64 k ∧ lf = .int .i64 r ∧ 0 ≤ r ∧ r ≤ 1048576 ∧ es.length + msum (es.take k) + r ≤ left ∧ Below w.heap.size w wr) (fun _ i _ => es.length - (intOf i).toNat)
  case atStart => exact ⟨0, left - es.length, Nat.zero_le _, rfl, rfl, by omega, by omega, by simp [msum]; omega, Below.refl _ _⟩
  case round =>
   obtain ⟨k, r0, hk, rfl, rfl, hr0, hr1, hr2, hb⟩ := hrel
   by_cases hlt : k < es.length
   ·obtain ⟨b, off, s, f, t, B, u, c', C, r, d, rfl, hbl, hek, k0, k1, k2, k3, k4, hs, hf, ht, hcu, hcm, hdr, hdm, hU, hR⟩ := (hE.below hb).at_ k hlt
    have htk := msum_take es k hlt
    rw [hek] at htk
    have HT := Lib.hid htk
    have hu9 : u.length ≤ 9223372036854775807 := by unfold maxLen at hcm; omega
    have hr9 : r.length ≤ 9223372036854775807 := by unfold maxLen at hdm; omega
    clear htk hek hs hf ht
    have HU := Lib.hid hU
    have HR := Lib.hid hR
    clear hU hR
    go_wp2_with fail
    refine (szMember_any s f t B u c' C r d r0 _ hu9 hr9 hr0 hr1 (by exact HU.out) (by exact HR.out)).mono ?_
    rintro e w1 ⟨⟨q, rfl, hq⟩, hb1⟩
    have hb2 := below_then hb hb1
    clear k0 k1 k2 k3 k4
    by_cases hneg : q < 0
    ·go_wp2
     go_ret
     exact ⟨⟨_, rfl, .inl (by omega)⟩, hb2⟩
    ·go_wp2
     go_roundw
     case rel => exact ⟨k + 1, q, by omega, by go_num, rfl, by omega, by omega, by rw [HT.out]; omega, hb2⟩
     case measure => simp [intOf]; omega
   ·have e : k = es.length := by omega
    subst e
    rw [List.take_length] at hr2
    go_wp2
    go_ret
    exact ⟨⟨_, rfl, .inr ⟨hr0, by omega⟩⟩, hb⟩

set_option maxHeartbeats 1000000 in
theorem toSel_e (f t : Int) (w : World) :
  Calls Tryz.prog 96 #[.agg #[.int .i64 f, .int .i64 t]] w fun e w' => e = .returned (.agg #[.int .i64 f, .int .i64 t]) ∧ Below w.heap.size w w' := by
 go_enter Tryz.func96, Tryz.ntmps96
 go_wp2
 refine bodyPost_ret (v := .agg #[.int .i64 f, .int .i64 t]) (by simp [results, Tryz.results96, go_sem]) rfl ⟨rfl, ?_⟩
 (repeat (first | exact Below.refl _ _ | assumption | refine Below.setCell ?_ (by first | (simp; done) | (simp; omega) | omega) _ | refine Below.drew ?_ | refine below_drewN ?_ _ | refine Below.alloc ?_ (by first | (simp; done) | (simp; omega) | omega) _))

set_option maxHeartbeats 4000000 in
theorem toMember_any (s f t : Int) (A : Option Addr) (u : List Ed) (c : Nat) (B : Option Addr) (r : List Ed) (d : Nat) (w : World) (hu : u.length + tot (puts u) ≤ 1048576) (hr : r.length + tot (puts r) ≤ 1048576) (hU : Es w A u) (hR : Es w B r) :
  Calls Tryz.prog 68 #[.agg #[.int .i64 s, .int .i64 f, .int .i64 t, .slice A u.length c, .slice B r.length d]] w fun e w' => ∃ A' c' fp B' d' gp, e = .returned (.agg #[.int .i64 s, .int .i64 f, .int .i64 t, .slice A' u.length c', .slice B' r.length d']) ∧ OwS w' w.heap.size A' u c' fp B' r d' gp ∧ Below w.heap.size w w' := by
 have hal := (((Below.refl w.heap.size w).alloc (Nat.le_refl _) (.cells #[.int .i64 s, .int .i64 f, .int .i64 t, .slice A u.length c, .slice B r.length d] 99)).alloc (by simp) (.cells #[.int .i64 0, .int .i64 0, .int .i64 0, .slice none 0 0, .slice none 0 0] 50)).alloc (by simp; omega) (.cells #[.int .i64 s, .int .i64 0, .int .i64 0, .slice none 0 0, .slice none 0 0] 50)
 have hbx := ((Blk.new w #[.int .i64 s, .int .i64 f, .int .i64 t, .slice A u.length c, .slice B r.length d] 99).alloc (.cells #[.int .i64 0, .int .i64 0, .int .i64 0, .slice none 0 0, .slice none 0 0] 50)).alloc (.cells #[.int .i64 s, .int .i64 0, .int .i64 0, .slice none 0 0, .slice none 0 0] 50)
 have hb1 := (Blk.new (w.alloc (.cells #[.int .i64 s, .int .i64 f, .int .i64 t, .slice A u.length c, .slice B r.length d] 99)) #[.int .i64 0, .int .i64 0, .int .i64 0, .slice none 0 0, .slice none 0 0] 50).alloc (.cells #[.int .i64 s, .int .i64 0, .int .i64 0, .slice none 0 0, .slice none 0 0] 50)
 have hb2 := Blk.new ((w.alloc (.cells #[.int .i64 s, .int .i64 f, .int .i64 t, .slice A u.length c, .slice B r.length d] 99)).alloc (.cells #[.int .i64 0, .int .i64 0, .int .i64 0, .slice none 0 0, .slice none 0 0] 50)) #[.int .i64 s, .int .i64 0, .int .i64 0, .slice none 0 0, .slice none 0 0] 50
 simp only [World.size_alloc] at hb1 hb2
 have HB := Lib.hid hal
 have BX := Lib.hid hbx
 have R1 := Lib.hid hb1
 have R2 := Lib.hid hb2
 have HUK := Lib.hid (show ∀ W, Below w.heap.size w W → Es W A u from fun W h => hU.below h)
 have HRK := Lib.hid (show ∀ W, Below w.heap.size w W → Es W B r from fun W h => hR.below h)
 have hzw : ((((w.alloc (.cells #[.int .i64 s, .int .i64 f, .int .i64 t, .slice A u.length c, .slice B r.length d] 99)).alloc (.cells #[.int .i64 0, .int .i64 0, .int .i64 0, .slice none 0 0, .slice none 0 0] 50)).alloc (.cells #[.int .i64 s, .int .i64 0, .int .i64 0, .slice none 0 0, .slice none 0 0] 50))).heap.size = w.heap.size + 3 := by simp
 have p0 := BX.out.cell 0
 have p1 := BX.out.cell 1
 have p2 := BX.out.cell 2
 clear hal hbx hb1 hb2 hU hR
 go_enter Tryz.func68, Tryz.ntmps68
 go_wp2_with fail
 generalize ((w.alloc (.cells #[.int .i64 s, .int .i64 f, .int .i64 t, .slice A u.length c, .slice B r.length d] 99)).alloc (.cells #[.int .i64 0, .int .i64 0, .int .i64 0, .slice none 0 0, .slice none 0 0] 50)).alloc (.cells #[.int .i64 s, .int .i64 0, .int .i64 0, .slice none 0 0, .slice none 0 0] 50) = W at *
 refine (toSel_e f t _).mono ?_
 rintro e w1 ⟨rfl, hbl1⟩
 have HB := Lib.hid (below_then HB.out hbl1)
 have BX := Lib.hid (BX.out.below hbl1)
 have R1 := Lib.hid (R1.out.below hbl1)
 have R2 := Lib.hid (R2.out.below hbl1)
 have hz1 := hbl1.size
 have hlt := R2.out.lt
 clear hbl1 p0 p1 p2
 have f21 := R2.out.frozen 1
 have f22 := R2.out.frozen 2
 have c21 := R2.out.cell 1
 have c22 := R2.out.cell 2
 have p3 := BX.out.cell 3
 have p4 := BX.out.cell 4
 have hk := ((Keeps.refl [w.heap.size + 2] w1).set (List.mem_singleton.2 rfl) 1 (.int .i64 f)).set (List.mem_singleton.2 rfl) 2 (.int .i64 t)
 have BX2 := Lib.hid (BX.out.of_block (hk.block _ BX.out.lt (by simp)))
 have R12 := Lib.hid (R1.out.of_block (hk.block _ R1.out.lt (by simp)))
 have R22 := Lib.hid (show Blk ((w1.setCell ⟨w.heap.size + 2, 1, none⟩ (.int .i64 f)).setCell ⟨w.heap.size + 2, 2, none⟩ (.int .i64 t)) (w.heap.size + 2) #[.int .i64 s, .int .i64 f, .int .i64 t, .slice none 0 0, .slice none 0 0] 50 by simpa using (R2.out.set 1 (.int .i64 f)).set 2 (.int .i64 t))
 have HB2 := Lib.hid ((HB.out.setCell (p := ⟨w.heap.size + 2, 1, none⟩) (by simp) (.int .i64 f)).setCell (p := ⟨w.heap.size + 2, 2, none⟩) (by simp) (.int .i64 t))
 have HU2 := Lib.hid (HUK.out _ HB2.out)
 have HR2 := Lib.hid (HRK.out _ HB2.out)
 clear BX R1 R2 HB hk
 go_wp2_with fail
 generalize hW2 : (w1.setCell ⟨w.heap.size + 2, 1, none⟩ (.int .i64 f)).setCell ⟨w.heap.size + 2, 2, none⟩ (.int .i64 t) = w2 at *
 have hz2 : w2.heap.size = w1.heap.size := by rw [← hW2]; simp
 clear hW2 c21 c22 f21 f22
 refine (toStack_any A u c B r d _ hu hr HU2.out HR2.out).mono ?_
 rintro e w3 ⟨A3, c3, fp, B3, d3, gp, rfl, ho3, hbl3⟩
 have HO3 := Lib.hid ho3
 have HB3 := Lib.hid (below_then HB2.out hbl3)
 have R13 := Lib.hid (R12.out.below hbl3)
 have R23 := Lib.hid (R22.out.below hbl3)
 have hz3 := hbl3.size
 clear ho3 hbl3 p3 p4 BX2 R12 R22
 have hk := (((((((Keeps.refl [w.heap.size + 1, w.heap.size + 2] w3).set (g := w.heap.size + 2) (by simp) 3 (.slice A3 u.length c3)).set (g := w.heap.size + 2) (by simp) 4 (.slice B3 r.length d3)).set (g := w.heap.size + 1) (by simp) 0 (.int .i64 s)).set (g := w.heap.size + 1) (by simp) 1 (.int .i64 f)).set (g := w.heap.size + 1) (by simp) 2 (.int .i64 t)).set (g := w.heap.size + 1) (by simp) 3 (.slice A3 u.length c3)).set (g := w.heap.size + 1) (by simp) 4 (.slice B3 r.length d3)
 have HO9 := Lib.hid (HO3.out.keeps hk (fun k hk => by have := (HO3.out.u.range k hk).1; simp; omega) (fun k hk => by have := (HO3.out.r.range k hk).1; simp; omega))
 have HB9 := Lib.hid (((((((HB3.out.setCell (p := ⟨w.heap.size + 2, 3, none⟩) (by simp) (.slice A3 u.length c3)).setCell (p := ⟨w.heap.size + 2, 4, none⟩) (by simp) (.slice B3 r.length d3)).setCell (p := ⟨w.heap.size + 1, 0, none⟩) (by simp) (.int .i64 s)).setCell (p := ⟨w.heap.size + 1, 1, none⟩) (by simp) (.int .i64 f)).setCell (p := ⟨w.heap.size + 1, 2, none⟩) (by simp) (.int .i64 t)).setCell (p := ⟨w.heap.size + 1, 3, none⟩) (by simp) (.slice A3 u.length c3)).setCell (p := ⟨w.heap.size + 1, 4, none⟩) (by simp) (.slice B3 r.length d3))
 have q0 := R23.out.cell 0
 have r0 := R13.out.cell 0
 have g0 := R23.out.frozen 0
 have k0 := R13.out.frozen 0
 have q1 := R23.out.cell 1
 have r1 := R13.out.cell 1
 have g1 := R23.out.frozen 1
 have k1 := R13.out.frozen 1
 have q2 := R23.out.cell 2
 have r2 := R13.out.cell 2
 have g2 := R23.out.frozen 2
 have k2 := R13.out.frozen 2
 have q3 := R23.out.cell 3
 have r3 := R13.out.cell 3
 have g3 := R23.out.frozen 3
 have k3 := R13.out.frozen 3
 have q4 := R23.out.cell 4
 have r4 := R13.out.cell 4
 have g4 := R23.out.frozen 4
 have k4 := R13.out.frozen 4
 clear hk R13 R23 HB2 HU2 HR2
 go_wp2
 refine bodyPost_ret (v := .agg #[.int .i64 s, .int .i64 f, .int .i64 t, .slice A3 u.length c3, .slice B3 r.length d3]) (by simp [results, Tryz.results68, go_sem, q0, q1, q2, q3, q4, r0, r1, r2, r3, r4]) rfl ?_
 exact ⟨_, _, _, _, _, _, rfl, ⟨HO9.out.u.mono (by omega), HO9.out.r.mono (by omega), HO9.out.dis⟩, HB9.out⟩

set_option maxHeartbeats 4000000 in
theorem toMemberS_any (A : Option Addr) (es : List Mb) (c : Nat) (w : World) (hn : es.length + msum es ≤ 1048576) (hE : Mbs w A es) :
  Calls Tryz.prog 32 #[.slice A es.length c] w (Gives Lay.members wSlice es w) := by
 have hmk : ∀ W, (Instr.makeSlice 33 (.int .i64 (es.length : Int)) (.int .i64 (es.length : Int))).run Tryz.prog W = .ok (.slice (some ⟨W.heap.size, 0, none⟩) es.length es.length) (W.alloc (.cells (madeCells #[.int .i64 0, .int .i64 0, .int .i64 0, .slice none 0 0, .slice none 0 0] (es.length * 5)) 50)) := fun W =>
  run_mk (P := Tryz.prog) 33 50 (.agg #[.int .i64 0, .int .i64 0, .int .i64 0, .slice none 0 0, .slice none 0 0]) 5 72 Tryz.underlying33 Tryz.infoMb es.length (by omega) (by omega) W
 go_enter Tryz.func32, Tryz.ntmps32
 go_wp2
 go_loopw [4] (fun i wr => ∃ L : List (El Mb), L.length ≤ es.length ∧ i = .int .i64 L.length ∧ es.take L.length = L.map (·.2.1) ∧
   Filling 50 Lay.member (fun j => (#[.int .i64 0, .int .i64 0, .int .i64 0, .slice none 0 0, .slice none 0 0] : Array Value)[j % 5]!) es.length wr w.heap.size L ∧ Below w.heap.size w wr)
  (fun i _ => es.length - (intOf i).toNat)
 case atStart => exact ⟨[], Nat.zero_le _, rfl, by simp, Filling.made #[.int .i64 0, .int .i64 0, .int .i64 0, .slice none 0 0, .slice none 0 0] _ _, (Below.refl _ _).alloc (Nat.le_refl _) _⟩
 case round =>
  obtain ⟨L, hk, rfl, htk, hfill, hbel⟩ := hrel
  have HTK := Lib.hid htk
  clear htk
  by_cases hlt : L.length < es.length
  ·obtain ⟨b, off, s, f, t, B, u, cu, C, r, d, rfl, hbl, hek, k0, k1, k2, k3, k4, hs, hf, ht, hcu, hcm, hdr, hdm, hU, hR⟩ := (hE.below hbel).at_ L.length hlt
   have htot := msum_mem es L.length hlt
   rw [hek] at htot
   have hnext : es.take (L.length + 1) = L.map (·.2.1) ++ [(s, (f, t), (u, r))] := by rw [List.take_succ_eq_append_getElem hlt, HTK.out, hek]
   have HN := Lib.hid hnext
   have hu4 : u.length + tot (puts u) ≤ 1048576 := by unfold mtot at htot; simp only at htot; omega
   have hr4 : r.length + tot (puts r) ≤ 1048576 := by unfold mtot at htot; simp only at htot; omega
   have HS := Lib.hid hs
   have HF := Lib.hid hf
   have HT := Lib.hid ht
   have HU := Lib.hid hU
   have HR := Lib.hid hR
   clear hnext hek htot hs hf ht hU hR
   obtain ⟨k, hkk⟩ : ∃ k, L.length = k := ⟨_, rfl⟩
   have hlt' := hlt
   rw [hkk] at k0 k1 k2 k3 k4 hlt' hk
   have HK := Lib.hid hkk
   rw [hkk]
   clear hkk
   have hw : w.heap.size < wr.heap.size := hfill.row.lt
   have hki : (k : Int) < (es.length : Int) := by omega
   go_wp2_with fail
   refine (toMember_any s f t B u cu C r d _ hu4 hr4 (by exact HU.out) (by exact HR.out)).mono ?_
   rintro e w1 ⟨A', c', fp, B', d', gp, rfl, hown, hb1⟩
   have hrow1 := hfill.row.of_block (hb1.block _ hfill.row.lt)
   obtain ⟨u0, hu0⟩ : ∃ u, w1.cell? ⟨w.heap.size, k * 5, none⟩ = some u := ⟨_, hrow1.cell (by show k * 5 < es.length * 5; omega)⟩
   have hfz0 := hrow1.frozen (k * 5)
   obtain ⟨u1, hu1⟩ : ∃ u, w1.cell? ⟨w.heap.size, k * 5 + 1, none⟩ = some u := ⟨_, hrow1.cell (by show k * 5 + 1 < es.length * 5; omega)⟩
   have hfz1 := hrow1.frozen (k * 5 + 1)
   obtain ⟨u2, hu2⟩ : ∃ u, w1.cell? ⟨w.heap.size, k * 5 + 2, none⟩ = some u := ⟨_, hrow1.cell (by show k * 5 + 2 < es.length * 5; omega)⟩
   have hfz2 := hrow1.frozen (k * 5 + 2)
   obtain ⟨u3, hu3⟩ : ∃ u, w1.cell? ⟨w.heap.size, k * 5 + 3, none⟩ = some u := ⟨_, hrow1.cell (by show k * 5 + 3 < es.length * 5; omega)⟩
   have hfz3 := hrow1.frozen (k * 5 + 3)
   obtain ⟨u4, hu4⟩ : ∃ u, w1.cell? ⟨w.heap.size, k * 5 + 4, none⟩ = some u := ⟨_, hrow1.cell (by show k * 5 + 4 < es.length * 5; omega)⟩
   have hfz4 := hrow1.frozen (k * 5 + 4)
   have hs1 := hb1.size
   have hr2 := (((((hrow1.set (k * 5) (.int .i64 s)).set (k * 5 + 1) (.int .i64 f)).set (k * 5 + 2) (.int .i64 t)).set (k * 5 + 3) (.slice A' u.length c')).set (k * 5 + 4) (.slice B' r.length d'))
   have hf2 := hfill.snoc hb1 (own_member HS.out HF.out HT.out hown) hown.nodup hown.lo (hr2.congr (by
    intro j hj
    have hs : Lay.member.sz = 5 := rfl
    rw [hs, HK.out]
    by_cases c4 : j = k * 5 + 4
    ·subst c4; simp
    ·by_cases c3 : j = k * 5 + 3
     ·subst c3; simp
     ·by_cases c2 : j = k * 5 + 2
      ·subst c2; simp
      ·by_cases c1 : j = k * 5 + 1
       ·subst c1; simp
       ·by_cases c0 : j = k * 5
        ·subst c0; simp
        ·rw [if_neg c4, if_neg c3, if_neg c2, if_neg c1, if_neg c0, if_neg (by omega)])) (fun q hq => by rw [Below.heap_setCell _ _ _ _ hq, Below.heap_setCell _ _ _ _ hq, Below.heap_setCell _ _ _ _ hq, Below.heap_setCell _ _ _ _ hq, Below.heap_setCell _ _ _ _ hq]) (by simp)
   have HF2 := Lib.hid hf2
   clear hrow1 hf2 hr2 hfill hown k0 k1 k2 k3 k4
   go_wp2
   go_roundw
   case rel =>
    refine ⟨_, ?_, ?_, ?_, by have h9 := HF2.out; exact h9, ((((((below_then hbel hb1).setCell (p := ⟨w.heap.size, k * 5, none⟩) (Nat.le_refl _) _).setCell (p := ⟨w.heap.size, k * 5 + 1, none⟩) (Nat.le_refl _) _).setCell (p := ⟨w.heap.size, k * 5 + 2, none⟩) (Nat.le_refl _) _).setCell (p := ⟨w.heap.size, k * 5 + 3, none⟩) (Nat.le_refl _) _).setCell (p := ⟨w.heap.size, k * 5 + 4, none⟩) (Nat.le_refl _) _)⟩
    ·rw [List.length_append]; simp; omega
    ·rw [List.length_append, ← HK.out]; simp
    ·rw [List.length_append, List.length_singleton, HN.out, List.map_append]; rfl
   case measure => simp [intOf]; have := HK.out; omega
  ·have e : L.length = es.length := by omega
   obtain ⟨h1, h2, h3⟩ := hfill.done e (by unfold maxLen; omega)
   have e2 : L.map (·.2.1) = es := by rw [← HTK.out, e, List.take_length]
   rw [e2] at h1
   have H1 := Lib.hid h1
   have HE := Lib.hid e
   clear h1 e e2 hfill
   go_wp2
   go_ret
   exact ⟨_, _, rfl, H1.out, h2, h3, hbel⟩

set_option maxHeartbeats 1000000 in
theorem eqSel_gen (x y x' y' : Int) (w : World) :
  Calls Tryz.prog 60 #[.agg #[.int .i64 x, .int .i64 y], .agg #[.int .i64 x', .int .i64 y']] w fun e w' => e = .returned (.bool (decide (x = x' ∧ y = y'))) ∧ Below w.heap.size w w' := by
 by_cases h1 : x = x'
 ·have e1 : (x != x') = false := by simp [h1]
  by_cases h2 : y = y'
  ·have e2 : (y != y') = false := by simp [h2]
   rw [decide_eq_true ⟨h1, h2⟩]
   clear h1 h2
   go_enter Tryz.func60, Tryz.ntmps60
   go_wp2
   go_ret
   refine ⟨rfl, ?_⟩
   (repeat (first | exact Below.refl _ _ | assumption | refine Below.setCell ?_ (by first | (simp; done) | (simp; omega) | omega) _ | refine Below.drew ?_ | refine below_drewN ?_ _ | refine Below.alloc ?_ (by first | (simp; done) | (simp; omega) | omega) _))
  ·have e2 : (y != y') = true := by simp [h2]
   rw [decide_eq_false (fun h => h2 h.2)]
   clear h1 h2
   go_enter Tryz.func60, Tryz.ntmps60
   go_wp2
   go_ret
   refine ⟨rfl, ?_⟩
   (repeat (first | exact Below.refl _ _ | assumption | refine Below.setCell ?_ (by first | (simp; done) | (simp; omega) | omega) _ | refine Below.drew ?_ | refine below_drewN ?_ _ | refine Below.alloc ?_ (by first | (simp; done) | (simp; omega) | omega) _))
 ·have e1 : (x != x') = true := by simp [h1]
  rw [decide_eq_false (fun h => h1 h.1)]
  clear h1
  go_enter Tryz.func60, Tryz.ntmps60
  go_wp2
  go_ret
  refine ⟨rfl, ?_⟩
  (repeat (first | exact Below.refl _ _ | assumption | refine Below.setCell ?_ (by first | (simp; done) | (simp; omega) | omega) _ | refine Below.drew ?_ | refine below_drewN ?_ _ | refine Below.alloc ?_ (by first | (simp; done) | (simp; omega) | omega) _))

set_option maxHeartbeats 4000000 in
theorem eqMember_any (s f t s' f' t' : Int) (A : Option Addr) (u : List Ed) (c : Nat) (B : Option Addr) (r : List Ed) (d : Nat) (A' : Option Addr) (u' : List Ed) (c' : Nat) (B' : Option Addr) (r' : List Ed) (d' : Nat) (w : World) (hu9 : u.length ≤ 9223372036854775807) (hr9 : r.length ≤ 9223372036854775807) (hU : Es w A u) (hR : Es w B r) (hU' : Es w A' u') (hR' : Es w B' r') :
  Calls Tryz.prog 20 #[.agg #[.int .i64 s, .int .i64 f, .int .i64 t, .slice A u.length c, .slice B r.length d], .agg #[.int .i64 s', .int .i64 f', .int .i64 t', .slice A' u'.length c', .slice B' r'.length d']] w fun e w' => e = .returned (.bool (decide (s = s' ∧ (f = f' ∧ t = t') ∧ u = u' ∧ r = r'))) ∧ Below w.heap.size w w' := by
 have hb0 := (((Below.refl w.heap.size w).alloc (Nat.le_refl _) (.cells #[.int .i64 s, .int .i64 f, .int .i64 t, .slice A u.length c, .slice B r.length d] 50))).alloc (by simp) (.cells #[.int .i64 s', .int .i64 f', .int .i64 t', .slice A' u'.length c', .slice B' r'.length d'] 50)
 have BX := Lib.hid ((Blk.new w #[.int .i64 s, .int .i64 f, .int .i64 t, .slice A u.length c, .slice B r.length d] 50).alloc (.cells #[.int .i64 s', .int .i64 f', .int .i64 t', .slice A' u'.length c', .slice B' r'.length d'] 50))
 have hy := Blk.new (w.alloc (.cells #[.int .i64 s, .int .i64 f, .int .i64 t, .slice A u.length c, .slice B r.length d] 50)) #[.int .i64 s', .int .i64 f', .int .i64 t', .slice A' u'.length c', .slice B' r'.length d'] 50
 simp only [World.size_alloc] at hy
 have BY := Lib.hid hy
 have HU := Lib.hid (hU.below hb0)
 have HR := Lib.hid (hR.below hb0)
 have HU' := Lib.hid (hU'.below hb0)
 have HR' := Lib.hid (hR'.below hb0)
 obtain ⟨z, hz⟩ : ∃ z, decide (s = s' ∧ (f = f' ∧ t = t') ∧ u = u' ∧ r = r') = z := ⟨_, rfl⟩
 obtain ⟨z1, hz1⟩ : ∃ z, decide (f = f' ∧ t = t') = z := ⟨_, rfl⟩
 obtain ⟨z2, hz2⟩ : ∃ z, (decide (u = u') && decide (r = r')) = z := ⟨_, rfl⟩
 have F0 : s ≠ s' → z = false := fun h => by rw [← hz]; simp [h]
 have F1 : s = s' → z = (z1 && z2) := fun h => by
  rw [← hz, ← hz1, ← hz2]
  by_cases a1 : f = f' <;> by_cases a2 : t = t' <;> by_cases a3 : u = u' <;> by_cases a4 : r = r' <;> simp [h, a1, a2, a3, a4]
 rw [hz]
 have HZ1 := Lib.hid hz1
 have HZ2 := Lib.hid hz2
 have HF1 := Lib.hid F1
 have HB0 := Lib.hid hb0
 clear hU hR hU' hR' hy hz hz1 hz2 F1
 by_cases h1 : s = s'
 ·have e1 : (s != s') = false := by simp [h1]
  have hzz := HF1.out h1
  subst hzz
  clear h1 F0
  have p1 := BX.out.cell 1
  have p2 := BX.out.cell 2
  have q1 := BY.out.cell 1
  have q2 := BY.out.cell 2
  go_enter Tryz.func20, Tryz.ntmps20
  go_wp2_with fail
  generalize (w.alloc (.cells #[.int .i64 s, .int .i64 f, .int .i64 t, .slice A u.length c, .slice B r.length d] 50)).alloc (.cells #[.int .i64 s', .int .i64 f', .int .i64 t', .slice A' u'.length c', .slice B' r'.length d'] 50) = W at *
  refine (eqSel_gen f t f' t' _).mono ?_
  rintro e w1 ⟨rfl, hb1⟩
  rw [HZ1.out]
  have BX := Lib.hid (BX.out.below hb1)
  have BY := Lib.hid (BY.out.below hb1)
  have HU := Lib.hid (HU.out.below hb1)
  have HR := Lib.hid (HR.out.below hb1)
  have HU' := Lib.hid (HU'.out.below hb1)
  have HR' := Lib.hid (HR'.out.below hb1)
  have HB9 := Lib.hid (below_then HB0.out hb1)
  clear p1 p2 q1 q2 hb0
  cases z1
  ·go_wp2
   go_ret
   exact ⟨rfl, HB9.out⟩
  have p3 := BX.out.cell 3
  have p4 := BX.out.cell 4
  have q3 := BY.out.cell 3
  have q4 := BY.out.cell 4
  go_wp2_with fail
  refine (eqStack_any A u c B r d A' u' c' B' r' d' _ hu9 hr9 HU.out HR.out HU'.out HR'.out).mono ?_
  rintro e w2 ⟨rfl, hb2⟩
  rw [HZ2.out]
  have HB10 := Lib.hid (below_then HB9.out hb2)
  clear p3 p4 q3 q4
  cases z2
  ·go_wp2
   go_ret
   exact ⟨rfl, HB10.out⟩
  ·go_wp2
   go_ret
   exact ⟨rfl, HB10.out⟩
 ·have hzz := F0 h1
  subst hzz
  have e1 : (s != s') = true := by simp [h1]
  clear h1 F0
  go_enter Tryz.func20, Tryz.ntmps20
  go_wp2
  go_ret
  exact ⟨rfl, HB0.out⟩
end Go.Proofs.YtaekanhjkpoifaaGreatDoor
