/-
 Chapter 10, the laws' helpers on documents: what a document reads as, and contracts (sizes, copies, equality). Own work.
-/
import Derived.Test.YtaekanhjkpoifaaGreatDoorRp5
import Derived.Test.YtaekanhjkpoifaaGreatDoorRp7
import Derived.Test.YtaekanhjkpoifaaGreatDoorRS10
namespace Go.Proofs.YtaekanhjkpoifaaGreatDoor
open Go.RowKit P
set_option linter.unusedVariables false
set_option linter.unusedSimpArgs false
set_option maxRecDepth 100000

/-- A document's value. -/
structure Dc where
 start : List UInt8
 text : List UInt8
 log : List Cm
 clock : Int
 mem : List Mb
 lea : List Le
instance decDc : DecidableEq Dc := fun x y => decidable_of_iff (x.start = y.start ∧ x.text = y.text ∧ x.log = y.log ∧ x.clock = y.clock ∧ x.mem = y.mem ∧ x.lea = y.lea) (by
 obtain ⟨a1, a2, a3, a4, a5, a6⟩ := x
 obtain ⟨b1, b2, b3, b4, b5, b6⟩ := y
 simp only [Dc.mk.injEq])
/-- Where a document's parts lie. -/
structure Da where
 s : Option Addr
 cs : Nat
 t : Option Addr
 ct : Nat
 l : Option Addr
 cl : Nat
 m : Option Addr
 cm : Nat
 e : Option Addr
 ce : Nat
/-- What the parts of a document read as. -/
structure RdD (w : World) (a : Da) (d : Dc) : Prop where
 s : Bs w a.s d.start
 t : Bs w a.t d.text
 l : Cms w a.l d.log
 m : Mbs w a.m d.mem
 e : Ll w a.e d.lea
 hs : d.start.length ≤ a.cs ∧ a.cs ≤ maxLen
 ht : d.text.length ≤ a.ct ∧ a.ct ≤ maxLen
 hl : d.log.length ≤ a.cl ∧ a.cl ≤ maxLen
 hm : d.mem.length ≤ a.cm ∧ a.cm ≤ maxLen
 he : d.lea.length ≤ a.ce ∧ a.ce ≤ maxLen
 clk : isI d.clock
theorem RdD.below {w w' : World} {a : Da} {d : Dc} (h : RdD w a d) (hb : Below w.heap.size w w') : RdD w' a d :=
 ⟨h.s.below hb, h.t.below hb, h.l.below hb, h.m.below hb, h.e.below hb, h.hs, h.ht, h.hl, h.hm, h.he, h.clk⟩
theorem RdD.n9 {w : World} {a : Da} {d : Dc} (h : RdD w a d) : d.start.length ≤ 9223372036854775807 ∧ d.text.length ≤ 9223372036854775807 ∧ d.log.length ≤ 9223372036854775807 ∧ d.mem.length ≤ 9223372036854775807 ∧ d.lea.length ≤ 9223372036854775807 := by
 have h1 := h.hs; have h2 := h.ht; have h3 := h.hl; have h4 := h.hm; have h5 := h.he
 unfold maxLen at h1 h2 h3 h4 h5
 refine ⟨?_, ?_, ?_, ?_, ?_⟩ <;> omega
/-- How much a document holds. -/
def dtot (d : Dc) : Nat := d.start.length + d.text.length + (d.log.length + tot (cputs d.log)) + (d.mem.length + msum d.mem) + d.lea.length
/-- A document of the call's own. -/
structure OwD (w : World) (base : Nat) (a : Da) (d : Dc) (fs ft fl fm fe : List Nat) : Prop where
 s : Lay.bytes.ow w [.slice a.s d.start.length a.cs] d.start fs
 t : Lay.bytes.ow w [.slice a.t d.text.length a.ct] d.text ft
 l : Lay.commits.ow w [.slice a.l d.log.length a.cl] d.log fl
 m : Lay.members.ow w [.slice a.m d.mem.length a.cm] d.mem fm
 e : Lay.leases.ow w [.slice a.e d.lea.length a.ce] d.lea fe
 clk : isI d.clock
 nd : (fs ++ (ft ++ (fl ++ (fm ++ fe)))).Nodup
 lo : ∀ k ∈ fs ++ (ft ++ (fl ++ (fm ++ fe))), base ≤ k
theorem OwD.below {w w' : World} {base : Nat} {a : Da} {d : Dc} {fs ft fl fm fe : List Nat} (h : OwD w base a d fs ft fl fm fe) (hb : Below w.heap.size w w') : OwD w' base a d fs ft fl fm fe :=
 ⟨Lay.bytes.owBelow h.s hb, Lay.bytes.owBelow h.t hb, Lay.commits.owBelow h.l hb, Lay.members.owBelow h.m hb, Lay.leases.owBelow h.e hb, h.clk, h.nd, h.lo⟩
theorem OwD.rd {w : World} {base : Nat} {a : Da} {d : Dc} {fs ft fl fm fe : List Nat} (h : OwD w base a d fs ft fl fm fe) : RdD w a d := by
 obtain ⟨A1, c1, e1, g1, k1, h1⟩ := Lay.bytes.read h.s
 obtain ⟨A2, c2, e2, g2, k2, h2⟩ := Lay.bytes.read h.t
 obtain ⟨A3, c3, e3, g3, k3, h3⟩ := Lay.commits.read h.l
 obtain ⟨A4, c4, e4, g4, k4, h4⟩ := Lay.members.read h.m
 obtain ⟨A5, c5, e5, g5, k5, h5⟩ := Lay.leases.read h.e
 simp only [List.cons.injEq, Value.slice.injEq, and_true, true_and] at e1 e2 e3 e4 e5
 rw [← e1.1] at h1; rw [← e2.1] at h2; rw [← e3.1] at h3; rw [← e4.1] at h4; rw [← e5.1] at h5
 rw [← e1.2] at g1 k1; rw [← e2.2] at g2 k2; rw [← e3.2] at g3 k3; rw [← e4.2] at g4 k4; rw [← e5.2] at g5 k5
 exact ⟨h1, h2, h3, h4, h5, ⟨g1, k1⟩, ⟨g2, k2⟩, ⟨g3, k3⟩, ⟨g4, k4⟩, ⟨g5, k5⟩, h.clk⟩

theorem gives_slice {α : Type} {T : TypeId} {E : Lay α} {x : List α} {w : World} {e : Ending} {w' : World} (h : Gives (Lay.slice T E) wSlice x w e w') :
  ∃ A c fp, e = .returned (.slice A x.length c) ∧ (Lay.slice T E).ow w' [.slice A x.length c] x fp ∧ fp.Nodup ∧ (∀ k ∈ fp, w.heap.size ≤ k) ∧ Below w.heap.size w w' := by
 obtain ⟨cs, fp, he, how, hn, hb, hbel⟩ := h
 obtain ⟨A, c, rfl, _, _, _⟩ := (Lay.slice T E).read how
 exact ⟨A, c, fp, he, how, hn, hb, hbel⟩

set_option maxHeartbeats 4000000 in
theorem szDoc_any (a : Da) (d : Dc) (left : Int) (w : World) (h0 : 0 ≤ left) (h1 : left ≤ 1048576) (hD : RdD w a d) :
  Calls Tryz.prog 6 #[.agg #[.slice a.s d.start.length a.cs, .slice a.t d.text.length a.ct, .slice a.l d.log.length a.cl, .int .i64 d.clock, .slice a.m d.mem.length a.cm, .slice a.e d.lea.length a.ce], .int .i64 left] w fun e w' => (∃ q : Int, e = .returned (.int .i64 q) ∧ (q < 0 ∨ (0 ≤ q ∧ q + dtot d ≤ left))) ∧ Below w.heap.size w w' := by
 have hal := (Below.refl w.heap.size w).alloc (Nat.le_refl _) (.cells #[.slice a.s d.start.length a.cs, .slice a.t d.text.length a.ct, .slice a.l d.log.length a.cl, .int .i64 d.clock, .slice a.m d.mem.length a.cm, .slice a.e d.lea.length a.ce] 27)
 have BX := Lib.hid (Blk.new w #[.slice a.s d.start.length a.cs, .slice a.t d.text.length a.ct, .slice a.l d.log.length a.cl, .int .i64 d.clock, .slice a.m d.mem.length a.cm, .slice a.e d.lea.length a.ce] 27)
 have HD := Lib.hid (hD.below hal)
 obtain ⟨n1, n2, n3, n4, n5⟩ := hD.n9
 have HB := Lib.hid hal
 have HM := Lib.hid (show ∀ q r1 r2 r3 r4 : Int, r1 = left - d.start.length → r2 = r1 - d.text.length → r3 + d.log.length + tot (cputs d.log) ≤ r2 → r4 + d.mem.length + msum d.mem ≤ r3 → q + d.lea.length = r4 → q + dtot d ≤ left from fun q r1 r2 r3 r4 e1 e2 e3 e4 e5 => by unfold dtot; omega)
 have p0 := BX.out.cell 0
 clear hD hal
 go_enter Tryz.func6, Tryz.ntmps6
 go_wp2_with fail
 generalize w.alloc (.cells #[.slice a.s d.start.length a.cs, .slice a.t d.text.length a.ct, .slice a.l d.log.length a.cl, .int .i64 d.clock, .slice a.m d.mem.length a.cm, .slice a.e d.lea.length a.ce] 27) = W at *

 refine (szByteS_any a.s d.start.length a.cs left _ n1 h0 h1).mono ?_
 rintro e w1 ⟨⟨r1, rfl, hr1⟩, rfl⟩
 clear p0
 by_cases hneg0 : r1 < 0
 ·go_wp2
  go_ret
  exact ⟨⟨_, rfl, .inl (by omega)⟩, HB.out⟩
 have gr1 : 0 ≤ r1 ∧ r1 = left - d.start.length := by omega
 have G0 := Lib.hid gr1.2
 have kr1 : 0 ≤ r1 ∧ r1 ≤ 1048576 := by omega
 clear hr1 gr1 hneg0
 have p1 := BX.out.cell 1
 go_wp2_with fail
 refine (szByteS_any a.t d.text.length a.ct r1 _ n2 (by omega) (by omega)).mono ?_
 rintro e w2 ⟨⟨r2, rfl, hr2⟩, rfl⟩
 clear p1
 by_cases hneg1 : r2 < 0
 ·go_wp2
  go_ret
  exact ⟨⟨_, rfl, .inl (by omega)⟩, HB.out⟩
 have gr2 : 0 ≤ r2 ∧ r2 = r1 - d.text.length := by omega
 have G1 := Lib.hid gr2.2
 have kr2 : 0 ≤ r2 ∧ r2 ≤ 1048576 := by omega
 clear hr2 gr2 hneg1
 have p2 := BX.out.cell 2
 go_wp2_with fail
 refine (szCommitS_any a.l d.log a.cl r2 _ n3 (by omega) (by omega) HD.out.l).mono ?_
 rintro e w3 ⟨⟨r3, rfl, hr3⟩, hb⟩
 have HB := Lib.hid (below_then HB.out hb)
 have BX := Lib.hid (BX.out.below hb)
 have HD := Lib.hid (HD.out.below hb)
 clear p2 hb
 by_cases hneg2 : r3 < 0
 ·go_wp2
  go_ret
  exact ⟨⟨_, rfl, .inl (by omega)⟩, HB.out⟩
 have gr3 : 0 ≤ r3 ∧ r3 + d.log.length + tot (cputs d.log) ≤ r2 := by omega
 have G2 := Lib.hid gr3.2
 have kr3 : 0 ≤ r3 ∧ r3 ≤ 1048576 := by omega
 clear hr3 gr3 hneg2
 have p3 := BX.out.cell 4
 go_wp2_with fail
 refine (szMemberS_any a.m d.mem a.cm r3 _ n4 (by omega) (by omega) HD.out.m).mono ?_
 rintro e w4 ⟨⟨r4, rfl, hr4⟩, hb⟩
 have HB := Lib.hid (below_then HB.out hb)
 have BX := Lib.hid (BX.out.below hb)
 have HD := Lib.hid (HD.out.below hb)
 clear p3 hb
 by_cases hneg3 : r4 < 0
 ·go_wp2
  go_ret
  exact ⟨⟨_, rfl, .inl (by omega)⟩, HB.out⟩
 have gr4 : 0 ≤ r4 ∧ r4 + d.mem.length + msum d.mem ≤ r3 := by omega
 have G3 := Lib.hid gr4.2
 have kr4 : 0 ≤ r4 ∧ r4 ≤ 1048576 := by omega
 clear hr4 gr4 hneg3
 have p4 := BX.out.cell 5
 go_wp2_with fail
 refine (szLeaseS_b a.e d.lea a.ce r4 _ n5 (by omega) (by omega) HD.out.e).mono ?_
 rintro e w5 ⟨⟨r5, rfl, hr5⟩, hb⟩
 have HB := Lib.hid (below_then HB.out hb)
 have BX := Lib.hid (BX.out.below hb)
 have HD := Lib.hid (HD.out.below hb)
 clear p4 hb
 by_cases hneg4 : r5 < 0
 ·go_wp2
  go_ret
  exact ⟨⟨_, rfl, .inl (by omega)⟩, HB.out⟩
 have gr5 : 0 ≤ r5 ∧ r5 + d.lea.length = r4 := by omega
 have hq : 0 ≤ r5 ∧ r5 + dtot d ≤ left := ⟨gr5.1, HM.out r5 r1 r2 r3 r4 G0.out G1.out G2.out G3.out gr5.2⟩
 clear hr5 gr5
 go_wp2
 go_ret
 exact ⟨⟨_, rfl, .inr hq⟩, HB.out⟩

set_option maxHeartbeats 16000000 in
theorem toDoc_any (a : Da) (d : Dc) (w : World) (hn : dtot d ≤ 1048576) (hD : RdD w a d) :
  Calls Tryz.prog 8 #[.agg #[.slice a.s d.start.length a.cs, .slice a.t d.text.length a.ct, .slice a.l d.log.length a.cl, .int .i64 d.clock, .slice a.m d.mem.length a.cm, .slice a.e d.lea.length a.ce]] w fun e w' => ∃ b fs ft fl fm fe, e = .returned (.agg #[.slice b.s d.start.length b.cs, .slice b.t d.text.length b.ct, .slice b.l d.log.length b.cl, .int .i64 d.clock, .slice b.m d.mem.length b.cm, .slice b.e d.lea.length b.ce]) ∧ OwD w' w.heap.size b d fs ft fl fm fe ∧ Below w.heap.size w w' := by
 have hal := (((Below.refl w.heap.size w).alloc (Nat.le_refl _) (.cells #[.slice a.s d.start.length a.cs, .slice a.t d.text.length a.ct, .slice a.l d.log.length a.cl, .int .i64 d.clock, .slice a.m d.mem.length a.cm, .slice a.e d.lea.length a.ce] 27)).alloc (by simp) (.cells #[.slice none 0 0, .slice none 0 0, .slice none 0 0, .int .i64 0, .slice none 0 0, .slice none 0 0] 36)).alloc (by simp; omega) (.cells #[.slice none 0 0, .slice none 0 0, .slice none 0 0, .int .i64 0, .slice none 0 0, .slice none 0 0] 36)
 have hbx := ((Blk.new w #[.slice a.s d.start.length a.cs, .slice a.t d.text.length a.ct, .slice a.l d.log.length a.cl, .int .i64 d.clock, .slice a.m d.mem.length a.cm, .slice a.e d.lea.length a.ce] 27).alloc (.cells #[.slice none 0 0, .slice none 0 0, .slice none 0 0, .int .i64 0, .slice none 0 0, .slice none 0 0] 36)).alloc (.cells #[.slice none 0 0, .slice none 0 0, .slice none 0 0, .int .i64 0, .slice none 0 0, .slice none 0 0] 36)
 have hb1 := (Blk.new (w.alloc (.cells #[.slice a.s d.start.length a.cs, .slice a.t d.text.length a.ct, .slice a.l d.log.length a.cl, .int .i64 d.clock, .slice a.m d.mem.length a.cm, .slice a.e d.lea.length a.ce] 27)) #[.slice none 0 0, .slice none 0 0, .slice none 0 0, .int .i64 0, .slice none 0 0, .slice none 0 0] 36).alloc (.cells #[.slice none 0 0, .slice none 0 0, .slice none 0 0, .int .i64 0, .slice none 0 0, .slice none 0 0] 36)
 have hb2 := Blk.new ((w.alloc (.cells #[.slice a.s d.start.length a.cs, .slice a.t d.text.length a.ct, .slice a.l d.log.length a.cl, .int .i64 d.clock, .slice a.m d.mem.length a.cm, .slice a.e d.lea.length a.ce] 27)).alloc (.cells #[.slice none 0 0, .slice none 0 0, .slice none 0 0, .int .i64 0, .slice none 0 0, .slice none 0 0] 36)) #[.slice none 0 0, .slice none 0 0, .slice none 0 0, .int .i64 0, .slice none 0 0, .slice none 0 0] 36
 simp only [World.size_alloc] at hb1 hb2
 have HB := Lib.hid hal
 have BX := Lib.hid hbx
 have R1 := Lib.hid hb1
 have R2 := Lib.hid hb2
 have HD := Lib.hid (hD.below hal)
 have hDK := Lib.hid (show ∀ W, Below w.heap.size w W → RdD W a d from fun W h => hD.below h)
 have hclk := hD.clk
 have hs4 : d.start.length ≤ 1048576 := by unfold dtot at hn; omega
 have ht4 : d.text.length ≤ 1048576 := by unfold dtot at hn; omega
 have hl4 : d.log.length + tot (cputs d.log) ≤ 1048576 := by unfold dtot at hn; omega
 have hm4 : d.mem.length + msum d.mem ≤ 1048576 := by unfold dtot at hn; omega
 have he4 : d.lea.length ≤ 1048576 := by unfold dtot at hn; omega
 have HCK := Lib.hid hclk
 have hzw : ((((w.alloc (.cells #[.slice a.s d.start.length a.cs, .slice a.t d.text.length a.ct, .slice a.l d.log.length a.cl, .int .i64 d.clock, .slice a.m d.mem.length a.cm, .slice a.e d.lea.length a.ce] 27)).alloc (.cells #[.slice none 0 0, .slice none 0 0, .slice none 0 0, .int .i64 0, .slice none 0 0, .slice none 0 0] 36)).alloc (.cells #[.slice none 0 0, .slice none 0 0, .slice none 0 0, .int .i64 0, .slice none 0 0, .slice none 0 0] 36))).heap.size = w.heap.size + 3 := by simp
 have p0 := BX.out.cell 0
 clear hal hbx hb1 hb2 hD hn hclk
 go_enter Tryz.func8, Tryz.ntmps8
 go_wp2_with fail
 generalize ((w.alloc (.cells #[.slice a.s d.start.length a.cs, .slice a.t d.text.length a.ct, .slice a.l d.log.length a.cl, .int .i64 d.clock, .slice a.m d.mem.length a.cm, .slice a.e d.lea.length a.ce] 27)).alloc (.cells #[.slice none 0 0, .slice none 0 0, .slice none 0 0, .int .i64 0, .slice none 0 0, .slice none 0 0] 36)).alloc (.cells #[.slice none 0 0, .slice none 0 0, .slice none 0 0, .int .i64 0, .slice none 0 0, .slice none 0 0] 36) = W0 at *

 refine (toByteS_any a.s d.start a.cs _ hs4 HD.out.s).mono ?_
 rintro e w1 ⟨rfl, hrow, hb⟩
 have hown := Row.own hrow W0.heap.size (Nat.le_refl _) (by unfold maxLen; omega)
 obtain ⟨g0, hg0⟩ : ∃ g, W0.heap.size = g := ⟨_, rfl⟩
 have O0 := Lib.hid (Own.ow hown)
 have O0L : Hid (∀ k ∈ (Value.slice (some ⟨W0.heap.size, 0, none⟩) d.start.length d.start.length).ownBlock.toList, w.heap.size + 3 ≤ k) := Lib.hid (fun k hk => by have h9 := hown.fp.2 k hk; first | omega | (simp at h9; omega))
 have O0N := Lib.hid hown.fp.1
 have O0B : Hid (∀ k ∈ (Value.slice (some ⟨W0.heap.size, 0, none⟩) d.start.length d.start.length).ownBlock.toList, W0.heap.size ≤ k) := Lib.hid hown.fp.2
 have O0U := Lib.hid (Lay.bytes.lt O0.out)
 rw [hg0] at O0 O0L O0N O0B O0U
 rw [hg0]
 have HG0 := Lib.hid hg0
 clear hg0 hrow hown
 have HB := Lib.hid (below_then HB.out hb)
 have BX := Lib.hid (BX.out.below hb)
 have R1 := Lib.hid (R1.out.below hb)
 have R2 := Lib.hid (R2.out.below hb)
 have hz0 := hb.size
 have HDK := Lib.hid (show ∀ W, Below w.heap.size w W → RdD W a d from fun W h => hDK.out W h)
 clear hb p0
 have p1 := BX.out.cell 1
 have c2 := R2.out.cell 0
 have f2 := R2.out.frozen 0
 have hk := ((Keeps.refl [w.heap.size + 2] w1).set (List.mem_singleton.2 rfl) 0 (.slice (some ⟨g0, 0, none⟩) d.start.length d.start.length))
 have O0 := Lib.hid (Lay.bytes.keeps O0.out hk (fun k hk => by have := O0L.out k hk; simp; omega))
 have hwz := (w1.heap.size)
 have BX2 := Lib.hid (BX.out.of_block (hk.block _ BX.out.lt (by simp)))
 have R12 := Lib.hid (R1.out.of_block (hk.block _ R1.out.lt (by simp)))
 have R22 := Lib.hid (show Blk (w1.setCell ⟨w.heap.size + 2, 0, none⟩ (.slice (some ⟨g0, 0, none⟩) d.start.length d.start.length)) (w.heap.size + 2) #[.slice (some ⟨g0, 0, none⟩) d.start.length d.start.length, .slice none 0 0, .slice none 0 0, .int .i64 0, .slice none 0 0, .slice none 0 0] 36 by simpa using (R2.out.set 0 (.slice (some ⟨g0, 0, none⟩) d.start.length d.start.length)))
 have HB2 := Lib.hid (HB.out.setCell (p := ⟨w.heap.size + 2, 0, none⟩) (by simp) (.slice (some ⟨g0, 0, none⟩) d.start.length d.start.length))
 have hstb : Below (w.heap.size + 2) w1 (w1.setCell ⟨w.heap.size + 2, 0, none⟩ (.slice (some ⟨g0, 0, none⟩) d.start.length d.start.length)) := by
  refine hk.below ?_ ?_
  ·have := R2.out.lt; omega
  ·simp
 have HD2 := Lib.hid (HDK.out _ HB2.out)
 clear hk hwz hstb BX R1 R2 HB
 go_wp2_with fail
 generalize hW1 : (w1.setCell ⟨w.heap.size + 2, 0, none⟩ (.slice (some ⟨g0, 0, none⟩) d.start.length d.start.length)) = W1 at *
 have hzW1 : W1.heap.size = w1.heap.size := by rw [← hW1]; simp
 clear hW1 c2 f2
 have BX := BX2
 have R1 := R12
 have R2 := R22
 have HB := HB2
 have HD := HD2
 clear BX2 R12 R22 HB2 HD2
 refine (toByteS_any a.t d.text a.ct _ ht4 HD.out.t).mono ?_
 rintro e w2 ⟨rfl, hrow, hb⟩
 have hown := Row.own hrow W1.heap.size (Nat.le_refl _) (by unfold maxLen; omega)
 obtain ⟨g1, hg1⟩ : ∃ g, W1.heap.size = g := ⟨_, rfl⟩
 have O1 := Lib.hid (Own.ow hown)
 have O1L : Hid (∀ k ∈ (Value.slice (some ⟨W1.heap.size, 0, none⟩) d.text.length d.text.length).ownBlock.toList, w.heap.size + 3 ≤ k) := Lib.hid (fun k hk => by have h9 := hown.fp.2 k hk; first | omega | (simp at h9; omega))
 have O1N := Lib.hid hown.fp.1
 have O1B : Hid (∀ k ∈ (Value.slice (some ⟨W1.heap.size, 0, none⟩) d.text.length d.text.length).ownBlock.toList, W1.heap.size ≤ k) := Lib.hid hown.fp.2
 have O1U := Lib.hid (Lay.bytes.lt O1.out)
 rw [hg1] at O1 O1L O1N O1B O1U
 rw [hg1]
 have HG1 := Lib.hid hg1
 clear hg1 hrow hown
 have O0 := Lib.hid (Lay.bytes.owBelow O0.out hb)
 have HB := Lib.hid (below_then HB.out hb)
 have BX := Lib.hid (BX.out.below hb)
 have R1 := Lib.hid (R1.out.below hb)
 have R2 := Lib.hid (R2.out.below hb)
 have hz1 := hb.size
 clear hb p1
 have p2 := BX.out.cell 2
 have c2 := R2.out.cell 1
 have f2 := R2.out.frozen 1
 have hk := ((Keeps.refl [w.heap.size + 2] w2).set (List.mem_singleton.2 rfl) 1 (.slice (some ⟨g1, 0, none⟩) d.text.length d.text.length))
 have O0 := Lib.hid (Lay.bytes.keeps O0.out hk (fun k hk => by have := O0L.out k hk; simp; omega))
 have O1 := Lib.hid (Lay.bytes.keeps O1.out hk (fun k hk => by have := O1L.out k hk; simp; omega))
 have hwz := (w2.heap.size)
 have BX2 := Lib.hid (BX.out.of_block (hk.block _ BX.out.lt (by simp)))
 have R12 := Lib.hid (R1.out.of_block (hk.block _ R1.out.lt (by simp)))
 have R22 := Lib.hid (show Blk (w2.setCell ⟨w.heap.size + 2, 1, none⟩ (.slice (some ⟨g1, 0, none⟩) d.text.length d.text.length)) (w.heap.size + 2) #[.slice (some ⟨g0, 0, none⟩) d.start.length d.start.length, .slice (some ⟨g1, 0, none⟩) d.text.length d.text.length, .slice none 0 0, .int .i64 0, .slice none 0 0, .slice none 0 0] 36 by simpa using (R2.out.set 1 (.slice (some ⟨g1, 0, none⟩) d.text.length d.text.length)))
 have HB2 := Lib.hid (HB.out.setCell (p := ⟨w.heap.size + 2, 1, none⟩) (by simp) (.slice (some ⟨g1, 0, none⟩) d.text.length d.text.length))
 have hstb : Below (w.heap.size + 2) w2 (w2.setCell ⟨w.heap.size + 2, 1, none⟩ (.slice (some ⟨g1, 0, none⟩) d.text.length d.text.length)) := by
  refine hk.below ?_ ?_
  ·have := R2.out.lt; omega
  ·simp
 have HD2 := Lib.hid (HDK.out _ HB2.out)
 clear hk hwz hstb BX R1 R2 HB
 go_wp2_with fail
 generalize hW2 : (w2.setCell ⟨w.heap.size + 2, 1, none⟩ (.slice (some ⟨g1, 0, none⟩) d.text.length d.text.length)) = W2 at *
 have hzW2 : W2.heap.size = w2.heap.size := by rw [← hW2]; simp
 clear hW2 c2 f2
 have BX := BX2
 have R1 := R12
 have R2 := R22
 have HB := HB2
 have HD := HD2
 clear BX2 R12 R22 HB2 HD2
 refine (toCommitS_any a.l d.log a.cl _ hl4 HD.out.l).mono ?_
 rintro e w3 hgv
 obtain ⟨A2, k2, fp2, rfl, how, hnd, hlo, hb⟩ := gives_slice hgv
 have O2 : Hid (Lay.commits.ow w3 [.slice A2 d.log.length k2] d.log fp2) := Lib.hid how
 have O2L : Hid (∀ k ∈ fp2, w.heap.size + 3 ≤ k) := Lib.hid (fun k hk => by have := hlo k hk; omega)
 have O2N := Lib.hid hnd
 have O2B := Lib.hid hlo
 have O2U := Lib.hid (Lay.commits.lt O2.out)
 clear hgv how hnd hlo
 have O0 := Lib.hid (Lay.bytes.owBelow O0.out hb)
 have O1 := Lib.hid (Lay.bytes.owBelow O1.out hb)
 have HB := Lib.hid (below_then HB.out hb)
 have BX := Lib.hid (BX.out.below hb)
 have R1 := Lib.hid (R1.out.below hb)
 have R2 := Lib.hid (R2.out.below hb)
 have hz2 := hb.size
 clear hb p2
 have p3 := BX.out.cell 4
 have p9 := BX.out.cell 3
 have c23 := R2.out.cell 3
 have f23 := R2.out.frozen 3
 have c2 := R2.out.cell 2
 have f2 := R2.out.frozen 2
 have hk := (((Keeps.refl [w.heap.size + 2] w3).set (List.mem_singleton.2 rfl) 2 (.slice A2 d.log.length k2)).set (List.mem_singleton.2 rfl) 3 (.int .i64 d.clock))
 have O0 := Lib.hid (Lay.bytes.keeps O0.out hk (fun k hk => by have := O0L.out k hk; simp; omega))
 have O1 := Lib.hid (Lay.bytes.keeps O1.out hk (fun k hk => by have := O1L.out k hk; simp; omega))
 have O2 := Lib.hid (Lay.commits.keeps O2.out hk (fun k hk => by have := O2L.out k hk; simp; omega))
 have hwz := (w3.heap.size)
 have BX2 := Lib.hid (BX.out.of_block (hk.block _ BX.out.lt (by simp)))
 have R12 := Lib.hid (R1.out.of_block (hk.block _ R1.out.lt (by simp)))
 have R22 := Lib.hid (show Blk ((w3.setCell ⟨w.heap.size + 2, 2, none⟩ (.slice A2 d.log.length k2)).setCell ⟨w.heap.size + 2, 3, none⟩ (.int .i64 d.clock)) (w.heap.size + 2) #[.slice (some ⟨g0, 0, none⟩) d.start.length d.start.length, .slice (some ⟨g1, 0, none⟩) d.text.length d.text.length, .slice A2 d.log.length k2, .int .i64 d.clock, .slice none 0 0, .slice none 0 0] 36 by simpa using ((R2.out.set 2 (.slice A2 d.log.length k2)).set 3 (.int .i64 d.clock)))
 have HB2 := Lib.hid ((HB.out.setCell (p := ⟨w.heap.size + 2, 2, none⟩) (by simp) (.slice A2 d.log.length k2)).setCell (p := ⟨w.heap.size + 2, 3, none⟩) (by simp) (.int .i64 d.clock))
 have hstb : Below (w.heap.size + 2) w3 ((w3.setCell ⟨w.heap.size + 2, 2, none⟩ (.slice A2 d.log.length k2)).setCell ⟨w.heap.size + 2, 3, none⟩ (.int .i64 d.clock)) := by
  refine hk.below ?_ ?_
  ·have := R2.out.lt; omega
  ·simp
 have HD2 := Lib.hid (HDK.out _ HB2.out)
 clear hk hwz hstb BX R1 R2 HB
 go_wp2_with fail
 generalize hW3 : ((w3.setCell ⟨w.heap.size + 2, 2, none⟩ (.slice A2 d.log.length k2)).setCell ⟨w.heap.size + 2, 3, none⟩ (.int .i64 d.clock)) = W3 at *
 have hzW3 : W3.heap.size = w3.heap.size := by rw [← hW3]; simp
 clear hW3 c2 f2 c23 f23
 have BX := BX2
 have R1 := R12
 have R2 := R22
 have HB := HB2
 have HD := HD2
 clear BX2 R12 R22 HB2 HD2
 refine (toMemberS_any a.m d.mem a.cm _ hm4 HD.out.m).mono ?_
 rintro e w4 hgv
 obtain ⟨A3, k3, fp3, rfl, how, hnd, hlo, hb⟩ := gives_slice hgv
 have O3 : Hid (Lay.members.ow w4 [.slice A3 d.mem.length k3] d.mem fp3) := Lib.hid how
 have O3L : Hid (∀ k ∈ fp3, w.heap.size + 3 ≤ k) := Lib.hid (fun k hk => by have := hlo k hk; omega)
 have O3N := Lib.hid hnd
 have O3B := Lib.hid hlo
 have O3U := Lib.hid (Lay.members.lt O3.out)
 clear hgv how hnd hlo
 have O0 := Lib.hid (Lay.bytes.owBelow O0.out hb)
 have O1 := Lib.hid (Lay.bytes.owBelow O1.out hb)
 have O2 := Lib.hid (Lay.commits.owBelow O2.out hb)
 have HB := Lib.hid (below_then HB.out hb)
 have BX := Lib.hid (BX.out.below hb)
 have R1 := Lib.hid (R1.out.below hb)
 have R2 := Lib.hid (R2.out.below hb)
 have hz3 := hb.size
 clear hb p3
 have p4 := BX.out.cell 5
 have c2 := R2.out.cell 4
 have f2 := R2.out.frozen 4
 have hk := ((Keeps.refl [w.heap.size + 2] w4).set (List.mem_singleton.2 rfl) 4 (.slice A3 d.mem.length k3))
 have O0 := Lib.hid (Lay.bytes.keeps O0.out hk (fun k hk => by have := O0L.out k hk; simp; omega))
 have O1 := Lib.hid (Lay.bytes.keeps O1.out hk (fun k hk => by have := O1L.out k hk; simp; omega))
 have O2 := Lib.hid (Lay.commits.keeps O2.out hk (fun k hk => by have := O2L.out k hk; simp; omega))
 have O3 := Lib.hid (Lay.members.keeps O3.out hk (fun k hk => by have := O3L.out k hk; simp; omega))
 have hwz := (w4.heap.size)
 have BX2 := Lib.hid (BX.out.of_block (hk.block _ BX.out.lt (by simp)))
 have R12 := Lib.hid (R1.out.of_block (hk.block _ R1.out.lt (by simp)))
 have R22 := Lib.hid (show Blk (w4.setCell ⟨w.heap.size + 2, 4, none⟩ (.slice A3 d.mem.length k3)) (w.heap.size + 2) #[.slice (some ⟨g0, 0, none⟩) d.start.length d.start.length, .slice (some ⟨g1, 0, none⟩) d.text.length d.text.length, .slice A2 d.log.length k2, .int .i64 d.clock, .slice A3 d.mem.length k3, .slice none 0 0] 36 by simpa using (R2.out.set 4 (.slice A3 d.mem.length k3)))
 have HB2 := Lib.hid (HB.out.setCell (p := ⟨w.heap.size + 2, 4, none⟩) (by simp) (.slice A3 d.mem.length k3))
 have hstb : Below (w.heap.size + 2) w4 (w4.setCell ⟨w.heap.size + 2, 4, none⟩ (.slice A3 d.mem.length k3)) := by
  refine hk.below ?_ ?_
  ·have := R2.out.lt; omega
  ·simp
 have HD2 := Lib.hid (HDK.out _ HB2.out)
 clear hk hwz hstb BX R1 R2 HB
 go_wp2_with fail
 generalize hW4 : (w4.setCell ⟨w.heap.size + 2, 4, none⟩ (.slice A3 d.mem.length k3)) = W4 at *
 have hzW4 : W4.heap.size = w4.heap.size := by rw [← hW4]; simp
 clear hW4 c2 f2
 have BX := BX2
 have R1 := R12
 have R2 := R22
 have HB := HB2
 have HD := HD2
 clear BX2 R12 R22 HB2 HD2
 refine (toLeaseS_any a.e d.lea a.ce _ he4 HD.out.e).mono ?_
 rintro e w5 hgv
 obtain ⟨A4, k4, fp4, rfl, how, hnd, hlo, hb⟩ := gives_slice hgv
 have O4 : Hid (Lay.leases.ow w5 [.slice A4 d.lea.length k4] d.lea fp4) := Lib.hid how
 have O4L : Hid (∀ k ∈ fp4, w.heap.size + 3 ≤ k) := Lib.hid (fun k hk => by have := hlo k hk; omega)
 have O4N := Lib.hid hnd
 have O4B := Lib.hid hlo
 have O4U := Lib.hid (Lay.leases.lt O4.out)
 clear hgv how hnd hlo
 have O0 := Lib.hid (Lay.bytes.owBelow O0.out hb)
 have O1 := Lib.hid (Lay.bytes.owBelow O1.out hb)
 have O2 := Lib.hid (Lay.commits.owBelow O2.out hb)
 have O3 := Lib.hid (Lay.members.owBelow O3.out hb)
 have HB := Lib.hid (below_then HB.out hb)
 have BX := Lib.hid (BX.out.below hb)
 have R1 := Lib.hid (R1.out.below hb)
 have R2 := Lib.hid (R2.out.below hb)
 have hz4 := hb.size
 clear hb p4
 have hk := ((((((((Keeps.refl [w.heap.size + 1, w.heap.size + 2] w5).set (g := w.heap.size + 2) (by simp) 5 (.slice A4 d.lea.length k4)).set (g := w.heap.size + 1) (by simp) 0 (.slice (some ⟨g0, 0, none⟩) d.start.length d.start.length)).set (g := w.heap.size + 1) (by simp) 1 (.slice (some ⟨g1, 0, none⟩) d.text.length d.text.length)).set (g := w.heap.size + 1) (by simp) 2 (.slice A2 d.log.length k2)).set (g := w.heap.size + 1) (by simp) 3 (.int .i64 d.clock)).set (g := w.heap.size + 1) (by simp) 4 (.slice A3 d.mem.length k3)).set (g := w.heap.size + 1) (by simp) 5 (.slice A4 d.lea.length k4))
 have O0K := Lib.hid (Lay.bytes.keeps O0.out hk (fun k hk => by have := O0L.out k hk; simp; omega))
 have O1K := Lib.hid (Lay.bytes.keeps O1.out hk (fun k hk => by have := O1L.out k hk; simp; omega))
 have O2K := Lib.hid (Lay.commits.keeps O2.out hk (fun k hk => by have := O2L.out k hk; simp; omega))
 have O3K := Lib.hid (Lay.members.keeps O3.out hk (fun k hk => by have := O3L.out k hk; simp; omega))
 have O4K := Lib.hid (Lay.leases.keeps O4.out hk (fun k hk => by have := O4L.out k hk; simp; omega))
 have HB9 := Lib.hid (((((((HB.out.setCell (p := ⟨w.heap.size + 2, 5, none⟩) (by simp) (.slice A4 d.lea.length k4)).setCell (p := ⟨w.heap.size + 1, 0, none⟩) (by simp) (.slice (some ⟨g0, 0, none⟩) d.start.length d.start.length)).setCell (p := ⟨w.heap.size + 1, 1, none⟩) (by simp) (.slice (some ⟨g1, 0, none⟩) d.text.length d.text.length)).setCell (p := ⟨w.heap.size + 1, 2, none⟩) (by simp) (.slice A2 d.log.length k2)).setCell (p := ⟨w.heap.size + 1, 3, none⟩) (by simp) (.int .i64 d.clock)).setCell (p := ⟨w.heap.size + 1, 4, none⟩) (by simp) (.slice A3 d.mem.length k3)).setCell (p := ⟨w.heap.size + 1, 5, none⟩) (by simp) (.slice A4 d.lea.length k4))
 have q0 := R2.out.cell 0
 have r0 := R1.out.cell 0
 have f0 := R2.out.frozen 0
 have h0 := R1.out.frozen 0
 have q1 := R2.out.cell 1
 have r1 := R1.out.cell 1
 have f1 := R2.out.frozen 1
 have h1 := R1.out.frozen 1
 have q2 := R2.out.cell 2
 have r2 := R1.out.cell 2
 have f2 := R2.out.frozen 2
 have h2 := R1.out.frozen 2
 have q3 := R2.out.cell 3
 have r3 := R1.out.cell 3
 have f3 := R2.out.frozen 3
 have h3 := R1.out.frozen 3
 have q4 := R2.out.cell 4
 have r4 := R1.out.cell 4
 have f4 := R2.out.frozen 4
 have h4 := R1.out.frozen 4
 have q5 := R2.out.cell 5
 have r5 := R1.out.cell 5
 have f5 := R2.out.frozen 5
 have h5 := R1.out.frozen 5
 clear hk R1 R2 HB BX HD
 go_wp2
 refine bodyPost_ret (v := .agg #[.slice (some ⟨g0, 0, none⟩) d.start.length d.start.length, .slice (some ⟨g1, 0, none⟩) d.text.length d.text.length, .slice A2 d.log.length k2, .int .i64 d.clock, .slice A3 d.mem.length k3, .slice A4 d.lea.length k4]) (by simp [results, Tryz.results8, go_sem, q0, q1, q2, q3, q4, q5, r0, r1, r2, r3, r4, r5]) rfl ?_
 refine ⟨⟨some ⟨g0, 0, none⟩, d.start.length, some ⟨g1, 0, none⟩, d.text.length, A2, k2, A3, k3, A4, k4⟩, _, _, _, _, _, rfl, ⟨O0K.out, O1K.out, O2K.out, O3K.out, O4K.out, HCK.out, ?_, ?_⟩, HB9.out⟩
 ·have hr : ∀ (x y : List Nat) (B C : Nat), x.Nodup → y.Nodup → (∀ k ∈ x, k < B) → (∀ k ∈ y, C ≤ k) → B ≤ C → (x ++ y).Nodup := fun x y B C h1 h2 h3 h4 h5 => by
   rw [List.nodup_append]
   exact ⟨h1, h2, fun p hp q hq e => by have := h3 p hp; have := h4 q hq; omega⟩
  have hg1 := HG1.out
  have hj : ∀ (x y : List Nat) (C : Nat), (∀ k ∈ x, C ≤ k) → (∀ k ∈ y, C ≤ k) → ∀ k ∈ x ++ y, C ≤ k := fun x y C h1 h2 k hk => by
   rcases List.mem_append.1 hk with h | h
   ·exact h1 k h
   ·exact h2 k h
  have l4 := O4B.out
  have l3 := hj _ _ _ O3B.out (fun k hk => Nat.le_trans (by omega) (l4 k hk))
  have l2 := hj _ _ _ O2B.out (fun k hk => Nat.le_trans (by omega) (l3 k hk))
  have l1 := hj _ _ _ O1B.out (fun k hk => Nat.le_trans (by omega) (l2 k hk))
  exact hr _ _ _ _ O0N.out (hr _ _ _ _ O1N.out (hr _ _ _ _ O2N.out (hr _ _ _ _ O3N.out O4N.out O3U.out l4 (by omega)) O2U.out l3 (by omega)) O1U.out l2 (by omega)) O0U.out l1 (by omega)
 ·intro k hk
  rcases List.mem_append.1 hk with h | hk
  ·have := O0L.out k h; omega
  rcases List.mem_append.1 hk with h | hk
  ·have := O1L.out k h; omega
  rcases List.mem_append.1 hk with h | hk
  ·have := O2L.out k h; omega
  rcases List.mem_append.1 hk with h | h
  ·have := O3L.out k h; omega
  ·have := O4L.out k h; omega

set_option maxHeartbeats 16000000 in
theorem eqDoc_any (a b : Da) (d f : Dc) (w : World) (hD : RdD w a d) (hE : RdD w b f) :
  Calls Tryz.prog 11 #[.agg #[.slice a.s d.start.length a.cs, .slice a.t d.text.length a.ct, .slice a.l d.log.length a.cl, .int .i64 d.clock, .slice a.m d.mem.length a.cm, .slice a.e d.lea.length a.ce], .agg #[.slice b.s f.start.length b.cs, .slice b.t f.text.length b.ct, .slice b.l f.log.length b.cl, .int .i64 f.clock, .slice b.m f.mem.length b.cm, .slice b.e f.lea.length b.ce]] w fun e w' => e = .returned (.bool (decide (d = f))) ∧ Below w.heap.size w w' := by
 have hal := ((Below.refl w.heap.size w).alloc (Nat.le_refl _) (.cells #[.slice a.s d.start.length a.cs, .slice a.t d.text.length a.ct, .slice a.l d.log.length a.cl, .int .i64 d.clock, .slice a.m d.mem.length a.cm, .slice a.e d.lea.length a.ce] 36)).alloc (by simp) (.cells #[.slice b.s f.start.length b.cs, .slice b.t f.text.length b.ct, .slice b.l f.log.length b.cl, .int .i64 f.clock, .slice b.m f.mem.length b.cm, .slice b.e f.lea.length b.ce] 36)
 have hx := (Blk.new w #[.slice a.s d.start.length a.cs, .slice a.t d.text.length a.ct, .slice a.l d.log.length a.cl, .int .i64 d.clock, .slice a.m d.mem.length a.cm, .slice a.e d.lea.length a.ce] 36).alloc (.cells #[.slice b.s f.start.length b.cs, .slice b.t f.text.length b.ct, .slice b.l f.log.length b.cl, .int .i64 f.clock, .slice b.m f.mem.length b.cm, .slice b.e f.lea.length b.ce] 36)
 have hy := Blk.new (w.alloc (.cells #[.slice a.s d.start.length a.cs, .slice a.t d.text.length a.ct, .slice a.l d.log.length a.cl, .int .i64 d.clock, .slice a.m d.mem.length a.cm, .slice a.e d.lea.length a.ce] 36)) #[.slice b.s f.start.length b.cs, .slice b.t f.text.length b.ct, .slice b.l f.log.length b.cl, .int .i64 f.clock, .slice b.m f.mem.length b.cm, .slice b.e f.lea.length b.ce] 36
 simp only [World.size_alloc] at hy
 have BX := Lib.hid hx
 have BY := Lib.hid hy
 have HD := Lib.hid (hD.below hal)
 have HE := Lib.hid (hE.below hal)
 have HB := Lib.hid hal
 obtain ⟨n1, n2, n3, n4, n5⟩ := hD.n9
 obtain ⟨z0, hz0⟩ : ∃ z, decide (d.start = f.start) = z := ⟨_, rfl⟩
 obtain ⟨z1, hz1⟩ : ∃ z, decide (d.text = f.text) = z := ⟨_, rfl⟩
 obtain ⟨z2, hz2⟩ : ∃ z, decide (d.log = f.log) = z := ⟨_, rfl⟩
 obtain ⟨z3, hz3⟩ : ∃ z, (d.clock != f.clock) = z := ⟨_, rfl⟩
 obtain ⟨z4, hz4⟩ : ∃ z, decide (d.mem = f.mem) = z := ⟨_, rfl⟩
 obtain ⟨z5, hz5⟩ : ∃ z, decide (d.lea = f.lea) = z := ⟨_, rfl⟩
 have hR : decide (d = f) = (z0 && (z1 && (z2 && (!z3 && (z4 && z5))))) := by
  rw [← hz0, ← hz1, ← hz2, ← hz3, ← hz4, ← hz5]
  obtain ⟨a1, a2, a3, a4, a5, a6⟩ := d
  obtain ⟨b1, b2, b3, b4, b5, b6⟩ := f
  simp only [Dc.mk.injEq]
  by_cases h1 : a1 = b1 <;> by_cases h2 : a2 = b2 <;> by_cases h3 : a3 = b3 <;> by_cases h4 : a4 = b4 <;> by_cases h5 : a5 = b5 <;> by_cases h6 : a6 = b6 <;> simp [h1, h2, h3, h4, h5, h6]
 rw [hR]
 have HZ0 := Lib.hid hz0
 have HZ1 := Lib.hid hz1
 have HZ2 := Lib.hid hz2
 have HZ4 := Lib.hid hz4
 have HZ5 := Lib.hid hz5
 have p0 := BX.out.cell 0
 have q0 := BY.out.cell 0
 clear hD hE hx hy hal hz0 hz1 hz2 hz4 hz5 hR
 go_enter Tryz.func11, Tryz.ntmps11
 go_wp2_with fail
 generalize (w.alloc (.cells #[.slice a.s d.start.length a.cs, .slice a.t d.text.length a.ct, .slice a.l d.log.length a.cl, .int .i64 d.clock, .slice a.m d.mem.length a.cm, .slice a.e d.lea.length a.ce] 36)).alloc (.cells #[.slice b.s f.start.length b.cs, .slice b.t f.text.length b.ct, .slice b.l f.log.length b.cl, .int .i64 f.clock, .slice b.m f.mem.length b.cm, .slice b.e f.lea.length b.ce] 36) = W at *

 refine (eqByteS_any a.s b.s d.start f.start a.cs b.cs _ n1 HD.out.s HE.out.s).mono ?_
 rintro e w0 ⟨rfl, n, rfl⟩
 have hb := below_drewN (Below.refl W.heap.size W) n
 generalize W.drewN n = w0 at *
 rw [HZ0.out]
 have HB := Lib.hid (below_then HB.out hb)
 have BX := Lib.hid (BX.out.below hb)
 have BY := Lib.hid (BY.out.below hb)
 have HD := Lib.hid (HD.out.below hb)
 have HE := Lib.hid (HE.out.below hb)
 clear hb p0 q0
 cases z0
 ·go_wp2
  go_ret
  exact ⟨rfl, HB.out⟩
 have p0 := BX.out.cell 1
 have q0 := BY.out.cell 1
 go_wp2_with fail
 refine (eqByteS_any a.t b.t d.text f.text a.ct b.ct _ n2 HD.out.t HE.out.t).mono ?_
 rintro e w1 ⟨rfl, n, rfl⟩
 have hb := below_drewN (Below.refl w0.heap.size w0) n
 generalize w0.drewN n = w1 at *
 rw [HZ1.out]
 have HB := Lib.hid (below_then HB.out hb)
 have BX := Lib.hid (BX.out.below hb)
 have BY := Lib.hid (BY.out.below hb)
 have HD := Lib.hid (HD.out.below hb)
 have HE := Lib.hid (HE.out.below hb)
 clear hb p0 q0
 cases z1
 ·go_wp2
  go_ret
  exact ⟨rfl, HB.out⟩
 have p0 := BX.out.cell 2
 have q0 := BY.out.cell 2
 go_wp2_with fail
 refine (eqCommitS_any a.l b.l d.log f.log a.cl b.cl _ n3 HD.out.l HE.out.l).mono ?_
 rintro e w2 ⟨rfl, hb⟩
 rw [HZ2.out]
 have HB := Lib.hid (below_then HB.out hb)
 have BX := Lib.hid (BX.out.below hb)
 have BY := Lib.hid (BY.out.below hb)
 have HD := Lib.hid (HD.out.below hb)
 have HE := Lib.hid (HE.out.below hb)
 clear hb p0 q0
 cases z2
 ·go_wp2
  go_ret
  exact ⟨rfl, HB.out⟩
 have p0 := BX.out.cell 4
 have q0 := BY.out.cell 4
 have p3 := BX.out.cell 3
 have q3 := BY.out.cell 3
 cases z3
 rotate_left 1
 ·go_wp2
  go_ret
  exact ⟨rfl, HB.out⟩
 go_wp2_with fail
 refine (eqMemberS_any a.m b.m d.mem f.mem a.cm b.cm _ n4 HD.out.m HE.out.m).mono ?_
 rintro e w3 ⟨rfl, hb⟩
 rw [HZ4.out]
 have HB := Lib.hid (below_then HB.out hb)
 have BX := Lib.hid (BX.out.below hb)
 have BY := Lib.hid (BY.out.below hb)
 have HD := Lib.hid (HD.out.below hb)
 have HE := Lib.hid (HE.out.below hb)
 clear hb p0 q0
 cases z4
 ·go_wp2
  go_ret
  exact ⟨rfl, HB.out⟩
 have p0 := BX.out.cell 5
 have q0 := BY.out.cell 5
 go_wp2_with fail
 refine (eqLeaseS_any a.e b.e d.lea f.lea a.ce b.ce _ n5 HD.out.e HE.out.e).mono ?_
 rintro e w4 ⟨rfl, hb⟩
 rw [HZ5.out]
 have HB := Lib.hid (below_then HB.out hb)
 have BX := Lib.hid (BX.out.below hb)
 have BY := Lib.hid (BY.out.below hb)
 have HD := Lib.hid (HD.out.below hb)
 have HE := Lib.hid (HE.out.below hb)
 clear hb p0 q0
 cases z5
 ·go_wp2
  go_ret
  exact ⟨rfl, HB.out⟩
 go_wp2
 go_ret
 exact ⟨rfl, HB.out⟩
end Go.Proofs.YtaekanhjkpoifaaGreatDoor
