/-
  Texts of one claim in one: M13, Clw, M15, M16. Own work.
-/
import Derived.Test.YtgpjjolgpppeeaaDoorM07
import Derived.Test.YtgpjjolgpppeeaaDoorSnoc
import Derived.Test.YtgpjjolgpppeeaaDoorKst
import Derived.Test.YtgpjjolgpppeeaaDoorApp
import Derived.Deep.RegionHeld3
import Derived.Deep.DeepCutAuto
import Derived.Test.YtgpjjolgpppeeaaDoorI01f
import Derived.Test.YtgpjjolgpppeeaaDoorBlk
import Derived.Defers
import Derived.Recover
import Derived.WalkLawsBesides
import Derived.Test.YtgpjjolgpppeeaaDoorM09

/-
  Chapter 12, the actions that a run shows: layouts, plain mathematics, the model's two helpers. Own work.
-/
namespace Go.Proofs.YtgpjjolgpppeeaaDoor
open Go.RowKit P
set_option linter.unusedVariables false
set_option linter.unusedSimpArgs false
set_option maxRecDepth 100000

abbrev At := Int × Int × Int × Rq
def Lay.actL : Lay At := Lay.pair Lay.int (Lay.pair Lay.int (Lay.pair Lay.int Lay.rqL))
def Lay.acts : Lay (List At) := Lay.slice 31 Lay.actL
theorem Tryd.infoAct : (Tryd.prog.info? 31).map (fun i => (i.zero, i.size, i.bytes)) = some (some (.agg #[.int .i64 0, .int .i64 0, .int .i64 0, .int .i64 0, .int .i64 0, .int .i64 0, .int .i64 0, .int .i64 0, .slice none 0 0]), 9, 88) := by kernel_rfl
theorem Lay.acts_rd {w : World} {cs : List Value} {L : List At} (h : Lay.acts.rd w cs L) : ∃ A c, cs = [.slice A L.length c] ∧ L.length ≤ c ∧ c ≤ maxLen ∧ Sl 9 Lay.actL.rd w A L := h
theorem own_act {w : World} {base : Nat} {k n b x s p q r : Int} {A : Option Addr} {l : List UInt8} {c : Nat} (g0 : isI k) (g1 : isI n) (g2 : isI b) (h0 : isI x) (h1 : isI s) (h2 : isI p) (h3 : isI q) (h4 : isI r) (h : Own w base (.slice A l.length c) l) :
    Lay.actL.ow w [.int .i64 k, .int .i64 n, .int .i64 b, .int .i64 x, .int .i64 s, .int .i64 p, .int .i64 q, .int .i64 r, .slice A l.length c] (k, n, b, x, s, p, q, r, l) (Value.slice A l.length c).ownBlock.toList :=
  ⟨[.int .i64 k], [.int .i64 n, .int .i64 b, .int .i64 x, .int .i64 s, .int .i64 p, .int .i64 q, .int .i64 r, .slice A l.length c], [], _, rfl, ⟨rfl, g0, rfl⟩, ⟨[.int .i64 n], [.int .i64 b, .int .i64 x, .int .i64 s, .int .i64 p, .int .i64 q, .int .i64 r, .slice A l.length c], [], _, rfl, ⟨rfl, g1, rfl⟩, ⟨[.int .i64 b], [.int .i64 x, .int .i64 s, .int .i64 p, .int .i64 q, .int .i64 r, .slice A l.length c], [], _, rfl, ⟨rfl, g2, rfl⟩, own_rqL h0 h1 h2 h3 h4 h, rfl⟩, rfl⟩, rfl⟩
theorem own_tick {w : World} {n : Int} (g1 : isI n) :
    Lay.actL.ow w [.int .i64 2, .int .i64 n, .int .i64 0, .int .i64 0, .int .i64 0, .int .i64 0, .int .i64 0, .int .i64 0, .slice none 0 0] (2, n, 0, 0, 0, 0, 0, 0, []) [] := by
  have h0 : isI 0 := ⟨by decide, by decide⟩
  have h2 : isI 2 := ⟨by decide, by decide⟩
  exact own_act (l := []) h2 g1 h0 h0 h0 h0 h0 h0 (Own.nil w w.heap.size)

/-- Was the document asked. -/
def dn (c : Int) : Bool := decide (c ≠ 1) && (decide (c ≠ 10) && decide (c ≠ 9))
def actOf (o : Ot) : At := (1, 0, o.2.2.2.1, o.2.2.1)
def tkOf (e : Evt) : List At := if e.1 = 3 then [(2, e.2.2.1, 0, 0, 0, 0, 0, 0, [])] else []
/-- Is the output one of the document's at the event i. -/
def isAt (i : Nat) (o : Ot) : Bool := decide (o.1 = (i : Int)) && dn o.2.2.2.2.1
def wAt (es : List Evt) (os : List Ot) (i : Nat) : List At := tkOf (es.getD i dEv) ++ (os.filter (isAt i)).map actOf
def witL (es : List Evt) (os : List Ot) : List At := (List.range es.length).flatMap (wAt es os)
def badF (o : Ot) : Bool := dn o.2.2.2.2.1 && decide (o.2.2.2.1 < 0)
def witOk (es : List Evt) (os : List Ot) : Bool := outsOk es os && !os.any badF
def witV (es : List Evt) (os : List Ot) : List At := if witOk es os = true then witL es os else []
theorem wit_no {es : List Evt} {os : List Ot} (h : outsOk es os = false) : witOk es os = false := by unfold witOk; rw [h]; rfl
theorem wit_bad {es : List Evt} {os : List Ot} {k : Nat} (hk : k < os.length) (h : badF os[k] = true) : witOk es os = false := by
  have h1 : os.any badF = true := List.any_eq_true.2 ⟨os[k], List.getElem_mem hk, h⟩
  unfold witOk
  rw [h1]
  simp
theorem outsOk_lt {es : List Evt} {os : List Ot} (h : outsOk es os = true) {k : Nat} (hk : k < os.length) : os[k].1 < es.length := by
  unfold outsOk at h
  simp only [Bool.and_eq_true, decide_eq_true_eq] at h
  have h1 := List.all_eq_true.1 h.2.2 k (List.mem_range.2 hk)
  rw [okAt_eq hk rfl] at h1
  simp only [Bool.and_eq_true, decide_eq_true_eq] at h1
  exact h1.2.1
theorem outsOk_le {es : List Evt} {os : List Ot} (h : outsOk es os = true) : es.length ≤ 300 ∧ os.length ≤ es.length := by
  have h1 : es.length ≤ 300 := by
    rcases Nat.lt_or_ge 300 es.length with h2 | h2
    · rw [outsOk_long h2] at h; cases h
    · exact h2
  refine ⟨h1, ?_⟩
  rcases Nat.lt_or_ge es.length os.length with h2 | h2
  · rw [outsOk_more h2] at h; cases h
  · exact h2
theorem outsOk_asc {es : List Evt} {os : List Ot} (h : outsOk es os = true) {k : Nat} (hk : k < os.length) : 0 ≤ os[k].1 := by
  unfold outsOk at h
  simp only [Bool.and_eq_true, decide_eq_true_eq] at h
  have h3 : ∀ q, q < os.length → okAt es os q = true := fun q hq => List.all_eq_true.1 h.2.2 q (List.mem_range.2 hq)
  have h4 := lastA_ge (os := os) (es := es) (k := k) (by omega) (fun q hq => h3 q (by omega))
  have h5 := h3 k hk
  rw [okAt_eq hk rfl] at h5
  simp only [Bool.and_eq_true, decide_eq_true_eq] at h5
  omega
/-- All outputs were met and none is bad. -/
theorem wit_all {es : List Evt} {os : List Ot} (h : outsOk es os = true) (hb : ∀ q (hq : q < os.length), os[q].1 < (es.length : Int) → badF os[q] = false) : witOk es os = true := by
  have h1 : os.any badF = false := by
    rw [List.any_eq_false]
    intro x hx
    obtain ⟨q, hq, rfl⟩ := List.getElem_of_mem hx
    rw [hb q hq (outsOk_lt h hq)]
    simp
  unfold witOk
  rw [h, h1]
  rfl
theorem wit_succ (es : List Evt) (os : List Ot) (i : Nat) : (List.range (i + 1)).flatMap (wAt es os) = (List.range i).flatMap (wAt es os) ++ wAt es os i := by
  rw [List.range_succ, List.flatMap_append]
  simp
theorem filt_yes {os : List Ot} {i k : Nat} (hk : k < os.length) (h : isAt i os[k] = true) : ((os.take (k + 1)).filter (isAt i)).map actOf = ((os.take k).filter (isAt i)).map actOf ++ [actOf os[k]] := by
  rw [List.take_succ_eq_append_getElem hk, List.filter_append, List.map_append]
  simp [h]
theorem filt_no {os : List Ot} {i k : Nat} (hk : k < os.length) (h : isAt i os[k] = false) : ((os.take (k + 1)).filter (isAt i)).map actOf = ((os.take k).filter (isAt i)).map actOf := by
  rw [List.take_succ_eq_append_getElem hk, List.filter_append, List.map_append]
  simp [h]

/-- A list of actions of the call's own, and a bool. -/
def GivesW (L : List At) (ok : Bool) (w : World) (e : Ending) (w' : World) : Prop := ∃ A c fp, e = .returned (.tuple #[.slice A L.length c, .bool ok]) ∧ Lay.acts.ow w' [.slice A L.length c] L fp ∧ fp.Nodup ∧ (∀ k ∈ fp, w.heap.size ≤ k) ∧ Below w.heap.size w w'

set_option maxHeartbeats 1000000 in
theorem l12Done_any (c : Int) (w : World) :
    Calls Tryd.prog 64 #[.int .i64 c] w fun e w' => e = .returned (.bool (dn c)) ∧ w' = w := by
  obtain ⟨z, hz⟩ : ∃ z, dn c = z := ⟨_, rfl⟩
  unfold dn at hz
  by_cases h1 : c = 1
  · have h1' : (c != 1) = false := by simp [h1]
    have e9 : z = false := by rw [← hz, h1]; rfl
    rw [show dn c = z from hz, e9]
    clear hz e9 h1
    go_enter Tryd.func64, Tryd.ntmps64
    go_wp2
    go_ret
    exact ⟨rfl, rfl⟩
  have h1' : (c != 1) = true := by simp [h1]
  by_cases h2 : c = 10
  · have h2' : (c != 10) = false := by simp [h2]
    have e9 : z = false := by rw [← hz, h2]; rfl
    rw [show dn c = z from hz, e9]
    clear hz e9 h1 h2
    go_enter Tryd.func64, Tryd.ntmps64
    go_wp2
    go_ret
    exact ⟨rfl, rfl⟩
  have h2' : (c != 10) = true := by simp [h2]
  by_cases h3 : c = 9
  · have h3' : (c != 9) = false := by simp [h3]
    have e9 : z = false := by rw [← hz, h3]; rfl
    rw [show dn c = z from hz, e9]
    clear hz e9 h1 h2 h3
    go_enter Tryd.func64, Tryd.ntmps64
    go_wp2
    go_ret
    exact ⟨rfl, rfl⟩
  have h3' : (c != 9) = true := by simp [h3]
  have e9 : z = true := by rw [← hz]; simp [h1, h2, h3]
  rw [show dn c = z from hz, e9]
  clear hz e9 h1 h2 h3
  go_enter Tryd.func64, Tryd.ntmps64
  go_wp2
  go_ret
  exact ⟨rfl, rfl⟩

set_option maxHeartbeats 4000000 in
theorem l11Req_any (x s p q r : Int) (A : Option Addr) (l : List UInt8) (c : Nat) (w : World) (hl6 : l.length ≤ 100000000) (h : Bs w A l) :
    Calls Tryd.prog 65 #[.agg #[.int .i64 x, .int .i64 s, .int .i64 p, .int .i64 q, .int .i64 r, .slice A l.length c]] w fun e w' => ∃ B d, e = .returned (.agg #[.int .i64 x, .int .i64 s, .int .i64 p, .int .i64 q, .int .i64 r, .slice B l.length d]) ∧ Own w' w.heap.size (.slice B l.length d) l ∧ Below w.heap.size w w' := by
  have hal := ((Below.refl w.heap.size w).alloc (Nat.le_refl _) (.cells #[.int .i64 x, .int .i64 s, .int .i64 p, .int .i64 q, .int .i64 r, .slice A l.length c] 29)).alloc (by simp) (.cells #[.int .i64 0, .int .i64 0, .int .i64 0, .int .i64 0, .int .i64 0, .slice none 0 0] 29)
  have R1 := Lib.hid ((Blk.new w #[.int .i64 x, .int .i64 s, .int .i64 p, .int .i64 q, .int .i64 r, .slice A l.length c] 29).alloc (.cells #[.int .i64 0, .int .i64 0, .int .i64 0, .int .i64 0, .int .i64 0, .slice none 0 0] 29))
  have R2 := Lib.hid (show Blk ((w.alloc (.cells #[.int .i64 x, .int .i64 s, .int .i64 p, .int .i64 q, .int .i64 r, .slice A l.length c] 29)).alloc (.cells #[.int .i64 0, .int .i64 0, .int .i64 0, .int .i64 0, .int .i64 0, .slice none 0 0] 29)) (w.heap.size + 1) #[.int .i64 0, .int .i64 0, .int .i64 0, .int .i64 0, .int .i64 0, .slice none 0 0] 29 by have h1 := Blk.new (w.alloc (.cells #[.int .i64 x, .int .i64 s, .int .i64 p, .int .i64 q, .int .i64 r, .slice A l.length c] 29)) #[.int .i64 0, .int .i64 0, .int .i64 0, .int .i64 0, .int .i64 0, .slice none 0 0] 29; simp only [World.size_alloc] at h1; exact h1)
  have HB := Lib.hid hal
  have HL := Lib.hid (h.below hal)
  have hzw : ((w.alloc (.cells #[.int .i64 x, .int .i64 s, .int .i64 p, .int .i64 q, .int .i64 r, .slice A l.length c] 29)).alloc (.cells #[.int .i64 0, .int .i64 0, .int .i64 0, .int .i64 0, .int .i64 0, .slice none 0 0] 29)).heap.size = w.heap.size + 2 := by simp
  have HZW := Lib.hid hzw
  clear hal h hzw
  go_enter Tryd.func65, Tryd.ntmps65
  go_upto_region 1 with fail
  generalize (w.alloc (.cells #[.int .i64 x, .int .i64 s, .int .i64 p, .int .i64 q, .int .i64 r, .slice A l.length c] 29)).alloc (.cells #[.int .i64 0, .int .i64 0, .int .i64 0, .int .i64 0, .int .i64 0, .slice none 0 0] 29) = W1 at *
  have hz1 : W1.heap.size = w.heap.size + 2 := HZW.out
  have HZ1 := Lib.hid (show w.heap.size + 2 ≤ W1.heap.size by omega)
  clear hz1
  have hO0 : Own (W1.alloc (.cells #[] 5)) W1.heap.size (.slice (some ⟨W1.heap.size, 0, none⟩) 0 0) [] := World.ownsRow_made W1 #[] 0 (Nat.le_refl _) (by unfold maxLen; omega) rfl
  have hC0 : Bs (W1.alloc (.cells #[] 5)) A l := HL.out.below ((Below.refl W1.heap.size W1).alloc (Nat.le_refl _) (.cells #[] 5))
  have hal2 := (Below.refl W1.heap.size W1).alloc (Nat.le_refl _) (.cells #[] 5)
  have p5 := R1.out.cell 5
  have f5 := R1.out.frozen 5
  have plt := R1.out.lt
  go_wp2_with (at_builtin; go_must (refine wpList_app_bytes rfl _ _ rfl W1.heap.size _ [] l A l.length c rfl rfl rfl hO0 hC0 ?c1 ?c2 ?_))
  case c1 => simp; omega
  case c2 => simp
  intro v3 w3 ho3 hg3 _
  obtain ⟨A3, c3, rfl, _, _, _⟩ := ho3.form
  have hb3 : Below W1.heap.size W1 w3 := hal2.grown hg3 (by simp) (fun z hz => by simp [Value.ownBlock] at hz; omega)
  have HO3 := Lib.hid ho3
  have HR3 := Lib.hid ho3.range
  have HS3 := Lib.hid hb3.size
  have HB3 := Lib.hid (below_then HB.out hb3)
  have R13 := Lib.hid (R1.out.below hb3)
  have R23 := Lib.hid (R2.out.below hb3)
  clear hb3 ho3 hg3 hal2 hO0 hC0 HB R1 R2 HL p5 f5 plt
  have hkp := (Keeps.refl [w.heap.size] w3).put1 (List.mem_singleton.2 rfl) 5 (.slice A3 l.length c3)
  have HO4 := Lib.hid (HO3.out.keeps hkp (fun z hz => by have h1 := HR3.out z hz; have h2 := HZ1.out; simp; omega))
  have HB4 := Lib.hid (HB3.out.setCell (p := ⟨w.heap.size, 5, none⟩) (by simp) (.slice A3 l.length c3))
  have R14 := Lib.hid (R13.out.set 5 (.slice A3 l.length c3))
  have R24 := Lib.hid (R23.out.of_block (hkp.block _ R23.out.lt (by simp)))
  have f5 := R13.out.frozen 5
  have p5 := R13.out.cell 5
  clear hkp
  go_upto_region 2 with fail
  generalize w3.setCell ⟨w.heap.size, 5, none⟩ (.slice A3 l.length c3) = w4 at *
  clear f5 p5 R13 R23 HO3 HB3
  have hk2 := ((((((Keeps.refl [w.heap.size + 1] w4).put1 (List.mem_singleton.2 rfl) 0 (.int .i64 x)).put1 (List.mem_singleton.2 rfl) 1 (.int .i64 s)).put1 (List.mem_singleton.2 rfl) 2 (.int .i64 p)).put1 (List.mem_singleton.2 rfl) 3 (.int .i64 q)).put1 (List.mem_singleton.2 rfl) 4 (.int .i64 r)).put1 (List.mem_singleton.2 rfl) 5 (.slice A3 l.length c3)
  have HO9 := Lib.hid (HO4.out.keeps hk2 (fun z hz => by have h1 := HR3.out z hz; have h2 := HZ1.out; simp; omega))
  have HB9 := Lib.hid ((((((HB4.out.setCell (p := ⟨w.heap.size + 1, 0, none⟩) (by simp) (.int .i64 x)).setCell (p := ⟨w.heap.size + 1, 1, none⟩) (by simp) (.int .i64 s)).setCell (p := ⟨w.heap.size + 1, 2, none⟩) (by simp) (.int .i64 p)).setCell (p := ⟨w.heap.size + 1, 3, none⟩) (by simp) (.int .i64 q)).setCell (p := ⟨w.heap.size + 1, 4, none⟩) (by simp) (.int .i64 r)).setCell (p := ⟨w.heap.size + 1, 5, none⟩) (by simp) (.slice A3 l.length c3))
  have q0 := R14.out.cell 0
  have r0 := R24.out.cell 0
  have k0 := R24.out.frozen 0
  have q1 := R14.out.cell 1
  have r1 := R24.out.cell 1
  have k1 := R24.out.frozen 1
  have q2 := R14.out.cell 2
  have r2 := R24.out.cell 2
  have k2 := R24.out.frozen 2
  have q3 := R14.out.cell 3
  have r3 := R24.out.cell 3
  have k3 := R24.out.frozen 3
  have q4 := R14.out.cell 4
  have r4 := R24.out.cell 4
  have k4 := R24.out.frozen 4
  have q5 := R14.out.cell 5
  have r5 := R24.out.cell 5
  have k5 := R24.out.frozen 5
  simp at q0 q1 q2 q3 q4 q5
  clear hk2 R14 R24
  go_wp2
  refine bodyPost_ret (v := .agg #[.int .i64 x, .int .i64 s, .int .i64 p, .int .i64 q, .int .i64 r, .slice A3 l.length c3]) (by simp [results, Tryd.results65, go_sem, q0, r0, q1, r1, q2, r2, q3, r3, q4, r4, q5, r5]) rfl ?_
  exact ⟨A3, c3, rfl, HO9.out.mono (by have h2 := HZ1.out; omega), HB9.out⟩
end Go.Proofs.YtgpjjolgpppeeaaDoor

/-
  bytes.Clone, under a wide bound: contract. Own work.
-/
namespace Go.Proofs.YtgpjjolgpppeeaaDoor
open Go.RowKit P
set_option linter.unusedVariables false
set_option linter.unusedSimpArgs false
set_option maxRecDepth 100000

set_option maxHeartbeats 1000000 in
theorem bytesClone_ew (a : Addr) (l : List UInt8) (n c : Nat) (w : World) (hn : n = l.length) (hl : l.length ≤ 100000000) (hA : Bs w (some a) l) :
    Calls Tryd.prog 82 #[.slice (some a) n c] w (Makes w l) := by
  have q22 : ∀ (w : World) (a : Option Addr) (n c n' c' : Nat), (binOp .eql 22 (.slice a n c) (.slice none n' c')).run Tryd.prog w = .ok (.bool a.isNone) w := fun w a n c n' c' => Lib.run_eql_slice_nil w _ _ a n c n' c' Tryd.underlying22
  have hown0 : Own (w.alloc (.cells #[] 5)) w.heap.size (.slice (some ⟨w.heap.size, 0, none⟩) 0 0) [] := World.ownsRow_made w #[] 0 (Nat.le_refl _) (by unfold maxLen; omega) rfl
  have hal := (Below.refl w.heap.size w).alloc (Nat.le_refl _) (.cells #[] 5)
  have hA0 := hA.below hal
  go_enter Tryd.func82, Tryd.ntmps82
  go_wp2_with (at_builtin; go_must (refine wpList_app_bytes rfl _ _ rfl w.heap.size _ [] l (some a) n c rfl rfl hn hown0 hA0 ?c1 ?c2 ?_))
  case c1 => simp; omega
  case c2 => simp
  intro v4 w4 hown4 hg4 _
  have hb4 := hal.grown hg4 (by simp) (fun x hx => (World.ownsRow.lt hown0 x hx).1)
  go_wp2
  go_ret
  exact ⟨_, rfl, hown4, hb4⟩

set_option maxHeartbeats 1000000 in
theorem bytesClone_w (A : Option Addr) (l : List UInt8) (n c : Nat) (w : World) (hn : n = l.length) (hl : l.length ≤ 100000000) (hA : Bs w A l) :
    Calls Tryd.prog 82 #[.slice A n c] w (Makes w l) := by
  cases A with
  | some a => exact bytesClone_ew a l n c w hn hl hA
  | none =>
    have h0 : l = [] := by
      cases l with
      | nil => rfl
      | cons x t => obtain ⟨b, off, e, _⟩ := hA 0 (by simp); cases e
    subst h0
    have q22 : ∀ (w : World) (a : Option Addr) (n c n' c' : Nat), (binOp .eql 22 (.slice a n c) (.slice none n' c')).run Tryd.prog w = .ok (.bool a.isNone) w := fun w a n c n' c' => Lib.run_eql_slice_nil w _ _ a n c n' c' Tryd.underlying22
    go_enter Tryd.func82, Tryd.ntmps82
    go_wp2
    go_ret
    exact Makes.nil w
end Go.Proofs.YtgpjjolgpppeeaaDoor

/-
  Chapter 12, what an output asks of the document: contracts of the program; the closure that Witness defers. Own work.
-/
namespace Go.Proofs.YtgpjjolgpppeeaaDoor
open Go.RowKit P
set_option linter.unusedVariables false
set_option linter.unusedSimpArgs false
set_option maxRecDepth 100000

set_option maxHeartbeats 2000000 in
theorem isOfDoc_any (a u x s p q r f y i j : Int) (A : Option Addr) (l : List UInt8) (c : Nat) (C : Option Addr) (m : List UInt8) (d : Nat) (w : World) :
    Calls Tryd.prog 67 #[.agg #[.int .i64 a, .int .i64 u, .int .i64 x, .int .i64 s, .int .i64 p, .int .i64 q, .int .i64 r, .slice A l.length c, .int .i64 f, .int .i64 y, .int .i64 i, .int .i64 j, .slice C m.length d]] w fun e w' => e = .returned (.bool (dn y)) ∧ Below w.heap.size w w' := by
  have HAL := Lib.hid ((Below.refl w.heap.size w).alloc (Nat.le_refl _) (.cells #[.int .i64 a, .int .i64 u, .int .i64 x, .int .i64 s, .int .i64 p, .int .i64 q, .int .i64 r, .slice A l.length c, .int .i64 f, .int .i64 y, .int .i64 i, .int .i64 j, .slice C m.length d] 85))
  by_cases h1 : y = 1
  · have h1' : (y != 1) = false := by simp [h1]
    have e9 : dn y = false := by rw [h1]; rfl
    rw [e9]
    clear e9
    subst h1
    go_enter Tryd.func67, Tryd.ntmps67
    go_wp2
    go_ret
    exact ⟨rfl, HAL.out⟩
  have h1' : (y != 1) = true := by simp [h1]
  by_cases h2 : y = 10
  · have h2' : (y != 10) = false := by simp [h2]
    have e9 : dn y = false := by rw [h2]; rfl
    rw [e9]
    clear e9
    subst h2
    go_enter Tryd.func67, Tryd.ntmps67
    go_wp2
    go_ret
    exact ⟨rfl, HAL.out⟩
  have h2' : (y != 10) = true := by simp [h2]
  by_cases h3 : y = 9
  · have h3' : (y != 9) = false := by simp [h3]
    have e9 : dn y = false := by rw [h3]; rfl
    rw [e9]
    clear e9
    subst h3
    go_enter Tryd.func67, Tryd.ntmps67
    go_wp2
    go_ret
    exact ⟨rfl, HAL.out⟩
  have h3' : (y != 9) = true := by simp [h3]
  have e9 : dn y = true := by unfold dn; simp [h1, h2, h3]
  rw [e9]
  clear e9
  go_enter Tryd.func67, Tryd.ntmps67
  go_wp2
  go_ret
  exact ⟨rfl, HAL.out⟩

/-- The call panics. -/
def PanW (w : World) (e : Ending) (w' : World) : Prop := (∃ t z, e = .panicked [{ v := .iface t z, recovered := false }]) ∧ Below w.heap.size w w'

set_option maxHeartbeats 2000000 in
theorem outAct_bad (a u x s p q r f y i j : Int) (A : Option Addr) (l : List UInt8) (c : Nat) (C : Option Addr) (m : List UInt8) (d : Nat) (w : World) (hf : f < 0) :
    Calls Tryd.prog 68 #[.agg #[.int .i64 a, .int .i64 u, .int .i64 x, .int .i64 s, .int .i64 p, .int .i64 q, .int .i64 r, .slice A l.length c, .int .i64 f, .int .i64 y, .int .i64 i, .int .i64 j, .slice C m.length d]] w (PanW w) := by
  have HAL := Lib.hid (((Below.refl w.heap.size w).alloc (Nat.le_refl _) (.cells #[.int .i64 a, .int .i64 u, .int .i64 x, .int .i64 s, .int .i64 p, .int .i64 q, .int .i64 r, .slice A l.length c, .int .i64 f, .int .i64 y, .int .i64 i, .int .i64 j, .slice C m.length d] 85)).alloc (by simp) (.cells #[.int .i64 0, .int .i64 0, .int .i64 0, .int .i64 0, .int .i64 0, .int .i64 0, .int .i64 0, .int .i64 0, .slice none 0 0] 31))
  go_enter Tryd.func68, Tryd.ntmps68
  go_wp2
  exact ⟨rfl, ⟨_, _, rfl⟩, HAL.out⟩

set_option maxHeartbeats 8000000 in
theorem outAct_any (a u x s p q r f y i j : Int) (A : Option Addr) (l : List UInt8) (c : Nat) (C : Option Addr) (m : List UInt8) (d : Nat) (w : World) (hf : ¬ f < 0) (hl6 : l.length ≤ 100000000) (hA : Bs w A l) :
    Calls Tryd.prog 68 #[.agg #[.int .i64 a, .int .i64 u, .int .i64 x, .int .i64 s, .int .i64 p, .int .i64 q, .int .i64 r, .slice A l.length c, .int .i64 f, .int .i64 y, .int .i64 i, .int .i64 j, .slice C m.length d]] w fun e w' => ∃ B2 d2, e = .returned (.agg #[.int .i64 1, .int .i64 0, .int .i64 f, .int .i64 x, .int .i64 s, .int .i64 p, .int .i64 q, .int .i64 r, .slice B2 l.length d2]) ∧ Own w' w.heap.size (.slice B2 l.length d2) l ∧ Below w.heap.size w w' := by
  have HF := Lib.hid hf
  have hal := ((Below.refl w.heap.size w).alloc (Nat.le_refl _) (.cells #[.int .i64 a, .int .i64 u, .int .i64 x, .int .i64 s, .int .i64 p, .int .i64 q, .int .i64 r, .slice A l.length c, .int .i64 f, .int .i64 y, .int .i64 i, .int .i64 j, .slice C m.length d] 85)).alloc (by simp) (.cells #[.int .i64 0, .int .i64 0, .int .i64 0, .int .i64 0, .int .i64 0, .int .i64 0, .int .i64 0, .int .i64 0, .slice none 0 0] 31)
  have R1 := Lib.hid ((Blk.new w #[.int .i64 a, .int .i64 u, .int .i64 x, .int .i64 s, .int .i64 p, .int .i64 q, .int .i64 r, .slice A l.length c, .int .i64 f, .int .i64 y, .int .i64 i, .int .i64 j, .slice C m.length d] 85).alloc (.cells #[.int .i64 0, .int .i64 0, .int .i64 0, .int .i64 0, .int .i64 0, .int .i64 0, .int .i64 0, .int .i64 0, .slice none 0 0] 31))
  have R2 := Lib.hid (show Blk ((w.alloc (.cells #[.int .i64 a, .int .i64 u, .int .i64 x, .int .i64 s, .int .i64 p, .int .i64 q, .int .i64 r, .slice A l.length c, .int .i64 f, .int .i64 y, .int .i64 i, .int .i64 j, .slice C m.length d] 85)).alloc (.cells #[.int .i64 0, .int .i64 0, .int .i64 0, .int .i64 0, .int .i64 0, .int .i64 0, .int .i64 0, .int .i64 0, .slice none 0 0] 31)) (w.heap.size + 1) #[.int .i64 0, .int .i64 0, .int .i64 0, .int .i64 0, .int .i64 0, .int .i64 0, .int .i64 0, .int .i64 0, .slice none 0 0] 31 by have h1 := Blk.new (w.alloc (.cells #[.int .i64 a, .int .i64 u, .int .i64 x, .int .i64 s, .int .i64 p, .int .i64 q, .int .i64 r, .slice A l.length c, .int .i64 f, .int .i64 y, .int .i64 i, .int .i64 j, .slice C m.length d] 85)) #[.int .i64 0, .int .i64 0, .int .i64 0, .int .i64 0, .int .i64 0, .int .i64 0, .int .i64 0, .int .i64 0, .slice none 0 0] 31; simp only [World.size_alloc] at h1; exact h1)
  have HB := Lib.hid hal
  have HL := Lib.hid (hA.below hal)
  have HZW := Lib.hid (show ((w.alloc (.cells #[.int .i64 a, .int .i64 u, .int .i64 x, .int .i64 s, .int .i64 p, .int .i64 q, .int .i64 r, .slice A l.length c, .int .i64 f, .int .i64 y, .int .i64 i, .int .i64 j, .slice C m.length d] 85)).alloc (.cells #[.int .i64 0, .int .i64 0, .int .i64 0, .int .i64 0, .int .i64 0, .int .i64 0, .int .i64 0, .int .i64 0, .slice none 0 0] 31)).heap.size = w.heap.size + 2 by simp)
  clear hal hA
  go_enter Tryd.func68, Tryd.ntmps68
  go_upto_region 1 with fail
  generalize (w.alloc (.cells #[.int .i64 a, .int .i64 u, .int .i64 x, .int .i64 s, .int .i64 p, .int .i64 q, .int .i64 r, .slice A l.length c, .int .i64 f, .int .i64 y, .int .i64 i, .int .i64 j, .slice C m.length d] 85)).alloc (.cells #[.int .i64 0, .int .i64 0, .int .i64 0, .int .i64 0, .int .i64 0, .int .i64 0, .int .i64 0, .int .i64 0, .slice none 0 0] 31) = W1 at *
  have hz1 : W1.heap.size = w.heap.size + 2 := HZW.out
  have p2 := R1.out.cell 2
  have p3 := R1.out.cell 3
  have p4 := R1.out.cell 4
  have p5 := R1.out.cell 5
  have p6 := R1.out.cell 6
  have p7 := R1.out.cell 7
  have p8 := R1.out.cell 8
  have halr := (Below.refl W1.heap.size W1).alloc (Nat.le_refl _) (.cells #[.int .i64 x, .int .i64 s, .int .i64 p, .int .i64 q, .int .i64 r, .slice A l.length c] 29)
  have R3 := Lib.hid (Blk.new W1 #[.int .i64 x, .int .i64 s, .int .i64 p, .int .i64 q, .int .i64 r, .slice A l.length c] 29)
  have R11 := Lib.hid (R1.out.below halr)
  have R21 := Lib.hid (R2.out.below halr)
  have HB1 := Lib.hid (below_then HB.out halr)
  have HL1 := Lib.hid (HL.out.below halr)
  have HZ2 := Lib.hid (show (W1.alloc (.cells #[.int .i64 x, .int .i64 s, .int .i64 p, .int .i64 q, .int .i64 r, .slice A l.length c] 29)).heap.size = w.heap.size + 3 by simp; omega)
  rw [hz1] at R3
  clear halr R1 R2 HB HL
  go_upto_region 4 with fail
  generalize W1.alloc (.cells #[.int .i64 x, .int .i64 s, .int .i64 p, .int .i64 q, .int .i64 r, .slice A l.length c] 29) = W2 at *
  clear p2 p3 p4 p5 p6 p7 p8
  clear hz1
  have q5 := R3.out.cell 5
  go_wp2_with fail
  refine (bytesClone_w A l l.length c _ rfl hl6 (by exact HL1.out)).mono ?_
  rintro e w3 ⟨v3, rfl, hown3, hb3⟩
  obtain ⟨A3, c3, rfl, _, _, _⟩ := hown3.form
  have HO3 := Lib.hid hown3
  have HR3 := Lib.hid hown3.range
  have HS3 := Lib.hid hb3.size
  have HB3 := Lib.hid (below_then HB1.out hb3)
  have R13 := Lib.hid (R11.out.below hb3)
  have R23 := Lib.hid (R21.out.below hb3)
  have R33 := Lib.hid (R3.out.below hb3)
  clear hb3 hown3 q5 R3 R11 R21 HB1 HL1
  have hkp := (Keeps.refl [w.heap.size + 2] w3).put1 (List.mem_singleton.2 rfl) 5 (.slice A3 l.length c3)
  have HO4 := Lib.hid (HO3.out.keeps hkp (fun z hz => by have h1 := HR3.out z hz; have h2 := HZ2.out; simp; omega))
  have HB4 := Lib.hid (HB3.out.setCell (p := ⟨w.heap.size + 2, 5, none⟩) (by simp) (.slice A3 l.length c3))
  have R34 := Lib.hid (R33.out.set 5 (.slice A3 l.length c3))
  have R14 := Lib.hid (R13.out.of_block (hkp.block _ R13.out.lt (by simp)))
  have R24 := Lib.hid (R23.out.of_block (hkp.block _ R23.out.lt (by simp)))
  have f5 := R33.out.frozen 5
  have q5 := R33.out.cell 5
  clear hkp
  go_upto_region 5 with fail
  generalize w3.setCell ⟨w.heap.size + 2, 5, none⟩ (.slice A3 l.length c3) = w4 at *
  clear f5 q5 R13 R23 R33 HO3 HB3
  have hk2 := ((((((((((Keeps.refl [w.heap.size + 1] w4).put1 (List.mem_singleton.2 rfl) 0 (.int .i64 1)).put1 (List.mem_singleton.2 rfl) 1 (.int .i64 0)).put1 (List.mem_singleton.2 rfl) 2 (.int .i64 f)).put1 (List.mem_singleton.2 rfl) 3 (.int .i64 x)).put1 (List.mem_singleton.2 rfl) 4 (.int .i64 s)).put1 (List.mem_singleton.2 rfl) 5 (.int .i64 p)).put1 (List.mem_singleton.2 rfl) 6 (.int .i64 q)).put1 (List.mem_singleton.2 rfl) 7 (.int .i64 r)).put1 (List.mem_singleton.2 rfl) 8 (.slice A3 l.length c3))
  have HO9 := Lib.hid (HO4.out.keeps hk2 (fun z hz => by have h1 := HR3.out z hz; have h2 := HZ2.out; simp; omega))
  have HB9 := Lib.hid (((((((((HB4.out.setCell (p := ⟨w.heap.size + 1, 0, none⟩) (by simp) (.int .i64 1)).setCell (p := ⟨w.heap.size + 1, 1, none⟩) (by simp) (.int .i64 0)).setCell (p := ⟨w.heap.size + 1, 2, none⟩) (by simp) (.int .i64 f)).setCell (p := ⟨w.heap.size + 1, 3, none⟩) (by simp) (.int .i64 x)).setCell (p := ⟨w.heap.size + 1, 4, none⟩) (by simp) (.int .i64 s)).setCell (p := ⟨w.heap.size + 1, 5, none⟩) (by simp) (.int .i64 p)).setCell (p := ⟨w.heap.size + 1, 6, none⟩) (by simp) (.int .i64 q)).setCell (p := ⟨w.heap.size + 1, 7, none⟩) (by simp) (.int .i64 r)).setCell (p := ⟨w.heap.size + 1, 8, none⟩) (by simp) (.slice A3 l.length c3))
  have p8 := R14.out.cell 8
  have s0 := R34.out.cell 0
  have s1 := R34.out.cell 1
  have s2 := R34.out.cell 2
  have s3 := R34.out.cell 3
  have s4 := R34.out.cell 4
  have s5 := R34.out.cell 5
  have r0 := R24.out.cell 0
  have k0 := R24.out.frozen 0
  have r1 := R24.out.cell 1
  have k1 := R24.out.frozen 1
  have r2 := R24.out.cell 2
  have k2 := R24.out.frozen 2
  have r3 := R24.out.cell 3
  have k3 := R24.out.frozen 3
  have r4 := R24.out.cell 4
  have k4 := R24.out.frozen 4
  have r5 := R24.out.cell 5
  have k5 := R24.out.frozen 5
  have r6 := R24.out.cell 6
  have k6 := R24.out.frozen 6
  have r7 := R24.out.cell 7
  have k7 := R24.out.frozen 7
  have r8 := R24.out.cell 8
  have k8 := R24.out.frozen 8
  simp at s0 s1 s2 s3 s4 s5
  clear hk2 R14 R24 R34
  go_wp2
  refine bodyPost_ret (v := .agg #[.int .i64 1, .int .i64 0, .int .i64 f, .int .i64 x, .int .i64 s, .int .i64 p, .int .i64 q, .int .i64 r, .slice A3 l.length c3]) (by simp [results, Tryd.results68, go_sem, r0, r1, r2, r3, r4, r5, r6, r7, r8]) rfl ?_
  exact ⟨A3, c3, rfl, HO9.out.mono (by have h2 := HZ2.out; omega), HB9.out⟩

theorem catchW_panicking (p1 p2 : Addr) (v1 v2 : Value) (u : TypeId) (pv : Value) (older : List PanicEntry) (w : World) (hc : w.cell? p1 = some v1) (hz : w.frozen? p1 = false) (hc2 : w.cell? p2 = some v2) (hz2 : w.frozen? p2 = false) (hne : p1.block ≠ p2.block) :
    CallsD Tryd.prog 66 #[.pointer (some p1), .pointer (some p2)] (.panicking ({ v := .iface u pv, recovered := false } :: older)) w fun e u' w' =>
      e = .returned (.tuple #[]) ∧ u' = .panicking ({ v := .iface u pv, recovered := true } :: older) ∧ w' = (w.setCell p1 (.slice none 0 0)).setCell p2 (.bool false) := by
  have hne' : p2.block ≠ p1.block := fun h => hne h.symm
  have e2 : (w.setCell p1 (.slice none 0 0)).cell? p2 = some v2 := by rw [World.cell?_setCell_other (h := fun h => hne (congrArg Addr.block h))]; exact hc2
  have z2 : (w.setCell p1 (.slice none 0 0)).frozen? p2 = false := by simpa using hz2
  refine callsD_of_wpS Tryd.func66 rfl fun c₀ cs hu => ?_
  apply wpS_seq
  apply wpS_region
  simp [wpOpsS, go_sem, recoverD, hu, Tryd.ntmps66, Exit.thenS]
  refine wpS_cond (t := true) (by simp [Act.eval, Array.replicate]) ?_
  simp only [if_true]
  apply wpS_region
  simp [wpOpsS, go_sem, hc, hz, e2, z2, bodyPostS, results, Tryd.results66]

theorem catchW_idle (p1 p2 : Addr) (w : World) :
    CallsD Tryd.prog 66 #[.pointer (some p1), .pointer (some p2)] .returning w fun e u' w' => e = .returned (.tuple #[]) ∧ u' = .returning ∧ w' = w := by
  refine callsD_of_wpS Tryd.func66 rfl fun c₀ cs hu => ?_
  apply wpS_seq
  apply wpS_region
  simp [wpOpsS, go_sem, recoverD, hu, Tryd.ntmps66, Exit.thenS]
  refine wpS_cond (t := false) (by simp [Act.eval, Array.replicate]) ?_
  simp only [Bool.false_eq_true, if_false]
  refine wpS_of_wp (wp_skip ?_)
  cases c₀
  simp_all [bodyPostS, results, Tryd.results66]
end Go.Proofs.YtgpjjolgpppeeaaDoor

/-
  Chapter 12, one event after another: plain mathematics of the program's Witness; the rest of a list of outputs. Own work.
-/
namespace Go.Proofs.YtgpjjolgpppeeaaDoor
open Go.RowKit P
set_option linter.unusedVariables false
set_option linter.unusedSimpArgs false
set_option maxRecDepth 100000

theorem Sl.drop16 {α : Type} {n : Nat} {R : World → List Value → α → Prop} {w : World} {b off : Nat} {l : List α} (h : Sl n R w (some ⟨b, off, none⟩) l) : Sl n R w (some ⟨b, off + n, none⟩) (l.drop 1) := by
  intro k hk
  rw [List.length_drop] at hk
  obtain ⟨b', off', us, hA, hlt, hus, hc, hr⟩ := h (1 + k) (by omega)
  cases hA
  refine ⟨b, off + n, us, rfl, hlt, hus, fun j hj => ?_, ?_⟩
  · have h9 := hc j hj
    rw [show off + ((1 + k) * n + j) = off + n + (k * n + j) by rw [Nat.add_mul, Nat.one_mul]; omega] at h9
    exact h9
  · rw [List.getElem_drop]
    exact hr
/-- told[1:]. -/
theorem slcO (b off n c : Nat) (hn : 1 ≤ n) (hc : n ≤ c) (hc9 : c ≤ maxLen) : ∃ A', (∀ W, (Instr.slice 42 (.slice (some ⟨b, off, none⟩) n c) (some (.int .i64 1)) none none).run Tryd.prog W = .ok (.slice A' (n - 1) (c - 1)) W) ∧ ∀ (w : World) l, l.length = n → Ots w (some ⟨b, off, none⟩) l → Ots w A' (l.drop 1) := by
  unfold maxLen at hc9
  have hz : ∀ W, (Go.sizeOf 85).run Tryd.prog W = .ok 13 W := fun W => by kernel_rfl
  have ht' : Tryd.prog.underlying 42 = some (.slice (Tryd.prog.elem 42)) := by simp [Program.elem, Tryd.underlying42]
  have he9 : Tryd.prog.elem 42 = 85 := by simp [Program.elem, Tryd.underlying42]
  have h1 : (1 : Int) = ((1 : Nat) : Int) := rfl
  by_cases h0 : c = 1
  · refine ⟨some ⟨b, off, none⟩, fun W => ?_, fun w l hl h => ?_⟩
    · rw [h1, run_slice_l W 42 _ _ _ ht' .i64 _ (by omega) (by omega), he9, hz]
      simp [Result.andThen, sliced, h0]
    · have : l.drop 1 = [] := List.drop_eq_nil_of_le (by omega)
      rw [this]
      exact Sl.nil _ _ _ _
  · refine ⟨some ⟨b, off + 13, none⟩, fun W => ?_, fun w l hl h => Sl.drop16 h⟩
    rw [h1, run_slice_l W 42 _ _ _ ht' .i64 _ (by omega) (by omega), he9, hz]
    simp [Result.andThen, sliced, Addr.add, h0]

theorem outs_ok {es : List Evt} {os : List Ot} (h : outsOk es os = true) {k : Nat} (hk : k < os.length) : lastA os k < os[k].1 ∧ mayE os[k] (es.getD os[k].1.toNat dEv) = true := by
  unfold outsOk at h
  simp only [Bool.and_eq_true, decide_eq_true_eq] at h
  have h1 := List.all_eq_true.1 h.2.2 k (List.mem_range.2 hk)
  rw [okAt_eq hk rfl] at h1
  simp only [Bool.and_eq_true, decide_eq_true_eq] at h1
  exact ⟨h1.1, h1.2.2⟩
/-- m outputs came before the event k. -/
structure Came (os : List Ot) (k m : Nat) : Prop where
  le : m ≤ os.length
  lo : ∀ q (hq : q < os.length), q < m → os[q].1 < (k : Int)
  hi : ∀ q (hq : q < os.length), m ≤ q → (k : Int) ≤ os[q].1
theorem Came.start {es : List Evt} {os : List Ot} (h : outsOk es os = true) : Came os 0 0 := ⟨Nat.zero_le _, fun q hq h9 => absurd h9 (by omega), fun q hq _ => by have := outsOk_asc h hq; omega⟩
theorem Came.none {os : List Ot} {k m : Nat} (h : Came os k m) (hn : ∀ (hm : m < os.length), os[m].1 ≠ (k : Int)) {es : List Evt} (hok : outsOk es os = true) : Came os (k + 1) m ∧ os.filter (isAt k) = [] := by
  have h1 : ∀ q (hq : q < os.length), os[q].1 ≠ (k : Int) := fun q hq => by
    by_cases h2 : q < m
    · have := h.lo q hq h2; omega
    · by_cases h3 : q = m
      · subst h3; exact hn hq
      · have h4 := outs_mono hok (k := m) (j := q) hq (by omega)
        have h5 := h.hi m (by omega) (Nat.le_refl _)
        omega
  refine ⟨⟨h.le, fun q hq h2 => by have := h.lo q hq h2; omega, fun q hq h2 => by have := h.hi q hq h2; have := h1 q hq; omega⟩, ?_⟩
  rw [List.filter_eq_nil_iff]
  intro x hx
  obtain ⟨q, hq, rfl⟩ := List.getElem_of_mem hx
  unfold isAt
  rw [decide_eq_false (h1 q hq)]
  simp
theorem Came.one {os : List Ot} {k m : Nat} (h : Came os k m) (hm : m < os.length) (he : os[m].1 = (k : Int)) {es : List Evt} (hok : outsOk es os = true) : Came os (k + 1) (m + 1) ∧ os.filter (isAt k) = if dn os[m].2.2.2.2.1 = true then [os[m]] else [] := by
  have h1 : ∀ q (hq : q < os.length), m < q → (k : Int) < os[q].1 := fun q hq h2 => by
    have h4 := outs_mono hok (k := m) (j := q) hq h2
    omega
  refine ⟨⟨hm, fun q hq h2 => by
    by_cases h3 : q = m
    · subst h3; omega
    · have := h.lo q hq (by omega); omega, fun q hq h2 => by have := h1 q hq (by omega); omega⟩, ?_⟩
  have hs : os = os.take m ++ os[m] :: os.drop (m + 1) := by rw [List.getElem_cons_drop, List.take_append_drop]
  have ha : (os.take m).filter (isAt k) = [] := by
    rw [List.filter_eq_nil_iff]
    intro x hx
    obtain ⟨q, hq, rfl⟩ := List.getElem_of_mem hx
    rw [List.length_take] at hq
    rw [List.getElem_take]
    unfold isAt
    rw [decide_eq_false (by have := h.lo q (by omega) (by omega); omega)]
    simp
  have hb : (os.drop (m + 1)).filter (isAt k) = [] := by
    rw [List.filter_eq_nil_iff]
    intro x hx
    obtain ⟨q, hq, rfl⟩ := List.getElem_of_mem hx
    rw [List.length_drop] at hq
    rw [List.getElem_drop]
    unfold isAt
    rw [decide_eq_false (by have := h1 (m + 1 + q) (by omega) (by omega); omega)]
    simp
  have hc : os.filter (isAt k) = (os.take m).filter (isAt k) ++ (os[m] :: os.drop (m + 1)).filter (isAt k) := by
    rw [← List.filter_append, ← hs]
  rw [hc, ha, List.filter_cons, hb, List.nil_append]
  unfold isAt
  rw [decide_eq_true he, Bool.true_and]
/-- At a tick there is no output. -/
theorem tick_none {es : List Evt} {os : List Ot} (h : outsOk es os = true) {k : Nat} (hk : k < es.length) (h3 : es[k].1 = 3) {m : Nat} (hm : m < os.length) : os[m].1 ≠ (k : Int) := by
  intro he
  have h1 := (outs_ok h hm).2
  rw [he, Int.toNat_natCast, getD_lt hk] at h1
  unfold mayE mayA at h1
  rw [h3] at h1
  simp at h1
end Go.Proofs.YtgpjjolgpppeeaaDoor
