/-
  FnExactReqParse, its walk. Own work.
-/
import Derived.Test.YtdmmdbapkogdhaaDoorC13
import Derived.Test.YtdmmdbapkogdhaaDoorC05
import Derived.Test.YtdmmdbapkogdhaaDoorEB
import Derived.Test.YtdmmdbapkogdhaaDoorN12
import Derived.Test.YtdmmdbapkogdhaaDoorN14
import Derived.Deep.RegionHeld3
import Derived.Deep.DeepCutAuto
namespace Go.Proofs.YtdmmdbapkogdhaaDoor.fnExactReqParse
open Go.ChangeShapes Go.WideShapes Go.ChangeAt Go.RowKit P
set_option linter.unusedVariables false
set_option maxRecDepth 100000

set_option maxHeartbeats 16000000 in
theorem walk (A : Option Addr) (l : List UInt8) (c : Nat) (hc : l.length ≤ c) (hm : c ≤ maxLen) (w : World) (hL : Bs w A l) (hT : Tab w) :
    Calls Tryd.prog 6 #[.slice A l.length c] w fun e w' => e = .returned (.bool true) ∧ Below w.heap.size w w' := by
  have hn9 : l.length ≤ 9223372036854775807 := by unfold maxLen at hm; omega
  clear hc hm
  obtain ⟨x, hx⟩ : ∃ x, rqFd l (gb l 0) = x := ⟨_, rfl⟩
  have Hx := Lib.hid hx
  clear hx
  obtain ⟨s, hs⟩ : ∃ x, rqFd l (gb l 1) = x := ⟨_, rfl⟩
  have Hs := Lib.hid hs
  clear hs
  obtain ⟨p, hp⟩ : ∃ x, rqFd l (wd l 2) = x := ⟨_, rfl⟩
  have Hp := Lib.hid hp
  clear hp
  obtain ⟨q, hq⟩ : ∃ x, rqFd l (wd l 4) = x := ⟨_, rfl⟩
  have Hq := Lib.hid hq
  clear hq
  obtain ⟨r, hr⟩ : ∃ x, rqFd l (wd l 6) = x := ⟨_, rfl⟩
  have Hr := Lib.hid hr
  clear hr
  obtain ⟨R, hRe⟩ : ∃ R, rqT l = R := ⟨_, rfl⟩
  obtain ⟨z, hze⟩ : ∃ z, rqGood l = z := ⟨_, rfl⟩
  have HZE := Lib.hid hze
  have HRE := Lib.hid hRe
  have hzz : (z != z) = false := by simp
  by_cases hbig : 1048576 < (l.length : Int)
  · go_enter Tryd.func6, Tryd.ntmps6
    go_wp2
    go_ret
    exact ⟨rfl, Below.refl _ _⟩
  have hl : l.length ≤ 1048576 := by omega
  have hRl : R.length ≤ 1048576 := by rw [← hRe]; exact by unfold rqT; split <;> simp <;> omega
  have hR9 : R.length ≤ 9223372036854775807 := by omega
  clear hbig hRe hze
  go_enter Tryd.func6, Tryd.ntmps6
  have HB := Lib.hid (Below.refl w.heap.size w)
  have HL := Lib.hid (hL.below HB.out)
  go_wp2_with fail
  refine (toByteS_e A l c _ hl (by exact HL.out)).mono ?_
  rintro e a1 ⟨a1g, rfl, hrow, hb⟩
  have z1 := hb.size
  have HB := Lib.hid (below_then HB.out hb)
  have HX := Lib.hid hrow.bs
  clear hrow HL
  clear hb
  go_wp2_with fail
  refine (specReqParse_any (some ⟨a1g, 0, none⟩) l l.length _ (Nat.le_refl _) hn9 (fun h => by cases h) (fun a h => by cases h; exact ⟨_, _, rfl⟩) (by exact HX.out) hl).mono ?_
  rintro e m1 ⟨v, rfl, hown, hb⟩
  rw [HRE.out] at hown
  rw [Hx.out, Hs.out, Hp.out, Hq.out, Hr.out, HZE.out]
  obtain ⟨OA, Oc, rfl, Oh, Ok, _, _, _⟩ := own_plain9 hown
  have RO := Lib.hid hown.range
  have z2 := hb.size
  have HB := Lib.hid (below_then HB.out hb)
  have O := Lib.hid (hown.below (Below.refl _ _))
  clear hown HX
  clear hb
  have hal := (Below.refl m1.heap.size m1).alloc (Nat.le_refl _) (.cells #[.int .i64 x, .int .i64 s, .int .i64 p, .int .i64 q, .int .i64 r, .slice OA R.length Oc] 25)
  have hbx := Blk.new m1 #[.int .i64 x, .int .i64 s, .int .i64 p, .int .i64 q, .int .i64 r, .slice OA R.length Oc] 25
  have zbOB : m1.heap.size < (m1.alloc (.cells #[.int .i64 x, .int .i64 s, .int .i64 p, .int .i64 q, .int .i64 r, .slice OA R.length Oc] 25)).heap.size := by simp
  have O := Lib.hid (O.out.below hal)
  have HB := Lib.hid (below_then HB.out hal)
  have z3 := hal.size
  have OB := Lib.hid hbx
  clear hbx hal
  have HL := Lib.hid (hL.below HB.out)
  go_wp2_with fail
  generalize m1.alloc (.cells #[.int .i64 x, .int .i64 s, .int .i64 p, .int .i64 q, .int .i64 r, .slice OA R.length Oc] 25) = m1w at *
  refine (toByteS_any A l c _ hl (by exact HL.out)).mono ?_
  rintro e x1 ⟨rfl, hrow, hb⟩
  have hx := hrow.own m1w.heap.size (Nat.le_refl _) (by unfold maxLen; omega)
  have RX := Lib.hid hx.range
  have z4 := hb.size
  have O := Lib.hid (O.out.below hb)
  have OB := Lib.hid (OB.out.below hb)
  have HB := Lib.hid (below_then HB.out hb)
  have X := Lib.hid hx
  clear hrow HL hx
  clear hb
  have HX := Lib.hid (own_bs9 X.out)
  have HT := Lib.hid (hT.below HB.out)
  go_wp2_with fail
  refine (implReqParse_any (some ⟨m1w.heap.size, 0, none⟩) l l.length _ (Nat.le_refl _) hn9 (fun h => by cases h) (fun a h => by cases h; exact ⟨_, _, rfl⟩) (by exact HT.out) (by exact HX.out)).mono ?_
  rintro e g1 ⟨v, rfl, hown, hb⟩
  rw [HRE.out] at hown
  rw [Hx.out, Hs.out, Hp.out, Hq.out, Hr.out, HZE.out]
  obtain ⟨GA, Gc, rfl, Gh, Gk, _, _, _⟩ := own_plain9 hown
  have RG := Lib.hid hown.range
  have z5 := hb.size
  have O := Lib.hid (O.out.below hb)
  have OB := Lib.hid (OB.out.below hb)
  have X := Lib.hid (X.out.below hb)
  have HB := Lib.hid (below_then HB.out hb)
  have G := Lib.hid (hown.below (Below.refl _ _))
  clear hown HX HT
  clear hb
  have hal := (Below.refl g1.heap.size g1).alloc (Nat.le_refl _) (.cells #[.int .i64 x, .int .i64 s, .int .i64 p, .int .i64 q, .int .i64 r, .slice GA R.length Gc] 25)
  have hbx := Blk.new g1 #[.int .i64 x, .int .i64 s, .int .i64 p, .int .i64 q, .int .i64 r, .slice GA R.length Gc] 25
  have zbGB : g1.heap.size < (g1.alloc (.cells #[.int .i64 x, .int .i64 s, .int .i64 p, .int .i64 q, .int .i64 r, .slice GA R.length Gc] 25)).heap.size := by simp
  have O := Lib.hid (O.out.below hal)
  have OB := Lib.hid (OB.out.below hal)
  have X := Lib.hid (X.out.below hal)
  have G := Lib.hid (G.out.below hal)
  have HB := Lib.hid (below_then HB.out hal)
  have z6 := hal.size
  have GB := Lib.hid hbx
  clear hbx hal
  have q0 := GB.out.cell 0
  have p0 := OB.out.cell 0
  have q1 := GB.out.cell 1
  have p1 := OB.out.cell 1
  have q2 := GB.out.cell 2
  have p2 := OB.out.cell 2
  have q3 := GB.out.cell 3
  have p3 := OB.out.cell 3
  have q4 := GB.out.cell 4
  have p4 := OB.out.cell 4
  have q5 := GB.out.cell 5
  have p5 := OB.out.cell 5
  go_wp2_with fail
  generalize g1.alloc (.cells #[.int .i64 x, .int .i64 s, .int .i64 p, .int .i64 q, .int .i64 r, .slice GA R.length Gc] 25) = g1w at *
  refine (eqReq_same x s p q r GA OA R Gc Oc _ hR9 (by exact own_bs9 G.out) (by exact own_bs9 O.out)).mono ?_
  rintro e v1 ⟨rfl, hb⟩
  have z7 := hb.size
  have O := Lib.hid (O.out.below hb)
  have OB := Lib.hid (OB.out.below hb)
  have X := Lib.hid (X.out.below hb)
  have G := Lib.hid (G.out.below hb)
  have GB := Lib.hid (GB.out.below hb)
  have HB := Lib.hid (below_then HB.out hb)
  clear hb
  clear q0 p0 q1 p1 q2 p2 q3 p3 q4 p4 q5 p5
  have HL := Lib.hid (hL.below HB.out)
  go_wp2_with fail
  refine (toByteS_e A l c _ hl (by exact HL.out)).mono ?_
  rintro e u1 ⟨u1g, rfl, hrow, hb⟩
  have z8 := hb.size
  have O := Lib.hid (O.out.below hb)
  have OB := Lib.hid (OB.out.below hb)
  have X := Lib.hid (X.out.below hb)
  have G := Lib.hid (G.out.below hb)
  have GB := Lib.hid (GB.out.below hb)
  have HB := Lib.hid (below_then HB.out hb)
  have HX := Lib.hid hrow.bs
  clear hrow HL
  clear hb
  go_wp2_with fail
  refine (eqByteS_any _ _ l l _ _ _ hn9 (by exact own_bs9 X.out) (by exact HX.out)).mono ?_
  rintro e v ⟨rfl, nn, rfl⟩
  rw [decide_eq_true (rfl : l = l)]
  have hb := below_drewN (Below.refl u1.heap.size u1) nn
  have z9 := hb.size
  have O := Lib.hid (O.out.below hb)
  have OB := Lib.hid (OB.out.below hb)
  have X := Lib.hid (X.out.below hb)
  have G := Lib.hid (G.out.below hb)
  have GB := Lib.hid (GB.out.below hb)
  have HB := Lib.hid (below_then HB.out hb)
  clear hb
  generalize u1.drewN nn = v2 at *
  clear HX
  go_wp2_with fail
  refine (markByteS_any _ l _ 1 _ (by omega) (by omega) (by exact X.out)).mono ?_
  rintro e k1 ⟨rfl, _, hgr⟩
  have hke := Keeps.of_grown hgr
  have O := Lib.hid (O.out.keeps hke (fun b hb h => by have h1 := RX.out b h; have h2 := RO.out b hb; omega))
  have OB := Lib.hid (OB.out.of_block (hke.block _ OB.out.lt (fun h => by have h1 := RX.out _ h; omega)))
  have G := Lib.hid (G.out.keeps hke (fun b hb h => by have h1 := RX.out b h; have h2 := RG.out b hb; omega))
  have GB := Lib.hid (GB.out.of_block (hke.block _ GB.out.lt (fun h => by have h1 := RX.out _ h; omega)))
  have HB := Lib.hid (HB.out.trans (hke.below (B := w.heap.size) HB.out.size (fun k hk => by have h1 := RX.out k hk; omega)))
  have z10 := hke.size
  clear hke hgr X
  obtain ⟨K, hK, hK0⟩ : ∃ K : Int, ((1 + l.length : Nat) : Int) = K ∧ ¬ K < 0 := ⟨_, rfl, by omega⟩
  have hKd : decide (K < 0) = false := decide_eq_false hK0
  rw [hK]
  clear hK hK0
  have q0 := GB.out.cell 0
  have p0 := OB.out.cell 0
  have q1 := GB.out.cell 1
  have p1 := OB.out.cell 1
  have q2 := GB.out.cell 2
  have p2 := OB.out.cell 2
  have q3 := GB.out.cell 3
  have p3 := OB.out.cell 3
  have q4 := GB.out.cell 4
  have p4 := OB.out.cell 4
  have q5 := GB.out.cell 5
  have p5 := OB.out.cell 5
  go_wp2_with fail
  refine (eqReq_same x s p q r GA OA R Gc Oc _ hR9 (by exact own_bs9 G.out) (by exact own_bs9 O.out)).mono ?_
  rintro e v3 ⟨rfl, hb⟩
  have z11 := hb.size
  have O := Lib.hid (O.out.below hb)
  have OB := Lib.hid (OB.out.below hb)
  have G := Lib.hid (G.out.below hb)
  have GB := Lib.hid (GB.out.below hb)
  have HB := Lib.hid (below_then HB.out hb)
  clear hb
  clear q0 p0 q1 p1 q2 p2 q3 p3 q4 p4 q5 p5
  clear hKd
  obtain ⟨K2, hK2, hK20⟩ : ∃ K : Int, ((1 + R.length : Nat) : Int) = K ∧ ¬ K < 0 := ⟨_, rfl, by omega⟩
  have hKd2 : decide (K2 < 0) = false := decide_eq_false hK20
  have hKn2 : (K2 != K2) = false := by simp
  have HK2 := Lib.hid hK2
  clear hK2 hK20
  have q0 := GB.out.cell 0
  have q1 := GB.out.cell 1
  have q2 := GB.out.cell 2
  have q3 := GB.out.cell 3
  have q4 := GB.out.cell 4
  have q5 := GB.out.cell 5
  go_wp2_with fail
  refine (markReq_any x s p q r _ R _ 1 _ (by omega) (by omega) (by exact G.out)).mono ?_
  rintro e k2 ⟨rfl, how, hke⟩
  rw [HK2.out]
  have O := Lib.hid (O.out.keeps hke (fun b hb h => by have h1 := RG.out b h; have h2 := RO.out b hb; omega))
  have OB := Lib.hid (OB.out.of_block (hke.block _ OB.out.lt (fun h => by have h1 := RG.out _ h; omega)))
  have GB := Lib.hid (GB.out.of_block (hke.block _ GB.out.lt (fun h => by have h1 := RG.out _ h; omega)))
  have HB := Lib.hid (HB.out.trans (hke.below (B := w.heap.size) HB.out.size (fun k hk => by have h1 := RG.out k hk; omega)))
  have z12 := hke.size
  have G := Lib.hid how
  clear hke how
  clear q0 q1 q2 q3 q4 q5
  have q0 := GB.out.cell 0
  have q1 := GB.out.cell 1
  have q2 := GB.out.cell 2
  have q3 := GB.out.cell 3
  have q4 := GB.out.cell 4
  have q5 := GB.out.cell 5
  go_wp2_with fail
  refine (heldReq_any x s p q r GA R.length Gc 1 _ (by omega) (by omega) (by exact own_bs9 G.out)).mono ?_
  rintro e k3 ⟨rfl, hb⟩
  rw [HK2.out]
  have z13 := hb.size
  have O := Lib.hid (O.out.below hb)
  have OB := Lib.hid (OB.out.below hb)
  have G := Lib.hid (G.out.below hb)
  have GB := Lib.hid (GB.out.below hb)
  have HB := Lib.hid (below_then HB.out hb)
  clear hb
  clear q0 q1 q2 q3 q4 q5
  have HL := Lib.hid (hL.below HB.out)
  go_wp2_with fail
  refine (toByteS_e A l c _ hl (by exact HL.out)).mono ?_
  rintro e y1 ⟨y1g, rfl, hrow, hb⟩
  have z14 := hb.size
  have O := Lib.hid (O.out.below hb)
  have OB := Lib.hid (OB.out.below hb)
  have G := Lib.hid (G.out.below hb)
  have GB := Lib.hid (GB.out.below hb)
  have HB := Lib.hid (below_then HB.out hb)
  have HX := Lib.hid hrow.bs
  clear hrow HL
  clear hb
  have HT := Lib.hid (hT.below HB.out)
  go_wp2_with fail
  refine (implReqParse_any (some ⟨y1g, 0, none⟩) l l.length _ (Nat.le_refl _) hn9 (fun h => by cases h) (fun a h => by cases h; exact ⟨_, _, rfl⟩) (by exact HT.out) (by exact HX.out)).mono ?_
  rintro e h1 ⟨v, rfl, hown, hb⟩
  rw [HRE.out] at hown
  rw [Hx.out, Hs.out, Hp.out, Hq.out, Hr.out, HZE.out]
  obtain ⟨VA, Vc, rfl, Vh, Vk, _, _, _⟩ := own_plain9 hown
  have RV := Lib.hid hown.range
  have z15 := hb.size
  have O := Lib.hid (O.out.below hb)
  have OB := Lib.hid (OB.out.below hb)
  have G := Lib.hid (G.out.below hb)
  have GB := Lib.hid (GB.out.below hb)
  have HB := Lib.hid (below_then HB.out hb)
  have V := Lib.hid (hown.below (Below.refl _ _))
  clear hown HX HT
  clear hb
  have hal := (Below.refl h1.heap.size h1).alloc (Nat.le_refl _) (.cells #[.int .i64 x, .int .i64 s, .int .i64 p, .int .i64 q, .int .i64 r, .slice VA R.length Vc] 25)
  have hbx := Blk.new h1 #[.int .i64 x, .int .i64 s, .int .i64 p, .int .i64 q, .int .i64 r, .slice VA R.length Vc] 25
  have zbVB : h1.heap.size < (h1.alloc (.cells #[.int .i64 x, .int .i64 s, .int .i64 p, .int .i64 q, .int .i64 r, .slice VA R.length Vc] 25)).heap.size := by simp
  have O := Lib.hid (O.out.below hal)
  have OB := Lib.hid (OB.out.below hal)
  have G := Lib.hid (G.out.below hal)
  have GB := Lib.hid (GB.out.below hal)
  have V := Lib.hid (V.out.below hal)
  have HB := Lib.hid (below_then HB.out hal)
  have z16 := hal.size
  have VB := Lib.hid hbx
  clear hbx hal
  have q0 := VB.out.cell 0
  have p0 := OB.out.cell 0
  have q1 := VB.out.cell 1
  have p1 := OB.out.cell 1
  have q2 := VB.out.cell 2
  have p2 := OB.out.cell 2
  have q3 := VB.out.cell 3
  have p3 := OB.out.cell 3
  have q4 := VB.out.cell 4
  have p4 := OB.out.cell 4
  have q5 := VB.out.cell 5
  have p5 := OB.out.cell 5
  go_wp2_with fail
  generalize h1.alloc (.cells #[.int .i64 x, .int .i64 s, .int .i64 p, .int .i64 q, .int .i64 r, .slice VA R.length Vc] 25) = h1w at *
  refine (eqReq_same x s p q r VA OA R Vc Oc _ hR9 (by exact own_bs9 V.out) (by exact own_bs9 O.out)).mono ?_
  rintro e v4 ⟨rfl, hb⟩
  have z17 := hb.size
  have O := Lib.hid (O.out.below hb)
  have OB := Lib.hid (OB.out.below hb)
  have G := Lib.hid (G.out.below hb)
  have GB := Lib.hid (GB.out.below hb)
  have V := Lib.hid (V.out.below hb)
  have VB := Lib.hid (VB.out.below hb)
  have HB := Lib.hid (below_then HB.out hb)
  clear hb
  clear q0 p0 q1 p1 q2 p2 q3 p3 q4 p4 q5 p5
  have q0 := GB.out.cell 0
  have q1 := GB.out.cell 1
  have q2 := GB.out.cell 2
  have q3 := GB.out.cell 3
  have q4 := GB.out.cell 4
  have q5 := GB.out.cell 5
  go_wp2_with fail
  refine (heldReq_any x s p q r GA R.length Gc 1 _ (by omega) (by omega) (by exact own_bs9 G.out)).mono ?_
  rintro e k4 ⟨rfl, hb⟩
  rw [HK2.out]
  have z18 := hb.size
  have O := Lib.hid (O.out.below hb)
  have OB := Lib.hid (OB.out.below hb)
  have G := Lib.hid (G.out.below hb)
  have GB := Lib.hid (GB.out.below hb)
  have V := Lib.hid (V.out.below hb)
  have VB := Lib.hid (VB.out.below hb)
  have HB := Lib.hid (below_then HB.out hb)
  clear hb
  clear q0 q1 q2 q3 q4 q5
  go_wp2
  go_ret
  exact ⟨rfl, HB.out⟩

end Go.Proofs.YtdmmdbapkogdhaaDoor.fnExactReqParse
