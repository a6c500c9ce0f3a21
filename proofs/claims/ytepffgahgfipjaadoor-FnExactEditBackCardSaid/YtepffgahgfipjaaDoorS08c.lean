/-
  Chapter 5, the model's EditBack: contract. Own work.
-/
import Derived.Test.YtepffgahgfipjaaDoorS08b
namespace Go.Proofs.YtepffgahgfipjaaDoor
open Go.RowKit P
set_option linter.unusedVariables false
set_option linter.unusedSimpArgs false
set_option maxRecDepth 100000

/-- What a call ends in that makes an edit of its own, and says whether. -/
def MakesEd (a m : Int) (p : List UInt8) (ok : Bool) (w : World) (e : Ending) (w' : World) : Prop := ∃ v, e = .returned (.tuple #[.agg #[.int .i64 a, .int .i64 m, v], .bool ok]) ∧ Own w' w.heap.size v p ∧ Below w.heap.size w w'

set_option maxHeartbeats 4000000 in
theorem specEditBack_any (A : Option Addr) (l : List UInt8) (c : Nat) (a m : Int) (Ap : Option Addr) (p : List UInt8) (cp : Nat) (w : World) (hl : l.length ≤ c) (hc9 : c ≤ 9223372036854775807) (hpc : p.length ≤ cp) (hcp9 : cp ≤ 9223372036854775807) (hPl : Pl A c) (hA : Bs w A l) (hP : Bs w Ap p) :
    Calls Tryd.prog 16 #[.slice A l.length c, .agg #[.int .i64 a, .int .i64 m, .slice Ap p.length cp]] w (MakesEd (backA l a m p) (backM l a m p) (backP l a m p) (edOk l a m p) w) := by
  obtain ⟨q, hq⟩ : ∃ q, edOk l a m p = q := ⟨_, rfl⟩
  obtain ⟨ra, hra⟩ : ∃ q, backA l a m p = q := ⟨_, rfl⟩
  obtain ⟨rm, hrm⟩ : ∃ q, backM l a m p = q := ⟨_, rfl⟩
  obtain ⟨T, hT⟩ : ∃ T, backP l a m p = T := ⟨_, rfl⟩
  have hal := ((Below.refl w.heap.size w).alloc (Nat.le_refl _) (.cells #[.int .i64 a, .int .i64 m, .slice Ap p.length cp] 25)).alloc (by simp) (.cells #[.int .i64 0, .int .i64 0, .slice none 0 0] 25)
  have bE := (EBox.new w a m Ap p.length cp).below ((Below.refl _ _).alloc (Nat.le_refl _) (.cells #[.int .i64 0, .int .i64 0, .slice none 0 0] 25))
  have bR := EBox.new (w.alloc (.cells #[.int .i64 a, .int .i64 m, .slice Ap p.length cp] 25)) 0 0 none 0 0
  rw [World.size_alloc] at bR
  have HQ := Lib.hid hq
  have HRA := Lib.hid hra
  have HRM := Lib.hid hrm
  have HT := Lib.hid hT
  rw [hT, hq, hra, hrm]
  clear hq hT hra hrm
  go_enter Tryd.func16, Tryd.ntmps16
  go_wp2_with fail
  generalize (w.alloc (.cells #[.int .i64 a, .int .i64 m, .slice Ap p.length cp] 25)).alloc (.cells #[.int .i64 0, .int .i64 0, .slice none 0 0] 25) = W1 at *
  refine (specEditOk_any A l c a m Ap p cp _ hl hc9 hpc hcp9 (by exact hA.below hal) (by exact hP.below hal)).mono ?_
  rintro e w2 ⟨rfl, hb2⟩
  rw [HQ.out]
  have bE := bE.below hb2
  have bR := bR.below hb2
  have hb2 := below_then hal hb2
  have r0 := bR.c0
  have r1 := bR.c1
  have r2 := bR.c2
  have f0 := bR.blk.frozen 0
  have f1 := bR.blk.frozen 1
  have f2 := bR.blk.frozen 2
  clear hal
  cases q
  · have e1 : ra = 0 := by rw [← HRA.out]; unfold backA; rw [HQ.out]; rfl
    have e2 : rm = 0 := by rw [← HRM.out]; unfold backM; rw [HQ.out]; rfl
    have e3 : T = [] := by rw [← HT.out]; unfold backP; rw [HQ.out]; rfl
    go_wp2
    refine bodyPost_ret (v := .tuple #[.agg #[.int .i64 0, .int .i64 0, .slice none 0 0], .bool false]) (by simp [results, Tryd.results16, go_sem, r0, r1, r2]) rfl ⟨.slice none 0 0, by rw [e1, e2], by rw [e3]; exact Own.nil _ _, ?_⟩
    (repeat (first | exact Below.refl _ _ | assumption | refine Below.setCell ?_ (by first | (simp; done) | (simp; omega) | omega) _ | refine Below.drew ?_ | refine below_drewN ?_ _ | refine Below.alloc ?_ (by first | (simp; done) | (simp; omega) | omega) _))
  have hr := edOk_range HQ.out
  have e1 : ra = a := by rw [← HRA.out]; unfold backA; rw [HQ.out]; rfl
  have e2 : rm = (p.length : Int) := by rw [← HRM.out]; unfold backM; rw [HQ.out]; rfl
  obtain ⟨k1, hk1⟩ : ∃ k : Nat, a = (k : Int) := ⟨a.toNat, by omega⟩
  obtain ⟨k2, hk2⟩ : ∃ k : Nat, m = (k : Int) := ⟨m.toNat, by omega⟩
  have hT1 : (l.drop k1).take k2 = T := by
    rw [← HT.out]; unfold backP edCut; rw [HQ.out, if_pos rfl, show a.toNat = k1 by omega, show m.toNat = k2 by omega]
  have hlen1 : k2 = ((l.drop k1).take k2).length := by rw [List.length_take, List.length_drop]; omega
  obtain ⟨A2, hs2', hB2⟩ := slc_mid A l.length c k1 k2 w2 l hPl.1 hPl.2 rfl (by omega) hl hc9 (hA.below hb2)
  have hs2 : ∀ W, (Instr.slice 22 (.slice A l.length c) (some (.int .i64 a)) (some (.int .i64 (a + m))) none).run Tryd.prog W = .ok (.slice A2 k2 (c - k1)) W := fun W => by
    rw [hk1, hk2]
    exact hs2' W
  have hk14 : ((l.drop k1).take k2).length ≤ 400 := by rw [← hlen1]; omega
  obtain ⟨X, hX⟩ : ∃ X, (l.drop k1).take k2 = X := ⟨_, rfl⟩
  rw [hX] at hB2 hlen1 hT1 hk14
  clear hX
  have HB2 := Lib.hid hB2
  have HL1 := Lib.hid hlen1
  have HT1 := Lib.hid hT1
  have HE1 := Lib.hid e1
  have HE2 := Lib.hid e2
  have ha9 : 0 ≤ a ∧ a ≤ 400 ∧ 0 ≤ m ∧ m ≤ 400 := by omega
  have hwr : IntKind.i64.wrap (a + m) = a + m := IntWalk.i64_in _ ⟨by omega, by omega⟩
  have hp4 : p.length ≤ 400 := by omega
  have k0 := bE.c0
  have k1' := bE.c1
  have k2' := bE.c2
  have HBE := Lib.hid bE.blk
  have HBR := Lib.hid bR.blk
  have hown0 : Own (w2.alloc (.cells #[] 5)) w2.heap.size (.slice (some ⟨w2.heap.size, 0, none⟩) 0 0) [] := World.ownsRow_made w2 #[] 0 (Nat.le_refl _) (by unfold maxLen; omega) rfl
  have HO0 := Lib.hid hown0
  have HAL := Lib.hid ((Below.refl w2.heap.size w2).alloc (Nat.le_refl _) (.cells #[] 5))
  clear hr hk1 hk2 hT1 hlen1 hs2' hB2 hown0 bE bR e1 e2 r0 r1 r2 f0 f1 f2
  go_wp2_with fail
  go_region_held3 (fun V => V.cell? ⟨w.heap.size, 0, none⟩ = some (.int .i64 a) ∧ V.cell? ⟨w.heap.size, 1, none⟩ = some (.int .i64 m) ∧ V.cell? ⟨w.heap.size, 2, none⟩ = some (.slice Ap p.length cp))
    (first | exact ⟨k0, k1', k2'⟩ | exact ⟨(HBE.out.below HAL.out).cell 0, (HBE.out.below HAL.out).cell 1, (HBE.out.below HAL.out).cell 2⟩ | exact ⟨HE7.out.cell 0, HE7.out.cell 1, HE7.out.cell 2⟩ | go_keep) (first
    | (refine step_app_bytes9 rfl (.tmp 16) (.tmp 25) rfl w2.heap.size (.slice (some ⟨w2.heap.size, 0, none⟩) 0 0) [] X A2 k2 (c - k1) rfl rfl HL1.out (by exact HO0.out) (by have h9 := HB2.out.below HAL.out; exact h9) (by simp; omega) (by simp) ?_; intro v7 w7 hown7 hg7 _; have hg7 : (w2.alloc (.cells #[] 5)).grownBy w7 (Value.slice (some ⟨w2.heap.size, 0, none⟩) 0 0).ownBlock := ⟨hg7.os, hg7.tape, hg7.output, hg7.size, hg7.block⟩; have h7 := HAL.out.grown hg7 (by simp) (fun j hj => (World.ownsRow.lt HO0.out j hj).1); have HW7 := Lib.hid h7; obtain ⟨A7, c7, rfl, _, _, _⟩ := hown7.form; have HO7 := Lib.hid hown7; have HE7 := Lib.hid (HBE.out.below h7); have HR7 := Lib.hid (HBR.out.below h7); have r0 := HR7.out.cell 0; have r1 := HR7.out.cell 1; have r2 := HR7.out.cell 2; have f0 := HR7.out.frozen 0; have f1 := HR7.out.frozen 1; have f2 := HR7.out.frozen 2; clear hown7 hg7 h7))
  have hfin : Below w.heap.size w w7 := below_then hb2 HW7.out
  have hz7 := hfin.size
  have hw2 := hb2.size
  have hown7 := HO7.out
  rw [List.nil_append, HT1.out] at hown7
  have hTl : X.length = T.length := by rw [HT1.out]
  have hlt := HR7.out.lt
  go_wp2
  refine bodyPost_ret (v := .tuple #[.agg #[.int .i64 a, .int .i64 p.length, .slice A7 ([] ++ X).length c7], .bool true]) (by simp [results, Tryd.results16, go_sem, r0, r1, r2]) rfl ⟨.slice A7 ([] ++ X).length c7, by rw [HE1.out, HE2.out], ?_, ?_⟩
  · rw [List.nil_append, HT1.out]
    have h9 : ∀ (W : World) (i : Nat) (u : Value), Own W w2.heap.size (.slice A7 T.length c7) T → Own (W.setCell ⟨w.heap.size + 1, i, none⟩ u) w2.heap.size (.slice A7 T.length c7) T := fun W i u h => h.setBelow (by have := HBR.out.lt; simpa using this) u
    exact (h9 _ _ _ (h9 _ _ _ (h9 _ _ _ hown7))).mono hw2
  · (repeat (first | exact Below.refl _ _ | assumption | refine Below.setCell ?_ (by first | (simp; done) | (simp; omega) | omega) _ | refine Below.drew ?_ | refine below_drewN ?_ _ | refine Below.alloc ?_ (by first | (simp; done) | (simp; omega) | omega) _))end Go.Proofs.YtepffgahgfipjaaDoor
