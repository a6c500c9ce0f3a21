/-
  Chapter 8, a list of edits moved, in the model: contract. Own work.
  Chapter 8, StackMoved in the model: contract. Own work.
  An element of an own list of edits put anew: the row stays, the element's bytes lie in a new block. Own work.
  Chapter 8, a list of edits moved in its place, in the program: contract. Own work.
  Chapter 8, StackMoved in the program: contract. Own work.
-/
import Derived.Test.YtdmmdbapkogdhaaK09
import Derived.Test.YtdmmdbapkogdhaaJ09d
import Derived.Deep.RegionHeld3
import Derived.Deep.DeepCutAuto
import Derived.Test.YtdmmdbapkogdhaaC07
import Derived.Test.YtdmmdbapkogdhaaK01
import Derived.Test.YtdmmdbapkogdhaaK08
namespace Go.Proofs.Ytdmmdbapkogdhaa
open Go.RowKit P
set_option linter.unusedVariables false
set_option linter.unusedSimpArgs false
set_option maxRecDepth 100000

/-- An edit of a stack moved by the edit x. -/
def mvE (x e : Ed) : Ed := (moveA e.1 e.2.1 e.2.2 x.1 x.2.1 x.2.2, moveM e.1 e.2.1 e.2.2 x.1 x.2.1 x.2.2, moveP e.1 e.2.1 e.2.2 x.1 x.2.1 x.2.2)
def mvK (x e : Ed) : Bool := moveOk e.1 e.2.1 e.2.2 x.1 x.2.1 x.2.2 && smallE (mvE x e)
def mvAll (x : Ed) (es : List Ed) : Bool := es.all (mvK x)
def mvL (x : Ed) (es : List Ed) : List Ed := if mvAll x es = true then es.map (mvE x) else []
theorem mvAll_bad {x : Ed} {es : List Ed} {k : Nat} (hk : k < es.length) (h : mvK x es[k] = false) : mvAll x es = false := by
  unfold mvAll
  rw [List.all_eq_false]
  exact ⟨es[k], List.getElem_mem hk, by rw [h]; simp⟩
theorem mvAll_take {x : Ed} {es : List Ed} {k : Nat} (hk : k < es.length) (h : mvAll x (es.take k) = true) (h1 : mvK x es[k] = true) : mvAll x (es.take (k + 1)) = true := by
  unfold mvAll at h ⊢
  rw [List.take_succ_eq_append_getElem hk, List.all_append, h]
  simp [h1]

def MovedM (es : List Ed) (x : Ed) (w : World) (e : Ending) (w' : World) : Prop := ∃ A' c' fp, e = .returned (.tuple #[.slice A' (mvL x es).length c', .bool (mvAll x es)]) ∧ OwE w' w.heap.size A' (mvL x es) c' fp ∧ Below w.heap.size w w'
theorem ownSet13 {w : World} {B b : Nat} {v : Value} {l : List UInt8} (h : Own w B v l) (hne : ∀ k ∈ v.ownBlock.toList, b ≠ k) (i : Nat) (u : Value) : Own (w.setCell ⟨b, i, none⟩ u) B v l :=
  h.heap (fun k hk => Below.heap_setCell _ _ _ _ (fun e => hne k hk (by simpa using e.symm)))
set_option maxHeartbeats 32000000 in
theorem l08Moved_any (A : Option Addr) (es : List Ed) (c : Nat) (a m : Int) (P : Option Addr) (p : List UInt8) (ep : Nat) (w : World) (hl : es.length ≤ 1000) (hsm : ∀ e ∈ es, e.2.2.length ≤ 1000) (hp9 : p.length ≤ 9223372036854775807) (hE : Es w A es) :
    Calls Try.prog 127 #[.slice A es.length c, .agg #[.int .i64 a, .int .i64 m, .slice P p.length ep]] w (MovedM es (a, m, p) w) := by
  have hal := (Below.refl w.heap.size w).alloc (Nat.le_refl _) (.cells #[.int .i64 a, .int .i64 m, .slice P p.length ep] 30)
  have hal2 := (Below.refl (w.alloc (.cells #[.int .i64 a, .int .i64 m, .slice P p.length ep] 30)).heap.size (w.alloc (.cells #[.int .i64 a, .int .i64 m, .slice P p.length ep] 30))).alloc (Nat.le_refl _) (.cells #[] 30)
  have BX := Lib.hid (Blk.new w #[.int .i64 a, .int .i64 m, .slice P p.length ep] 30)
  have HE := Lib.hid (hE.below hal)
  have hzw : (w.alloc (.cells #[.int .i64 a, .int .i64 m, .slice P p.length ep] 30)).heap.size = w.heap.size + 1 := by simp
  have HZW := Lib.hid hzw
  have HAL := Lib.hid hal
  obtain ⟨z, hz⟩ : ∃ z, mvAll (a, m, p) es = z := ⟨_, rfl⟩
  have HZ := Lib.hid hz
  obtain ⟨L, hL⟩ : ∃ L, mvL (a, m, p) es = L := ⟨_, rfl⟩
  have HL := Lib.hid hL
  unfold MovedM
  rw [hz, hL]
  have HSM := Lib.hid hsm
  go_enter Try.func127, Try.ntmps127
  generalize hW0 : w.alloc (.cells #[.int .i64 a, .int .i64 m, .slice P p.length ep] 30) = W0 at *
  have H0 := Lib.hid (show OwE (W0.alloc (.cells #[] 30)) W0.heap.size (some ⟨W0.heap.size, 0, none⟩) [] 0 [W0.heap.size] from ⟨Lay.slice_empty _ _ W0, by simp, fun k hk => by simp at hk; omega⟩)
  have HAL2 := Lib.hid hal2
  clear hz hL hal hal2 hE hsm hzw
  go_wp2
  go_loopw [6, 7] (fun o i wr => ∃ (k : Nat) (A' : Option Addr) (c' : Nat) (fp : List Nat), k ≤ es.length ∧ i = .int .i64 k ∧ o = .slice A' k c' ∧ Hid (mvAll (a, m, p) (es.take k) = true) ∧ Hid (OwE wr W0.heap.size A' ((es.map (mvE (a, m, p))).take k) c' fp) ∧ Below W0.heap.size W0 wr)
    (fun _ i _ => es.length - (intOf i).toNat)
  case atStart => exact ⟨0, _, 0, _, Nat.zero_le _, rfl, rfl, Lib.hid rfl, H0, HAL2.out⟩
  case round =>
    obtain ⟨k, A', c', fp, hk, rfl, rfl, HA, HO, hb⟩ := hrel
    have HB := Lib.hid hb
    clear H0 HAL2
    by_cases hlt : k < es.length
    · have hki0 : (0 : Int) ≤ (k : Int) := by omega
      have hki : (k : Int) < (es.length : Int) := by omega
      obtain ⟨bb, off, b, n, Bp, s, ds, rfl, hbl, hek, k0, k1, k2, hbb, hnn, hpd, hdm, hBp⟩ := (HE.out.below hb).at_ k hlt
      have hs4 := HSM.out _ (List.getElem_mem hlt)
      rw [hek] at hs4
      have hs9 : s.length ≤ 9223372036854775807 := by simp at hs4; omega
      obtain ⟨ok, hok⟩ : ∃ ok, moveOk b n s a m p = ok := ⟨_, rfl⟩
      obtain ⟨ra, hra⟩ : ∃ v, moveA b n s a m p = v := ⟨_, rfl⟩
      obtain ⟨rm, hrm⟩ : ∃ v, moveM b n s a m p = v := ⟨_, rfl⟩
      obtain ⟨R, hrp⟩ : ∃ v, moveP b n s a m p = v := ⟨_, rfl⟩
      have hmv : mvE (a, m, p) es[k] = (ra, rm, R) := by rw [hek]; unfold mvE; rw [hra, hrm, hrp]
      have hmk : mvK (a, m, p) es[k] = (ok && edSmall ra rm R) := by unfold mvK; rw [hmv, hek, hok]; rfl
      have hRl : R.length ≤ 1000 := by
        rw [← hrp]
        unfold moveP
        split
        · simpa using hs4
        · simp
      have HMV := Lib.hid hmv
      have HMK := Lib.hid hmk
      have HOK := Lib.hid hok
      have HRA := Lib.hid hra
      have HRM := Lib.hid hrm
      have HRP := Lib.hid hrp
      have HQ := Lib.hid hBp
      have hfr := HO.out.range
      have BXr := Lib.hid (BX.out.below hb)
      have x0 := BXr.out.cell 0
      have x1 := BXr.out.cell 1
      have x2 := BXr.out.cell 2
      clear hb hek hBp hmv hmk hok hra hrm hrp hs4 hbb hnn
      go_upto_region 5 with fail
      go_cut [8, 9] from 11 to 36 (fun t ok' wx => ∃ (b : Nat) (A5 : Option Addr) (c5 : Nat), t = .pointer (some ⟨b, 0, none⟩) ∧ ok' = .bool ok ∧ Blk wx b #[.int .i64 ra, .int .i64 rm, .slice A5 R.length c5] 30 ∧ Own wx wr.heap.size (.slice A5 R.length c5) R ∧ wr.heap.size ≤ b ∧ Below wr.heap.size wr wx)
      case first =>
        have fH0 : Hid (Below wr.heap.size wr wr.drew) := Lib.hid (Below.refl wr.heap.size wr).drew
        have fz0 : wr.drew.heap.size = wr.heap.size := World.size_drew wr
        refine wp_region_noPanic ?_
        refine wp_region_held_drew (S := (fun V => V.cell? ⟨w.heap.size, 0, none⟩ = some (.int .i64 a) ∧ V.cell? ⟨w.heap.size, 1, none⟩ = some (.int .i64 m) ∧ V.cell? ⟨w.heap.size, 2, none⟩ = some (.slice P p.length ep) ∧ V.cell? ⟨bb, off + k * 3, none⟩ = some (.int .i64 b) ∧ V.cell? ⟨bb, off + k * 3 + 1, none⟩ = some (.int .i64 n) ∧ V.cell? ⟨bb, off + k * 3 + 2, none⟩ = some (.slice Bp s.length ds))) (by kernel_rfl) (by exact ⟨x0, x1, x2, k0, k1, k2⟩) (fun hHeld => ?_)
        refine wpAnyH_take (i := 0) (oi := ?_) (v := ?_) ?_ ?_ ?_ ?_ ?_ ?_ (by exact hHeld) ?_
        rotate_left 2
        · (simp only [List.getElem?_toArray, List.getElem?_cons_zero]; try rfl)
        · kernel_rfl
        · kernel_rfl
        · kernel_rfl
        · exact fun _ _ _ h => h
        · refine Or.inl ⟨by rfl, ?_⟩
          (intro V hSV; (try dsimp only at hSV); obtain ⟨q0, q1, q2, q3, q4, q5⟩ := hSV; go_simp; try with_reducible rfl)
        (try simp only [Act.put, List.setIfInBounds_toArray, List.set_cons_zero, List.set_cons_succ])
        refine wpAnyH_take (i := 1) (oi := ?_) (v := ?_) ?_ ?_ ?_ ?_ ?_ ?_ (by exact hHeld) ?_
        rotate_left 2
        · (simp only [List.getElem?_toArray, List.getElem?_cons_zero, List.getElem?_cons_succ]; try rfl)
        · kernel_rfl
        · kernel_rfl
        · kernel_rfl
        · exact fun _ _ _ h => h
        · refine Or.inl ⟨by rfl, ?_⟩
          (intro V hSV; (try dsimp only at hSV); obtain ⟨q0, q1, q2, q3, q4, q5⟩ := hSV; go_simp; try with_reducible rfl)
        (try simp only [Act.put, List.setIfInBounds_toArray, List.set_cons_zero, List.set_cons_succ])
        refine wpAnyH_take (i := 2) (oi := ?_) (v := ?_) ?_ ?_ ?_ ?_ ?_ ?_ (by exact hHeld) ?_
        rotate_left 2
        · (simp only [List.getElem?_toArray, List.getElem?_cons_zero, List.getElem?_cons_succ]; try rfl)
        · kernel_rfl
        · kernel_rfl
        · kernel_rfl
        · exact fun _ _ _ h => h
        · refine Or.inl ⟨by rfl, ?_⟩
          (intro V hSV; (try dsimp only at hSV); obtain ⟨q0, q1, q2, q3, q4, q5⟩ := hSV; go_simp; try with_reducible rfl)
        (try simp only [Act.put, List.setIfInBounds_toArray, List.set_cons_zero, List.set_cons_succ])
        refine wpAnyH_take (i := 3) (oi := ?_) (v := ?_) ?_ ?_ ?_ ?_ ?_ ?_ (by exact hHeld) ?_
        rotate_left 2
        · (simp only [List.getElem?_toArray, List.getElem?_cons_zero, List.getElem?_cons_succ]; try rfl)
        · kernel_rfl
        · kernel_rfl
        · kernel_rfl
        · exact fun _ _ _ h => h
        · refine Or.inl ⟨by rfl, ?_⟩
          (intro V hSV; (try dsimp only at hSV); obtain ⟨q0, q1, q2, q3, q4, q5⟩ := hSV; go_simp; try with_reducible rfl)
        (try simp only [Act.put, List.setIfInBounds_toArray, List.set_cons_zero, List.set_cons_succ])
        refine wpAnyH_take (i := 4) (oi := ?_) (v := ?_) ?_ ?_ ?_ ?_ ?_ ?_ (by exact hHeld) ?_
        rotate_left 2
        · (simp only [List.getElem?_toArray, List.getElem?_cons_zero, List.getElem?_cons_succ]; try rfl)
        · kernel_rfl
        · kernel_rfl
        · kernel_rfl
        · exact fun _ _ _ h => h
        · refine Or.inl ⟨by rfl, ?_⟩
          (intro V hSV; (try dsimp only at hSV); obtain ⟨q0, q1, q2, q3, q4, q5⟩ := hSV; go_simp; try with_reducible rfl)
        (try simp only [Act.put, List.setIfInBounds_toArray, List.set_cons_zero, List.set_cons_succ])
        refine wpAnyH_ready (rs := [5, 9]) (by kernel_rfl) (by simp) ?_
        refine AllReadyH.cons (o := ?_) ?_ (fun K hK => ?_) ?_
        rotate_left 1
        · (simp only [List.getElem?_toArray, List.getElem?_cons_zero, List.getElem?_cons_succ]; try rfl)
        · go_simp
          refine (specEditMove_any b n Bp s ds a m P p ep _ hs9 hp9 (by have h9 := HQ.out.below fH0.out; exact h9)).mono ?_
          rintro e fy1 ⟨v, rfl, hown9, hb⟩
          rw [HOK.out, HRA.out, HRM.out]
          rw [HRP.out] at hown9
          obtain ⟨A6, c6, rfl, _, _, _⟩ := hown9.form
          have zq9 := (fH0.out).size
          have OO := Lib.hid (hown9.mono (base' := wr.heap.size) (by first | exact zq9 | omega))
          have OR := Lib.hid hown9
          clear hown9 zq9
          have zY1 := fH0.out.size
          have fH1 := Lib.hid (below_then fH0.out hb)
          clear hb
          go_wp2_with fail
          refine hK.out _ _ (by exact ⟨(BXr.out.below fH1.out).cell 0, (BXr.out.below fH1.out).cell 1, (BXr.out.below fH1.out).cell 2, ((fH1.out).cell (p := ⟨bb, off + k * 3, none⟩) hbl).trans k0, ((fH1.out).cell (p := ⟨bb, off + k * 3 + 1, none⟩) hbl).trans k1, ((fH1.out).cell (p := ⟨bb, off + k * 3 + 2, none⟩) hbl).trans k2⟩) (fun hHeld => ?_)
          clear hK K
          (try simp only [Act.put, List.setIfInBounds_toArray, List.set_cons_zero, List.set_cons_succ])
          refine wpAnyH_take (i := 6) (oi := ?_) (v := ?_) ?_ ?_ ?_ ?_ ?_ ?_ (by exact hHeld) ?_
          rotate_left 2
          · (simp only [List.getElem?_toArray, List.getElem?_cons_zero, List.getElem?_cons_succ]; try rfl)
          · kernel_rfl
          · kernel_rfl
          · kernel_rfl
          · exact fun _ _ _ h => h
          · refine Or.inl ⟨by rfl, ?_⟩
            (intro V hSV; (try dsimp only at hSV); obtain ⟨q0, q1, q2, q3, q4, q5⟩ := hSV; go_simp; try with_reducible rfl)
          (try simp only [Act.put, List.setIfInBounds_toArray, List.set_cons_zero, List.set_cons_succ])
          refine wpAnyH_take (i := 7) (oi := ?_) (v := ?_) ?_ ?_ ?_ ?_ ?_ ?_ (by exact hHeld) ?_
          rotate_left 2
          · (simp only [List.getElem?_toArray, List.getElem?_cons_zero, List.getElem?_cons_succ]; try rfl)
          · kernel_rfl
          · kernel_rfl
          · kernel_rfl
          · exact fun _ _ _ h => h
          · refine Or.inl ⟨by rfl, ?_⟩
            (intro V hSV; (try dsimp only at hSV); obtain ⟨q0, q1, q2, q3, q4, q5⟩ := hSV; go_simp; try with_reducible rfl)
          (try simp only [Act.put, List.setIfInBounds_toArray, List.set_cons_zero, List.set_cons_succ])
          refine wpAnyH_take (i := 8) (oi := ?_) (v := ?_) ?_ ?_ ?_ ?_ ?_ ?_ (by exact hHeld) ?_
          rotate_left 2
          · (simp only [List.getElem?_toArray, List.getElem?_cons_zero, List.getElem?_cons_succ]; try rfl)
          · kernel_rfl
          · kernel_rfl
          · kernel_rfl
          · exact fun _ _ _ h => h
          · refine Or.inl ⟨by rfl, ?_⟩
            (intro V hSV; (try dsimp only at hSV); obtain ⟨q0, q1, q2, q3, q4, q5⟩ := hSV; go_simp; try with_reducible rfl)
          (try simp only [Act.put, List.setIfInBounds_toArray, List.set_cons_zero, List.set_cons_succ])
          refine wpAnyH_ready (rs := [9]) (by kernel_rfl) (by simp) ?_
          refine AllReadyH.cons (o := ?_) ?_ (fun K hK => ?_) AllReadyH.nil
          rotate_left 1
          · (simp only [List.getElem?_toArray, List.getElem?_cons_zero, List.getElem?_cons_succ]; try rfl)
          have zA := fH1.out.size
          have fH2 := Lib.hid (fH1.out.alloc fH1.out.size (.cells #[.int .i64 0, .int .i64 0, .slice none 0 0] 30))
          go_simp
          refine hK.out _ _ (by exact ⟨(BXr.out.below fH2.out).cell 0, (BXr.out.below fH2.out).cell 1, (BXr.out.below fH2.out).cell 2, ((fH2.out).cell (p := ⟨bb, off + k * 3, none⟩) hbl).trans k0, ((fH2.out).cell (p := ⟨bb, off + k * 3 + 1, none⟩) hbl).trans k1, ((fH2.out).cell (p := ⟨bb, off + k * 3 + 2, none⟩) hbl).trans k2⟩) (fun hHeld => ?_)
          clear hK K
          (try simp only [Act.put, List.setIfInBounds_toArray, List.set_cons_zero, List.set_cons_succ])
          refine wpAnyH_ready (rs := [10]) (by kernel_rfl) (by simp) ?_
          refine AllReadyH.cons (o := ?_) ?_ (fun K hK => ?_) AllReadyH.nil
          rotate_left 1
          · (simp only [List.getElem?_toArray, List.getElem?_cons_zero, List.getElem?_cons_succ]; try rfl)
          have HF := Lib.hid (fH1.out.alloc fH1.out.size (.cells #[.int .i64 ra, .int .i64 rm, .slice A6 R.length c6] 30))
          go_simp
          refine hK.out _ _ (by exact ⟨(BXr.out.below HF.out).cell 0, (BXr.out.below HF.out).cell 1, (BXr.out.below HF.out).cell 2, ((HF.out).cell (p := ⟨bb, off + k * 3, none⟩) hbl).trans k0, ((HF.out).cell (p := ⟨bb, off + k * 3 + 1, none⟩) hbl).trans k1, ((HF.out).cell (p := ⟨bb, off + k * 3 + 2, none⟩) hbl).trans k2⟩) (fun hHeld => ?_)
          clear hK K
          (try simp only [Act.put, List.setIfInBounds_toArray, List.set_cons_zero, List.set_cons_succ])
          refine wpAnyH_take (i := 11) (oi := ?_) (v := ?_) ?_ ?_ ?_ ?_ ?_ ?_ (by exact hHeld) ?_
          rotate_left 2
          · (simp only [List.getElem?_toArray, List.getElem?_cons_zero, List.getElem?_cons_succ]; try rfl)
          · kernel_rfl
          · kernel_rfl
          · kernel_rfl
          · exact fun _ _ _ h => h
          · refine Or.inl ⟨by rfl, ?_⟩
            (intro V hSV; (try dsimp only at hSV); obtain ⟨q0, q1, q2, q3, q4, q5⟩ := hSV; go_simp; try with_reducible rfl)
          (try simp only [Act.put, List.setIfInBounds_toArray, List.set_cons_zero, List.set_cons_succ])
          refine wpAnyH_done (by kernel_rfl) ?_ _
          refine NoPanic.normal ?_
          go_wp2_with fail
          go_meet
          have BF := Lib.hid (Blk.new fy1 #[.int .i64 ra, .int .i64 rm, .slice A6 R.length c6] 30)
          have zF := fH1.out.size
          have hn9 := OO.out.below ((Below.refl _ _).alloc (Nat.le_refl _) (.cells #[.int .i64 ra, .int .i64 rm, .slice A6 R.length c6] 30))
          exact ⟨fy1.heap.size, A6, c6, rfl, rfl, BF.out, hn9, by omega, HF.out⟩
        refine AllReadyH.cons (o := ?_) ?_ (fun K hK => ?_) AllReadyH.nil
        rotate_left 1
        · (simp only [List.getElem?_toArray, List.getElem?_cons_zero, List.getElem?_cons_succ]; try rfl)
        have zA := fH0.out.size
        have fH1 := Lib.hid (fH0.out.alloc fH0.out.size (.cells #[.int .i64 0, .int .i64 0, .slice none 0 0] 30))
        have BX := Lib.hid (Blk.new (wr.drew) #[.int .i64 0, .int .i64 0, .slice none 0 0] 30)
        have BX := Lib.hid (show Blk (wr.drew.alloc (.cells #[.int .i64 0, .int .i64 0, .slice none 0 0] 30)) wr.heap.size #[.int .i64 0, .int .i64 0, .slice none 0 0] 30 from by have h9 := BX.out; rw [World.size_drew] at h9; exact h9)
        go_simp
        refine hK.out _ _ (by exact ⟨(BXr.out.below fH1.out).cell 0, (BXr.out.below fH1.out).cell 1, (BXr.out.below fH1.out).cell 2, ((fH1.out).cell (p := ⟨bb, off + k * 3, none⟩) hbl).trans k0, ((fH1.out).cell (p := ⟨bb, off + k * 3 + 1, none⟩) hbl).trans k1, ((fH1.out).cell (p := ⟨bb, off + k * 3 + 2, none⟩) hbl).trans k2⟩) (fun hHeld => ?_)
        clear hK K
        (try simp only [Act.put, List.setIfInBounds_toArray, List.set_cons_zero, List.set_cons_succ])
        refine wpAnyH_ready (rs := [5]) (by kernel_rfl) (by simp) ?_
        refine AllReadyH.cons (o := ?_) ?_ (fun K hK => ?_) AllReadyH.nil
        rotate_left 1
        · (simp only [List.getElem?_toArray, List.getElem?_cons_zero, List.getElem?_cons_succ]; try rfl)
        go_simp
        refine (specEditMove_any b n Bp s ds a m P p ep _ hs9 hp9 (by have h9 := HQ.out.below fH1.out; exact h9)).mono ?_
        rintro e fy1 ⟨v, rfl, hown9, hb⟩
        rw [HOK.out, HRA.out, HRM.out]
        rw [HRP.out] at hown9
        obtain ⟨A6, c6, rfl, _, _, _⟩ := hown9.form
        have zq9 := (fH1.out).size
        have OO := Lib.hid (hown9.mono (base' := wr.heap.size) (by first | exact zq9 | omega))
        have OR := Lib.hid hown9
        clear hown9 zq9
        have zY2 := fH1.out.size
        have fH2 := Lib.hid (below_then fH1.out hb)
        have BX := Lib.hid (BX.out.below hb)
        clear hb
        go_wp2_with fail
        refine hK.out _ _ (by exact ⟨(BXr.out.below fH2.out).cell 0, (BXr.out.below fH2.out).cell 1, (BXr.out.below fH2.out).cell 2, ((fH2.out).cell (p := ⟨bb, off + k * 3, none⟩) hbl).trans k0, ((fH2.out).cell (p := ⟨bb, off + k * 3 + 1, none⟩) hbl).trans k1, ((fH2.out).cell (p := ⟨bb, off + k * 3 + 2, none⟩) hbl).trans k2⟩) (fun hHeld => ?_)
        clear hK K
        (try simp only [Act.put, List.setIfInBounds_toArray, List.set_cons_zero, List.set_cons_succ])
        refine wpAnyH_take (i := 6) (oi := ?_) (v := ?_) ?_ ?_ ?_ ?_ ?_ ?_ (by exact hHeld) ?_
        rotate_left 2
        · (simp only [List.getElem?_toArray, List.getElem?_cons_zero, List.getElem?_cons_succ]; try rfl)
        · kernel_rfl
        · kernel_rfl
        · kernel_rfl
        · exact fun _ _ _ h => h
        · refine Or.inl ⟨by rfl, ?_⟩
          (intro V hSV; (try dsimp only at hSV); obtain ⟨q0, q1, q2, q3, q4, q5⟩ := hSV; go_simp; try with_reducible rfl)
        (try simp only [Act.put, List.setIfInBounds_toArray, List.set_cons_zero, List.set_cons_succ])
        refine wpAnyH_take (i := 7) (oi := ?_) (v := ?_) ?_ ?_ ?_ ?_ ?_ ?_ (by exact hHeld) ?_
        rotate_left 2
        · (simp only [List.getElem?_toArray, List.getElem?_cons_zero, List.getElem?_cons_succ]; try rfl)
        · kernel_rfl
        · kernel_rfl
        · kernel_rfl
        · exact fun _ _ _ h => h
        · refine Or.inl ⟨by rfl, ?_⟩
          (intro V hSV; (try dsimp only at hSV); obtain ⟨q0, q1, q2, q3, q4, q5⟩ := hSV; go_simp; try with_reducible rfl)
        (try simp only [Act.put, List.setIfInBounds_toArray, List.set_cons_zero, List.set_cons_succ])
        refine wpAnyH_take (i := 8) (oi := ?_) (v := ?_) ?_ ?_ ?_ ?_ ?_ ?_ (by exact hHeld) ?_
        rotate_left 2
        · (simp only [List.getElem?_toArray, List.getElem?_cons_zero, List.getElem?_cons_succ]; try rfl)
        · kernel_rfl
        · kernel_rfl
        · kernel_rfl
        · exact fun _ _ _ h => h
        · refine Or.inl ⟨by rfl, ?_⟩
          (intro V hSV; (try dsimp only at hSV); obtain ⟨q0, q1, q2, q3, q4, q5⟩ := hSV; go_simp; try with_reducible rfl)
        (try simp only [Act.put, List.setIfInBounds_toArray, List.set_cons_zero, List.set_cons_succ])
        have zB := BX.out.lt
        have nb0 := BXr.out.lt
        have g0 := BX.out.cell 0
        have f0 := BX.out.frozen 0
        have g1 := BX.out.cell 1
        have f1 := BX.out.frozen 1
        have g2 := BX.out.cell 2
        have f2 := BX.out.frozen 2
        have zz9 : wr.heap.size ≤ wr.heap.size := by first | exact Nat.le_refl _ | omega
        have BF : Hid (Blk ((((fy1.setCell ⟨wr.heap.size, 0, none⟩ (.int .i64 ra)).setCell ⟨wr.heap.size, 1, none⟩ (.int .i64 rm)).setCell ⟨wr.heap.size, 2, none⟩ (.slice A6 R.length c6))) wr.heap.size #[.int .i64 ra, .int .i64 rm, .slice A6 R.length c6] 30) := Lib.hid (by simpa using (((BX.out.set 0 (.int .i64 ra)).set 1 (.int .i64 rm)).set 2 (.slice A6 R.length c6)))
        have HF : Hid (Below wr.heap.size wr ((((fy1.setCell ⟨wr.heap.size, 0, none⟩ (.int .i64 ra)).setCell ⟨wr.heap.size, 1, none⟩ (.int .i64 rm)).setCell ⟨wr.heap.size, 2, none⟩ (.slice A6 R.length c6)))) := Lib.hid (((fH2.out.setCell (p := ⟨wr.heap.size, 0, none⟩) (by omega) (.int .i64 ra)).setCell (p := ⟨wr.heap.size, 1, none⟩) (by omega) (.int .i64 rm)).setCell (p := ⟨wr.heap.size, 2, none⟩) (by omega) (.slice A6 R.length c6))
        refine wpAnyH_ready (rs := [10]) (by kernel_rfl) (by simp) ?_
        refine AllReadyH.cons (o := ?_) ?_ (fun K hK => ?_) AllReadyH.nil
        rotate_left 1
        · (simp only [List.getElem?_toArray, List.getElem?_cons_zero, List.getElem?_cons_succ]; try rfl)
        go_simp
        refine hK.out _ _ (by exact ⟨(BXr.out.below HF.out).cell 0, (BXr.out.below HF.out).cell 1, (BXr.out.below HF.out).cell 2, ((HF.out).cell (p := ⟨bb, off + k * 3, none⟩) hbl).trans k0, ((HF.out).cell (p := ⟨bb, off + k * 3 + 1, none⟩) hbl).trans k1, ((HF.out).cell (p := ⟨bb, off + k * 3 + 2, none⟩) hbl).trans k2⟩) (fun hHeld => ?_)
        clear hK K
        (try simp only [Act.put, List.setIfInBounds_toArray, List.set_cons_zero, List.set_cons_succ])
        refine wpAnyH_take (i := 11) (oi := ?_) (v := ?_) ?_ ?_ ?_ ?_ ?_ ?_ (by exact hHeld) ?_
        rotate_left 2
        · (simp only [List.getElem?_toArray, List.getElem?_cons_zero, List.getElem?_cons_succ]; try rfl)
        · kernel_rfl
        · kernel_rfl
        · kernel_rfl
        · exact fun _ _ _ h => h
        · refine Or.inl ⟨by rfl, ?_⟩
          (intro V hSV; (try dsimp only at hSV); obtain ⟨q0, q1, q2, q3, q4, q5⟩ := hSV; go_simp; try with_reducible rfl)
        (try simp only [Act.put, List.setIfInBounds_toArray, List.set_cons_zero, List.set_cons_succ])
        refine wpAnyH_done (by kernel_rfl) ?_ _
        refine NoPanic.normal ?_
        go_wp2_with fail
        go_meet
        have hn9 : ∀ k ∈ (Value.slice A6 R.length c6).ownBlock.toList, wr.heap.size ≠ k := fun k hk => by have h1 := OR.out.range k hk; have h2 := zB; first | omega | (simp at h1; omega)
        exact ⟨wr.heap.size, A6, c6, rfl, rfl, BF.out, ownSet13 (ownSet13 (ownSet13 (OO.out) hn9 0 (.int .i64 ra)) hn9 1 (.int .i64 rm)) hn9 2 (.slice A6 R.length c6), by omega, HF.out⟩
      case rest =>
        obtain ⟨nb, A6, c6, rfl, rfl, hM, hown6, hnb, hb7⟩ := hcut
        have HM := Lib.hid hM
        have HO6 := Lib.hid hown6
        have hzz := hb7.size
        have HBw := Lib.hid (below_then HB.out hb7)
        have HOw := Lib.hid (HO.out.below hb7)
        have hfx := hown6.fp
        clear x0 x1 x2 k0 k1 k2 hM hown6 hb7
        cases ok
        · have hz0 : z = false := by rw [← HZ.out]; exact mvAll_bad hlt (by rw [HMK.out]; rfl)
          have hl0 : L = [] := by rw [← HL.out]; unfold mvL; rw [HZ.out, hz0]; rfl
          subst hz0 hl0
          go_wp2
          refine bodyPost_ret (v := .tuple #[.slice none 0 0, .bool false]) (by simp [results, Try.results127, go_sem]) rfl ?_
          exact ⟨none, 0, [], rfl, ⟨Lay.slice_nil _ _ _, List.nodup_nil, fun _ h => nomatch h⟩, below_then HAL.out HBw.out⟩
        have m0 := HM.out.cell 0
        have m1 := HM.out.cell 1
        have m2 := HM.out.cell 2
        go_wp2_with fail
        refine (l05Small_any ra rm A6 R c6 _ (by omega)).mono ?_
        rintro e w5 ⟨rfl, hb5⟩
        obtain ⟨sm, hsmall⟩ : ∃ sm, edSmall ra rm R = sm := ⟨_, rfl⟩
        rw [hsmall]
        have HSS := Lib.hid hsmall
        have HM := Lib.hid (HM.out.below hb5)
        have HO6 := Lib.hid (HO6.out.below hb5)
        have HOw := Lib.hid (HOw.out.below hb5)
        have HBw := Lib.hid (below_then HBw.out hb5)
        have hz5 := hb5.size
        clear m0 m1 m2 hb5 hsmall
        cases sm
        · have hz0 : z = false := by rw [← HZ.out]; exact mvAll_bad hlt (by rw [HMK.out, HSS.out]; rfl)
          have hl0 : L = [] := by rw [← HL.out]; unfold mvL; rw [HZ.out, hz0]; rfl
          subst hz0 hl0
          go_wp2
          refine bodyPost_ret (v := .tuple #[.slice none 0 0, .bool false]) (by simp [results, Try.results127, go_sem]) rfl ?_
          exact ⟨none, 0, [], rfl, ⟨Lay.slice_nil _ _ _, List.nodup_nil, fun _ h => nomatch h⟩, below_then HAL.out HBw.out⟩
        have h8 := (edSmall_iff _ _ _).1 HSS.out
        have hAK := mvAll_take hlt HA.out (by rw [HMK.out, HSS.out]; rfl)
        have HAK := Lib.hid hAK
        have HNX := Lib.hid (show (es.map (mvE (a, m, p))).take (k + 1) = (es.map (mvE (a, m, p))).take k ++ [(ra, rm, R)] by rw [List.take_succ_eq_append_getElem (by rw [List.length_map]; exact hlt), List.getElem_map, HMV.out])
        have hrA : -9223372036854775808 ≤ ra ∧ ra ≤ 9223372036854775807 := by omega
        have hrM : -9223372036854775808 ≤ rm ∧ rm ≤ 9223372036854775807 := by omega
        have m0 := HM.out.cell 0
        have m1 := HM.out.cell 1
        have m2 := HM.out.cell 2
        have hbl5 : Below w5.heap.size w5 (w5.alloc (.cells #[.int .i64 ra, .int .i64 rm, .slice A6 R.length c6] 30)) := (Below.refl w5.heap.size w5).alloc (Nat.le_refl _) _
        have hO3 := HOw.out.below hbl5
        have hXE := Lay.edit.owBelow (own_edit hrA hrM (HO6.out.below hbl5 |>.mono (base' := 0) (Nat.zero_le _))) (Below.refl _ _)
        have hin1 := own_in HOw.out.ow
        have hlen : ((es.map (mvE (a, m, p))).take k).length = k := by rw [List.length_take, List.length_map]; omega
        have HLN := Lib.hid hlen
        have how9 : Lay.edits.ow (w5.alloc (.cells #[.int .i64 ra, .int .i64 rm, .slice A6 R.length c6] 30)) [.slice A' k c'] ((es.map (mvE (a, m, p))).take k) fp := by
          have h9 := hO3.ow
          rw [hlen] at h9
          exact h9
        have hlk : ((es.map (mvE (a, m, p))).take k).length ≤ 1000000 := by omega
        have HB5 := Lib.hid (below_then HBw.out hbl5)
        have hzw5 := HB5.out.size
        have hrg6 := HO6.out.range
        clear hlen h8 hAK
        go_wp2_with (at_builtin; go_must (refine wpList_app_one rfl _ _ 44 rfl 30 Lay.edit _ 3 40 Try.underlying44 Try.infoEd rfl rfl (by decide) (by decide) (.slice A' k c') ((es.map (mvE (a, m, p))).take k) fp [.int .i64 ra, .int .i64 rm, .slice A6 R.length c6] (ra, rm, R) _ ⟨w5.heap.size, 0, none⟩ 1 rfl rfl how9 hO3.nd hXE hfx.1 wr.heap.size (fun k hk => (hfr k hk).2) hfx.2 cell_new3 hlk ?_))
        intro v6 w6 fp6 ho6 hn6 hs6 hg6
        rw [← HNX.out] at ho6
        obtain ⟨A7, c7, e6, _, _, _⟩ := Lay.edits.read ho6
        simp only [List.cons.injEq, and_true] at e6
        have hl1 : ((es.map (mvE (a, m, p))).take (k + 1)).length = k + 1 := by rw [List.length_take, List.length_map]; omega
        rw [hl1] at e6
        subst e6
        have hk6 := Keeps.of_grown hg6
        have HO7 := Lib.hid (show OwE w6 W0.heap.size A7 ((es.map (mvE (a, m, p))).take (k + 1)) c7 fp6 from ⟨by rw [hl1]; exact ho6, hn6, fun q hq => by
          have hzB := HB.out.size
          rcases hs6 q hq with h | h | h
          · exact (hfr q h).1
          · have := hfx.2 q (by simpa using h); omega
          · (try simp at h); omega⟩)
        have HB6 := Lib.hid (HB5.out.trans (hk6.below (B := W0.heap.size) HB5.out.size (fun q hq => (hfr q (hin1 q (by
          have h9 := HLN.out
          rw [h9]
          exact hq))).1)))
        clear ho6 hn6 hs6 hg6 hk6 hO3 hXE how9 hl1 m0 m1 m2
        go_wp2
        go_roundw
        case rel => exact ⟨k + 1, _, _, _, by omega, by go_num, rfl, HAK, HO7, HB6.out⟩
        case measure => simp [intOf]; omega
    · have e : k = es.length := by omega
      have hki : ¬ (k : Int) < (es.length : Int) := by omega
      subst e
      have h9 := HO.out
      have hA9 := HA.out
      rw [List.take_of_length_le (by simp)] at h9
      rw [List.take_length] at hA9
      have hz1 : z = true := by rw [← HZ.out]; exact hA9
      have hl1 : L = es.map (mvE (a, m, p)) := by rw [← HL.out]; unfold mvL; rw [if_pos hA9]
      subst hz1 hl1
      have H9 := Lib.hid (h9.mono (show w.heap.size ≤ _ by have := HZW.out; omega))
      clear h9 hA9 HO hb
      go_wp2
      refine bodyPost_ret (v := .tuple #[.slice A' es.length c', .bool true]) (by simp [results, Try.results127, go_sem]) rfl ?_
      exact ⟨_, _, rfl, ⟨_, H9.out⟩, below_then HAL.out HB.out⟩
end Go.Proofs.Ytdmmdbapkogdhaa

namespace Go.Proofs.Ytdmmdbapkogdhaa
open Go.RowKit P
set_option linter.unusedVariables false
set_option linter.unusedSimpArgs false
set_option maxRecDepth 100000

def movOk (u r : List Ed) (x : Ed) : Bool := (stOk u r && smallE x) && (mvAll x u && mvAll x r)
def movU (u r : List Ed) (x : Ed) : List Ed := if movOk u r x = true then mvL x u else []
def movR (u r : List Ed) (x : Ed) : List Ed := if movOk u r x = true then mvL x r else []

set_option maxHeartbeats 16000000 in
theorem specStackMoved_any (A : Option Addr) (u : List Ed) (c : Nat) (B : Option Addr) (r : List Ed) (d : Nat) (a m : Int) (P : Option Addr) (p : List UInt8) (ep : Nat) (w : World) (hu9 : u.length ≤ 9223372036854775807) (hr9 : r.length ≤ 9223372036854775807) (hp9 : p.length ≤ 9223372036854775807) (hU : Es w A u) (hR : Es w B r) :
    Calls Try.prog 46 #[.agg #[.slice A u.length c, .slice B r.length d], .agg #[.int .i64 a, .int .i64 m, .slice P p.length ep]] w (GivesRd2 (movU u r (a, m, p)) (movR u r (a, m, p)) (movOk u r (a, m, p)) w) := by
  have hal := ((((Below.refl w.heap.size w).alloc (Nat.le_refl _) (.cells #[.slice A u.length c, .slice B r.length d] 46)).alloc (by simp) (.cells #[.int .i64 a, .int .i64 m, .slice P p.length ep] 30)).alloc (by simp; omega) (.cells #[.slice none 0 0, .slice none 0 0] 46))
  have hbx := ((Blk.new w #[.slice A u.length c, .slice B r.length d] 46).alloc (.cells #[.int .i64 a, .int .i64 m, .slice P p.length ep] 30)).alloc (.cells #[.slice none 0 0, .slice none 0 0] 46)
  have hex := (Blk.new (w.alloc (.cells #[.slice A u.length c, .slice B r.length d] 46)) #[.int .i64 a, .int .i64 m, .slice P p.length ep] 30).alloc (.cells #[.slice none 0 0, .slice none 0 0] 46)
  have hrx := Blk.new ((w.alloc (.cells #[.slice A u.length c, .slice B r.length d] 46)).alloc (.cells #[.int .i64 a, .int .i64 m, .slice P p.length ep] 30)) #[.slice none 0 0, .slice none 0 0] 46
  simp only [World.size_alloc] at hex hrx
  have BX := Lib.hid hbx
  have EX := Lib.hid hex
  have RX := Lib.hid hrx
  have HB := Lib.hid hal
  have HU := Lib.hid (show ∀ W, Below w.heap.size w W → Es W A u from fun W h => hU.below h)
  have HR := Lib.hid (show ∀ W, Below w.heap.size w W → Es W B r from fun W h => hR.below h)
  obtain ⟨z, hz⟩ : ∃ z, stOk u r = z := ⟨_, rfl⟩
  have HZ := Lib.hid hz
  obtain ⟨s, hs⟩ : ∃ s, edSmall a m p = s := ⟨_, rfl⟩
  have HS := Lib.hid hs
  obtain ⟨k1, h1⟩ : ∃ k, mvAll (a, m, p) u = k := ⟨_, rfl⟩
  have H1 := Lib.hid h1
  obtain ⟨k2, h2⟩ : ∃ k, mvAll (a, m, p) r = k := ⟨_, rfl⟩
  have H2 := Lib.hid h2
  obtain ⟨k, hk⟩ : ∃ k, movOk u r (a, m, p) = k := ⟨_, rfl⟩
  have hks : k = ((z && s) && (k1 && k2)) := by rw [← hk, ← hz, ← hs, ← h1, ← h2]; rfl
  have HKS := Lib.hid hks
  obtain ⟨L, hL⟩ : ∃ L, movU u r (a, m, p) = L := ⟨_, rfl⟩
  obtain ⟨M, hM⟩ : ∃ M, movR u r (a, m, p) = M := ⟨_, rfl⟩
  obtain ⟨Lu, hLu⟩ : ∃ L, mvL (a, m, p) u = L := ⟨_, rfl⟩
  obtain ⟨Lr, hLr⟩ : ∃ L, mvL (a, m, p) r = L := ⟨_, rfl⟩
  rw [hk, hL, hM]
  have HL := Lib.hid hL
  have HM := Lib.hid hM
  have HK := Lib.hid hk
  have HLU := Lib.hid hLu
  have HLR := Lib.hid hLr
  clear hL hM hks hk hz hs h1 h2 hLu hLr hal hbx hex hrx hU hR
  go_enter Try.func46, Try.ntmps46
  have p0 := BX.out.cell 0
  have p1 := BX.out.cell 1
  go_upto_region 1 with fail
  generalize ((w.alloc (.cells #[.slice A u.length c, .slice B r.length d] 46)).alloc (.cells #[.int .i64 a, .int .i64 m, .slice P p.length ep] 30)).alloc (.cells #[.slice none 0 0, .slice none 0 0] 46) = W at *
  have hU1 := HU.out _ HB.out
  have hR1 := HR.out _ HB.out
  go_wp2_with fail
  refine (specStackOk_any A B u r c d _ hu9 hr9 hU1 hR1).mono ?_
  rintro e w1 ⟨rfl, hb⟩
  rw [HZ.out]
  clear hU1 hR1
  clear p0 p1
  have BX := Lib.hid (BX.out.below hb)
  have EX := Lib.hid (EX.out.below hb)
  have RX := Lib.hid (RX.out.below hb)
  have HB := Lib.hid (below_then HB.out hb)
  clear hb
  cases z
  · have hk0 : k = false := by rw [HKS.out]; simp
    subst hk0
    have hv0 : L = [] := by rw [← HL.out]; unfold movU; rw [HK.out]; rfl
    have hv1 : M = [] := by rw [← HM.out]; unfold movR; rw [HK.out]; rfl
    subst hv0 hv1
    have q0 := RX.out.cell 0
    have q1 := RX.out.cell 1
    have f0 := RX.out.frozen 0
    have f1 := RX.out.frozen 1
    have hltR := RX.out.lt
    go_wp2
    refine bodyPost_ret (v := .tuple #[.agg #[.slice none 0 0, .slice none 0 0], .bool false]) (by simp [results, Try.results46, go_sem, q0, q1]) rfl ?_
    exact ⟨none, 0, [], none, 0, [], rfl, RdE.nil _ _, RdE.nil _ _, ((HB.out.setCell (p := ⟨w.heap.size + 2, 0, none⟩) (by simp) _).setCell (p := ⟨w.heap.size + 2, 1, none⟩) (by simp) _)⟩
  have p0 := EX.out.cell 0
  have p1 := EX.out.cell 1
  have p2 := EX.out.cell 2
  go_wp2_with fail
  refine (l05Small_any a m P p ep _ hp9).mono ?_
  rintro e w2 ⟨rfl, hb⟩
  rw [HS.out]
  clear p0 p1 p2
  have BX := Lib.hid (BX.out.below hb)
  have EX := Lib.hid (EX.out.below hb)
  have RX := Lib.hid (RX.out.below hb)
  have HB := Lib.hid (below_then HB.out hb)
  clear hb
  cases s
  · have hk0 : k = false := by rw [HKS.out]; simp
    subst hk0
    have hv0 : L = [] := by rw [← HL.out]; unfold movU; rw [HK.out]; rfl
    have hv1 : M = [] := by rw [← HM.out]; unfold movR; rw [HK.out]; rfl
    subst hv0 hv1
    have q0 := RX.out.cell 0
    have q1 := RX.out.cell 1
    have f0 := RX.out.frozen 0
    have f1 := RX.out.frozen 1
    have hltR := RX.out.lt
    go_wp2
    refine bodyPost_ret (v := .tuple #[.agg #[.slice none 0 0, .slice none 0 0], .bool false]) (by simp [results, Try.results46, go_sem, q0, q1]) rfl ?_
    exact ⟨none, 0, [], none, 0, [], rfl, RdE.nil _ _, RdE.nil _ _, ((HB.out.setCell (p := ⟨w.heap.size + 2, 0, none⟩) (by simp) _).setCell (p := ⟨w.heap.size + 2, 1, none⟩) (by simp) _)⟩
  have hst : stFit u = true ∧ stFit r = true := by have h9 := HZ.out; unfold stOk at h9; rw [Bool.and_eq_true] at h9; exact h9
  have hall : ∀ es : List Ed, stFit es = true → ∀ e ∈ es, e.2.2.length ≤ 1000 := fun es he e h => by
    have h8 := (edSmall_iff _ _ _).1 (show edSmall e.1 e.2.1 e.2.2 = true from stFit_all he e h)
    omega
  have p0 := BX.out.cell 0
  have p1 := BX.out.cell 1
  have q0 := EX.out.cell 0
  have q1 := EX.out.cell 1
  have q2 := EX.out.cell 2
  have hU1 := Lib.hid (HU.out _ HB.out)
  go_wp2_with fail
  refine (l08Moved_any A u c a m P p ep _ (by have := stFit_len hst.1; omega) (hall _ hst.1) hp9 hU1.out).mono ?_
  rintro e w3 ⟨oA, oc, of, rfl, ho, hb⟩
  rw [HLU.out, H1.out]
  rw [HLU.out] at ho
  have og : ∀ q ∈ of, w.heap.size + 3 ≤ q := fun q hq => by have := ho.lo q hq; have := RX.out.lt; omega
  have zr9 := RX.out.lt
  have oO := Lib.hid (ho.rdE.mono (show w.heap.size ≤ _ by omega))
  clear ho hU1 zr9
  clear p0 p1
  clear q0 q1 q2
  have BX := Lib.hid (BX.out.below hb)
  have EX := Lib.hid (EX.out.below hb)
  have RX := Lib.hid (RX.out.below hb)
  have HB := Lib.hid (below_then HB.out hb)
  clear hb
  have p0 := BX.out.cell 0
  have p1 := BX.out.cell 1
  have q0 := EX.out.cell 0
  have q1 := EX.out.cell 1
  have q2 := EX.out.cell 2
  have hU1 := Lib.hid (HR.out _ HB.out)
  go_wp2_with fail
  refine (l08Moved_any B r d a m P p ep _ (by have := stFit_len hst.2; omega) (hall _ hst.2) hp9 hU1.out).mono ?_
  rintro e w4 ⟨nA, nc, nf, rfl, ho, hb⟩
  rw [HLR.out, H2.out]
  rw [HLR.out] at ho
  have ng : ∀ q ∈ nf, w.heap.size + 3 ≤ q := fun q hq => by have := ho.lo q hq; have := RX.out.lt; omega
  have zr9 := RX.out.lt
  have nO := Lib.hid (ho.rdE.mono (show w.heap.size ≤ _ by omega))
  clear ho hU1 zr9
  clear p0 p1
  clear q0 q1 q2
  have BX := Lib.hid (BX.out.below hb)
  have EX := Lib.hid (EX.out.below hb)
  have RX := Lib.hid (RX.out.below hb)
  have oO := Lib.hid (oO.out.below hb)
  have HB := Lib.hid (below_then HB.out hb)
  clear hb
  cases k1
  · have hk0 : k = false := by rw [HKS.out]; simp
    subst hk0
    have hv0 : L = [] := by rw [← HL.out]; unfold movU; rw [HK.out]; rfl
    have hv1 : M = [] := by rw [← HM.out]; unfold movR; rw [HK.out]; rfl
    subst hv0 hv1
    have q0 := RX.out.cell 0
    have q1 := RX.out.cell 1
    have f0 := RX.out.frozen 0
    have f1 := RX.out.frozen 1
    have hltR := RX.out.lt
    go_wp2
    refine bodyPost_ret (v := .tuple #[.agg #[.slice none 0 0, .slice none 0 0], .bool false]) (by simp [results, Try.results46, go_sem, q0, q1]) rfl ?_
    exact ⟨none, 0, [], none, 0, [], rfl, RdE.nil _ _, RdE.nil _ _, ((HB.out.setCell (p := ⟨w.heap.size + 2, 0, none⟩) (by simp) _).setCell (p := ⟨w.heap.size + 2, 1, none⟩) (by simp) _)⟩
  cases k2
  · have hk0 : k = false := by rw [HKS.out]; simp
    subst hk0
    have hv0 : L = [] := by rw [← HL.out]; unfold movU; rw [HK.out]; rfl
    have hv1 : M = [] := by rw [← HM.out]; unfold movR; rw [HK.out]; rfl
    subst hv0 hv1
    have q0 := RX.out.cell 0
    have q1 := RX.out.cell 1
    have f0 := RX.out.frozen 0
    have f1 := RX.out.frozen 1
    have hltR := RX.out.lt
    go_wp2
    refine bodyPost_ret (v := .tuple #[.agg #[.slice none 0 0, .slice none 0 0], .bool false]) (by simp [results, Try.results46, go_sem, q0, q1]) rfl ?_
    exact ⟨none, 0, [], none, 0, [], rfl, RdE.nil _ _, RdE.nil _ _, ((HB.out.setCell (p := ⟨w.heap.size + 2, 0, none⟩) (by simp) _).setCell (p := ⟨w.heap.size + 2, 1, none⟩) (by simp) _)⟩
  have hk1 : k = true := by rw [HKS.out]; rfl
  subst hk1
  have hv1 : L = Lu := by rw [← HL.out, ← HLU.out]; unfold movU; rw [HK.out]; rfl
  have hv2 : M = Lr := by rw [← HM.out, ← HLR.out]; unfold movR; rw [HK.out]; rfl
  subst hv1 hv2
  have hk9 := ((Keeps.refl [w.heap.size + 2] w4).set (g := w.heap.size + 2) (by simp) 0 (.slice oA L.length oc)).set (g := w.heap.size + 2) (by simp) 1 (.slice nA M.length nc)
  have oO7 := Lib.hid (oO.out.keeps hk9 (fun q hq => by have := og q hq; simp only [List.mem_singleton]; omega))
  have nO7 := Lib.hid (nO.out.keeps hk9 (fun q hq => by have := ng q hq; simp only [List.mem_singleton]; omega))
  have RX7 := Lib.hid (show Blk ((w4.setCell ⟨w.heap.size + 2, 0, none⟩ (.slice oA L.length oc)).setCell ⟨w.heap.size + 2, 1, none⟩ (.slice nA M.length nc)) (w.heap.size + 2) #[.slice oA L.length oc, .slice nA M.length nc] 46 by simpa using ((RX.out.set 0 (.slice oA L.length oc)).set 1 (.slice nA M.length nc)))
  have HB7 := Lib.hid (show Below w.heap.size w ((w4.setCell ⟨w.heap.size + 2, 0, none⟩ (.slice oA L.length oc)).setCell ⟨w.heap.size + 2, 1, none⟩ (.slice nA M.length nc)) from ((HB.out.setCell (p := ⟨w.heap.size + 2, 0, none⟩) (by simp) _).setCell (p := ⟨w.heap.size + 2, 1, none⟩) (by simp) _))
  have p0 := RX.out.cell 0
  have p1 := RX.out.cell 1
  have f0 := RX.out.frozen 0
  have f1 := RX.out.frozen 1
  have hltR := RX.out.lt
  have q0 := RX7.out.cell 0
  have q1 := RX7.out.cell 1
  clear hk9 og ng
  go_wp2
  refine bodyPost_ret (v := .tuple #[.agg #[.slice oA L.length oc, .slice nA M.length nc], .bool true]) (by simp [results, Try.results46, go_sem, q0, q1]) rfl ?_
  exact ⟨_, _, _, _, _, _, rfl, oO7.out, nO7.out, HB7.out⟩

/-- Where the stack and the edit fit, the moved list is kept just when it fits. -/
theorem mvAll_fit {x : Ed} {u : List Ed} (hx : smallE x = true) (hu : stFit u = true) : mvAll x u = stFit (u.map (mvE x)) := by
  have hl := stFit_len hu
  have h : ∀ e ∈ u, mvK x e = smallE (mvE x e) := fun e he => by
    have h1 : edSmall e.1 e.2.1 e.2.2 = true := stFit_all hu e he
    have h2 : edSmall x.1 x.2.1 x.2.2 = true := hx
    unfold mvK moveOk
    rw [h1, h2]
    rfl
  unfold mvAll stFit
  rw [List.length_map, decide_eq_true hl, Bool.true_and, List.all_map, Bool.eq_iff_iff, List.all_eq_true, List.all_eq_true]
  exact ⟨fun g e he => by have h9 := g e he; rw [h e he] at h9; exact h9, fun g e he => by rw [h e he]; exact g e he⟩
theorem movOk_fit (u r : List Ed) (x : Ed) : movOk u r x = ((stOk u r && smallE x) && stOk (u.map (mvE x)) (r.map (mvE x))) := by
  unfold movOk
  cases hz : stOk u r
  · rfl
  cases hx : smallE x
  · rfl
  have h9 := hz
  unfold stOk at h9
  rw [Bool.and_eq_true] at h9
  rw [mvAll_fit hx h9.1, mvAll_fit hx h9.2]
  rfl
end Go.Proofs.Ytdmmdbapkogdhaa

namespace Go.Proofs.Ytdmmdbapkogdhaa
open Go.RowKit P
set_option linter.unusedVariables false
set_option linter.unusedSimpArgs false
set_option maxRecDepth 100000

theorem set3 {α : Type} (A B : List α) (y0 y1 y2 u0 u1 u2 : α) (n : Nat) (h : A.length = n) : (((A ++ ([y0, y1, y2] ++ B)).set n u0).set (n + 1) u1).set (n + 2) u2 = A ++ ([u0, u1, u2] ++ B) := by
  subst h
  rw [List.set_append_right _ _ (Nat.le_refl _), Nat.sub_self]
  simp only [List.cons_append, List.nil_append, List.set_cons_zero]
  rw [List.set_append_right _ _ (by omega), show A.length + 1 - A.length = 1 by omega]
  simp only [List.set_cons_succ, List.set_cons_zero]
  rw [List.set_append_right _ _ (by omega), show A.length + 2 - A.length = 2 by omega]
  simp only [List.set_cons_succ, List.set_cons_zero]

/-- The world with the three cells of element i put anew. -/
def put3 (W : World) (g i : Nat) (a m : Int) (u : Value) : World := ((W.setCell ⟨g, i * 3, none⟩ (.int .i64 a)).setCell ⟨g, i * 3 + 1, none⟩ (.int .i64 m)).setCell ⟨g, i * 3 + 2, none⟩ u
theorem put3_other (W : World) (g i : Nat) (a m : Int) (u : Value) (k : Nat) (hk : k ≠ g) : (put3 W g i a m u).heap[k]? = W.heap[k]? := by
  unfold put3
  rw [Below.heap_setCell _ _ _ _ (by simpa using hk), Below.heap_setCell _ _ _ _ (by simpa using hk), Below.heap_setCell _ _ _ _ (by simpa using hk)]
theorem put3_size (W : World) (g i : Nat) (a m : Int) (u : Value) : (put3 W g i a m u).heap.size = W.heap.size := by simp [put3, World.setCell]

theorem edits_put {W : World} {v : Value} {l : List Ed} {fp : List Nat} (h : Lay.edits.ow W [v] l fp) (hn : fp.Nodup) (i : Nat) (hi : i < l.length) {g c : Nat} (hv : v = .slice (some ⟨g, 0, none⟩) l.length c)
    (a m : Int) (ha : -9223372036854775808 ≤ a ∧ a ≤ 9223372036854775807) (hm : -9223372036854775808 ≤ m ∧ m ≤ 9223372036854775807) {u : Value} {q : List UInt8} {base : Nat} (hu : Own W base u q) (hb : ∀ k ∈ fp, k < base) :
    ∃ fp', Lay.edits.ow (put3 W g i a m u) [v] (l.set i (a, m, q)) fp' ∧ fp'.Nodup ∧ (∀ k ∈ fp', k ∈ fp ∨ k ∈ u.ownBlock.toList) := by
  obtain ⟨es, hl, hrow, hes, hfp⟩ := ow_one h
  subst hl
  rw [List.length_map] at hi hv
  obtain ⟨A, e, B, hab, hA, he⟩ := split_at es i hi
  have hlen : ∀ e ∈ es, (e.1 : List Value).length = 3 := fun e he => Lay.edit.len (Lay.edit.read (hes e he))
  have hee := hlen e (by rw [he]; exact List.getElem_mem hi)
  obtain ⟨y0, y1, y2, hy⟩ : ∃ y0 y1 y2, e.1 = [y0, y1, y2] := by
    match e.1, hee with
    | [y0, y1, y2], _ => exact ⟨y0, y1, y2, rfl⟩
  have hfA : (A.flatMap (·.1)).length = i * 3 := by
    rw [flat_len 3 A (·.1) (fun x hx => hlen x (by rw [hab]; exact List.mem_append.2 (.inl hx))), hA]
  have hflat : es.flatMap (·.1) = A.flatMap (·.1) ++ ([y0, y1, y2] ++ B.flatMap (·.1)) := by rw [hab, List.flatMap_append, List.flatMap_cons, hy]
  have hfpE : fp = [g] ++ (A.flatMap (·.2.2) ++ (e.2.2 ++ B.flatMap (·.2.2))) := by
    rw [hfp, hv, hab, List.flatMap_append, List.flatMap_cons]; rfl
  have hg : g ∈ fp := by rw [hfpE]; simp
  have hn2 := hn
  rw [hfpE] at hn2
  simp only [List.singleton_append, List.nodup_cons, List.mem_append, not_or, List.nodup_append] at hn2
  obtain ⟨⟨g1, g2, g3⟩, nA, ⟨ne, nB, dEB⟩, dA⟩ := hn2
  have hru := hu.range
  have keep : ∀ x ∈ es, (∀ k ∈ x.2.2, k ≠ g) → Lay.edit.ow (put3 W g i a m u) x.1 x.2.1 x.2.2 := fun x hx hk => Lay.edit.kept (hes x hx) (fun k hkm => put3_other W g i a m u k (hk k hkm)) (by rw [put3_size]; exact Nat.le_refl _)
  have hnew : Lay.edit.ow (put3 W g i a m u) [.int .i64 a, .int .i64 m, u] (a, m, q) u.ownBlock.toList := by
    refine ⟨[.int .i64 a], [.int .i64 m, u], [], u.ownBlock.toList, rfl, ⟨rfl, ha, rfl⟩, ⟨[.int .i64 m], [u], [], u.ownBlock.toList, rfl, ⟨rfl, hm, rfl⟩, ?_, rfl⟩, rfl⟩
    exact Own.ow (hu.heap (fun k hk => put3_other W g i a m u k (fun x => by have h1 := hru k hk; have h2 := hb g hg; omega)))
  have hset : (es.map (·.2.1)).set i (a, m, q) = (A ++ ([.int .i64 a, .int .i64 m, u], (a, m, q), u.ownBlock.toList) :: B).map (·.2.1) := by
    rw [hab, List.map_append, List.map_cons, List.set_append_right _ _ (by rw [List.length_map]; omega), List.length_map, hA, Nat.sub_self, List.set_cons_zero, List.map_append, List.map_cons]
  rcases hrow.2 with ⟨h0, _⟩ | ⟨g', cap, cur, hv', hb0, hh, hnc, hcm, hcs, htk⟩
  · rw [hv] at h0; cases h0
  · rw [hv] at hv'
    simp only [Value.slice.injEq, Option.some.injEq, Addr.mk.injEq] at hv'
    obtain ⟨⟨rfl, _, _⟩, _, rfl⟩ := hv'
    have hblk : Blk (put3 W g i a m u) g (((cur.setIfInBounds (i * 3) (.int .i64 a)).setIfInBounds (i * 3 + 1) (.int .i64 m)).setIfInBounds (i * 3 + 2) u) 30 := ((Blk.set (w := W) hh (i * 3) _).set (i * 3 + 1) _).set (i * 3 + 2) _
    have hel : (A ++ ([.int .i64 a, .int .i64 m, u], (a, m, q), u.ownBlock.toList) :: B).length = es.length := by rw [hab]; simp
    have hef : (A ++ ([Value.int .i64 a, .int .i64 m, u], (a, m, q), u.ownBlock.toList) :: B).flatMap (·.1) = A.flatMap (·.1) ++ ([.int .i64 a, .int .i64 m, u] ++ B.flatMap (·.1)) := by rw [List.flatMap_append, List.flatMap_cons]
    have hpf : (A ++ ([Value.int .i64 a, .int .i64 m, u], (a, m, q), u.ownBlock.toList) :: B).flatMap (·.2.2) = A.flatMap (·.2.2) ++ (u.ownBlock.toList ++ B.flatMap (·.2.2)) := by rw [List.flatMap_append, List.flatMap_cons]
    refine ⟨[g] ++ (A.flatMap (·.2.2) ++ (u.ownBlock.toList ++ B.flatMap (·.2.2))), ?_, ?_, ?_⟩
    · rw [hset]
      refine ⟨_, A ++ ([.int .i64 a, .int .i64 m, u], (a, m, q), u.ownBlock.toList) :: B, rfl, rfl, ?_, ?_, ?_⟩
      · rw [hel, hef]
        refine ⟨?_, .inr ⟨g, c, _, hv, hb0, hblk, hnc, hcm, by simpa using hcs, ?_⟩⟩
        · have h1 := hrow.1
          rw [hflat] at h1
          simpa using h1
        · simp only [Array.toList_setIfInBounds, List.take_set]
          rw [htk, hflat]
          exact set3 _ _ y0 y1 y2 _ _ _ (i * 3) hfA
      · intro x hx
        rcases List.mem_append.1 hx with hx | hx
        · exact keep x (by rw [hab]; exact List.mem_append.2 (.inl hx)) (fun k hk e => g1 (by rw [← e]; exact List.mem_flatMap.2 ⟨x, hx, hk⟩))
        · rcases List.mem_cons.1 hx with rfl | hx
          · exact hnew
          · exact keep x (by rw [hab]; exact List.mem_append.2 (.inr (List.mem_cons_of_mem _ hx))) (fun k hk e => g3 (by rw [← e]; exact List.mem_flatMap.2 ⟨x, hx, hk⟩))
      · rw [hpf, hv]; rfl
    · have hlt : ∀ k ∈ A.flatMap (·.2.2), k < base := fun k hk => hb k (by rw [hfpE]; simp [hk])
      have hltB : ∀ k ∈ B.flatMap (·.2.2), k < base := fun k hk => hb k (by rw [hfpE]; simp [hk])
      have hgb := hb g hg
      simp only [List.singleton_append, List.nodup_cons, List.mem_append, not_or, List.nodup_append]
      refine ⟨⟨g1, fun hk => by have := (hru g hk).1; omega, g3⟩, nA, ⟨hu.fp.1, nB, fun x hx y hy e => by have h1 := (hru x hx).1; have h2 := hltB y hy; omega⟩, fun x hx y hy => ?_⟩
      rcases hy with hy | hy
      · intro e; have h1 := (hru y hy).1; have h2 := hlt x hx; omega
      · exact dA x hx y (.inr hy)
    · intro k hk
      simp only [List.singleton_append, List.mem_cons, List.mem_append] at hk
      rw [hfpE]
      simp only [List.singleton_append, List.mem_cons, List.mem_append]
      rcases hk with hk | hk | hk | hk
      · exact .inl (.inl hk)
      · exact .inl (.inr (.inl hk))
      · exact .inr hk
      · exact .inl (.inr (.inr (.inr hk)))
end Go.Proofs.Ytdmmdbapkogdhaa

namespace Go.Proofs.Ytdmmdbapkogdhaa
open Go.RowKit P
set_option linter.unusedVariables false
set_option linter.unusedSimpArgs false
set_option maxRecDepth 100000

theorem edits_row {W : World} {v : Value} {l : List Ed} {fp : List Nat} (h : Lay.edits.ow W [v] l fp) (i : Nat) (hi : i < l.length) : ∃ g c cur, v = .slice (some ⟨g, 0, none⟩) l.length c ∧ g ∈ fp ∧ Blk W g cur 30 := by
  obtain ⟨es, hl, hrow, hes, hfp⟩ := ow_one h
  subst hl
  rw [List.length_map] at hi
  rcases hrow.2 with ⟨h0, h1⟩ | ⟨g', cap, cur, hv', hb0, hh, hnc, hcm, hcs, htk⟩
  · simp_all
  · refine ⟨g', cap, cur, by rw [hv', List.length_map], by rw [hfp, hv']; simp [Value.ownBlock], hh⟩
theorem put_next {es : List Ed} (f : Ed → Ed) (k : Nat) (hk : k < es.length) : ((es.take k).map f ++ es.drop k).set k (f es[k]) = (es.take (k + 1)).map f ++ es.drop (k + 1) := by
  rw [List.set_append_right _ _ (by simp; omega), List.length_map, List.length_take, Nat.min_eq_left (Nat.le_of_lt hk), Nat.sub_self, List.drop_eq_getElem_cons hk, List.set_cons_zero, List.take_succ_eq_append_getElem hk, List.map_append]
  simp
theorem get_next {es : List Ed} (f : Ed → Ed) (k : Nat) (hk : k < es.length) (h : k < ((es.take k).map f ++ es.drop k).length) : ((es.take k).map f ++ es.drop k)[k] = es[k] := by
  rw [List.getElem_append_right (by simp; omega)]
  simp [Nat.min_eq_left (Nat.le_of_lt hk)]
set_option maxHeartbeats 32000000 in
theorem move_any (B lb : Nat) (v : Value) (es : List Ed) (fp : List Nat) (a m : Int) (P : Option Addr) (p : List UInt8) (ep : Nat) (w : World) (hl : es.length ≤ 1000) (hsm : ∀ e ∈ es, e.2.2.length ≤ 1000) (hp9 : p.length ≤ 9223372036854775807)
    (hbd : ∀ e ∈ es, (-9223372036854775808 ≤ (mvE (a, m, p) e).1 ∧ (mvE (a, m, p) e).1 ≤ 9223372036854775807) ∧ (-9223372036854775808 ≤ (mvE (a, m, p) e).2.1 ∧ (mvE (a, m, p) e).2.1 ≤ 9223372036854775807)) (h : Lb w B lb v es fp) :
    Calls Try.prog 129 #[.pointer (some ⟨lb, 0, none⟩), .agg #[.int .i64 a, .int .i64 m, .slice P p.length ep]] w fun e w' => e = .returned (.tuple #[]) ∧ ∃ fp', Lb w' B lb v (es.map (mvE (a, m, p))) fp' ∧ (∀ k ∈ fp', k ∈ fp ∨ w.heap.size ≤ k) ∧ Keeps fp w w' := by
  have hal := (Below.refl w.heap.size w).alloc (Nat.le_refl _) (.cells #[.int .i64 a, .int .i64 m, .slice P p.length ep] 30)
  have BX := Lib.hid (Blk.new w #[.int .i64 a, .int .i64 m, .slice P p.length ep] 30)
  have hzw : (w.alloc (.cells #[.int .i64 a, .int .i64 m, .slice P p.length ep] 30)).heap.size = w.heap.size + 1 := by simp
  have HL := Lib.hid (h.below hal)
  have HFP := Lib.hid h.lt
  have hK0 := Lib.hid (Keeps.of_below (fp := fp) hal)
  have HSM := Lib.hid hsm
  have HBD := Lib.hid hbd
  have hlw := h.hd.lt
  have HOB := Lib.hid (own_in h.ow)
  obtain ⟨A, c, rfl, _⟩ := h.form
  clear h hal hsm hbd
  go_enter Try.func129, Try.ntmps129
  generalize hW0 : w.alloc (.cells #[.int .i64 a, .int .i64 m, .slice P p.length ep] 30) = W0 at *
  have q0 : W0.cell? ⟨lb, 0, none⟩ = some (.slice A es.length c) := HL.out.hd.cell 0
  go_wp2_with fail
  clear q0
  go_loopw [11] (fun i wr => ∃ (k : Nat) (fq : List Nat), k ≤ es.length ∧ i = .int .i64 k ∧ Hid (Lb wr B lb (.slice A es.length c) ((es.take k).map (mvE (a, m, p)) ++ es.drop k) fq) ∧ Hid (∀ k ∈ fq, k ∈ fp ∨ w.heap.size + 1 ≤ k) ∧ Hid (Keeps fp W0 wr))
    (fun i _ => es.length - (intOf i).toNat)
  case atStart => exact ⟨0, fp, Nat.zero_le _, rfl, HL, Lib.hid (fun k hk => .inl hk), Lib.hid (Keeps.refl _ _)⟩
  case round =>
    obtain ⟨k, fq, hk, rfl, HQ, HF, HK⟩ := hrel
    by_cases hlt : k < es.length
    · have hki0 : (0 : Int) ≤ (k : Int) := by omega
      have hki : (k : Int) < (es.length : Int) := by omega
      have hlen : ((es.take k).map (mvE (a, m, p)) ++ es.drop k).length = es.length := by simp; omega
      have hk2 : k < ((es.take k).map (mvE (a, m, p)) ++ es.drop k).length := by omega
      obtain ⟨g, c9, cur, hv, hg, hblk⟩ := edits_row HQ.out.ow k hk2
      rw [hlen] at hv
      simp only [Value.slice.injEq] at hv
      obtain ⟨hvA, _, hvc⟩ := hv
      subst hvA hvc
      obtain ⟨A9, d9, hv9, hO9⟩ := HQ.out.form
      rw [hlen] at hv9
      simp only [Value.slice.injEq] at hv9
      obtain ⟨hvA, _, hvc⟩ := hv9
      subst hvA hvc
      obtain ⟨bb, off, b, n, Bp, s, ds, hA, hbl, hek, k0, k1, k2, hbb, hnn, hpd, hdm, hBp⟩ := hO9.es.at_ k hk2
      simp only [Option.some.injEq, Addr.mk.injEq] at hA
      obtain ⟨e1, e2, _⟩ := hA
      subst e1 e2
      simp only [Nat.zero_add] at k0 k1 k2
      rw [get_next _ k hlt] at hek
      have hs4 := HSM.out _ (List.getElem_mem hlt)
      have hb4 := HBD.out _ (List.getElem_mem hlt)
      have hmv : mvE (a, m, p) es[k] = (moveA b n s a m p, moveM b n s a m p, moveP b n s a m p) := by rw [hek]; rfl
      rw [hmv] at hb4
      rw [hek] at hs4
      have hs9 : s.length ≤ 9223372036854775807 := by simp at hs4; omega
      obtain ⟨ok, hok⟩ : ∃ ok, moveOk b n s a m p = ok := ⟨_, rfl⟩
      obtain ⟨ra, hra⟩ : ∃ v, moveA b n s a m p = v := ⟨_, rfl⟩
      obtain ⟨rm, hrm⟩ : ∃ v, moveM b n s a m p = v := ⟨_, rfl⟩
      obtain ⟨R, hrp⟩ : ∃ v, moveP b n s a m p = v := ⟨_, rfl⟩
      rw [hra, hrm] at hb4
      rw [hra, hrm, hrp] at hmv
      have HMV := Lib.hid hmv
      have HOK := Lib.hid hok
      have HRA := Lib.hid hra
      have HRM := Lib.hid hrm
      have HRP := Lib.hid hrp
      have HB4 := Lib.hid hb4
      have HBP := Lib.hid hBp
      have HGQ := Lib.hid hg
      have HLEN := Lib.hid hlen
      have hgz := hblk.lt
      have HGB := Lib.hid hblk
      have HC := Lib.hid (And.intro k0 (And.intro k1 k2))
      have hzk := HK.out.size
      have hgl := HQ.out.ne g hg
      have hgx : g ≠ w.heap.size := fun e => by rcases HF.out g hg with h9 | h9
                                                · have := HFP.out g h9; omega
                                                · omega
      have hxf : w.heap.size ∉ fp := fun h9 => by have := HFP.out _ h9; omega
      have BX := Lib.hid (Blk.of_block BX.out (HK.out.block w.heap.size (by omega) hxf))
      have HLB := Lib.hid HQ.out.hd
      have hlz := HLB.out.lt
      have f0 := hblk.frozen (k * 3)
      have f1 := hblk.frozen (k * 3 + 1)
      have f2 := hblk.frozen (k * 3 + 2)
      clear hb4 hmv hok hra hrm hrp hek hs4 hbb hnn hpd hdm hBp hg hblk hO9 hlen HL hK0
      go_upto_region 4 with fail
      clear k0 k1 k2 f0 f1 f2
      have hb1 := (Below.refl wr.heap.size wr).alloc (Nat.le_refl _) (.cells #[.int .i64 b, .int .i64 n, .slice Bp s.length ds] 30)
      have BE := Lib.hid (Blk.new wr #[.int .i64 b, .int .i64 n, .slice Bp s.length ds] 30)
      have zbe : (wr.alloc (.cells #[.int .i64 b, .int .i64 n, .slice Bp s.length ds] 30)).heap.size = wr.heap.size + 1 := by simp
      have BX := Lib.hid (BX.out.below hb1)
      have HLB := Lib.hid (HLB.out.below hb1)
      have HBE := Lib.hid hb1
      clear hb1
      generalize wr.alloc (.cells #[.int .i64 b, .int .i64 n, .slice Bp s.length ds] 30) = W1 at *
      have l0 := HLB.out.cell 0
      have e0 := BE.out.cell 0
      have e1 := BE.out.cell 1
      have e2 := BE.out.cell 2
      have x0 := BX.out.cell 0
      have x1 := BX.out.cell 1
      have x2 := BX.out.cell 2
      refine wp_region_held_drew (S := (fun V => V.cell? ⟨lb, 0, none⟩ = some (.slice (some ⟨g, 0, none⟩) es.length c) ∧ V.cell? ⟨wr.heap.size, 0, none⟩ = some (.int .i64 b) ∧ V.cell? ⟨wr.heap.size, 1, none⟩ = some (.int .i64 n) ∧ V.cell? ⟨wr.heap.size, 2, none⟩ = some (.slice Bp s.length ds) ∧ V.cell? ⟨w.heap.size, 0, none⟩ = some (.int .i64 a) ∧ V.cell? ⟨w.heap.size, 1, none⟩ = some (.int .i64 m) ∧ V.cell? ⟨w.heap.size, 2, none⟩ = some (.slice P p.length ep))) (by kernel_rfl) (by exact ⟨l0, e0, e1, e2, x0, x1, x2⟩) (fun hHeld => ?_)
      clear l0 e0 e1 e2 x0 x1 x2
      refine wpAnyH_take (i := 0) (oi := ?_) (v := ?_) ?_ ?_ ?_ ?_ ?_ ?_ (by exact hHeld) ?_
      rotate_left 2
      · (simp only [List.getElem?_toArray, List.getElem?_cons_zero]; try rfl)
      · kernel_rfl
      · kernel_rfl
      · kernel_rfl
      · exact fun _ _ _ h => h
      · refine Or.inl ⟨by rfl, ?_⟩
        (intro V hSV; (try dsimp only at hSV); obtain ⟨q0, q1, q2, q3, q4, q5, q6⟩ := hSV; go_simp; try with_reducible rfl)
      (try simp only [Act.put, List.setIfInBounds_toArray, List.set_cons_zero, List.set_cons_succ])
      refine wpAnyH_take (i := 1) (oi := ?_) (v := ?_) ?_ ?_ ?_ ?_ ?_ ?_ (by exact hHeld) ?_
      rotate_left 2
      · (simp only [List.getElem?_toArray, List.getElem?_cons_zero, List.getElem?_cons_succ]; try rfl)
      · kernel_rfl
      · kernel_rfl
      · kernel_rfl
      · exact fun _ _ _ h => h
      · refine Or.inl ⟨by rfl, ?_⟩
        (intro V hSV; (try dsimp only at hSV); obtain ⟨q0, q1, q2, q3, q4, q5, q6⟩ := hSV; go_simp; try with_reducible rfl)
      (try simp only [Act.put, List.setIfInBounds_toArray, List.set_cons_zero, List.set_cons_succ])
      refine wpAnyH_take (i := 2) (oi := ?_) (v := ?_) ?_ ?_ ?_ ?_ ?_ ?_ (by exact hHeld) ?_
      rotate_left 2
      · (simp only [List.getElem?_toArray, List.getElem?_cons_zero, List.getElem?_cons_succ]; try rfl)
      · kernel_rfl
      · kernel_rfl
      · kernel_rfl
      · exact fun _ _ _ h => h
      · refine Or.inl ⟨by rfl, ?_⟩
        (intro V hSV; (try dsimp only at hSV); obtain ⟨q0, q1, q2, q3, q4, q5, q6⟩ := hSV; go_simp; try with_reducible rfl)
      (try simp only [Act.put, List.setIfInBounds_toArray, List.set_cons_zero, List.set_cons_succ])
      refine wpAnyH_take (i := 3) (oi := ?_) (v := ?_) ?_ ?_ ?_ ?_ ?_ ?_ (by exact hHeld) ?_
      rotate_left 2
      · (simp only [List.getElem?_toArray, List.getElem?_cons_zero, List.getElem?_cons_succ]; try rfl)
      · kernel_rfl
      · kernel_rfl
      · kernel_rfl
      · exact fun _ _ _ h => h
      · refine Or.inl ⟨by rfl, ?_⟩
        (intro V hSV; (try dsimp only at hSV); obtain ⟨q0, q1, q2, q3, q4, q5, q6⟩ := hSV; go_simp; try with_reducible rfl)
      (try simp only [Act.put, List.setIfInBounds_toArray, List.set_cons_zero, List.set_cons_succ])
      refine wpAnyH_take (i := 4) (oi := ?_) (v := ?_) ?_ ?_ ?_ ?_ ?_ ?_ (by exact hHeld) ?_
      rotate_left 2
      · (simp only [List.getElem?_toArray, List.getElem?_cons_zero, List.getElem?_cons_succ]; try rfl)
      · kernel_rfl
      · kernel_rfl
      · kernel_rfl
      · exact fun _ _ _ h => h
      · refine Or.inl ⟨by rfl, ?_⟩
        (intro V hSV; (try dsimp only at hSV); obtain ⟨q0, q1, q2, q3, q4, q5, q6⟩ := hSV; go_simp; try with_reducible rfl)
      (try simp only [Act.put, List.setIfInBounds_toArray, List.set_cons_zero, List.set_cons_succ])
      refine wpAnyH_take (i := 5) (oi := ?_) (v := ?_) ?_ ?_ ?_ ?_ ?_ ?_ (by exact hHeld) ?_
      rotate_left 2
      · (simp only [List.getElem?_toArray, List.getElem?_cons_zero, List.getElem?_cons_succ]; try rfl)
      · kernel_rfl
      · kernel_rfl
      · kernel_rfl
      · exact fun _ _ _ h => h
      · refine Or.inl ⟨by rfl, ?_⟩
        (intro V hSV; (try dsimp only at hSV); obtain ⟨q0, q1, q2, q3, q4, q5, q6⟩ := hSV; go_simp; try with_reducible rfl)
      (try simp only [Act.put, List.setIfInBounds_toArray, List.set_cons_zero, List.set_cons_succ])
      refine wpAnyH_take (i := 6) (oi := ?_) (v := ?_) ?_ ?_ ?_ ?_ ?_ ?_ (by exact hHeld) ?_
      rotate_left 2
      · (simp only [List.getElem?_toArray, List.getElem?_cons_zero, List.getElem?_cons_succ]; try rfl)
      · kernel_rfl
      · kernel_rfl
      · kernel_rfl
      · exact fun _ _ _ h => h
      · refine Or.inl ⟨by rfl, ?_⟩
        (intro V hSV; (try dsimp only at hSV); obtain ⟨q0, q1, q2, q3, q4, q5, q6⟩ := hSV; go_simp; try with_reducible rfl)
      (try simp only [Act.put, List.setIfInBounds_toArray, List.set_cons_zero, List.set_cons_succ])
      refine wpAnyH_ready (rs := [7]) (by kernel_rfl) (by simp) ?_
      refine AllReadyH.cons rfl (fun K hK => ?_) AllReadyH.nil
      go_simp
      refine (implEditMove_any b n Bp s ds a m P p ep _ hs9 hp9 (by have h9 := HBP.out.below HBE.out.drew; exact h9)).mono ?_
      rintro e w5 ⟨v5, rfl, hown5, hb5⟩
      rw [HOK.out, HRA.out, HRM.out]
      rw [HRP.out] at hown5
      obtain ⟨A5, c5, rfl, _, _, _⟩ := hown5.form
      have H5 := Lib.hid (below_then (Below.refl W1.heap.size W1).drew hb5)
      have HO5 := Lib.hid (show Own w5 W1.heap.size (.slice A5 R.length c5) R from hown5)
      clear hown5 hb5
      go_wp2_with fail
      refine hK.out _ _ (by exact ⟨(HLB.out.below H5.out).cell 0, (BE.out.below H5.out).cell 0, (BE.out.below H5.out).cell 1, (BE.out.below H5.out).cell 2, (BX.out.below H5.out).cell 0, (BX.out.below H5.out).cell 1, (BX.out.below H5.out).cell 2⟩) (fun hHeld => ?_)
      clear hK K
      (try simp only [Act.put, List.setIfInBounds_toArray, List.set_cons_zero, List.set_cons_succ])
      refine wpAnyH_take (i := 8) (oi := ?_) (v := ?_) ?_ ?_ ?_ ?_ ?_ ?_ (by exact hHeld) ?_
      rotate_left 2
      · (simp only [List.getElem?_toArray, List.getElem?_cons_zero, List.getElem?_cons_succ]; try rfl)
      · kernel_rfl
      · kernel_rfl
      · kernel_rfl
      · exact fun _ _ _ h => h
      · refine Or.inl ⟨by rfl, ?_⟩
        (intro V hSV; (try dsimp only at hSV); obtain ⟨q0, q1, q2, q3, q4, q5, q6⟩ := hSV; go_simp; try with_reducible rfl)
      (try simp only [Act.put, List.setIfInBounds_toArray, List.set_cons_zero, List.set_cons_succ])
      refine wpAnyH_take (i := 9) (oi := ?_) (v := ?_) ?_ ?_ ?_ ?_ ?_ ?_ (by exact hHeld) ?_
      rotate_left 2
      · (simp only [List.getElem?_toArray, List.getElem?_cons_zero, List.getElem?_cons_succ]; try rfl)
      · kernel_rfl
      · kernel_rfl
      · kernel_rfl
      · exact fun _ _ _ h => h
      · refine Or.inl ⟨by rfl, ?_⟩
        (intro V hSV; (try dsimp only at hSV); obtain ⟨q0, q1, q2, q3, q4, q5, q6⟩ := hSV; go_simp; try with_reducible rfl)
      (try simp only [Act.put, List.setIfInBounds_toArray, List.set_cons_zero, List.set_cons_succ])
      refine wpAnyH_take (i := 10) (oi := ?_) (v := ?_) ?_ ?_ ?_ ?_ ?_ ?_ (by exact hHeld) ?_
      rotate_left 2
      · (simp only [List.getElem?_toArray, List.getElem?_cons_zero, List.getElem?_cons_succ]; try rfl)
      · kernel_rfl
      · kernel_rfl
      · kernel_rfl
      · exact fun _ _ _ h => h
      · refine Or.inl ⟨by rfl, ?_⟩
        (intro V hSV; (try dsimp only at hSV); obtain ⟨q0, q1, q2, q3, q4, q5, q6⟩ := hSV; go_simp; try with_reducible rfl)
      (try simp only [Act.put, List.setIfInBounds_toArray, List.set_cons_zero, List.set_cons_succ])
      refine wpAnyH_take (i := 11) (oi := ?_) (v := ?_) ?_ ?_ ?_ ?_ ?_ ?_ (by exact hHeld) ?_
      rotate_left 2
      · (simp only [List.getElem?_toArray, List.getElem?_cons_zero, List.getElem?_cons_succ]; try rfl)
      · kernel_rfl
      · kernel_rfl
      · kernel_rfl
      · exact fun _ _ _ h => h
      · refine Or.inl ⟨by rfl, ?_⟩
        (intro V hSV; (try dsimp only at hSV); obtain ⟨q0, q1, q2, q3, q4, q5, q6⟩ := hSV; go_simp; try with_reducible rfl)
      (try simp only [Act.put, List.setIfInBounds_toArray, List.set_cons_zero, List.set_cons_succ])
      have HW5 := Lib.hid (below_then HBE.out H5.out)
      have k0 := (HW5.out.cell (p := ⟨g, k * 3, none⟩) hgz).trans HC.out.1
      have k1 := (HW5.out.cell (p := ⟨g, k * 3 + 1, none⟩) hgz).trans HC.out.2.1
      have k2 := (HW5.out.cell (p := ⟨g, k * 3 + 2, none⟩) hgz).trans HC.out.2.2
      have HG5 := HGB.out.below HW5.out
      have f0 := HG5.frozen (k * 3)
      have f1 := HG5.frozen (k * 3 + 1)
      have f2 := HG5.frozen (k * 3 + 2)
      have hnl : lb ≠ g := fun e => hgl e.symm
      have HLB := Lib.hid (Blk.of_block (HLB.out.below H5.out) (put3_other w5 g k ra rm (.slice A5 R.length c5) lb hnl))
      have BE := Lib.hid (Blk.of_block (BE.out.below H5.out) (put3_other w5 g k ra rm (.slice A5 R.length c5) wr.heap.size (by omega)))
      have BX := Lib.hid (Blk.of_block (BX.out.below H5.out) (put3_other w5 g k ra rm (.slice A5 R.length c5) w.heap.size (fun e => hgx e.symm)))
      refine wpAnyH_ready (rs := [12]) (by kernel_rfl) (by simp) ?_
      refine AllReadyH.cons rfl (fun K hK => ?_) AllReadyH.nil
      go_simp
      refine hK.out _ _ (by exact ⟨HLB.out.cell 0, BE.out.cell 0, BE.out.cell 1, BE.out.cell 2, BX.out.cell 0, BX.out.cell 1, BX.out.cell 2⟩) (fun hHeld => ?_)
      clear hK K
      (try simp only [Act.put, List.setIfInBounds_toArray, List.set_cons_zero, List.set_cons_succ])
      refine wpAnyH_done (by kernel_rfl) ?_ _
      obtain ⟨fq', how, hnd, hsub⟩ := edits_put (HQ.out.below HW5.out).ow HQ.out.nd k hk2 (g := g) (c := c) (by rw [HLEN.out]) ra rm HB4.out.1 HB4.out.2 HO5.out (fun q hq => by have h9 := HQ.out.lt q hq; omega)
      rw [← HMV.out, put_next _ k hlt] at how
      have hru := HO5.out.range
      have HQ' := Lib.hid (show Lb (put3 w5 g k ra rm (.slice A5 R.length c5)) B lb (.slice (some ⟨g, 0, none⟩) es.length c) ((es.take (k + 1)).map (mvE (a, m, p)) ++ es.drop (k + 1)) fq' from ⟨HLB.out, how, hnd, fun q hq => by
        rcases hsub q hq with h9 | h9
        · exact HQ.out.ne q h9
        · have := (hru q h9).1; omega, fun q hq => by
        have hB := HQ.out.hB
        rcases hsub q hq with h9 | h9
        · exact HQ.out.lo q h9
        · have := (hru q h9).1; omega, HQ.out.hB⟩)
      have HF' := Lib.hid (show ∀ q ∈ fq', q ∈ fp ∨ w.heap.size + 1 ≤ q from fun q hq => by
        rcases hsub q hq with h9 | h9
        · exact HF.out q h9
        · have := (hru q h9).1; right; omega)
      have HK' := Lib.hid (show Keeps fp W0 (put3 w5 g k ra rm (.slice A5 R.length c5)) from by
        have hgp : g ∈ fp := HOB.out g (by simp [Value.ownBlock])
        exact (((HK.out.trans (Keeps.of_below HW5.out)).set hgp (k * 3) _).set hgp (k * 3 + 1) _).set hgp (k * 3 + 2) _)
      clear how hnd hsub hru k0 k1 k2 f0 f1 f2 HG5
      go_wp2_with fail
      go_roundw
      case rel => exact ⟨k + 1, fq', by omega, by go_num, HQ', HF', HK'⟩
      case measure => simp [intOf]; omega
    · have e : k = es.length := by omega
      have hki : ¬ (k : Int) < (es.length : Int) := by omega
      subst e
      have h9 := HQ.out
      rw [List.take_length, List.drop_length, List.append_nil] at h9
      have H9 := Lib.hid h9
      clear h9 HQ
      go_wp2
      go_end0
      exact ⟨rfl, fq, H9.out, fun q hq => (HF.out q hq).imp id (fun h => by omega), hK0.out.trans HK.out⟩
end Go.Proofs.Ytdmmdbapkogdhaa

namespace Go.Proofs.Ytdmmdbapkogdhaa
open Go.RowKit P
set_option linter.unusedVariables false
set_option linter.unusedSimpArgs false
set_option maxRecDepth 100000

theorem mvE_bound {a m : Int} {p : List UInt8} {u : List Ed} (hx : edSmall a m p = true) (hu : stFit u = true) : ∀ e ∈ u, (-9223372036854775808 ≤ (mvE (a, m, p) e).1 ∧ (mvE (a, m, p) e).1 ≤ 9223372036854775807) ∧ (-9223372036854775808 ≤ (mvE (a, m, p) e).2.1 ∧ (mvE (a, m, p) e).2.1 ≤ 9223372036854775807) := by
  intro e he
  have h1 : edSmall e.1 e.2.1 e.2.2 = true := stFit_all hu e he
  have g1 := (edSmall_iff _ _ _).1 h1
  have g2 := (edSmall_iff _ _ _).1 hx
  have hk : moveOk e.1 e.2.1 e.2.2 a m p = true := by unfold moveOk; rw [h1, hx]; rfl
  show (_ ≤ moveA e.1 e.2.1 e.2.2 a m p ∧ moveA e.1 e.2.1 e.2.2 a m p ≤ _) ∧ (_ ≤ moveM e.1 e.2.1 e.2.2 a m p ∧ moveM e.1 e.2.1 e.2.2 a m p ≤ _)
  unfold moveA moveM
  rw [if_pos hk, if_pos hk]
  have hmv : ∀ x y : Int, 0 ≤ x → x ≤ 800 → 0 ≤ y → y ≤ 800 → -2000 ≤ mvTo x a m p.length y ∧ mvTo x a m p.length y ≤ 2000 := fun x y _ _ _ _ => by
    unfold mvTo
    split
    · omega
    · split <;> omega
  have v1 := hmv e.1 (a + p.length) (by omega) (by omega) (by omega) (by omega)
  have v2 := hmv (e.1 + e.2.1) a (by omega) (by omega) (by omega) (by omega)
  unfold spI spJ
  omega
theorem Two.bel0 {w w' : World} {B ub rb : Nat} {uv rv : Value} {u r : List Ed} {fu fr : List Nat} (h : Two w B ub rb uv u fu rv r fr) (b : Below w.heap.size w w') : Two w' B ub rb uv u fu rv r fr := ⟨h.u.below b, h.r.below b, h.ne, h.nu, h.nr, h.dis⟩
set_option maxHeartbeats 8000000 in
theorem moveCl_any (ub rb B9 h : Nat) (uv : Value) (u : List Ed) (fu : List Nat) (rv : Value) (r : List Ed) (fr : List Nat) (a m : Int) (P : Option Addr) (p : List UInt8) (ep : Nat) (W : World) (hp9 : p.length ≤ 9223372036854775807) (hu : stFit u = true) (hr : stFit r = true) (hx : edSmall a m p = true) (hE : Blk W h #[.int .i64 a, .int .i64 m, .slice P p.length ep] 30) (hhB : h < B9) (hT : Two W B9 ub rb uv u fu rv r fr) (hBW : B9 ≤ W.heap.size) :
    Calls Try.prog 128 #[.pointer (some ⟨ub, 0, none⟩), .pointer (some ⟨rb, 0, none⟩), .pointer (some ⟨h, 0, none⟩)] W (Changed W B9 ub rb (stOk (u.map (mvE (a, m, p))) (r.map (mvE (a, m, p)))) (u.map (mvE (a, m, p))) (r.map (mvE (a, m, p)))) := by
  unfold Changed stOk
  obtain ⟨U9, hU9⟩ : ∃ x, u.map (mvE (a, m, p)) = x := ⟨_, rfl⟩
  obtain ⟨R9, hR9⟩ : ∃ x, r.map (mvE (a, m, p)) = x := ⟨_, rfl⟩
  rw [hU9, hR9]
  have hlu9 : U9.length ≤ 6 := by rw [← hU9, List.length_map]; exact stFit_len hu
  have hlr9 : R9.length ≤ 6 := by rw [← hR9, List.length_map]; exact stFit_len hr
  have HU9 := Lib.hid hU9
  have HR9 := Lib.hid hR9
  clear hU9 hR9
  have hsu : ∀ e ∈ u, e.2.2.length ≤ 1000 := fun e he => by have h9 := (edSmall_iff _ _ _).1 (show edSmall e.1 e.2.1 e.2.2 = true from stFit_all hu e he); omega
  have hsr : ∀ e ∈ r, e.2.2.length ≤ 1000 := fun e he => by have h9 := (edSmall_iff _ _ _).1 (show edSmall e.1 e.2.1 e.2.2 = true from stFit_all hr e he); omega
  have hlu := stFit_len hu
  have hlr := stFit_len hr
  have HBR := Lib.hid (mvE_bound hx hr)
  have HSR := Lib.hid hsr
  have hd0 := (Below.refl W.heap.size W).drew
  have HD := Lib.hid hd0
  have HT := Lib.hid (hT.bel0 hd0)
  have HE := Lib.hid (hE.below hd0)
  have HMU := Lib.hid (move_any B9 ub uv u fu a m P p ep W.drew (by omega) hsu hp9 (mvE_bound hx hu) HT.out.u)
  have hBW1 : B9 ≤ W.drew.heap.size := by rw [World.size_drew]; exact hBW
  obtain ⟨z1, hz1⟩ : ∃ z, stFit U9 = z := ⟨_, rfl⟩
  obtain ⟨z2, hz2⟩ : ∃ z, stFit R9 = z := ⟨_, rfl⟩
  rw [hz1, hz2]
  have HZ1 := Lib.hid hz1
  have HZ2 := Lib.hid hz2
  have p0 : W.cell? ⟨h, 0, none⟩ = some (.int .i64 a) := hE.cell 0
  have p1 : W.cell? ⟨h, 1, none⟩ = some (.int .i64 m) := hE.cell 1
  have p2 : W.cell? ⟨h, 2, none⟩ = some (.slice P p.length ep) := hE.cell 2
  clear hE hT hsu hsr hu hr hx hz1 hz2 hd0
  go_enter Try.func128, Try.ntmps128
  go_upto_region 1 with fail
  refine wp_region_held_drew (S := (fun V => V.cell? ⟨h, 0, none⟩ = some (.int .i64 a) ∧ V.cell? ⟨h, 1, none⟩ = some (.int .i64 m) ∧ V.cell? ⟨h, 2, none⟩ = some (.slice P p.length ep))) (by kernel_rfl) (by exact ⟨p0, p1, p2⟩) (fun hHeld => ?_)
  clear p0 p1 p2
  refine wpAnyH_take (i := 0) (oi := ?_) (v := ?_) ?_ ?_ ?_ ?_ ?_ ?_ (by exact hHeld) ?_
  rotate_left 2
  · (simp only [List.getElem?_toArray, List.getElem?_cons_zero]; try rfl)
  · kernel_rfl
  · kernel_rfl
  · kernel_rfl
  · exact fun _ _ _ h => h
  · refine Or.inl ⟨by rfl, ?_⟩
    (intro V hSV; (try dsimp only at hSV); obtain ⟨q0, q1, q2⟩ := hSV; go_simp; try with_reducible rfl)
  (try simp only [Act.put, List.setIfInBounds_toArray, List.set_cons_zero, List.set_cons_succ])
  refine wpAnyH_take (i := 1) (oi := ?_) (v := ?_) ?_ ?_ ?_ ?_ ?_ ?_ (by exact hHeld) ?_
  rotate_left 2
  · (simp only [List.getElem?_toArray, List.getElem?_cons_zero, List.getElem?_cons_succ]; try rfl)
  · kernel_rfl
  · kernel_rfl
  · kernel_rfl
  · exact fun _ _ _ h => h
  · refine Or.inl ⟨by rfl, ?_⟩
    (intro V hSV; (try dsimp only at hSV); obtain ⟨q0, q1, q2⟩ := hSV; go_simp; try with_reducible rfl)
  (try simp only [Act.put, List.setIfInBounds_toArray, List.set_cons_zero, List.set_cons_succ])
  refine wpAnyH_take (i := 2) (oi := ?_) (v := ?_) ?_ ?_ ?_ ?_ ?_ ?_ (by exact hHeld) ?_
  rotate_left 2
  · (simp only [List.getElem?_toArray, List.getElem?_cons_zero, List.getElem?_cons_succ]; try rfl)
  · kernel_rfl
  · kernel_rfl
  · kernel_rfl
  · exact fun _ _ _ h => h
  · refine Or.inl ⟨by rfl, ?_⟩
    (intro V hSV; (try dsimp only at hSV); obtain ⟨q0, q1, q2⟩ := hSV; go_simp; try with_reducible rfl)
  (try simp only [Act.put, List.setIfInBounds_toArray, List.set_cons_zero, List.set_cons_succ])
  refine wpAnyH_take (i := 3) (oi := ?_) (v := ?_) ?_ ?_ ?_ ?_ ?_ ?_ (by exact hHeld) ?_
  rotate_left 2
  · (simp only [List.getElem?_toArray, List.getElem?_cons_zero, List.getElem?_cons_succ]; try rfl)
  · kernel_rfl
  · kernel_rfl
  · kernel_rfl
  · exact fun _ _ _ h => h
  · refine Or.inl ⟨by rfl, ?_⟩
    (intro V hSV; (try dsimp only at hSV); obtain ⟨q0, q1, q2⟩ := hSV; go_simp; try with_reducible rfl)
  (try simp only [Act.put, List.setIfInBounds_toArray, List.set_cons_zero, List.set_cons_succ])
  refine wpAnyH_ready (rs := [4]) (by kernel_rfl) (by simp) ?_
  refine AllReadyH.cons rfl (fun K hK => ?_) AllReadyH.nil
  go_simp
  refine (HMU.out).mono ?_
  rintro x w1 ⟨rfl, f1, hL1, hs1, hk1⟩
  rw [HU9.out] at hL1
  have hk1 := hk1.mono (fq := ub :: fu) (fun k hk => List.mem_cons_of_mem _ hk)
  have HT1 := Lib.hid (HT.out.upd hL1 hs1 hk1)
  have HB1 := Lib.hid (HT.out.bel hBW1 hk1)
  have HE1 := Lib.hid (HE.out.of_block (HB1.out.block h hhB))
  clear hL1 hs1 hk1 HMU
  go_wp2_with fail
  refine hK.out _ _ (by exact ⟨HE1.out.cell 0, HE1.out.cell 1, HE1.out.cell 2⟩) (fun hHeld => ?_)
  clear hK K
  (try simp only [Act.put, List.setIfInBounds_toArray, List.set_cons_zero, List.set_cons_succ])
  refine wpAnyH_done (by kernel_rfl) ?_ _
  have hd1 := (Below.refl w1.heap.size w1).drew
  have p0 : w1.cell? ⟨h, 0, none⟩ = some (.int .i64 a) := HE1.out.cell 0
  have p1 : w1.cell? ⟨h, 1, none⟩ = some (.int .i64 m) := HE1.out.cell 1
  have p2 : w1.cell? ⟨h, 2, none⟩ = some (.slice P p.length ep) := HE1.out.cell 2
  have HE1 := Lib.hid (HE1.out.below hd1)
  have HT1 := Lib.hid (HT1.out.bel0 hd1)
  have hBW2 : B9 ≤ w1.drew.heap.size := by rw [World.size_drew]; exact Nat.le_trans hBW1 HB1.out.size
  have HB1 := Lib.hid (show Below B9 W.drew w1.drew from HB1.out.drew)
  have HMR := Lib.hid (move_any B9 rb rv r fr a m P p ep w1.drew (by omega) HSR.out hp9 HBR.out HT1.out.r)
  clear hd1
  go_upto_region 2 with fail
  refine wp_region_held_drew (S := (fun V => V.cell? ⟨h, 0, none⟩ = some (.int .i64 a) ∧ V.cell? ⟨h, 1, none⟩ = some (.int .i64 m) ∧ V.cell? ⟨h, 2, none⟩ = some (.slice P p.length ep))) (by kernel_rfl) (by exact ⟨p0, p1, p2⟩) (fun hHeld => ?_)
  clear p0 p1 p2
  refine wpAnyH_take (i := 0) (oi := ?_) (v := ?_) ?_ ?_ ?_ ?_ ?_ ?_ (by exact hHeld) ?_
  rotate_left 2
  · (simp only [List.getElem?_toArray, List.getElem?_cons_zero]; try rfl)
  · kernel_rfl
  · kernel_rfl
  · kernel_rfl
  · exact fun _ _ _ h => h
  · refine Or.inl ⟨by rfl, ?_⟩
    (intro V hSV; (try dsimp only at hSV); obtain ⟨q0, q1, q2⟩ := hSV; go_simp; try with_reducible rfl)
  (try simp only [Act.put, List.setIfInBounds_toArray, List.set_cons_zero, List.set_cons_succ])
  refine wpAnyH_take (i := 1) (oi := ?_) (v := ?_) ?_ ?_ ?_ ?_ ?_ ?_ (by exact hHeld) ?_
  rotate_left 2
  · (simp only [List.getElem?_toArray, List.getElem?_cons_zero, List.getElem?_cons_succ]; try rfl)
  · kernel_rfl
  · kernel_rfl
  · kernel_rfl
  · exact fun _ _ _ h => h
  · refine Or.inl ⟨by rfl, ?_⟩
    (intro V hSV; (try dsimp only at hSV); obtain ⟨q0, q1, q2⟩ := hSV; go_simp; try with_reducible rfl)
  (try simp only [Act.put, List.setIfInBounds_toArray, List.set_cons_zero, List.set_cons_succ])
  refine wpAnyH_take (i := 2) (oi := ?_) (v := ?_) ?_ ?_ ?_ ?_ ?_ ?_ (by exact hHeld) ?_
  rotate_left 2
  · (simp only [List.getElem?_toArray, List.getElem?_cons_zero, List.getElem?_cons_succ]; try rfl)
  · kernel_rfl
  · kernel_rfl
  · kernel_rfl
  · exact fun _ _ _ h => h
  · refine Or.inl ⟨by rfl, ?_⟩
    (intro V hSV; (try dsimp only at hSV); obtain ⟨q0, q1, q2⟩ := hSV; go_simp; try with_reducible rfl)
  (try simp only [Act.put, List.setIfInBounds_toArray, List.set_cons_zero, List.set_cons_succ])
  refine wpAnyH_take (i := 3) (oi := ?_) (v := ?_) ?_ ?_ ?_ ?_ ?_ ?_ (by exact hHeld) ?_
  rotate_left 2
  · (simp only [List.getElem?_toArray, List.getElem?_cons_zero, List.getElem?_cons_succ]; try rfl)
  · kernel_rfl
  · kernel_rfl
  · kernel_rfl
  · exact fun _ _ _ h => h
  · refine Or.inl ⟨by rfl, ?_⟩
    (intro V hSV; (try dsimp only at hSV); obtain ⟨q0, q1, q2⟩ := hSV; go_simp; try with_reducible rfl)
  (try simp only [Act.put, List.setIfInBounds_toArray, List.set_cons_zero, List.set_cons_succ])
  refine wpAnyH_ready (rs := [4]) (by kernel_rfl) (by simp) ?_
  refine AllReadyH.cons rfl (fun K hK => ?_) AllReadyH.nil
  go_simp
  refine (HMR.out).mono ?_
  rintro x w2 ⟨rfl, f2, hL2, hs2, hk2⟩
  rw [HR9.out] at hL2
  have hk2 := hk2.mono (fq := rb :: fr) (fun k hk => List.mem_cons_of_mem _ hk)
  have HT2 := Lib.hid (HT1.out.symm.upd hL2 hs2 hk2).symm
  have hb12 := HT1.out.symm.bel hBW2 hk2
  have HE2 := Lib.hid (HE1.out.of_block (hb12.block h hhB))
  have HB2 := Lib.hid (show Below B9 W w2 from (HD.out.mono hBW).trans (HB1.out.trans hb12))
  clear hL2 hs2 hk2 HMR hb12
  go_wp2_with fail
  refine hK.out _ _ (by exact ⟨HE2.out.cell 0, HE2.out.cell 1, HE2.out.cell 2⟩) (fun hHeld => ?_)
  clear hK K
  (try simp only [Act.put, List.setIfInBounds_toArray, List.set_cons_zero, List.set_cons_succ])
  refine wpAnyH_done (by kernel_rfl) ?_ _
  clear HBR HSR HT HT1 HE HE1 HE2 HB1 HD
  obtain ⟨A3, c3, e3, hO3⟩ := HT2.out.u.form
  obtain ⟨A4, c4, e4, hO4⟩ := HT2.out.r.form
  subst e3 e4
  have HU3 := Lib.hid hO3.es
  have hz0 := HB2.out.size
  clear hO3 hO4
  have p0 : w2.cell? ⟨ub, 0, none⟩ = some (.slice A3 U9.length c3) := HT2.out.u.hd.cell 0
  go_wp2_with fail
  refine (fitsStack_any A3 U9 c3 _ (by omega) (by exact HU3.out)).mono ?_
  rintro e w3 ⟨rfl, hb⟩
  rw [HZ1.out]
  have HT3 := Lib.hid (HT2.out.bel0 hb)
  have HB3 := Lib.hid (HB2.out.trans (hb.mono (Nat.le_trans hBW hz0)))
  clear p0 hb HT2 HB2 HU3
  cases z1
  · go_wp2
    go_ret
    exact ⟨rfl, _, _, _, _, HT3.out, HB3.out⟩
  obtain ⟨A5, c5, e5, hO5⟩ := HT3.out.r.form
  have e6 : Value.slice A4 R9.length c4 = Value.slice A5 R9.length c5 := e5
  simp only [Value.slice.injEq] at e6
  have HR3 := Lib.hid (show Es w3 A4 R9 from by rw [e6.1]; exact hO5.es)
  have hz0 := HB3.out.size
  clear hO5 e5 e6
  have p0 : w3.cell? ⟨rb, 0, none⟩ = some (.slice A4 R9.length c4) := HT3.out.r.hd.cell 0
  go_wp2_with fail
  refine (fitsStack_any A4 R9 c4 _ (by omega) (by exact HR3.out)).mono ?_
  rintro e w4 ⟨rfl, hb⟩
  rw [HZ2.out]
  have HT4 := Lib.hid (HT3.out.bel0 hb)
  have HB4 := Lib.hid (HB3.out.trans (hb.mono (Nat.le_trans hBW hz0)))
  clear p0 hb HT3 HB3 HR3
  go_wp2
  go_ret
  exact ⟨rfl, _, _, _, _, HT4.out, HB4.out⟩

set_option maxHeartbeats 32000000 in
theorem changedMove_any (A : Option Addr) (u : List Ed) (c : Nat) (B : Option Addr) (r : List Ed) (d : Nat) (a m : Int) (P : Option Addr) (p : List UInt8) (ep : Nat) (h : Nat) (ok : Bool) (U R : List Ed) (w : World) (hu9 : u.length ≤ 9223372036854775807) (hr9 : r.length ≤ 9223372036854775807) (hp9 : p.length ≤ 9223372036854775807) (hU : Es w A u) (hR : Es w B r)
    (hno : (stOk u r && edSmall a m p) = true → ok = false → U = [] ∧ R = []) (hbad : (stOk u r && edSmall a m p) = false → ok = false ∧ U = [] ∧ R = [])
    (hch : ∀ (W : World) (ub rb : Nat) (B9 : Nat) (uv : Value) (fu : List Nat) (rv : Value) (fr : List Nat) (gp : (stOk u r && edSmall a m p) = true), Below w.heap.size w W → w.heap.size ≤ B9 → B9 ≤ W.heap.size → Two W B9 ub rb uv u fu rv r fr → Calls Try.prog 128 #[.pointer (some ⟨ub, 0, none⟩), .pointer (some ⟨rb, 0, none⟩), .pointer (some ⟨h, 0, none⟩)] W fun x W' => ∃ U' R', Changed W B9 ub rb ok U' R' x W' ∧ (ok = true → U' = U ∧ R' = R)) :
    Calls Try.prog 119 #[.agg #[.slice A u.length c, .slice B r.length d], .agg #[.int .i64 a, .int .i64 m, .slice P p.length ep], .func (.func 128) #[] #[.pointer (some ⟨h, 0, none⟩)]] w (GivesSt U R ok w) := by
  have hal := ((Below.refl w.heap.size w).alloc (Nat.le_refl _) (.cells #[.slice A u.length c, .slice B r.length d] 46)).alloc (by simp) (.cells #[.int .i64 a, .int .i64 m, .slice P p.length ep] 30)
  have hal3 := hal.alloc (by simp; omega) (.cells #[.slice none 0 0, .slice none 0 0] 46)
  have hbx := ((Blk.new w #[.slice A u.length c, .slice B r.length d] 46).alloc (.cells #[.int .i64 a, .int .i64 m, .slice P p.length ep] 30)).alloc (.cells #[.slice none 0 0, .slice none 0 0] 46)
  have hex := (Blk.new (w.alloc (.cells #[.slice A u.length c, .slice B r.length d] 46)) #[.int .i64 a, .int .i64 m, .slice P p.length ep] 30).alloc (.cells #[.slice none 0 0, .slice none 0 0] 46)
  have hrx := Blk.new ((w.alloc (.cells #[.slice A u.length c, .slice B r.length d] 46)).alloc (.cells #[.int .i64 a, .int .i64 m, .slice P p.length ep] 30)) #[.slice none 0 0, .slice none 0 0] 46
  simp only [World.size_alloc] at hex hrx
  have BX := Lib.hid hbx
  have EX := Lib.hid hex
  have RX := Lib.hid hrx
  have HB := Lib.hid hal3
  have hzw : (((w.alloc (.cells #[.slice A u.length c, .slice B r.length d] 46)).alloc (.cells #[.int .i64 a, .int .i64 m, .slice P p.length ep] 30)).alloc (.cells #[.slice none 0 0, .slice none 0 0] 46)).heap.size ≥ w.heap.size + 3 := by simp
  have HU := Lib.hid (show ∀ W, Below w.heap.size w W → Es W A u from fun W h => hU.below h)
  have HR := Lib.hid (show ∀ W, Below w.heap.size w W → Es W B r from fun W h => hR.below h)
  obtain ⟨y, hy⟩ : ∃ y, stOk u r = y := ⟨_, rfl⟩
  obtain ⟨z, hz⟩ : ∃ z, edSmall a m p = z := ⟨_, rfl⟩
  have HY := Lib.hid hy
  have HZ := Lib.hid hz
  have HNO := Lib.hid hno
  have HBAD := Lib.hid hbad
  have HCH := Lib.hid hch
  clear hy hz hal hal3 hbx hex hrx hU hR hno hbad hch
  go_enter Try.func119, Try.ntmps119
  have p0 := BX.out.cell 0
  have p1 := BX.out.cell 1
  have hU1 := HU.out _ HB.out
  have hR1 := HR.out _ HB.out
  go_wp2_with fail
  generalize ((w.alloc (.cells #[.slice A u.length c, .slice B r.length d] 46)).alloc (.cells #[.int .i64 a, .int .i64 m, .slice P p.length ep] 30)).alloc (.cells #[.slice none 0 0, .slice none 0 0] 46) = W0 at *
  refine (implStackOk_any A B u r c d _ hu9 hr9 hU1 hR1).mono ?_
  rintro x W1 ⟨rfl, hb⟩
  rw [HY.out]
  have BX := Lib.hid (BX.out.below hb)
  have EX := Lib.hid (EX.out.below hb)
  have RX := Lib.hid (RX.out.below hb)
  have HB := Lib.hid (below_then HB.out hb)
  have hzw := Nat.le_trans hzw hb.size
  clear p0 p1 hU1 hR1 hb
  cases y
  · obtain ⟨hok, hU0, hR0⟩ := HBAD.out (by rw [HY.out]; rfl)
    subst hok hU0 hR0
    have f0 := RX.out.frozen 0
    have f1 := RX.out.frozen 1
    have c0 := RX.out.cell 0
    have c1 := RX.out.cell 1
    have hltR := RX.out.lt
    go_wp2
    refine bodyPost_ret (v := .tuple #[.agg #[.slice none 0 0, .slice none 0 0], .bool false]) (by simp [results, Try.results119, go_sem, c0, c1]) rfl ?_
    exact ⟨none, 0, [], none, 0, [], rfl, ows_nil _ _, (HB.out.setCell (p := ⟨w.heap.size + 2, 0, none⟩) (by simp) _).setCell (p := ⟨w.heap.size + 2, 1, none⟩) (by simp) _⟩
  have p0 := EX.out.cell 0
  have p1 := EX.out.cell 1
  have p2 := EX.out.cell 2
  go_wp2_with fail
  refine (isSmall_any a m P p ep _ hp9).mono ?_
  rintro x W2 ⟨rfl, hb⟩
  rw [HZ.out]
  have BX := Lib.hid (BX.out.below hb)
  have EX := Lib.hid (EX.out.below hb)
  have RX := Lib.hid (RX.out.below hb)
  have HB := Lib.hid (below_then HB.out hb)
  have hzw := Nat.le_trans hzw hb.size
  clear p0 p1 p2 hb
  cases z
  · obtain ⟨hok, hU0, hR0⟩ := HBAD.out (by rw [HY.out, HZ.out]; rfl)
    subst hok hU0 hR0
    have f0 := RX.out.frozen 0
    have f1 := RX.out.frozen 1
    have c0 := RX.out.cell 0
    have c1 := RX.out.cell 1
    have hltR := RX.out.lt
    go_wp2
    refine bodyPost_ret (v := .tuple #[.agg #[.slice none 0 0, .slice none 0 0], .bool false]) (by simp [results, Try.results119, go_sem, c0, c1]) rfl ?_
    exact ⟨none, 0, [], none, 0, [], rfl, ows_nil _ _, (HB.out.setCell (p := ⟨w.heap.size + 2, 0, none⟩) (by simp) _).setCell (p := ⟨w.heap.size + 2, 1, none⟩) (by simp) _⟩
  have hgood : (stOk u r && edSmall a m p) = true := by rw [HY.out, HZ.out]; rfl
  have hfu : stFit u = true := by have h9 := HY.out; unfold stOk at h9; rw [Bool.and_eq_true] at h9; exact h9.1
  have hfr : stFit r = true := by have h9 := HY.out; unfold stOk at h9; rw [Bool.and_eq_true] at h9; exact h9.2
  have hlu := stFit_len hfu
  have hlr := stFit_len hfr
  have hsu : ∀ e ∈ u, e.2.2.length ≤ 1000 := fun e he => by have h9 := (edSmall_iff _ _ _).1 (show edSmall e.1 e.2.1 e.2.2 = true from stFit_all hfu e he); omega
  have hsr : ∀ e ∈ r, e.2.2.length ≤ 1000 := fun e he => by have h9 := (edSmall_iff _ _ _).1 (show edSmall e.1 e.2.1 e.2.2 = true from stFit_all hfr e he); omega
  have HG := Lib.hid hgood
  have HSU := Lib.hid hsu
  have HSR := Lib.hid hsr
  have zs := BX.out.lt
  have p0 := BX.out.cell 0
  have p1 := BX.out.cell 1
  clear hgood hfu hfr HBAD
  go_upto_region 3 with fail
  go_cut [8, 9] (fun x y wx => ∃ (b8 b9 : Nat) (A1 : Option Addr) (c1 : Nat) (f1 : List Nat) (A2 : Option Addr) (c2 : Nat) (f2 : List Nat), x = .pointer (some ⟨b8, 0, none⟩) ∧ y = .pointer (some ⟨b9, 0, none⟩) ∧ Sep4 W2 wx (It.own (.slice A1 u.length c1) u f1) (It.own (.slice A2 r.length c2) r f2) (It.blk b8 (.slice A1 u.length c1)) (It.blk b9 (.slice A2 r.length c2)))
  case first =>
    refine wp_region_noPanic ?_
    refine wp_region_held_drew (S := fun V => V.cell? ⟨w.heap.size, 0, none⟩ = some (.slice A u.length c) ∧ V.cell? ⟨w.heap.size, 1, none⟩ = some (.slice B r.length d)) (by kernel_rfl) ⟨p0, p1⟩ (fun hHeld => ?_)
    have HE0 : Hid (Sep4 W2 W2.drew It.emp It.emp It.emp It.emp) := Lib.hid (Sep4.new W2)
    refine wpAnyH_take (i := 0) (oi := ?_) (v := ?_) ?_ ?_ ?_ ?_ ?_ ?_ (by exact hHeld) ?_
    rotate_left 2
    · (simp only [List.getElem?_toArray, List.getElem?_cons_zero]; try rfl)
    · kernel_rfl
    · kernel_rfl
    · kernel_rfl
    · exact fun _ _ _ h => h
    · refine Or.inl ⟨by rfl, ?_⟩
      (intro V hSV; (try dsimp only at hSV); obtain ⟨q0, q1⟩ := hSV; go_simp; try with_reducible rfl)
    (try simp only [Act.put, List.setIfInBounds_toArray, List.set_cons_zero, List.set_cons_succ])
    refine wpAnyH_take (i := 1) (oi := ?_) (v := ?_) ?_ ?_ ?_ ?_ ?_ ?_ (by exact hHeld) ?_
    rotate_left 2
    · (simp only [List.getElem?_toArray, List.getElem?_cons_zero, List.getElem?_cons_succ]; try rfl)
    · kernel_rfl
    · kernel_rfl
    · kernel_rfl
    · exact fun _ _ _ h => h
    · refine Or.inl ⟨by rfl, ?_⟩
      (intro V hSV; (try dsimp only at hSV); obtain ⟨q0, q1⟩ := hSV; go_simp; try with_reducible rfl)
    (try simp only [Act.put, List.setIfInBounds_toArray, List.set_cons_zero, List.set_cons_succ])
    refine wpAnyH_take (i := 3) (oi := ?_) (v := ?_) ?_ ?_ ?_ ?_ ?_ ?_ (by exact hHeld) ?_
    rotate_left 2
    · (simp only [List.getElem?_toArray, List.getElem?_cons_zero, List.getElem?_cons_succ]; try rfl)
    · kernel_rfl
    · kernel_rfl
    · kernel_rfl
    · exact fun _ _ _ h => h
    · refine Or.inl ⟨by rfl, ?_⟩
      (intro V hSV; (try dsimp only at hSV); obtain ⟨q0, q1⟩ := hSV; go_simp; try with_reducible rfl)
    (try simp only [Act.put, List.setIfInBounds_toArray, List.set_cons_zero, List.set_cons_succ])
    refine wpAnyH_take (i := 4) (oi := ?_) (v := ?_) ?_ ?_ ?_ ?_ ?_ ?_ (by exact hHeld) ?_
    rotate_left 2
    · (simp only [List.getElem?_toArray, List.getElem?_cons_zero, List.getElem?_cons_succ]; try rfl)
    · kernel_rfl
    · kernel_rfl
    · kernel_rfl
    · exact fun _ _ _ h => h
    · refine Or.inl ⟨by rfl, ?_⟩
      (intro V hSV; (try dsimp only at hSV); obtain ⟨q0, q1⟩ := hSV; go_simp; try with_reducible rfl)
    (try simp only [Act.put, List.setIfInBounds_toArray, List.set_cons_zero, List.set_cons_succ])
    generalize W2.drew = Y0 at *
    refine wpAnyH_ready (rs := [2, 6, 7]) (by kernel_rfl) (by simp) ?_
    refine AllReadyH.cons (o := ?_) ?_ (fun K hK => ?_) ?_
    rotate_left 1
    · (simp only [List.getElem?_toArray, List.getElem?_cons_zero, List.getElem?_cons_succ]; try rfl)
    · go_simp
      refine (newEditStack_any A u c _ (by omega) hsu (HU.out _ (below_then HB.out HE0.out.bel))).mono ?_
      rintro e Y1 ⟨v1, f1, rfl, ho1, hn1, hl1, hb1⟩
      obtain ⟨A1, c1, e1, _, _, _⟩ := Lay.edits.read ho1
      simp only [List.cons.injEq, and_true] at e1
      subst e1
      have HE1 := Lib.hid ((HE0.out.fresh (a := It.own (.slice A1 u.length c1) u f1) hb1 ⟨ho1, hn1⟩ hl1))
      clear ho1 hn1 hl1 hb1
      go_wp2_with fail
      refine hK.out _ _ ⟨(HE1.out.bel.cell (p := ⟨w.heap.size, 0, none⟩) zs).trans p0, (HE1.out.bel.cell (p := ⟨w.heap.size, 1, none⟩) zs).trans p1⟩ (fun hHeld => ?_)
      clear hK K
      (try simp only [Act.put, List.setIfInBounds_toArray, List.set_cons_zero, List.set_cons_succ])
      refine wpAnyH_ready (rs := [5, 6, 7]) (by kernel_rfl) (by simp) ?_
      refine AllReadyH.cons (o := ?_) ?_ (fun K hK => ?_) ?_
      rotate_left 1
      · (simp only [List.getElem?_toArray, List.getElem?_cons_zero, List.getElem?_cons_succ]; try rfl)
      · go_simp
        refine (newEditStack_any B r d _ (by omega) hsr (HR.out _ (below_then HB.out HE1.out.bel))).mono ?_
        rintro e Y2 ⟨v2, f2, rfl, ho2, hn2, hl2, hb2⟩
        obtain ⟨A2, c2, e2, _, _, _⟩ := Lay.edits.read ho2
        simp only [List.cons.injEq, and_true] at e2
        subst e2
        have HE2 := Lib.hid ((HE1.out.rot.fresh (a := It.own (.slice A2 r.length c2) r f2) hb2 ⟨ho2, hn2⟩ hl2).rot.rot.rot)
        clear ho2 hn2 hl2 hb2
        go_wp2_with fail
        refine hK.out _ _ ⟨(HE2.out.bel.cell (p := ⟨w.heap.size, 0, none⟩) zs).trans p0, (HE2.out.bel.cell (p := ⟨w.heap.size, 1, none⟩) zs).trans p1⟩ (fun hHeld => ?_)
        clear hK K
        (try simp only [Act.put, List.setIfInBounds_toArray, List.set_cons_zero, List.set_cons_succ])
        refine wpAnyH_ready (rs := [6, 7]) (by kernel_rfl) (by simp) ?_
        refine AllReadyH.cons (o := ?_) ?_ (fun K hK => ?_) ?_
        rotate_left 1
        · (simp only [List.getElem?_toArray, List.getElem?_cons_zero, List.getElem?_cons_succ]; try rfl)
        · have HE3 := Lib.hid ((HE2.out.rot.rot.fresh (a := It.blk Y2.heap.size (.slice none 0 0)) ((Below.refl Y2.heap.size Y2).alloc (Nat.le_refl _) (.cells #[.slice none 0 0] 139)) (Blk.new Y2 _ _) (fun k hk => by simp [It.blk] at hk; omega)).rot.rot)
          have hz3 := HE2.out.bel.size
          go_simp
          generalize Y2.alloc (.cells #[.slice none 0 0] 139) = Y3 at *
          refine hK.out _ _ ⟨(HE3.out.bel.cell (p := ⟨w.heap.size, 0, none⟩) zs).trans p0, (HE3.out.bel.cell (p := ⟨w.heap.size, 1, none⟩) zs).trans p1⟩ (fun hHeld => ?_)
          clear hK K
          (try simp only [Act.put, List.setIfInBounds_toArray, List.set_cons_zero, List.set_cons_succ])
          refine wpAnyH_ready (rs := [7]) (by kernel_rfl) (by simp) ?_
          refine AllReadyH.cons (o := ?_) ?_ (fun K hK => ?_) AllReadyH.nil
          rotate_left 1
          · (simp only [List.getElem?_toArray, List.getElem?_cons_zero, List.getElem?_cons_succ]; try rfl)
          have HE4 := Lib.hid ((HE3.out.rot.rot.rot.fresh (a := It.blk Y3.heap.size (.slice none 0 0)) ((Below.refl Y3.heap.size Y3).alloc (Nat.le_refl _) (.cells #[.slice none 0 0] 139)) (Blk.new Y3 _ _) (fun k hk => by simp [It.blk] at hk; omega)).rot)
          have hz4 := HE3.out.bel.size
          go_simp
          generalize Y3.alloc (.cells #[.slice none 0 0] 139) = Y4 at *
          refine hK.out _ _ ⟨(HE4.out.bel.cell (p := ⟨w.heap.size, 0, none⟩) zs).trans p0, (HE4.out.bel.cell (p := ⟨w.heap.size, 1, none⟩) zs).trans p1⟩ (fun hHeld => ?_)
          clear hK K
          (try simp only [Act.put, List.setIfInBounds_toArray, List.set_cons_zero, List.set_cons_succ])
          refine wpAnyH_ready (rs := [8]) (by kernel_rfl) (by simp) ?_
          refine AllReadyH.cons (o := ?_) ?_ (fun K hK => ?_) AllReadyH.nil
          rotate_left 1
          · (simp only [List.getElem?_toArray, List.getElem?_cons_zero, List.getElem?_cons_succ]; try rfl)
          have qb := HE4.out.p.2.2.1
          have qc := Blk.cell (show Blk Y4 (Y2.heap.size) #[.slice none 0 0] 139 from qb) 0
          have qf := Blk.frozen (show Blk Y4 (Y2.heap.size) #[.slice none 0 0] 139 from qb) 0
          have HE5 := Lib.hid ((HE4.out.rot.rot.upd (a' := It.blk (Y2.heap.size) (.slice A1 u.length c1)) ((Keeps.refl [Y2.heap.size] Y4).set (List.mem_singleton.2 rfl) 0 (.slice A1 u.length c1)) (show Blk _ _ _ _ by simpa using (show Blk Y4 (Y2.heap.size) #[.slice none 0 0] 139 from qb).set 0 (.slice A1 u.length c1)) (fun k hk => hk)).rot.rot)
          go_simp
          clear qb qc qf
          generalize Y4.setCell ⟨Y2.heap.size, 0, none⟩ (.slice A1 u.length c1) = Y5 at *
          refine hK.out _ _ ⟨(HE5.out.bel.cell (p := ⟨w.heap.size, 0, none⟩) zs).trans p0, (HE5.out.bel.cell (p := ⟨w.heap.size, 1, none⟩) zs).trans p1⟩ (fun hHeld => ?_)
          clear hK K
          (try simp only [Act.put, List.setIfInBounds_toArray, List.set_cons_zero, List.set_cons_succ])
          refine wpAnyH_ready (rs := [9]) (by kernel_rfl) (by simp) ?_
          refine AllReadyH.cons (o := ?_) ?_ (fun K hK => ?_) AllReadyH.nil
          rotate_left 1
          · (simp only [List.getElem?_toArray, List.getElem?_cons_zero, List.getElem?_cons_succ]; try rfl)
          have qb := HE5.out.p.2.2.2
          have qc := Blk.cell (show Blk Y5 (Y3.heap.size) #[.slice none 0 0] 139 from qb) 0
          have qf := Blk.frozen (show Blk Y5 (Y3.heap.size) #[.slice none 0 0] 139 from qb) 0
          have HE6 := Lib.hid ((HE5.out.rot.rot.rot.upd (a' := It.blk (Y3.heap.size) (.slice A2 r.length c2)) ((Keeps.refl [Y3.heap.size] Y5).set (List.mem_singleton.2 rfl) 0 (.slice A2 r.length c2)) (show Blk _ _ _ _ by simpa using (show Blk Y5 (Y3.heap.size) #[.slice none 0 0] 139 from qb).set 0 (.slice A2 r.length c2)) (fun k hk => hk)).rot)
          go_simp
          clear qb qc qf
          generalize Y5.setCell ⟨Y3.heap.size, 0, none⟩ (.slice A2 r.length c2) = Y6 at *
          refine hK.out _ _ ⟨(HE6.out.bel.cell (p := ⟨w.heap.size, 0, none⟩) zs).trans p0, (HE6.out.bel.cell (p := ⟨w.heap.size, 1, none⟩) zs).trans p1⟩ (fun hHeld => ?_)
          clear hK K
          (try simp only [Act.put, List.setIfInBounds_toArray, List.set_cons_zero, List.set_cons_succ])
          refine wpAnyH_done (by kernel_rfl) ?_ _
          refine NoPanic.normal ?_
          go_wp2_with fail
          go_meet
          exact ⟨_, _, A1, c1, f1, A2, c2, f2, rfl, rfl, HE6.out⟩
        refine AllReadyH.cons (o := ?_) ?_ (fun K hK => ?_) AllReadyH.nil
        rotate_left 1
        · (simp only [List.getElem?_toArray, List.getElem?_cons_zero, List.getElem?_cons_succ]; try rfl)
        have HE7 := Lib.hid ((HE2.out.rot.rot.rot.fresh (a := It.blk Y2.heap.size (.slice none 0 0)) ((Below.refl Y2.heap.size Y2).alloc (Nat.le_refl _) (.cells #[.slice none 0 0] 139)) (Blk.new Y2 _ _) (fun k hk => by simp [It.blk] at hk; omega)).rot)
        have hz7 := HE2.out.bel.size
        go_simp
        generalize Y2.alloc (.cells #[.slice none 0 0] 139) = Y7 at *
        refine hK.out _ _ ⟨(HE7.out.bel.cell (p := ⟨w.heap.size, 0, none⟩) zs).trans p0, (HE7.out.bel.cell (p := ⟨w.heap.size, 1, none⟩) zs).trans p1⟩ (fun hHeld => ?_)
        clear hK K
        (try simp only [Act.put, List.setIfInBounds_toArray, List.set_cons_zero, List.set_cons_succ])
        refine wpAnyH_ready (rs := [6]) (by kernel_rfl) (by simp) ?_
        refine AllReadyH.cons (o := ?_) ?_ (fun K hK => ?_) AllReadyH.nil
        rotate_left 1
        · (simp only [List.getElem?_toArray, List.getElem?_cons_zero, List.getElem?_cons_succ]; try rfl)
        have HE8 := Lib.hid ((HE7.out.rot.rot.fresh (a := It.blk Y7.heap.size (.slice none 0 0)) ((Below.refl Y7.heap.size Y7).alloc (Nat.le_refl _) (.cells #[.slice none 0 0] 139)) (Blk.new Y7 _ _) (fun k hk => by simp [It.blk] at hk; omega)).rot.rot)
        have hz8 := HE7.out.bel.size
        go_simp
        generalize Y7.alloc (.cells #[.slice none 0 0] 139) = Y8 at *
        refine hK.out _ _ ⟨(HE8.out.bel.cell (p := ⟨w.heap.size, 0, none⟩) zs).trans p0, (HE8.out.bel.cell (p := ⟨w.heap.size, 1, none⟩) zs).trans p1⟩ (fun hHeld => ?_)
        clear hK K
        (try simp only [Act.put, List.setIfInBounds_toArray, List.set_cons_zero, List.set_cons_succ])
        refine wpAnyH_ready (rs := [8]) (by kernel_rfl) (by simp) ?_
        refine AllReadyH.cons (o := ?_) ?_ (fun K hK => ?_) AllReadyH.nil
        rotate_left 1
        · (simp only [List.getElem?_toArray, List.getElem?_cons_zero, List.getElem?_cons_succ]; try rfl)
        have qb := HE8.out.p.2.2.1
        have qc := Blk.cell (show Blk Y8 (Y7.heap.size) #[.slice none 0 0] 139 from qb) 0
        have qf := Blk.frozen (show Blk Y8 (Y7.heap.size) #[.slice none 0 0] 139 from qb) 0
        have HE9 := Lib.hid ((HE8.out.rot.rot.upd (a' := It.blk (Y7.heap.size) (.slice A1 u.length c1)) ((Keeps.refl [Y7.heap.size] Y8).set (List.mem_singleton.2 rfl) 0 (.slice A1 u.length c1)) (show Blk _ _ _ _ by simpa using (show Blk Y8 (Y7.heap.size) #[.slice none 0 0] 139 from qb).set 0 (.slice A1 u.length c1)) (fun k hk => hk)).rot.rot)
        go_simp
        clear qb qc qf
        generalize Y8.setCell ⟨Y7.heap.size, 0, none⟩ (.slice A1 u.length c1) = Y9 at *
        refine hK.out _ _ ⟨(HE9.out.bel.cell (p := ⟨w.heap.size, 0, none⟩) zs).trans p0, (HE9.out.bel.cell (p := ⟨w.heap.size, 1, none⟩) zs).trans p1⟩ (fun hHeld => ?_)
        clear hK K
        (try simp only [Act.put, List.setIfInBounds_toArray, List.set_cons_zero, List.set_cons_succ])
        refine wpAnyH_ready (rs := [9]) (by kernel_rfl) (by simp) ?_
        refine AllReadyH.cons (o := ?_) ?_ (fun K hK => ?_) AllReadyH.nil
        rotate_left 1
        · (simp only [List.getElem?_toArray, List.getElem?_cons_zero, List.getElem?_cons_succ]; try rfl)
        have qb := HE9.out.p.2.2.2
        have qc := Blk.cell (show Blk Y9 (Y2.heap.size) #[.slice none 0 0] 139 from qb) 0
        have qf := Blk.frozen (show Blk Y9 (Y2.heap.size) #[.slice none 0 0] 139 from qb) 0
        have HE10 := Lib.hid ((HE9.out.rot.rot.rot.upd (a' := It.blk (Y2.heap.size) (.slice A2 r.length c2)) ((Keeps.refl [Y2.heap.size] Y9).set (List.mem_singleton.2 rfl) 0 (.slice A2 r.length c2)) (show Blk _ _ _ _ by simpa using (show Blk Y9 (Y2.heap.size) #[.slice none 0 0] 139 from qb).set 0 (.slice A2 r.length c2)) (fun k hk => hk)).rot)
        go_simp
        clear qb qc qf
        generalize Y9.setCell ⟨Y2.heap.size, 0, none⟩ (.slice A2 r.length c2) = Y10 at *
        refine hK.out _ _ ⟨(HE10.out.bel.cell (p := ⟨w.heap.size, 0, none⟩) zs).trans p0, (HE10.out.bel.cell (p := ⟨w.heap.size, 1, none⟩) zs).trans p1⟩ (fun hHeld => ?_)
        clear hK K
        (try simp only [Act.put, List.setIfInBounds_toArray, List.set_cons_zero, List.set_cons_succ])
        refine wpAnyH_done (by kernel_rfl) ?_ _
        refine NoPanic.normal ?_
        go_wp2_with fail
        go_meet
        exact ⟨_, _, A1, c1, f1, A2, c2, f2, rfl, rfl, HE10.out⟩
      refine AllReadyH.cons (o := ?_) ?_ (fun K hK => ?_) ?_
      rotate_left 1
      · (simp only [List.getElem?_toArray, List.getElem?_cons_zero, List.getElem?_cons_succ]; try rfl)
      · have HE11 := Lib.hid ((HE1.out.rot.rot.fresh (a := It.blk Y1.heap.size (.slice none 0 0)) ((Below.refl Y1.heap.size Y1).alloc (Nat.le_refl _) (.cells #[.slice none 0 0] 139)) (Blk.new Y1 _ _) (fun k hk => by simp [It.blk] at hk; omega)).rot.rot)
        have hz11 := HE1.out.bel.size
        go_simp
        generalize Y1.alloc (.cells #[.slice none 0 0] 139) = Y11 at *
        refine hK.out _ _ ⟨(HE11.out.bel.cell (p := ⟨w.heap.size, 0, none⟩) zs).trans p0, (HE11.out.bel.cell (p := ⟨w.heap.size, 1, none⟩) zs).trans p1⟩ (fun hHeld => ?_)
        clear hK K
        (try simp only [Act.put, List.setIfInBounds_toArray, List.set_cons_zero, List.set_cons_succ])
        refine wpAnyH_ready (rs := [5, 7]) (by kernel_rfl) (by simp) ?_
        refine AllReadyH.cons (o := ?_) ?_ (fun K hK => ?_) ?_
        rotate_left 1
        · (simp only [List.getElem?_toArray, List.getElem?_cons_zero, List.getElem?_cons_succ]; try rfl)
        · go_simp
          refine (newEditStack_any B r d _ (by omega) hsr (HR.out _ (below_then HB.out HE11.out.bel))).mono ?_
          rintro e Y12 ⟨v12, f12, rfl, ho12, hn12, hl12, hb12⟩
          obtain ⟨A12, c12, e12, _, _, _⟩ := Lay.edits.read ho12
          simp only [List.cons.injEq, and_true] at e12
          subst e12
          have HE12 := Lib.hid ((HE11.out.rot.fresh (a := It.own (.slice A12 r.length c12) r f12) hb12 ⟨ho12, hn12⟩ hl12).rot.rot.rot)
          clear ho12 hn12 hl12 hb12
          go_wp2_with fail
          refine hK.out _ _ ⟨(HE12.out.bel.cell (p := ⟨w.heap.size, 0, none⟩) zs).trans p0, (HE12.out.bel.cell (p := ⟨w.heap.size, 1, none⟩) zs).trans p1⟩ (fun hHeld => ?_)
          clear hK K
          (try simp only [Act.put, List.setIfInBounds_toArray, List.set_cons_zero, List.set_cons_succ])
          refine wpAnyH_ready (rs := [7]) (by kernel_rfl) (by simp) ?_
          refine AllReadyH.cons (o := ?_) ?_ (fun K hK => ?_) AllReadyH.nil
          rotate_left 1
          · (simp only [List.getElem?_toArray, List.getElem?_cons_zero, List.getElem?_cons_succ]; try rfl)
          have HE13 := Lib.hid ((HE12.out.rot.rot.rot.fresh (a := It.blk Y12.heap.size (.slice none 0 0)) ((Below.refl Y12.heap.size Y12).alloc (Nat.le_refl _) (.cells #[.slice none 0 0] 139)) (Blk.new Y12 _ _) (fun k hk => by simp [It.blk] at hk; omega)).rot)
          have hz13 := HE12.out.bel.size
          go_simp
          generalize Y12.alloc (.cells #[.slice none 0 0] 139) = Y13 at *
          refine hK.out _ _ ⟨(HE13.out.bel.cell (p := ⟨w.heap.size, 0, none⟩) zs).trans p0, (HE13.out.bel.cell (p := ⟨w.heap.size, 1, none⟩) zs).trans p1⟩ (fun hHeld => ?_)
          clear hK K
          (try simp only [Act.put, List.setIfInBounds_toArray, List.set_cons_zero, List.set_cons_succ])
          refine wpAnyH_ready (rs := [8]) (by kernel_rfl) (by simp) ?_
          refine AllReadyH.cons (o := ?_) ?_ (fun K hK => ?_) AllReadyH.nil
          rotate_left 1
          · (simp only [List.getElem?_toArray, List.getElem?_cons_zero, List.getElem?_cons_succ]; try rfl)
          have qb := HE13.out.p.2.2.1
          have qc := Blk.cell (show Blk Y13 (Y1.heap.size) #[.slice none 0 0] 139 from qb) 0
          have qf := Blk.frozen (show Blk Y13 (Y1.heap.size) #[.slice none 0 0] 139 from qb) 0
          have HE14 := Lib.hid ((HE13.out.rot.rot.upd (a' := It.blk (Y1.heap.size) (.slice A1 u.length c1)) ((Keeps.refl [Y1.heap.size] Y13).set (List.mem_singleton.2 rfl) 0 (.slice A1 u.length c1)) (show Blk _ _ _ _ by simpa using (show Blk Y13 (Y1.heap.size) #[.slice none 0 0] 139 from qb).set 0 (.slice A1 u.length c1)) (fun k hk => hk)).rot.rot)
          go_simp
          clear qb qc qf
          generalize Y13.setCell ⟨Y1.heap.size, 0, none⟩ (.slice A1 u.length c1) = Y14 at *
          refine hK.out _ _ ⟨(HE14.out.bel.cell (p := ⟨w.heap.size, 0, none⟩) zs).trans p0, (HE14.out.bel.cell (p := ⟨w.heap.size, 1, none⟩) zs).trans p1⟩ (fun hHeld => ?_)
          clear hK K
          (try simp only [Act.put, List.setIfInBounds_toArray, List.set_cons_zero, List.set_cons_succ])
          refine wpAnyH_ready (rs := [9]) (by kernel_rfl) (by simp) ?_
          refine AllReadyH.cons (o := ?_) ?_ (fun K hK => ?_) AllReadyH.nil
          rotate_left 1
          · (simp only [List.getElem?_toArray, List.getElem?_cons_zero, List.getElem?_cons_succ]; try rfl)
          have qb := HE14.out.p.2.2.2
          have qc := Blk.cell (show Blk Y14 (Y12.heap.size) #[.slice none 0 0] 139 from qb) 0
          have qf := Blk.frozen (show Blk Y14 (Y12.heap.size) #[.slice none 0 0] 139 from qb) 0
          have HE15 := Lib.hid ((HE14.out.rot.rot.rot.upd (a' := It.blk (Y12.heap.size) (.slice A12 r.length c12)) ((Keeps.refl [Y12.heap.size] Y14).set (List.mem_singleton.2 rfl) 0 (.slice A12 r.length c12)) (show Blk _ _ _ _ by simpa using (show Blk Y14 (Y12.heap.size) #[.slice none 0 0] 139 from qb).set 0 (.slice A12 r.length c12)) (fun k hk => hk)).rot)
          go_simp
          clear qb qc qf
          generalize Y14.setCell ⟨Y12.heap.size, 0, none⟩ (.slice A12 r.length c12) = Y15 at *
          refine hK.out _ _ ⟨(HE15.out.bel.cell (p := ⟨w.heap.size, 0, none⟩) zs).trans p0, (HE15.out.bel.cell (p := ⟨w.heap.size, 1, none⟩) zs).trans p1⟩ (fun hHeld => ?_)
          clear hK K
          (try simp only [Act.put, List.setIfInBounds_toArray, List.set_cons_zero, List.set_cons_succ])
          refine wpAnyH_done (by kernel_rfl) ?_ _
          refine NoPanic.normal ?_
          go_wp2_with fail
          go_meet
          exact ⟨_, _, A1, c1, f1, A12, c12, f12, rfl, rfl, HE15.out⟩
        refine AllReadyH.cons (o := ?_) ?_ (fun K hK => ?_) AllReadyH.nil
        rotate_left 1
        · (simp only [List.getElem?_toArray, List.getElem?_cons_zero, List.getElem?_cons_succ]; try rfl)
        have HE16 := Lib.hid ((HE11.out.rot.rot.rot.fresh (a := It.blk Y11.heap.size (.slice none 0 0)) ((Below.refl Y11.heap.size Y11).alloc (Nat.le_refl _) (.cells #[.slice none 0 0] 139)) (Blk.new Y11 _ _) (fun k hk => by simp [It.blk] at hk; omega)).rot)
        have hz16 := HE11.out.bel.size
        go_simp
        generalize Y11.alloc (.cells #[.slice none 0 0] 139) = Y16 at *
        refine hK.out _ _ ⟨(HE16.out.bel.cell (p := ⟨w.heap.size, 0, none⟩) zs).trans p0, (HE16.out.bel.cell (p := ⟨w.heap.size, 1, none⟩) zs).trans p1⟩ (fun hHeld => ?_)
        clear hK K
        (try simp only [Act.put, List.setIfInBounds_toArray, List.set_cons_zero, List.set_cons_succ])
        refine wpAnyH_ready (rs := [5]) (by kernel_rfl) (by simp) ?_
        refine AllReadyH.cons (o := ?_) ?_ (fun K hK => ?_) AllReadyH.nil
        rotate_left 1
        · (simp only [List.getElem?_toArray, List.getElem?_cons_zero, List.getElem?_cons_succ]; try rfl)
        go_simp
        refine (newEditStack_any B r d _ (by omega) hsr (HR.out _ (below_then HB.out HE16.out.bel))).mono ?_
        rintro e Y17 ⟨v17, f17, rfl, ho17, hn17, hl17, hb17⟩
        obtain ⟨A17, c17, e17, _, _, _⟩ := Lay.edits.read ho17
        simp only [List.cons.injEq, and_true] at e17
        subst e17
        have HE17 := Lib.hid ((HE16.out.rot.fresh (a := It.own (.slice A17 r.length c17) r f17) hb17 ⟨ho17, hn17⟩ hl17).rot.rot.rot)
        clear ho17 hn17 hl17 hb17
        go_wp2_with fail
        refine hK.out _ _ ⟨(HE17.out.bel.cell (p := ⟨w.heap.size, 0, none⟩) zs).trans p0, (HE17.out.bel.cell (p := ⟨w.heap.size, 1, none⟩) zs).trans p1⟩ (fun hHeld => ?_)
        clear hK K
        (try simp only [Act.put, List.setIfInBounds_toArray, List.set_cons_zero, List.set_cons_succ])
        refine wpAnyH_ready (rs := [8]) (by kernel_rfl) (by simp) ?_
        refine AllReadyH.cons (o := ?_) ?_ (fun K hK => ?_) AllReadyH.nil
        rotate_left 1
        · (simp only [List.getElem?_toArray, List.getElem?_cons_zero, List.getElem?_cons_succ]; try rfl)
        have qb := HE17.out.p.2.2.1
        have qc := Blk.cell (show Blk Y17 (Y1.heap.size) #[.slice none 0 0] 139 from qb) 0
        have qf := Blk.frozen (show Blk Y17 (Y1.heap.size) #[.slice none 0 0] 139 from qb) 0
        have HE18 := Lib.hid ((HE17.out.rot.rot.upd (a' := It.blk (Y1.heap.size) (.slice A1 u.length c1)) ((Keeps.refl [Y1.heap.size] Y17).set (List.mem_singleton.2 rfl) 0 (.slice A1 u.length c1)) (show Blk _ _ _ _ by simpa using (show Blk Y17 (Y1.heap.size) #[.slice none 0 0] 139 from qb).set 0 (.slice A1 u.length c1)) (fun k hk => hk)).rot.rot)
        go_simp
        clear qb qc qf
        generalize Y17.setCell ⟨Y1.heap.size, 0, none⟩ (.slice A1 u.length c1) = Y18 at *
        refine hK.out _ _ ⟨(HE18.out.bel.cell (p := ⟨w.heap.size, 0, none⟩) zs).trans p0, (HE18.out.bel.cell (p := ⟨w.heap.size, 1, none⟩) zs).trans p1⟩ (fun hHeld => ?_)
        clear hK K
        (try simp only [Act.put, List.setIfInBounds_toArray, List.set_cons_zero, List.set_cons_succ])
        refine wpAnyH_ready (rs := [9]) (by kernel_rfl) (by simp) ?_
        refine AllReadyH.cons (o := ?_) ?_ (fun K hK => ?_) AllReadyH.nil
        rotate_left 1
        · (simp only [List.getElem?_toArray, List.getElem?_cons_zero, List.getElem?_cons_succ]; try rfl)
        have qb := HE18.out.p.2.2.2
        have qc := Blk.cell (show Blk Y18 (Y11.heap.size) #[.slice none 0 0] 139 from qb) 0
        have qf := Blk.frozen (show Blk Y18 (Y11.heap.size) #[.slice none 0 0] 139 from qb) 0
        have HE19 := Lib.hid ((HE18.out.rot.rot.rot.upd (a' := It.blk (Y11.heap.size) (.slice A17 r.length c17)) ((Keeps.refl [Y11.heap.size] Y18).set (List.mem_singleton.2 rfl) 0 (.slice A17 r.length c17)) (show Blk _ _ _ _ by simpa using (show Blk Y18 (Y11.heap.size) #[.slice none 0 0] 139 from qb).set 0 (.slice A17 r.length c17)) (fun k hk => hk)).rot)
        go_simp
        clear qb qc qf
        generalize Y18.setCell ⟨Y11.heap.size, 0, none⟩ (.slice A17 r.length c17) = Y19 at *
        refine hK.out _ _ ⟨(HE19.out.bel.cell (p := ⟨w.heap.size, 0, none⟩) zs).trans p0, (HE19.out.bel.cell (p := ⟨w.heap.size, 1, none⟩) zs).trans p1⟩ (fun hHeld => ?_)
        clear hK K
        (try simp only [Act.put, List.setIfInBounds_toArray, List.set_cons_zero, List.set_cons_succ])
        refine wpAnyH_done (by kernel_rfl) ?_ _
        refine NoPanic.normal ?_
        go_wp2_with fail
        go_meet
        exact ⟨_, _, A1, c1, f1, A17, c17, f17, rfl, rfl, HE19.out⟩
      refine AllReadyH.cons (o := ?_) ?_ (fun K hK => ?_) AllReadyH.nil
      rotate_left 1
      · (simp only [List.getElem?_toArray, List.getElem?_cons_zero, List.getElem?_cons_succ]; try rfl)
      have HE20 := Lib.hid ((HE1.out.rot.rot.rot.fresh (a := It.blk Y1.heap.size (.slice none 0 0)) ((Below.refl Y1.heap.size Y1).alloc (Nat.le_refl _) (.cells #[.slice none 0 0] 139)) (Blk.new Y1 _ _) (fun k hk => by simp [It.blk] at hk; omega)).rot)
      have hz20 := HE1.out.bel.size
      go_simp
      generalize Y1.alloc (.cells #[.slice none 0 0] 139) = Y20 at *
      refine hK.out _ _ ⟨(HE20.out.bel.cell (p := ⟨w.heap.size, 0, none⟩) zs).trans p0, (HE20.out.bel.cell (p := ⟨w.heap.size, 1, none⟩) zs).trans p1⟩ (fun hHeld => ?_)
      clear hK K
      (try simp only [Act.put, List.setIfInBounds_toArray, List.set_cons_zero, List.set_cons_succ])
      refine wpAnyH_ready (rs := [5, 6]) (by kernel_rfl) (by simp) ?_
      refine AllReadyH.cons (o := ?_) ?_ (fun K hK => ?_) ?_
      rotate_left 1
      · (simp only [List.getElem?_toArray, List.getElem?_cons_zero, List.getElem?_cons_succ]; try rfl)
      · go_simp
        refine (newEditStack_any B r d _ (by omega) hsr (HR.out _ (below_then HB.out HE20.out.bel))).mono ?_
        rintro e Y21 ⟨v21, f21, rfl, ho21, hn21, hl21, hb21⟩
        obtain ⟨A21, c21, e21, _, _, _⟩ := Lay.edits.read ho21
        simp only [List.cons.injEq, and_true] at e21
        subst e21
        have HE21 := Lib.hid ((HE20.out.rot.fresh (a := It.own (.slice A21 r.length c21) r f21) hb21 ⟨ho21, hn21⟩ hl21).rot.rot.rot)
        clear ho21 hn21 hl21 hb21
        go_wp2_with fail
        refine hK.out _ _ ⟨(HE21.out.bel.cell (p := ⟨w.heap.size, 0, none⟩) zs).trans p0, (HE21.out.bel.cell (p := ⟨w.heap.size, 1, none⟩) zs).trans p1⟩ (fun hHeld => ?_)
        clear hK K
        (try simp only [Act.put, List.setIfInBounds_toArray, List.set_cons_zero, List.set_cons_succ])
        refine wpAnyH_ready (rs := [6]) (by kernel_rfl) (by simp) ?_
        refine AllReadyH.cons (o := ?_) ?_ (fun K hK => ?_) AllReadyH.nil
        rotate_left 1
        · (simp only [List.getElem?_toArray, List.getElem?_cons_zero, List.getElem?_cons_succ]; try rfl)
        have HE22 := Lib.hid ((HE21.out.rot.rot.fresh (a := It.blk Y21.heap.size (.slice none 0 0)) ((Below.refl Y21.heap.size Y21).alloc (Nat.le_refl _) (.cells #[.slice none 0 0] 139)) (Blk.new Y21 _ _) (fun k hk => by simp [It.blk] at hk; omega)).rot.rot)
        have hz22 := HE21.out.bel.size
        go_simp
        generalize Y21.alloc (.cells #[.slice none 0 0] 139) = Y22 at *
        refine hK.out _ _ ⟨(HE22.out.bel.cell (p := ⟨w.heap.size, 0, none⟩) zs).trans p0, (HE22.out.bel.cell (p := ⟨w.heap.size, 1, none⟩) zs).trans p1⟩ (fun hHeld => ?_)
        clear hK K
        (try simp only [Act.put, List.setIfInBounds_toArray, List.set_cons_zero, List.set_cons_succ])
        refine wpAnyH_ready (rs := [8]) (by kernel_rfl) (by simp) ?_
        refine AllReadyH.cons (o := ?_) ?_ (fun K hK => ?_) AllReadyH.nil
        rotate_left 1
        · (simp only [List.getElem?_toArray, List.getElem?_cons_zero, List.getElem?_cons_succ]; try rfl)
        have qb := HE22.out.p.2.2.1
        have qc := Blk.cell (show Blk Y22 (Y21.heap.size) #[.slice none 0 0] 139 from qb) 0
        have qf := Blk.frozen (show Blk Y22 (Y21.heap.size) #[.slice none 0 0] 139 from qb) 0
        have HE23 := Lib.hid ((HE22.out.rot.rot.upd (a' := It.blk (Y21.heap.size) (.slice A1 u.length c1)) ((Keeps.refl [Y21.heap.size] Y22).set (List.mem_singleton.2 rfl) 0 (.slice A1 u.length c1)) (show Blk _ _ _ _ by simpa using (show Blk Y22 (Y21.heap.size) #[.slice none 0 0] 139 from qb).set 0 (.slice A1 u.length c1)) (fun k hk => hk)).rot.rot)
        go_simp
        clear qb qc qf
        generalize Y22.setCell ⟨Y21.heap.size, 0, none⟩ (.slice A1 u.length c1) = Y23 at *
        refine hK.out _ _ ⟨(HE23.out.bel.cell (p := ⟨w.heap.size, 0, none⟩) zs).trans p0, (HE23.out.bel.cell (p := ⟨w.heap.size, 1, none⟩) zs).trans p1⟩ (fun hHeld => ?_)
        clear hK K
        (try simp only [Act.put, List.setIfInBounds_toArray, List.set_cons_zero, List.set_cons_succ])
        refine wpAnyH_ready (rs := [9]) (by kernel_rfl) (by simp) ?_
        refine AllReadyH.cons (o := ?_) ?_ (fun K hK => ?_) AllReadyH.nil
        rotate_left 1
        · (simp only [List.getElem?_toArray, List.getElem?_cons_zero, List.getElem?_cons_succ]; try rfl)
        have qb := HE23.out.p.2.2.2
        have qc := Blk.cell (show Blk Y23 (Y1.heap.size) #[.slice none 0 0] 139 from qb) 0
        have qf := Blk.frozen (show Blk Y23 (Y1.heap.size) #[.slice none 0 0] 139 from qb) 0
        have HE24 := Lib.hid ((HE23.out.rot.rot.rot.upd (a' := It.blk (Y1.heap.size) (.slice A21 r.length c21)) ((Keeps.refl [Y1.heap.size] Y23).set (List.mem_singleton.2 rfl) 0 (.slice A21 r.length c21)) (show Blk _ _ _ _ by simpa using (show Blk Y23 (Y1.heap.size) #[.slice none 0 0] 139 from qb).set 0 (.slice A21 r.length c21)) (fun k hk => hk)).rot)
        go_simp
        clear qb qc qf
        generalize Y23.setCell ⟨Y1.heap.size, 0, none⟩ (.slice A21 r.length c21) = Y24 at *
        refine hK.out _ _ ⟨(HE24.out.bel.cell (p := ⟨w.heap.size, 0, none⟩) zs).trans p0, (HE24.out.bel.cell (p := ⟨w.heap.size, 1, none⟩) zs).trans p1⟩ (fun hHeld => ?_)
        clear hK K
        (try simp only [Act.put, List.setIfInBounds_toArray, List.set_cons_zero, List.set_cons_succ])
        refine wpAnyH_done (by kernel_rfl) ?_ _
        refine NoPanic.normal ?_
        go_wp2_with fail
        go_meet
        exact ⟨_, _, A1, c1, f1, A21, c21, f21, rfl, rfl, HE24.out⟩
      refine AllReadyH.cons (o := ?_) ?_ (fun K hK => ?_) AllReadyH.nil
      rotate_left 1
      · (simp only [List.getElem?_toArray, List.getElem?_cons_zero, List.getElem?_cons_succ]; try rfl)
      have HE25 := Lib.hid ((HE20.out.rot.rot.fresh (a := It.blk Y20.heap.size (.slice none 0 0)) ((Below.refl Y20.heap.size Y20).alloc (Nat.le_refl _) (.cells #[.slice none 0 0] 139)) (Blk.new Y20 _ _) (fun k hk => by simp [It.blk] at hk; omega)).rot.rot)
      have hz25 := HE20.out.bel.size
      go_simp
      generalize Y20.alloc (.cells #[.slice none 0 0] 139) = Y25 at *
      refine hK.out _ _ ⟨(HE25.out.bel.cell (p := ⟨w.heap.size, 0, none⟩) zs).trans p0, (HE25.out.bel.cell (p := ⟨w.heap.size, 1, none⟩) zs).trans p1⟩ (fun hHeld => ?_)
      clear hK K
      (try simp only [Act.put, List.setIfInBounds_toArray, List.set_cons_zero, List.set_cons_succ])
      refine wpAnyH_ready (rs := [5]) (by kernel_rfl) (by simp) ?_
      refine AllReadyH.cons (o := ?_) ?_ (fun K hK => ?_) AllReadyH.nil
      rotate_left 1
      · (simp only [List.getElem?_toArray, List.getElem?_cons_zero, List.getElem?_cons_succ]; try rfl)
      go_simp
      refine (newEditStack_any B r d _ (by omega) hsr (HR.out _ (below_then HB.out HE25.out.bel))).mono ?_
      rintro e Y26 ⟨v26, f26, rfl, ho26, hn26, hl26, hb26⟩
      obtain ⟨A26, c26, e26, _, _, _⟩ := Lay.edits.read ho26
      simp only [List.cons.injEq, and_true] at e26
      subst e26
      have HE26 := Lib.hid ((HE25.out.rot.fresh (a := It.own (.slice A26 r.length c26) r f26) hb26 ⟨ho26, hn26⟩ hl26).rot.rot.rot)
      clear ho26 hn26 hl26 hb26
      go_wp2_with fail
      refine hK.out _ _ ⟨(HE26.out.bel.cell (p := ⟨w.heap.size, 0, none⟩) zs).trans p0, (HE26.out.bel.cell (p := ⟨w.heap.size, 1, none⟩) zs).trans p1⟩ (fun hHeld => ?_)
      clear hK K
      (try simp only [Act.put, List.setIfInBounds_toArray, List.set_cons_zero, List.set_cons_succ])
      refine wpAnyH_ready (rs := [8]) (by kernel_rfl) (by simp) ?_
      refine AllReadyH.cons (o := ?_) ?_ (fun K hK => ?_) AllReadyH.nil
      rotate_left 1
      · (simp only [List.getElem?_toArray, List.getElem?_cons_zero, List.getElem?_cons_succ]; try rfl)
      have qb := HE26.out.p.2.2.1
      have qc := Blk.cell (show Blk Y26 (Y20.heap.size) #[.slice none 0 0] 139 from qb) 0
      have qf := Blk.frozen (show Blk Y26 (Y20.heap.size) #[.slice none 0 0] 139 from qb) 0
      have HE27 := Lib.hid ((HE26.out.rot.rot.upd (a' := It.blk (Y20.heap.size) (.slice A1 u.length c1)) ((Keeps.refl [Y20.heap.size] Y26).set (List.mem_singleton.2 rfl) 0 (.slice A1 u.length c1)) (show Blk _ _ _ _ by simpa using (show Blk Y26 (Y20.heap.size) #[.slice none 0 0] 139 from qb).set 0 (.slice A1 u.length c1)) (fun k hk => hk)).rot.rot)
      go_simp
      clear qb qc qf
      generalize Y26.setCell ⟨Y20.heap.size, 0, none⟩ (.slice A1 u.length c1) = Y27 at *
      refine hK.out _ _ ⟨(HE27.out.bel.cell (p := ⟨w.heap.size, 0, none⟩) zs).trans p0, (HE27.out.bel.cell (p := ⟨w.heap.size, 1, none⟩) zs).trans p1⟩ (fun hHeld => ?_)
      clear hK K
      (try simp only [Act.put, List.setIfInBounds_toArray, List.set_cons_zero, List.set_cons_succ])
      refine wpAnyH_ready (rs := [9]) (by kernel_rfl) (by simp) ?_
      refine AllReadyH.cons (o := ?_) ?_ (fun K hK => ?_) AllReadyH.nil
      rotate_left 1
      · (simp only [List.getElem?_toArray, List.getElem?_cons_zero, List.getElem?_cons_succ]; try rfl)
      have qb := HE27.out.p.2.2.2
      have qc := Blk.cell (show Blk Y27 (Y1.heap.size) #[.slice none 0 0] 139 from qb) 0
      have qf := Blk.frozen (show Blk Y27 (Y1.heap.size) #[.slice none 0 0] 139 from qb) 0
      have HE28 := Lib.hid ((HE27.out.rot.rot.rot.upd (a' := It.blk (Y1.heap.size) (.slice A26 r.length c26)) ((Keeps.refl [Y1.heap.size] Y27).set (List.mem_singleton.2 rfl) 0 (.slice A26 r.length c26)) (show Blk _ _ _ _ by simpa using (show Blk Y27 (Y1.heap.size) #[.slice none 0 0] 139 from qb).set 0 (.slice A26 r.length c26)) (fun k hk => hk)).rot)
      go_simp
      clear qb qc qf
      generalize Y27.setCell ⟨Y1.heap.size, 0, none⟩ (.slice A26 r.length c26) = Y28 at *
      refine hK.out _ _ ⟨(HE28.out.bel.cell (p := ⟨w.heap.size, 0, none⟩) zs).trans p0, (HE28.out.bel.cell (p := ⟨w.heap.size, 1, none⟩) zs).trans p1⟩ (fun hHeld => ?_)
      clear hK K
      (try simp only [Act.put, List.setIfInBounds_toArray, List.set_cons_zero, List.set_cons_succ])
      refine wpAnyH_done (by kernel_rfl) ?_ _
      refine NoPanic.normal ?_
      go_wp2_with fail
      go_meet
      exact ⟨_, _, A1, c1, f1, A26, c26, f26, rfl, rfl, HE28.out⟩
    refine AllReadyH.cons (o := ?_) ?_ (fun K hK => ?_) ?_
    rotate_left 1
    · (simp only [List.getElem?_toArray, List.getElem?_cons_zero, List.getElem?_cons_succ]; try rfl)
    · have HE29 := Lib.hid ((HE0.out.rot.rot.fresh (a := It.blk Y0.heap.size (.slice none 0 0)) ((Below.refl Y0.heap.size Y0).alloc (Nat.le_refl _) (.cells #[.slice none 0 0] 139)) (Blk.new Y0 _ _) (fun k hk => by simp [It.blk] at hk; omega)).rot.rot)
      have hz29 := HE0.out.bel.size
      go_simp
      generalize Y0.alloc (.cells #[.slice none 0 0] 139) = Y29 at *
      refine hK.out _ _ ⟨(HE29.out.bel.cell (p := ⟨w.heap.size, 0, none⟩) zs).trans p0, (HE29.out.bel.cell (p := ⟨w.heap.size, 1, none⟩) zs).trans p1⟩ (fun hHeld => ?_)
      clear hK K
      (try simp only [Act.put, List.setIfInBounds_toArray, List.set_cons_zero, List.set_cons_succ])
      refine wpAnyH_ready (rs := [2, 7]) (by kernel_rfl) (by simp) ?_
      refine AllReadyH.cons (o := ?_) ?_ (fun K hK => ?_) ?_
      rotate_left 1
      · (simp only [List.getElem?_toArray, List.getElem?_cons_zero, List.getElem?_cons_succ]; try rfl)
      · go_simp
        refine (newEditStack_any A u c _ (by omega) hsu (HU.out _ (below_then HB.out HE29.out.bel))).mono ?_
        rintro e Y30 ⟨v30, f30, rfl, ho30, hn30, hl30, hb30⟩
        obtain ⟨A30, c30, e30, _, _, _⟩ := Lay.edits.read ho30
        simp only [List.cons.injEq, and_true] at e30
        subst e30
        have HE30 := Lib.hid ((HE29.out.fresh (a := It.own (.slice A30 u.length c30) u f30) hb30 ⟨ho30, hn30⟩ hl30))
        clear ho30 hn30 hl30 hb30
        go_wp2_with fail
        refine hK.out _ _ ⟨(HE30.out.bel.cell (p := ⟨w.heap.size, 0, none⟩) zs).trans p0, (HE30.out.bel.cell (p := ⟨w.heap.size, 1, none⟩) zs).trans p1⟩ (fun hHeld => ?_)
        clear hK K
        (try simp only [Act.put, List.setIfInBounds_toArray, List.set_cons_zero, List.set_cons_succ])
        refine wpAnyH_ready (rs := [5, 7]) (by kernel_rfl) (by simp) ?_
        refine AllReadyH.cons (o := ?_) ?_ (fun K hK => ?_) ?_
        rotate_left 1
        · (simp only [List.getElem?_toArray, List.getElem?_cons_zero, List.getElem?_cons_succ]; try rfl)
        · go_simp
          refine (newEditStack_any B r d _ (by omega) hsr (HR.out _ (below_then HB.out HE30.out.bel))).mono ?_
          rintro e Y31 ⟨v31, f31, rfl, ho31, hn31, hl31, hb31⟩
          obtain ⟨A31, c31, e31, _, _, _⟩ := Lay.edits.read ho31
          simp only [List.cons.injEq, and_true] at e31
          subst e31
          have HE31 := Lib.hid ((HE30.out.rot.fresh (a := It.own (.slice A31 r.length c31) r f31) hb31 ⟨ho31, hn31⟩ hl31).rot.rot.rot)
          clear ho31 hn31 hl31 hb31
          go_wp2_with fail
          refine hK.out _ _ ⟨(HE31.out.bel.cell (p := ⟨w.heap.size, 0, none⟩) zs).trans p0, (HE31.out.bel.cell (p := ⟨w.heap.size, 1, none⟩) zs).trans p1⟩ (fun hHeld => ?_)
          clear hK K
          (try simp only [Act.put, List.setIfInBounds_toArray, List.set_cons_zero, List.set_cons_succ])
          refine wpAnyH_ready (rs := [7]) (by kernel_rfl) (by simp) ?_
          refine AllReadyH.cons (o := ?_) ?_ (fun K hK => ?_) AllReadyH.nil
          rotate_left 1
          · (simp only [List.getElem?_toArray, List.getElem?_cons_zero, List.getElem?_cons_succ]; try rfl)
          have HE32 := Lib.hid ((HE31.out.rot.rot.rot.fresh (a := It.blk Y31.heap.size (.slice none 0 0)) ((Below.refl Y31.heap.size Y31).alloc (Nat.le_refl _) (.cells #[.slice none 0 0] 139)) (Blk.new Y31 _ _) (fun k hk => by simp [It.blk] at hk; omega)).rot)
          have hz32 := HE31.out.bel.size
          go_simp
          generalize Y31.alloc (.cells #[.slice none 0 0] 139) = Y32 at *
          refine hK.out _ _ ⟨(HE32.out.bel.cell (p := ⟨w.heap.size, 0, none⟩) zs).trans p0, (HE32.out.bel.cell (p := ⟨w.heap.size, 1, none⟩) zs).trans p1⟩ (fun hHeld => ?_)
          clear hK K
          (try simp only [Act.put, List.setIfInBounds_toArray, List.set_cons_zero, List.set_cons_succ])
          refine wpAnyH_ready (rs := [8]) (by kernel_rfl) (by simp) ?_
          refine AllReadyH.cons (o := ?_) ?_ (fun K hK => ?_) AllReadyH.nil
          rotate_left 1
          · (simp only [List.getElem?_toArray, List.getElem?_cons_zero, List.getElem?_cons_succ]; try rfl)
          have qb := HE32.out.p.2.2.1
          have qc := Blk.cell (show Blk Y32 (Y0.heap.size) #[.slice none 0 0] 139 from qb) 0
          have qf := Blk.frozen (show Blk Y32 (Y0.heap.size) #[.slice none 0 0] 139 from qb) 0
          have HE33 := Lib.hid ((HE32.out.rot.rot.upd (a' := It.blk (Y0.heap.size) (.slice A30 u.length c30)) ((Keeps.refl [Y0.heap.size] Y32).set (List.mem_singleton.2 rfl) 0 (.slice A30 u.length c30)) (show Blk _ _ _ _ by simpa using (show Blk Y32 (Y0.heap.size) #[.slice none 0 0] 139 from qb).set 0 (.slice A30 u.length c30)) (fun k hk => hk)).rot.rot)
          go_simp
          clear qb qc qf
          generalize Y32.setCell ⟨Y0.heap.size, 0, none⟩ (.slice A30 u.length c30) = Y33 at *
          refine hK.out _ _ ⟨(HE33.out.bel.cell (p := ⟨w.heap.size, 0, none⟩) zs).trans p0, (HE33.out.bel.cell (p := ⟨w.heap.size, 1, none⟩) zs).trans p1⟩ (fun hHeld => ?_)
          clear hK K
          (try simp only [Act.put, List.setIfInBounds_toArray, List.set_cons_zero, List.set_cons_succ])
          refine wpAnyH_ready (rs := [9]) (by kernel_rfl) (by simp) ?_
          refine AllReadyH.cons (o := ?_) ?_ (fun K hK => ?_) AllReadyH.nil
          rotate_left 1
          · (simp only [List.getElem?_toArray, List.getElem?_cons_zero, List.getElem?_cons_succ]; try rfl)
          have qb := HE33.out.p.2.2.2
          have qc := Blk.cell (show Blk Y33 (Y31.heap.size) #[.slice none 0 0] 139 from qb) 0
          have qf := Blk.frozen (show Blk Y33 (Y31.heap.size) #[.slice none 0 0] 139 from qb) 0
          have HE34 := Lib.hid ((HE33.out.rot.rot.rot.upd (a' := It.blk (Y31.heap.size) (.slice A31 r.length c31)) ((Keeps.refl [Y31.heap.size] Y33).set (List.mem_singleton.2 rfl) 0 (.slice A31 r.length c31)) (show Blk _ _ _ _ by simpa using (show Blk Y33 (Y31.heap.size) #[.slice none 0 0] 139 from qb).set 0 (.slice A31 r.length c31)) (fun k hk => hk)).rot)
          go_simp
          clear qb qc qf
          generalize Y33.setCell ⟨Y31.heap.size, 0, none⟩ (.slice A31 r.length c31) = Y34 at *
          refine hK.out _ _ ⟨(HE34.out.bel.cell (p := ⟨w.heap.size, 0, none⟩) zs).trans p0, (HE34.out.bel.cell (p := ⟨w.heap.size, 1, none⟩) zs).trans p1⟩ (fun hHeld => ?_)
          clear hK K
          (try simp only [Act.put, List.setIfInBounds_toArray, List.set_cons_zero, List.set_cons_succ])
          refine wpAnyH_done (by kernel_rfl) ?_ _
          refine NoPanic.normal ?_
          go_wp2_with fail
          go_meet
          exact ⟨_, _, A30, c30, f30, A31, c31, f31, rfl, rfl, HE34.out⟩
        refine AllReadyH.cons (o := ?_) ?_ (fun K hK => ?_) AllReadyH.nil
        rotate_left 1
        · (simp only [List.getElem?_toArray, List.getElem?_cons_zero, List.getElem?_cons_succ]; try rfl)
        have HE35 := Lib.hid ((HE30.out.rot.rot.rot.fresh (a := It.blk Y30.heap.size (.slice none 0 0)) ((Below.refl Y30.heap.size Y30).alloc (Nat.le_refl _) (.cells #[.slice none 0 0] 139)) (Blk.new Y30 _ _) (fun k hk => by simp [It.blk] at hk; omega)).rot)
        have hz35 := HE30.out.bel.size
        go_simp
        generalize Y30.alloc (.cells #[.slice none 0 0] 139) = Y35 at *
        refine hK.out _ _ ⟨(HE35.out.bel.cell (p := ⟨w.heap.size, 0, none⟩) zs).trans p0, (HE35.out.bel.cell (p := ⟨w.heap.size, 1, none⟩) zs).trans p1⟩ (fun hHeld => ?_)
        clear hK K
        (try simp only [Act.put, List.setIfInBounds_toArray, List.set_cons_zero, List.set_cons_succ])
        refine wpAnyH_ready (rs := [5]) (by kernel_rfl) (by simp) ?_
        refine AllReadyH.cons (o := ?_) ?_ (fun K hK => ?_) AllReadyH.nil
        rotate_left 1
        · (simp only [List.getElem?_toArray, List.getElem?_cons_zero, List.getElem?_cons_succ]; try rfl)
        go_simp
        refine (newEditStack_any B r d _ (by omega) hsr (HR.out _ (below_then HB.out HE35.out.bel))).mono ?_
        rintro e Y36 ⟨v36, f36, rfl, ho36, hn36, hl36, hb36⟩
        obtain ⟨A36, c36, e36, _, _, _⟩ := Lay.edits.read ho36
        simp only [List.cons.injEq, and_true] at e36
        subst e36
        have HE36 := Lib.hid ((HE35.out.rot.fresh (a := It.own (.slice A36 r.length c36) r f36) hb36 ⟨ho36, hn36⟩ hl36).rot.rot.rot)
        clear ho36 hn36 hl36 hb36
        go_wp2_with fail
        refine hK.out _ _ ⟨(HE36.out.bel.cell (p := ⟨w.heap.size, 0, none⟩) zs).trans p0, (HE36.out.bel.cell (p := ⟨w.heap.size, 1, none⟩) zs).trans p1⟩ (fun hHeld => ?_)
        clear hK K
        (try simp only [Act.put, List.setIfInBounds_toArray, List.set_cons_zero, List.set_cons_succ])
        refine wpAnyH_ready (rs := [8]) (by kernel_rfl) (by simp) ?_
        refine AllReadyH.cons (o := ?_) ?_ (fun K hK => ?_) AllReadyH.nil
        rotate_left 1
        · (simp only [List.getElem?_toArray, List.getElem?_cons_zero, List.getElem?_cons_succ]; try rfl)
        have qb := HE36.out.p.2.2.1
        have qc := Blk.cell (show Blk Y36 (Y0.heap.size) #[.slice none 0 0] 139 from qb) 0
        have qf := Blk.frozen (show Blk Y36 (Y0.heap.size) #[.slice none 0 0] 139 from qb) 0
        have HE37 := Lib.hid ((HE36.out.rot.rot.upd (a' := It.blk (Y0.heap.size) (.slice A30 u.length c30)) ((Keeps.refl [Y0.heap.size] Y36).set (List.mem_singleton.2 rfl) 0 (.slice A30 u.length c30)) (show Blk _ _ _ _ by simpa using (show Blk Y36 (Y0.heap.size) #[.slice none 0 0] 139 from qb).set 0 (.slice A30 u.length c30)) (fun k hk => hk)).rot.rot)
        go_simp
        clear qb qc qf
        generalize Y36.setCell ⟨Y0.heap.size, 0, none⟩ (.slice A30 u.length c30) = Y37 at *
        refine hK.out _ _ ⟨(HE37.out.bel.cell (p := ⟨w.heap.size, 0, none⟩) zs).trans p0, (HE37.out.bel.cell (p := ⟨w.heap.size, 1, none⟩) zs).trans p1⟩ (fun hHeld => ?_)
        clear hK K
        (try simp only [Act.put, List.setIfInBounds_toArray, List.set_cons_zero, List.set_cons_succ])
        refine wpAnyH_ready (rs := [9]) (by kernel_rfl) (by simp) ?_
        refine AllReadyH.cons (o := ?_) ?_ (fun K hK => ?_) AllReadyH.nil
        rotate_left 1
        · (simp only [List.getElem?_toArray, List.getElem?_cons_zero, List.getElem?_cons_succ]; try rfl)
        have qb := HE37.out.p.2.2.2
        have qc := Blk.cell (show Blk Y37 (Y30.heap.size) #[.slice none 0 0] 139 from qb) 0
        have qf := Blk.frozen (show Blk Y37 (Y30.heap.size) #[.slice none 0 0] 139 from qb) 0
        have HE38 := Lib.hid ((HE37.out.rot.rot.rot.upd (a' := It.blk (Y30.heap.size) (.slice A36 r.length c36)) ((Keeps.refl [Y30.heap.size] Y37).set (List.mem_singleton.2 rfl) 0 (.slice A36 r.length c36)) (show Blk _ _ _ _ by simpa using (show Blk Y37 (Y30.heap.size) #[.slice none 0 0] 139 from qb).set 0 (.slice A36 r.length c36)) (fun k hk => hk)).rot)
        go_simp
        clear qb qc qf
        generalize Y37.setCell ⟨Y30.heap.size, 0, none⟩ (.slice A36 r.length c36) = Y38 at *
        refine hK.out _ _ ⟨(HE38.out.bel.cell (p := ⟨w.heap.size, 0, none⟩) zs).trans p0, (HE38.out.bel.cell (p := ⟨w.heap.size, 1, none⟩) zs).trans p1⟩ (fun hHeld => ?_)
        clear hK K
        (try simp only [Act.put, List.setIfInBounds_toArray, List.set_cons_zero, List.set_cons_succ])
        refine wpAnyH_done (by kernel_rfl) ?_ _
        refine NoPanic.normal ?_
        go_wp2_with fail
        go_meet
        exact ⟨_, _, A30, c30, f30, A36, c36, f36, rfl, rfl, HE38.out⟩
      refine AllReadyH.cons (o := ?_) ?_ (fun K hK => ?_) AllReadyH.nil
      rotate_left 1
      · (simp only [List.getElem?_toArray, List.getElem?_cons_zero, List.getElem?_cons_succ]; try rfl)
      have HE39 := Lib.hid ((HE29.out.rot.rot.rot.fresh (a := It.blk Y29.heap.size (.slice none 0 0)) ((Below.refl Y29.heap.size Y29).alloc (Nat.le_refl _) (.cells #[.slice none 0 0] 139)) (Blk.new Y29 _ _) (fun k hk => by simp [It.blk] at hk; omega)).rot)
      have hz39 := HE29.out.bel.size
      go_simp
      generalize Y29.alloc (.cells #[.slice none 0 0] 139) = Y39 at *
      refine hK.out _ _ ⟨(HE39.out.bel.cell (p := ⟨w.heap.size, 0, none⟩) zs).trans p0, (HE39.out.bel.cell (p := ⟨w.heap.size, 1, none⟩) zs).trans p1⟩ (fun hHeld => ?_)
      clear hK K
      (try simp only [Act.put, List.setIfInBounds_toArray, List.set_cons_zero, List.set_cons_succ])
      refine wpAnyH_ready (rs := [2]) (by kernel_rfl) (by simp) ?_
      refine AllReadyH.cons (o := ?_) ?_ (fun K hK => ?_) AllReadyH.nil
      rotate_left 1
      · (simp only [List.getElem?_toArray, List.getElem?_cons_zero, List.getElem?_cons_succ]; try rfl)
      go_simp
      refine (newEditStack_any A u c _ (by omega) hsu (HU.out _ (below_then HB.out HE39.out.bel))).mono ?_
      rintro e Y40 ⟨v40, f40, rfl, ho40, hn40, hl40, hb40⟩
      obtain ⟨A40, c40, e40, _, _, _⟩ := Lay.edits.read ho40
      simp only [List.cons.injEq, and_true] at e40
      subst e40
      have HE40 := Lib.hid ((HE39.out.fresh (a := It.own (.slice A40 u.length c40) u f40) hb40 ⟨ho40, hn40⟩ hl40))
      clear ho40 hn40 hl40 hb40
      go_wp2_with fail
      refine hK.out _ _ ⟨(HE40.out.bel.cell (p := ⟨w.heap.size, 0, none⟩) zs).trans p0, (HE40.out.bel.cell (p := ⟨w.heap.size, 1, none⟩) zs).trans p1⟩ (fun hHeld => ?_)
      clear hK K
      (try simp only [Act.put, List.setIfInBounds_toArray, List.set_cons_zero, List.set_cons_succ])
      refine wpAnyH_ready (rs := [5]) (by kernel_rfl) (by simp) ?_
      refine AllReadyH.cons (o := ?_) ?_ (fun K hK => ?_) AllReadyH.nil
      rotate_left 1
      · (simp only [List.getElem?_toArray, List.getElem?_cons_zero, List.getElem?_cons_succ]; try rfl)
      go_simp
      refine (newEditStack_any B r d _ (by omega) hsr (HR.out _ (below_then HB.out HE40.out.bel))).mono ?_
      rintro e Y41 ⟨v41, f41, rfl, ho41, hn41, hl41, hb41⟩
      obtain ⟨A41, c41, e41, _, _, _⟩ := Lay.edits.read ho41
      simp only [List.cons.injEq, and_true] at e41
      subst e41
      have HE41 := Lib.hid ((HE40.out.rot.fresh (a := It.own (.slice A41 r.length c41) r f41) hb41 ⟨ho41, hn41⟩ hl41).rot.rot.rot)
      clear ho41 hn41 hl41 hb41
      go_wp2_with fail
      refine hK.out _ _ ⟨(HE41.out.bel.cell (p := ⟨w.heap.size, 0, none⟩) zs).trans p0, (HE41.out.bel.cell (p := ⟨w.heap.size, 1, none⟩) zs).trans p1⟩ (fun hHeld => ?_)
      clear hK K
      (try simp only [Act.put, List.setIfInBounds_toArray, List.set_cons_zero, List.set_cons_succ])
      refine wpAnyH_ready (rs := [8]) (by kernel_rfl) (by simp) ?_
      refine AllReadyH.cons (o := ?_) ?_ (fun K hK => ?_) AllReadyH.nil
      rotate_left 1
      · (simp only [List.getElem?_toArray, List.getElem?_cons_zero, List.getElem?_cons_succ]; try rfl)
      have qb := HE41.out.p.2.2.1
      have qc := Blk.cell (show Blk Y41 (Y0.heap.size) #[.slice none 0 0] 139 from qb) 0
      have qf := Blk.frozen (show Blk Y41 (Y0.heap.size) #[.slice none 0 0] 139 from qb) 0
      have HE42 := Lib.hid ((HE41.out.rot.rot.upd (a' := It.blk (Y0.heap.size) (.slice A40 u.length c40)) ((Keeps.refl [Y0.heap.size] Y41).set (List.mem_singleton.2 rfl) 0 (.slice A40 u.length c40)) (show Blk _ _ _ _ by simpa using (show Blk Y41 (Y0.heap.size) #[.slice none 0 0] 139 from qb).set 0 (.slice A40 u.length c40)) (fun k hk => hk)).rot.rot)
      go_simp
      clear qb qc qf
      generalize Y41.setCell ⟨Y0.heap.size, 0, none⟩ (.slice A40 u.length c40) = Y42 at *
      refine hK.out _ _ ⟨(HE42.out.bel.cell (p := ⟨w.heap.size, 0, none⟩) zs).trans p0, (HE42.out.bel.cell (p := ⟨w.heap.size, 1, none⟩) zs).trans p1⟩ (fun hHeld => ?_)
      clear hK K
      (try simp only [Act.put, List.setIfInBounds_toArray, List.set_cons_zero, List.set_cons_succ])
      refine wpAnyH_ready (rs := [9]) (by kernel_rfl) (by simp) ?_
      refine AllReadyH.cons (o := ?_) ?_ (fun K hK => ?_) AllReadyH.nil
      rotate_left 1
      · (simp only [List.getElem?_toArray, List.getElem?_cons_zero, List.getElem?_cons_succ]; try rfl)
      have qb := HE42.out.p.2.2.2
      have qc := Blk.cell (show Blk Y42 (Y29.heap.size) #[.slice none 0 0] 139 from qb) 0
      have qf := Blk.frozen (show Blk Y42 (Y29.heap.size) #[.slice none 0 0] 139 from qb) 0
      have HE43 := Lib.hid ((HE42.out.rot.rot.rot.upd (a' := It.blk (Y29.heap.size) (.slice A41 r.length c41)) ((Keeps.refl [Y29.heap.size] Y42).set (List.mem_singleton.2 rfl) 0 (.slice A41 r.length c41)) (show Blk _ _ _ _ by simpa using (show Blk Y42 (Y29.heap.size) #[.slice none 0 0] 139 from qb).set 0 (.slice A41 r.length c41)) (fun k hk => hk)).rot)
      go_simp
      clear qb qc qf
      generalize Y42.setCell ⟨Y29.heap.size, 0, none⟩ (.slice A41 r.length c41) = Y43 at *
      refine hK.out _ _ ⟨(HE43.out.bel.cell (p := ⟨w.heap.size, 0, none⟩) zs).trans p0, (HE43.out.bel.cell (p := ⟨w.heap.size, 1, none⟩) zs).trans p1⟩ (fun hHeld => ?_)
      clear hK K
      (try simp only [Act.put, List.setIfInBounds_toArray, List.set_cons_zero, List.set_cons_succ])
      refine wpAnyH_done (by kernel_rfl) ?_ _
      refine NoPanic.normal ?_
      go_wp2_with fail
      go_meet
      exact ⟨_, _, A40, c40, f40, A41, c41, f41, rfl, rfl, HE43.out⟩
    refine AllReadyH.cons (o := ?_) ?_ (fun K hK => ?_) AllReadyH.nil
    rotate_left 1
    · (simp only [List.getElem?_toArray, List.getElem?_cons_zero, List.getElem?_cons_succ]; try rfl)
    have HE44 := Lib.hid ((HE0.out.rot.rot.rot.fresh (a := It.blk Y0.heap.size (.slice none 0 0)) ((Below.refl Y0.heap.size Y0).alloc (Nat.le_refl _) (.cells #[.slice none 0 0] 139)) (Blk.new Y0 _ _) (fun k hk => by simp [It.blk] at hk; omega)).rot)
    have hz44 := HE0.out.bel.size
    go_simp
    generalize Y0.alloc (.cells #[.slice none 0 0] 139) = Y44 at *
    refine hK.out _ _ ⟨(HE44.out.bel.cell (p := ⟨w.heap.size, 0, none⟩) zs).trans p0, (HE44.out.bel.cell (p := ⟨w.heap.size, 1, none⟩) zs).trans p1⟩ (fun hHeld => ?_)
    clear hK K
    (try simp only [Act.put, List.setIfInBounds_toArray, List.set_cons_zero, List.set_cons_succ])
    refine wpAnyH_ready (rs := [2, 6]) (by kernel_rfl) (by simp) ?_
    refine AllReadyH.cons (o := ?_) ?_ (fun K hK => ?_) ?_
    rotate_left 1
    · (simp only [List.getElem?_toArray, List.getElem?_cons_zero, List.getElem?_cons_succ]; try rfl)
    · go_simp
      refine (newEditStack_any A u c _ (by omega) hsu (HU.out _ (below_then HB.out HE44.out.bel))).mono ?_
      rintro e Y45 ⟨v45, f45, rfl, ho45, hn45, hl45, hb45⟩
      obtain ⟨A45, c45, e45, _, _, _⟩ := Lay.edits.read ho45
      simp only [List.cons.injEq, and_true] at e45
      subst e45
      have HE45 := Lib.hid ((HE44.out.fresh (a := It.own (.slice A45 u.length c45) u f45) hb45 ⟨ho45, hn45⟩ hl45))
      clear ho45 hn45 hl45 hb45
      go_wp2_with fail
      refine hK.out _ _ ⟨(HE45.out.bel.cell (p := ⟨w.heap.size, 0, none⟩) zs).trans p0, (HE45.out.bel.cell (p := ⟨w.heap.size, 1, none⟩) zs).trans p1⟩ (fun hHeld => ?_)
      clear hK K
      (try simp only [Act.put, List.setIfInBounds_toArray, List.set_cons_zero, List.set_cons_succ])
      refine wpAnyH_ready (rs := [5, 6]) (by kernel_rfl) (by simp) ?_
      refine AllReadyH.cons (o := ?_) ?_ (fun K hK => ?_) ?_
      rotate_left 1
      · (simp only [List.getElem?_toArray, List.getElem?_cons_zero, List.getElem?_cons_succ]; try rfl)
      · go_simp
        refine (newEditStack_any B r d _ (by omega) hsr (HR.out _ (below_then HB.out HE45.out.bel))).mono ?_
        rintro e Y46 ⟨v46, f46, rfl, ho46, hn46, hl46, hb46⟩
        obtain ⟨A46, c46, e46, _, _, _⟩ := Lay.edits.read ho46
        simp only [List.cons.injEq, and_true] at e46
        subst e46
        have HE46 := Lib.hid ((HE45.out.rot.fresh (a := It.own (.slice A46 r.length c46) r f46) hb46 ⟨ho46, hn46⟩ hl46).rot.rot.rot)
        clear ho46 hn46 hl46 hb46
        go_wp2_with fail
        refine hK.out _ _ ⟨(HE46.out.bel.cell (p := ⟨w.heap.size, 0, none⟩) zs).trans p0, (HE46.out.bel.cell (p := ⟨w.heap.size, 1, none⟩) zs).trans p1⟩ (fun hHeld => ?_)
        clear hK K
        (try simp only [Act.put, List.setIfInBounds_toArray, List.set_cons_zero, List.set_cons_succ])
        refine wpAnyH_ready (rs := [6]) (by kernel_rfl) (by simp) ?_
        refine AllReadyH.cons (o := ?_) ?_ (fun K hK => ?_) AllReadyH.nil
        rotate_left 1
        · (simp only [List.getElem?_toArray, List.getElem?_cons_zero, List.getElem?_cons_succ]; try rfl)
        have HE47 := Lib.hid ((HE46.out.rot.rot.fresh (a := It.blk Y46.heap.size (.slice none 0 0)) ((Below.refl Y46.heap.size Y46).alloc (Nat.le_refl _) (.cells #[.slice none 0 0] 139)) (Blk.new Y46 _ _) (fun k hk => by simp [It.blk] at hk; omega)).rot.rot)
        have hz47 := HE46.out.bel.size
        go_simp
        generalize Y46.alloc (.cells #[.slice none 0 0] 139) = Y47 at *
        refine hK.out _ _ ⟨(HE47.out.bel.cell (p := ⟨w.heap.size, 0, none⟩) zs).trans p0, (HE47.out.bel.cell (p := ⟨w.heap.size, 1, none⟩) zs).trans p1⟩ (fun hHeld => ?_)
        clear hK K
        (try simp only [Act.put, List.setIfInBounds_toArray, List.set_cons_zero, List.set_cons_succ])
        refine wpAnyH_ready (rs := [8]) (by kernel_rfl) (by simp) ?_
        refine AllReadyH.cons (o := ?_) ?_ (fun K hK => ?_) AllReadyH.nil
        rotate_left 1
        · (simp only [List.getElem?_toArray, List.getElem?_cons_zero, List.getElem?_cons_succ]; try rfl)
        have qb := HE47.out.p.2.2.1
        have qc := Blk.cell (show Blk Y47 (Y46.heap.size) #[.slice none 0 0] 139 from qb) 0
        have qf := Blk.frozen (show Blk Y47 (Y46.heap.size) #[.slice none 0 0] 139 from qb) 0
        have HE48 := Lib.hid ((HE47.out.rot.rot.upd (a' := It.blk (Y46.heap.size) (.slice A45 u.length c45)) ((Keeps.refl [Y46.heap.size] Y47).set (List.mem_singleton.2 rfl) 0 (.slice A45 u.length c45)) (show Blk _ _ _ _ by simpa using (show Blk Y47 (Y46.heap.size) #[.slice none 0 0] 139 from qb).set 0 (.slice A45 u.length c45)) (fun k hk => hk)).rot.rot)
        go_simp
        clear qb qc qf
        generalize Y47.setCell ⟨Y46.heap.size, 0, none⟩ (.slice A45 u.length c45) = Y48 at *
        refine hK.out _ _ ⟨(HE48.out.bel.cell (p := ⟨w.heap.size, 0, none⟩) zs).trans p0, (HE48.out.bel.cell (p := ⟨w.heap.size, 1, none⟩) zs).trans p1⟩ (fun hHeld => ?_)
        clear hK K
        (try simp only [Act.put, List.setIfInBounds_toArray, List.set_cons_zero, List.set_cons_succ])
        refine wpAnyH_ready (rs := [9]) (by kernel_rfl) (by simp) ?_
        refine AllReadyH.cons (o := ?_) ?_ (fun K hK => ?_) AllReadyH.nil
        rotate_left 1
        · (simp only [List.getElem?_toArray, List.getElem?_cons_zero, List.getElem?_cons_succ]; try rfl)
        have qb := HE48.out.p.2.2.2
        have qc := Blk.cell (show Blk Y48 (Y0.heap.size) #[.slice none 0 0] 139 from qb) 0
        have qf := Blk.frozen (show Blk Y48 (Y0.heap.size) #[.slice none 0 0] 139 from qb) 0
        have HE49 := Lib.hid ((HE48.out.rot.rot.rot.upd (a' := It.blk (Y0.heap.size) (.slice A46 r.length c46)) ((Keeps.refl [Y0.heap.size] Y48).set (List.mem_singleton.2 rfl) 0 (.slice A46 r.length c46)) (show Blk _ _ _ _ by simpa using (show Blk Y48 (Y0.heap.size) #[.slice none 0 0] 139 from qb).set 0 (.slice A46 r.length c46)) (fun k hk => hk)).rot)
        go_simp
        clear qb qc qf
        generalize Y48.setCell ⟨Y0.heap.size, 0, none⟩ (.slice A46 r.length c46) = Y49 at *
        refine hK.out _ _ ⟨(HE49.out.bel.cell (p := ⟨w.heap.size, 0, none⟩) zs).trans p0, (HE49.out.bel.cell (p := ⟨w.heap.size, 1, none⟩) zs).trans p1⟩ (fun hHeld => ?_)
        clear hK K
        (try simp only [Act.put, List.setIfInBounds_toArray, List.set_cons_zero, List.set_cons_succ])
        refine wpAnyH_done (by kernel_rfl) ?_ _
        refine NoPanic.normal ?_
        go_wp2_with fail
        go_meet
        exact ⟨_, _, A45, c45, f45, A46, c46, f46, rfl, rfl, HE49.out⟩
      refine AllReadyH.cons (o := ?_) ?_ (fun K hK => ?_) AllReadyH.nil
      rotate_left 1
      · (simp only [List.getElem?_toArray, List.getElem?_cons_zero, List.getElem?_cons_succ]; try rfl)
      have HE50 := Lib.hid ((HE45.out.rot.rot.fresh (a := It.blk Y45.heap.size (.slice none 0 0)) ((Below.refl Y45.heap.size Y45).alloc (Nat.le_refl _) (.cells #[.slice none 0 0] 139)) (Blk.new Y45 _ _) (fun k hk => by simp [It.blk] at hk; omega)).rot.rot)
      have hz50 := HE45.out.bel.size
      go_simp
      generalize Y45.alloc (.cells #[.slice none 0 0] 139) = Y50 at *
      refine hK.out _ _ ⟨(HE50.out.bel.cell (p := ⟨w.heap.size, 0, none⟩) zs).trans p0, (HE50.out.bel.cell (p := ⟨w.heap.size, 1, none⟩) zs).trans p1⟩ (fun hHeld => ?_)
      clear hK K
      (try simp only [Act.put, List.setIfInBounds_toArray, List.set_cons_zero, List.set_cons_succ])
      refine wpAnyH_ready (rs := [5]) (by kernel_rfl) (by simp) ?_
      refine AllReadyH.cons (o := ?_) ?_ (fun K hK => ?_) AllReadyH.nil
      rotate_left 1
      · (simp only [List.getElem?_toArray, List.getElem?_cons_zero, List.getElem?_cons_succ]; try rfl)
      go_simp
      refine (newEditStack_any B r d _ (by omega) hsr (HR.out _ (below_then HB.out HE50.out.bel))).mono ?_
      rintro e Y51 ⟨v51, f51, rfl, ho51, hn51, hl51, hb51⟩
      obtain ⟨A51, c51, e51, _, _, _⟩ := Lay.edits.read ho51
      simp only [List.cons.injEq, and_true] at e51
      subst e51
      have HE51 := Lib.hid ((HE50.out.rot.fresh (a := It.own (.slice A51 r.length c51) r f51) hb51 ⟨ho51, hn51⟩ hl51).rot.rot.rot)
      clear ho51 hn51 hl51 hb51
      go_wp2_with fail
      refine hK.out _ _ ⟨(HE51.out.bel.cell (p := ⟨w.heap.size, 0, none⟩) zs).trans p0, (HE51.out.bel.cell (p := ⟨w.heap.size, 1, none⟩) zs).trans p1⟩ (fun hHeld => ?_)
      clear hK K
      (try simp only [Act.put, List.setIfInBounds_toArray, List.set_cons_zero, List.set_cons_succ])
      refine wpAnyH_ready (rs := [8]) (by kernel_rfl) (by simp) ?_
      refine AllReadyH.cons (o := ?_) ?_ (fun K hK => ?_) AllReadyH.nil
      rotate_left 1
      · (simp only [List.getElem?_toArray, List.getElem?_cons_zero, List.getElem?_cons_succ]; try rfl)
      have qb := HE51.out.p.2.2.1
      have qc := Blk.cell (show Blk Y51 (Y45.heap.size) #[.slice none 0 0] 139 from qb) 0
      have qf := Blk.frozen (show Blk Y51 (Y45.heap.size) #[.slice none 0 0] 139 from qb) 0
      have HE52 := Lib.hid ((HE51.out.rot.rot.upd (a' := It.blk (Y45.heap.size) (.slice A45 u.length c45)) ((Keeps.refl [Y45.heap.size] Y51).set (List.mem_singleton.2 rfl) 0 (.slice A45 u.length c45)) (show Blk _ _ _ _ by simpa using (show Blk Y51 (Y45.heap.size) #[.slice none 0 0] 139 from qb).set 0 (.slice A45 u.length c45)) (fun k hk => hk)).rot.rot)
      go_simp
      clear qb qc qf
      generalize Y51.setCell ⟨Y45.heap.size, 0, none⟩ (.slice A45 u.length c45) = Y52 at *
      refine hK.out _ _ ⟨(HE52.out.bel.cell (p := ⟨w.heap.size, 0, none⟩) zs).trans p0, (HE52.out.bel.cell (p := ⟨w.heap.size, 1, none⟩) zs).trans p1⟩ (fun hHeld => ?_)
      clear hK K
      (try simp only [Act.put, List.setIfInBounds_toArray, List.set_cons_zero, List.set_cons_succ])
      refine wpAnyH_ready (rs := [9]) (by kernel_rfl) (by simp) ?_
      refine AllReadyH.cons (o := ?_) ?_ (fun K hK => ?_) AllReadyH.nil
      rotate_left 1
      · (simp only [List.getElem?_toArray, List.getElem?_cons_zero, List.getElem?_cons_succ]; try rfl)
      have qb := HE52.out.p.2.2.2
      have qc := Blk.cell (show Blk Y52 (Y0.heap.size) #[.slice none 0 0] 139 from qb) 0
      have qf := Blk.frozen (show Blk Y52 (Y0.heap.size) #[.slice none 0 0] 139 from qb) 0
      have HE53 := Lib.hid ((HE52.out.rot.rot.rot.upd (a' := It.blk (Y0.heap.size) (.slice A51 r.length c51)) ((Keeps.refl [Y0.heap.size] Y52).set (List.mem_singleton.2 rfl) 0 (.slice A51 r.length c51)) (show Blk _ _ _ _ by simpa using (show Blk Y52 (Y0.heap.size) #[.slice none 0 0] 139 from qb).set 0 (.slice A51 r.length c51)) (fun k hk => hk)).rot)
      go_simp
      clear qb qc qf
      generalize Y52.setCell ⟨Y0.heap.size, 0, none⟩ (.slice A51 r.length c51) = Y53 at *
      refine hK.out _ _ ⟨(HE53.out.bel.cell (p := ⟨w.heap.size, 0, none⟩) zs).trans p0, (HE53.out.bel.cell (p := ⟨w.heap.size, 1, none⟩) zs).trans p1⟩ (fun hHeld => ?_)
      clear hK K
      (try simp only [Act.put, List.setIfInBounds_toArray, List.set_cons_zero, List.set_cons_succ])
      refine wpAnyH_done (by kernel_rfl) ?_ _
      refine NoPanic.normal ?_
      go_wp2_with fail
      go_meet
      exact ⟨_, _, A45, c45, f45, A51, c51, f51, rfl, rfl, HE53.out⟩
    refine AllReadyH.cons (o := ?_) ?_ (fun K hK => ?_) AllReadyH.nil
    rotate_left 1
    · (simp only [List.getElem?_toArray, List.getElem?_cons_zero, List.getElem?_cons_succ]; try rfl)
    have HE54 := Lib.hid ((HE44.out.rot.rot.fresh (a := It.blk Y44.heap.size (.slice none 0 0)) ((Below.refl Y44.heap.size Y44).alloc (Nat.le_refl _) (.cells #[.slice none 0 0] 139)) (Blk.new Y44 _ _) (fun k hk => by simp [It.blk] at hk; omega)).rot.rot)
    have hz54 := HE44.out.bel.size
    go_simp
    generalize Y44.alloc (.cells #[.slice none 0 0] 139) = Y54 at *
    refine hK.out _ _ ⟨(HE54.out.bel.cell (p := ⟨w.heap.size, 0, none⟩) zs).trans p0, (HE54.out.bel.cell (p := ⟨w.heap.size, 1, none⟩) zs).trans p1⟩ (fun hHeld => ?_)
    clear hK K
    (try simp only [Act.put, List.setIfInBounds_toArray, List.set_cons_zero, List.set_cons_succ])
    refine wpAnyH_ready (rs := [2]) (by kernel_rfl) (by simp) ?_
    refine AllReadyH.cons (o := ?_) ?_ (fun K hK => ?_) AllReadyH.nil
    rotate_left 1
    · (simp only [List.getElem?_toArray, List.getElem?_cons_zero, List.getElem?_cons_succ]; try rfl)
    go_simp
    refine (newEditStack_any A u c _ (by omega) hsu (HU.out _ (below_then HB.out HE54.out.bel))).mono ?_
    rintro e Y55 ⟨v55, f55, rfl, ho55, hn55, hl55, hb55⟩
    obtain ⟨A55, c55, e55, _, _, _⟩ := Lay.edits.read ho55
    simp only [List.cons.injEq, and_true] at e55
    subst e55
    have HE55 := Lib.hid ((HE54.out.fresh (a := It.own (.slice A55 u.length c55) u f55) hb55 ⟨ho55, hn55⟩ hl55))
    clear ho55 hn55 hl55 hb55
    go_wp2_with fail
    refine hK.out _ _ ⟨(HE55.out.bel.cell (p := ⟨w.heap.size, 0, none⟩) zs).trans p0, (HE55.out.bel.cell (p := ⟨w.heap.size, 1, none⟩) zs).trans p1⟩ (fun hHeld => ?_)
    clear hK K
    (try simp only [Act.put, List.setIfInBounds_toArray, List.set_cons_zero, List.set_cons_succ])
    refine wpAnyH_ready (rs := [5]) (by kernel_rfl) (by simp) ?_
    refine AllReadyH.cons (o := ?_) ?_ (fun K hK => ?_) AllReadyH.nil
    rotate_left 1
    · (simp only [List.getElem?_toArray, List.getElem?_cons_zero, List.getElem?_cons_succ]; try rfl)
    go_simp
    refine (newEditStack_any B r d _ (by omega) hsr (HR.out _ (below_then HB.out HE55.out.bel))).mono ?_
    rintro e Y56 ⟨v56, f56, rfl, ho56, hn56, hl56, hb56⟩
    obtain ⟨A56, c56, e56, _, _, _⟩ := Lay.edits.read ho56
    simp only [List.cons.injEq, and_true] at e56
    subst e56
    have HE56 := Lib.hid ((HE55.out.rot.fresh (a := It.own (.slice A56 r.length c56) r f56) hb56 ⟨ho56, hn56⟩ hl56).rot.rot.rot)
    clear ho56 hn56 hl56 hb56
    go_wp2_with fail
    refine hK.out _ _ ⟨(HE56.out.bel.cell (p := ⟨w.heap.size, 0, none⟩) zs).trans p0, (HE56.out.bel.cell (p := ⟨w.heap.size, 1, none⟩) zs).trans p1⟩ (fun hHeld => ?_)
    clear hK K
    (try simp only [Act.put, List.setIfInBounds_toArray, List.set_cons_zero, List.set_cons_succ])
    refine wpAnyH_ready (rs := [8]) (by kernel_rfl) (by simp) ?_
    refine AllReadyH.cons (o := ?_) ?_ (fun K hK => ?_) AllReadyH.nil
    rotate_left 1
    · (simp only [List.getElem?_toArray, List.getElem?_cons_zero, List.getElem?_cons_succ]; try rfl)
    have qb := HE56.out.p.2.2.1
    have qc := Blk.cell (show Blk Y56 (Y44.heap.size) #[.slice none 0 0] 139 from qb) 0
    have qf := Blk.frozen (show Blk Y56 (Y44.heap.size) #[.slice none 0 0] 139 from qb) 0
    have HE57 := Lib.hid ((HE56.out.rot.rot.upd (a' := It.blk (Y44.heap.size) (.slice A55 u.length c55)) ((Keeps.refl [Y44.heap.size] Y56).set (List.mem_singleton.2 rfl) 0 (.slice A55 u.length c55)) (show Blk _ _ _ _ by simpa using (show Blk Y56 (Y44.heap.size) #[.slice none 0 0] 139 from qb).set 0 (.slice A55 u.length c55)) (fun k hk => hk)).rot.rot)
    go_simp
    clear qb qc qf
    generalize Y56.setCell ⟨Y44.heap.size, 0, none⟩ (.slice A55 u.length c55) = Y57 at *
    refine hK.out _ _ ⟨(HE57.out.bel.cell (p := ⟨w.heap.size, 0, none⟩) zs).trans p0, (HE57.out.bel.cell (p := ⟨w.heap.size, 1, none⟩) zs).trans p1⟩ (fun hHeld => ?_)
    clear hK K
    (try simp only [Act.put, List.setIfInBounds_toArray, List.set_cons_zero, List.set_cons_succ])
    refine wpAnyH_ready (rs := [9]) (by kernel_rfl) (by simp) ?_
    refine AllReadyH.cons (o := ?_) ?_ (fun K hK => ?_) AllReadyH.nil
    rotate_left 1
    · (simp only [List.getElem?_toArray, List.getElem?_cons_zero, List.getElem?_cons_succ]; try rfl)
    have qb := HE57.out.p.2.2.2
    have qc := Blk.cell (show Blk Y57 (Y0.heap.size) #[.slice none 0 0] 139 from qb) 0
    have qf := Blk.frozen (show Blk Y57 (Y0.heap.size) #[.slice none 0 0] 139 from qb) 0
    have HE58 := Lib.hid ((HE57.out.rot.rot.rot.upd (a' := It.blk (Y0.heap.size) (.slice A56 r.length c56)) ((Keeps.refl [Y0.heap.size] Y57).set (List.mem_singleton.2 rfl) 0 (.slice A56 r.length c56)) (show Blk _ _ _ _ by simpa using (show Blk Y57 (Y0.heap.size) #[.slice none 0 0] 139 from qb).set 0 (.slice A56 r.length c56)) (fun k hk => hk)).rot)
    go_simp
    clear qb qc qf
    generalize Y57.setCell ⟨Y0.heap.size, 0, none⟩ (.slice A56 r.length c56) = Y58 at *
    refine hK.out _ _ ⟨(HE58.out.bel.cell (p := ⟨w.heap.size, 0, none⟩) zs).trans p0, (HE58.out.bel.cell (p := ⟨w.heap.size, 1, none⟩) zs).trans p1⟩ (fun hHeld => ?_)
    clear hK K
    (try simp only [Act.put, List.setIfInBounds_toArray, List.set_cons_zero, List.set_cons_succ])
    refine wpAnyH_done (by kernel_rfl) ?_ _
    refine NoPanic.normal ?_
    go_wp2_with fail
    go_meet
    exact ⟨_, _, A55, c55, f55, A56, c56, f56, rfl, rfl, HE58.out⟩
  case rest =>
    obtain ⟨b8, b9, A1, c1, f1, A2, c2, f2, rfl, rfl, hsep⟩ := hcut
    have HT := Lib.hid (Two.of_sep hsep)
    have hb := hsep.bel
    have hzz := hb.size
    have BX := Lib.hid (BX.out.below hb)
    have EX := Lib.hid (EX.out.below hb)
    have RX := Lib.hid (RX.out.below hb)
    have HB := Lib.hid (below_then HB.out hb)
    have hzB : w.heap.size ≤ W2.heap.size := by omega
    have hcc := Lib.hid (HCH.out wc b8 b9 W2.heap.size _ _ _ _ HG.out HB.out hzB hzz HT.out)
    clear hsep hb p0 p1 hsu hsr HCH
    go_wp2_with fail
    refine hcc.out.mono ?_
    rintro x W3 ⟨U', R', ⟨rfl, uv, fu, rv, fr, hT3, hb3⟩, heq⟩
    have RX := Lib.hid (RX.out.of_block (hb3.block (w.heap.size + 2) (by omega)))
    have HB := Lib.hid (HB.out.trans (hb3.mono hzB))
    have HT3 := Lib.hid hT3
    have HEQ := Lib.hid heq
    have hltR := RX.out.lt
    have f0 := RX.out.frozen 0
    have f1 := RX.out.frozen 1
    have c0 := RX.out.cell 0
    have c1 := RX.out.cell 1
    clear hT3 heq hb3 hcc HT BX EX
    cases ok
    · obtain ⟨hU0, hR0⟩ := HNO.out HG.out rfl
      subst hU0 hR0
      clear HNO HEQ
      go_wp2
      refine bodyPost_ret (v := .tuple #[.agg #[.slice none 0 0, .slice none 0 0], .bool false]) (by simp [results, Try.results119, go_sem, c0, c1]) rfl ?_
      exact ⟨none, 0, [], none, 0, [], rfl, ows_nil _ _, (HB.out.setCell (p := ⟨w.heap.size + 2, 0, none⟩) (by simp) _).setCell (p := ⟨w.heap.size + 2, 1, none⟩) (by simp) _⟩
    · obtain ⟨hU0, hR0⟩ := HEQ.out rfl
      subst hU0 hR0
      obtain ⟨A3, c3, e3, hO3⟩ := HT3.out.u.form
      obtain ⟨A4, c4, e4, hO4⟩ := HT3.out.r.form
      subst e3 e4
      have q0 : W3.cell? ⟨b8, 0, none⟩ = some (.slice A3 U'.length c3) := HT3.out.u.hd.cell 0
      have q1 : W3.cell? ⟨b9, 0, none⟩ = some (.slice A4 R'.length c4) := HT3.out.r.hd.cell 0
      have hk := ((Keeps.refl [w.heap.size + 2] W3).set (List.mem_singleton.2 rfl) 0 (.slice A3 U'.length c3)).set (List.mem_singleton.2 rfl) 1 (.slice A4 R'.length c4)
      have RX9 := Lib.hid (show Blk ((W3.setCell ⟨w.heap.size + 2, 0, none⟩ (.slice A3 U'.length c3)).setCell ⟨w.heap.size + 2, 1, none⟩ (.slice A4 R'.length c4)) (w.heap.size + 2) #[.slice A3 U'.length c3, .slice A4 R'.length c4] 46 by simpa using (RX.out.set 0 (.slice A3 U'.length c3)).set 1 (.slice A4 R'.length c4))
      have HO3 := Lib.hid ((hO3.keeps hk (fun k hk h => by have := hO3.lo k hk; simp at h; omega)).mono (base' := w.heap.size) hzB)
      have HO4 := Lib.hid ((hO4.keeps hk (fun k hk h => by have := hO4.lo k hk; simp at h; omega)).mono (base' := w.heap.size) hzB)
      have HDIS := Lib.hid HT3.out.dis
      have r0 := RX9.out.cell 0
      have r1 := RX9.out.cell 1
      clear hO3 hO4 hk HNO HEQ HT3
      go_wp2
      refine bodyPost_ret (v := .tuple #[.agg #[.slice A3 U'.length c3, .slice A4 R'.length c4], .bool true]) (by simp [results, Try.results119, go_sem, r0, r1]) rfl ?_
      exact ⟨_, _, _, _, _, _, rfl, ⟨HO3.out, HO4.out, HDIS.out⟩, (HB.out.setCell (p := ⟨w.heap.size + 2, 0, none⟩) (by simp) _).setCell (p := ⟨w.heap.size + 2, 1, none⟩) (by simp) _⟩

set_option maxHeartbeats 8000000 in
theorem implStackMoved_any (A : Option Addr) (u : List Ed) (c : Nat) (B : Option Addr) (r : List Ed) (d : Nat) (a m : Int) (P : Option Addr) (p : List UInt8) (ep : Nat) (w : World) (hu9 : u.length ≤ 9223372036854775807) (hr9 : r.length ≤ 9223372036854775807) (hp9 : p.length ≤ 9223372036854775807) (ha : -9223372036854775808 ≤ a ∧ a ≤ 9223372036854775807) (hm : -9223372036854775808 ≤ m ∧ m ≤ 9223372036854775807) (hU : Es w A u) (hR : Es w B r) (hP : Bs w P p) :
    Calls Try.prog 47 #[.agg #[.slice A u.length c, .slice B r.length d], .agg #[.int .i64 a, .int .i64 m, .slice P p.length ep]] w (GivesSt (movU u r (a, m, p)) (movR u r (a, m, p)) (movOk u r (a, m, p)) w) := by
  have hal := ((((Below.refl w.heap.size w).alloc (Nat.le_refl _) (.cells #[.slice A u.length c, .slice B r.length d] 46)).alloc (by simp) (.cells #[.int .i64 a, .int .i64 m, .slice P p.length ep] 30)).alloc (by simp; omega) (.cells #[.slice none 0 0, .slice none 0 0] 46))
  have hpb : 0 < p.length → ∀ q, P = some q → q.block < w.heap.size := fun h0 q hq => by
    obtain ⟨b, off, e, hlt, _⟩ := hP 0 h0
    rw [hq] at e
    cases e
    exact hlt
  have b0 := ((Blk.new w #[.slice A u.length c, .slice B r.length d] 46).alloc (.cells #[.int .i64 a, .int .i64 m, .slice P p.length ep] 30)).alloc (.cells #[.slice none 0 0, .slice none 0 0] 46)
  have b1 := (Blk.new (w.alloc (.cells #[.slice A u.length c, .slice B r.length d] 46)) #[.int .i64 a, .int .i64 m, .slice P p.length ep] 30).alloc (.cells #[.slice none 0 0, .slice none 0 0] 46)
  have rx := Blk.new ((w.alloc (.cells #[.slice A u.length c, .slice B r.length d] 46)).alloc (.cells #[.int .i64 a, .int .i64 m, .slice P p.length ep] 30)) #[.slice none 0 0, .slice none 0 0] 46
  simp only [World.size_alloc] at b1 rx
  have X0 := Lib.hid b0
  have X1 := Lib.hid b1
  have RX := Lib.hid rx
  have HB := Lib.hid hal
  have hzw : (((w.alloc (.cells #[.slice A u.length c, .slice B r.length d] 46)).alloc (.cells #[.int .i64 a, .int .i64 m, .slice P p.length ep] 30)).alloc (.cells #[.slice none 0 0, .slice none 0 0] 46)).heap.size ≥ w.heap.size + 3 := by simp
  have hU1 := hU.below hal
  have hR1 := hR.below hal
  have HPB := Lib.hid hpb
  have HPP := Lib.hid (show ∀ W, Below w.heap.size w W → Bs W P p from fun W h => hP.below h)
  have p0 := X0.out.cell 0
  have p1 := X0.out.cell 1
  have q0 := X1.out.cell 0
  have q1 := X1.out.cell 1
  have q2 := X1.out.cell 2
  have hcc := Lib.hid (changedMove_any A u c B r d a m P p ep (w.heap.size + 1) (movOk u r (a, m, p)) (movU u r (a, m, p)) (movR u r (a, m, p)) _ hu9 hr9 hp9 hU1 hR1 (fun hg h0 => by unfold movU movR; rw [h0]; exact ⟨rfl, rfl⟩) (fun hb => by
    have e : movOk u r (a, m, p) = false := by
      rw [movOk_fit]
      show ((stOk u r && edSmall a m p) && _) = false
      rw [hb]; rfl
    exact ⟨e, by unfold movU; rw [e]; rfl, by unfold movR; rw [e]; rfl⟩) (fun W ub rb B9 uv fu rv fr hg hW hwB hBW hT => by
    have hst : stOk u r = true := (Bool.and_eq_true_iff.1 hg).1
    have h7 := hst
    unfold stOk at h7
    rw [Bool.and_eq_true] at h7
    have hok : stOk (u.map (mvE (a, m, p))) (r.map (mvE (a, m, p))) = movOk u r (a, m, p) := by
      rw [movOk_fit]
      show _ = ((stOk u r && edSmall a m p) && _)
      rw [hg, Bool.true_and]
    refine (moveCl_any ub rb B9 _ uv u fu rv r fr a m P p ep W hp9 h7.1 h7.2 (Bool.and_eq_true_iff.1 hg).2 (X1.out.below hW) (by have := HB.out.size; omega) hT hBW).mono ?_
    intro x w' hx
    rw [hok] at hx
    refine ⟨_, _, hx, fun h0 => ?_⟩
    have h9 := h0
    unfold movOk at h9
    rw [Bool.and_eq_true, Bool.and_eq_true (mvAll _ u)] at h9
    unfold movU movR mvL
    rw [if_pos h0, if_pos h0, if_pos h9.2.1, if_pos h9.2.2]
    exact ⟨rfl, rfl⟩))
  clear hU1 hR1 hU hR hP hpb b0 b1 rx hal
  go_enter Try.func47, Try.ntmps47
  go_wp2_with fail
  generalize ((w.alloc (.cells #[.slice A u.length c, .slice B r.length d] 46)).alloc (.cells #[.int .i64 a, .int .i64 m, .slice P p.length ep] 30)).alloc (.cells #[.slice none 0 0, .slice none 0 0] 46) = W0 at *
  refine hcc.out.mono ?_
  rintro x W1 ⟨A1, c1, f1, B1, d1, g1, rfl, hO1, hb⟩
  have RX := Lib.hid (RX.out.below hb)
  have HB := Lib.hid (below_then HB.out hb)
  have hO1 := Lib.hid hO1
  have f0 := RX.out.frozen 0
  have f1' := RX.out.frozen 1
  have c0 := RX.out.cell 0
  have c1' := RX.out.cell 1
  have hltR := RX.out.lt
  clear hb hcc p0 p1 q0 q1 q2
  obtain ⟨N, hN⟩ : ∃ N, (movU u r (a, m, p)).length = N := ⟨_, rfl⟩
  obtain ⟨M, hM⟩ : ∃ M, (movR u r (a, m, p)).length = M := ⟨_, rfl⟩
  rw [hN, hM]
  have hk := ((Keeps.refl [w.heap.size + 2] W1).set (List.mem_singleton.2 rfl) 0 (.slice A1 N c1)).set (List.mem_singleton.2 rfl) 1 (.slice B1 M d1)
  have RX9 := Lib.hid (show Blk ((W1.setCell ⟨w.heap.size + 2, 0, none⟩ (.slice A1 N c1)).setCell ⟨w.heap.size + 2, 1, none⟩ (.slice B1 M d1)) (w.heap.size + 2) #[.slice A1 N c1, .slice B1 M d1] 46 by simpa using (RX.out.set 0 (.slice A1 N c1)).set 1 (.slice B1 M d1))
  have HO9 := Lib.hid (hO1.out.keeps hk (fun k hk h => by have := hO1.out.u.lo k hk; simp at h; omega) (fun k hk h => by have := hO1.out.r.lo k hk; simp at h; omega))
  have HB9 := Lib.hid ((HB.out.setCell (p := ⟨w.heap.size + 2, 0, none⟩) (by simp) (.slice A1 N c1)).setCell (p := ⟨w.heap.size + 2, 1, none⟩) (by simp) (.slice B1 M d1))
  have r0 := RX9.out.cell 0
  have r1 := RX9.out.cell 1
  have HNN := Lib.hid hN
  have HMM := Lib.hid hM
  clear hk hN hM
  go_wp2
  refine bodyPost_ret (v := .tuple #[.agg #[.slice A1 N c1, .slice B1 M d1], .bool (movOk u r (a, m, p))]) (by simp [results, Try.results47, go_sem, r0, r1]) rfl ?_
  exact ⟨_, _, _, _, _, _, by rw [HNN.out, HMM.out], ⟨HO9.out.u.mono (by omega), HO9.out.r.mono (by omega), HO9.out.dis⟩, HB9.out⟩

end Go.Proofs.Ytdmmdbapkogdhaa
