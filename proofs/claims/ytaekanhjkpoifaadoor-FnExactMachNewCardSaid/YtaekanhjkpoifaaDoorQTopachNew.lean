/-
  Texts of one claim in one: C14e, C15, C15e, C16, Setrow, C17, C18, C19, C20, Cl, D10, M02, WFnExactMachNew. Own work.
-/
import Derived.Test.YtaekanhjkpoifaaDoorC14
import Derived.Deep.RegionWith
import Derived.Deep.RegionHeld3
import Derived.Test.YtaekanhjkpoifaaDoorC11
import Derived.Test.YtaekanhjkpoifaaDoorS10
import Derived.Test.YtaekanhjkpoifaaDoorLay
import Derived.Test.YtaekanhjkpoifaaDoorSnoc
import Derived.Test.YtaekanhjkpoifaaDoorBlk
import Derived.Test.YtaekanhjkpoifaaDoorI01f
import Derived.Test.YtaekanhjkpoifaaDoorApp
import Derived.Test.YtaekanhjkpoifaaDoorS01
import Derived.Test.YtaekanhjkpoifaaDoorLaw0
import Derived.Deep.DeepCutAuto

/-
  Chapter 10, the laws' equality of lists (eqCommitS): contract. Own work.
-/
namespace Go.Proofs.YtaekanhjkpoifaaDoor
open Go.RowKit P
set_option linter.unusedVariables false
set_option linter.unusedSimpArgs false
set_option maxRecDepth 100000

set_option maxHeartbeats 4000000 in
theorem eqCommitS_any (A B : Option Addr) (es fs : List Cm) (c d : Nat) (w : World) (hl : es.length ≤ 9223372036854775807) (hA : Cms w A es) (hB : Cms w B fs) :
    Calls Tryd.prog 23 #[.slice A es.length c, .slice B fs.length d] w fun e w' => e = .returned (.bool (decide (es = fs))) ∧ Below w.heap.size w w' := by
  by_cases hlen : es.length = fs.length
  · have hne : ((es.length : Int) != (fs.length : Int)) = false := by simp [hlen]
    have HLEN := Lib.hid hlen
    have hle : es.length ≤ fs.length := by omega
    clear hlen
    go_enter Tryd.func23, Tryd.ntmps23
    go_wp2
    go_loopw [5] (fun i wr => ∃ k : Nat, k ≤ es.length ∧ i = .int .i64 k ∧ es.take k = fs.take k ∧ Below w.heap.size w wr)
      (fun i _ => es.length - (intOf i).toNat)
    case atStart => exact ⟨0, Nat.zero_le _, rfl, by simp, Below.refl _ _⟩
    case round =>
      obtain ⟨k, hk, rfl, htake, hb⟩ := hrel
      by_cases hlt : k < es.length
      · have hlt2 : k < fs.length := by omega
        obtain ⟨b1, off1, s, a, m, B1, p, d1, rfl, hbl1, hek1, k0, k1, k2, k3, _, _, _, hpd1, hdm1, hB1⟩ := (hA.below hb).at_ k hlt
        obtain ⟨b2, off2, s', a', m', B2, q, d2, rfl, hbl2, hek2, s0', s1', s2', s3', _, _, _, hpd2, hdm2, hB2⟩ := (hB.below hb).at_ k hlt2
        have HT := Lib.hid htake
        clear htake
        have hst : es.take (k + 1) = fs.take (k + 1) ↔ (s = s' ∧ a = a' ∧ m = m' ∧ p = q) := by
          rw [List.take_succ_eq_append_getElem hlt, List.take_succ_eq_append_getElem hlt2, HT.out, List.append_cancel_left_eq, hek1, hek2]
          simp only [List.cons.injEq, and_true, Prod.mk.injEq]
        have HS := Lib.hid hst
        clear hst hek1 hek2
        have hi0 : (0 : Int) ≤ (k : Int) := by omega
        have hi1 : (k : Int) < (es.length : Int) := by omega
        have hi2 : (k : Int) < (fs.length : Int) := by omega
        have hdm9 : p.length ≤ 9223372036854775807 := by unfold maxLen at hdm1; omega
        have HB1 := Lib.hid hB1
        have HB2 := Lib.hid hB2
        generalize hq : decide (s = s' ∧ a = a' ∧ m = m' ∧ p = q) = z
        have HQ := Lib.hid hq
        clear hq hB1 hB2
        go_wp2_with fail
        refine wp_region_held_drew (S := (fun V => V.cell? ⟨b1, off1 + k * 4, none⟩ = some (.int .i64 s) ∧ V.cell? ⟨b1, off1 + k * 4 + 1, none⟩ = some (.int .i64 a) ∧ V.cell? ⟨b1, off1 + k * 4 + 2, none⟩ = some (.int .i64 m) ∧ V.cell? ⟨b1, off1 + k * 4 + 3, none⟩ = some (.slice B1 p.length d1) ∧ V.cell? ⟨b2, off2 + k * 4, none⟩ = some (.int .i64 s') ∧ V.cell? ⟨b2, off2 + k * 4 + 1, none⟩ = some (.int .i64 a') ∧ V.cell? ⟨b2, off2 + k * 4 + 2, none⟩ = some (.int .i64 m') ∧ V.cell? ⟨b2, off2 + k * 4 + 3, none⟩ = some (.slice B2 q.length d2))) (by kernel_rfl) (by exact ⟨k0, k1, k2, k3, s0', s1', s2', s3'⟩) (fun hHeld => ?_)
        refine wpAnyH_take (i := 0) (oi := ?_) (v := ?_) ?_ ?_ ?_ ?_ ?_ ?_ (by exact hHeld) ?_
        rotate_left 2
        · (simp only [List.getElem?_toArray, List.getElem?_cons_zero]; try rfl)
        · kernel_rfl
        · kernel_rfl
        · kernel_rfl
        · exact fun _ _ _ h => h
        · refine Or.inl ⟨by rfl, ?_⟩
          (intro V hSV; (try dsimp only at hSV); obtain ⟨q0, q1, q2, q3, q4, q5, q6, q7⟩ := hSV; go_simp; try with_reducible rfl)
        (try simp only [Act.put, List.setIfInBounds_toArray, List.set_cons_zero, List.set_cons_succ])
        refine wpAnyH_take (i := 1) (oi := ?_) (v := ?_) ?_ ?_ ?_ ?_ ?_ ?_ (by exact hHeld) ?_
        rotate_left 2
        · (simp only [List.getElem?_toArray, List.getElem?_cons_zero, List.getElem?_cons_succ]; try rfl)
        · kernel_rfl
        · kernel_rfl
        · kernel_rfl
        · exact fun _ _ _ h => h
        · refine Or.inl ⟨by rfl, ?_⟩
          (intro V hSV; (try dsimp only at hSV); obtain ⟨q0, q1, q2, q3, q4, q5, q6, q7⟩ := hSV; go_simp; try with_reducible rfl)
        (try simp only [Act.put, List.setIfInBounds_toArray, List.set_cons_zero, List.set_cons_succ])
        refine wpAnyH_take (i := 2) (oi := ?_) (v := ?_) ?_ ?_ ?_ ?_ ?_ ?_ (by exact hHeld) ?_
        rotate_left 2
        · (simp only [List.getElem?_toArray, List.getElem?_cons_zero, List.getElem?_cons_succ]; try rfl)
        · kernel_rfl
        · kernel_rfl
        · kernel_rfl
        · exact fun _ _ _ h => h
        · refine Or.inl ⟨by rfl, ?_⟩
          (intro V hSV; (try dsimp only at hSV); obtain ⟨q0, q1, q2, q3, q4, q5, q6, q7⟩ := hSV; go_simp; try with_reducible rfl)
        (try simp only [Act.put, List.setIfInBounds_toArray, List.set_cons_zero, List.set_cons_succ])
        refine wpAnyH_take (i := 3) (oi := ?_) (v := ?_) ?_ ?_ ?_ ?_ ?_ ?_ (by exact hHeld) ?_
        rotate_left 2
        · (simp only [List.getElem?_toArray, List.getElem?_cons_zero, List.getElem?_cons_succ]; try rfl)
        · kernel_rfl
        · kernel_rfl
        · kernel_rfl
        · exact fun _ _ _ h => h
        · refine Or.inl ⟨by rfl, ?_⟩
          (intro V hSV; (try dsimp only at hSV); obtain ⟨q0, q1, q2, q3, q4, q5, q6, q7⟩ := hSV; go_simp; try with_reducible rfl)
        (try simp only [Act.put, List.setIfInBounds_toArray, List.set_cons_zero, List.set_cons_succ])
        refine wpAnyH_take (i := 4) (oi := ?_) (v := ?_) ?_ ?_ ?_ ?_ ?_ ?_ (by exact hHeld) ?_
        rotate_left 2
        · (simp only [List.getElem?_toArray, List.getElem?_cons_zero, List.getElem?_cons_succ]; try rfl)
        · kernel_rfl
        · kernel_rfl
        · kernel_rfl
        · exact fun _ _ _ h => h
        · refine Or.inl ⟨by rfl, ?_⟩
          (intro V hSV; (try dsimp only at hSV); obtain ⟨q0, q1, q2, q3, q4, q5, q6, q7⟩ := hSV; go_simp; try with_reducible rfl)
        (try simp only [Act.put, List.setIfInBounds_toArray, List.set_cons_zero, List.set_cons_succ])
        refine wpAnyH_take (i := 5) (oi := ?_) (v := ?_) ?_ ?_ ?_ ?_ ?_ ?_ (by exact hHeld) ?_
        rotate_left 2
        · (simp only [List.getElem?_toArray, List.getElem?_cons_zero, List.getElem?_cons_succ]; try rfl)
        · kernel_rfl
        · kernel_rfl
        · kernel_rfl
        · exact fun _ _ _ h => h
        · refine Or.inl ⟨by rfl, ?_⟩
          (intro V hSV; (try dsimp only at hSV); obtain ⟨q0, q1, q2, q3, q4, q5, q6, q7⟩ := hSV; go_simp; try with_reducible rfl)
        (try simp only [Act.put, List.setIfInBounds_toArray, List.set_cons_zero, List.set_cons_succ])
        refine wpAnyH_take (i := 6) (oi := ?_) (v := ?_) ?_ ?_ ?_ ?_ ?_ ?_ (by exact hHeld) ?_
        rotate_left 2
        · (simp only [List.getElem?_toArray, List.getElem?_cons_zero, List.getElem?_cons_succ]; try rfl)
        · kernel_rfl
        · kernel_rfl
        · kernel_rfl
        · exact fun _ _ _ h => h
        · refine Or.inl ⟨by rfl, ?_⟩
          (intro V hSV; (try dsimp only at hSV); obtain ⟨q0, q1, q2, q3, q4, q5, q6, q7⟩ := hSV; go_simp; try with_reducible rfl)
        (try simp only [Act.put, List.setIfInBounds_toArray, List.set_cons_zero, List.set_cons_succ])
        refine wpAnyH_take (i := 7) (oi := ?_) (v := ?_) ?_ ?_ ?_ ?_ ?_ ?_ (by exact hHeld) ?_
        rotate_left 2
        · (simp only [List.getElem?_toArray, List.getElem?_cons_zero, List.getElem?_cons_succ]; try rfl)
        · kernel_rfl
        · kernel_rfl
        · kernel_rfl
        · exact fun _ _ _ h => h
        · refine Or.inl ⟨by rfl, ?_⟩
          (intro V hSV; (try dsimp only at hSV); obtain ⟨q0, q1, q2, q3, q4, q5, q6, q7⟩ := hSV; go_simp; try with_reducible rfl)
        (try simp only [Act.put, List.setIfInBounds_toArray, List.set_cons_zero, List.set_cons_succ])
        refine wpAnyH_ready (rs := [8]) (by kernel_rfl) (by simp) ?_
        refine AllReadyH.cons rfl (fun K hK => ?_) AllReadyH.nil
        go_simp
        refine (eqCommit_any s a m s' a' m' B1 B2 p q d1 d2 _ hdm9 (by have h9 := HB1.out; exact h9) (by have h9 := HB2.out; exact h9)).mono ?_
        rintro e w1 ⟨rfl, hb1⟩
        rw [HQ.out]
        have hb1 : Below wr.heap.size wr w1 := ⟨hb1.os, hb1.tape, hb1.output, hb1.size, hb1.block⟩
        go_wp2_with fail
        refine hK.out _ _ (by exact ⟨((hb1).cell (p := ⟨b1, off1 + k * 4, none⟩) hbl1).trans k0, ((hb1).cell (p := ⟨b1, off1 + k * 4 + 1, none⟩) hbl1).trans k1, ((hb1).cell (p := ⟨b1, off1 + k * 4 + 2, none⟩) hbl1).trans k2, ((hb1).cell (p := ⟨b1, off1 + k * 4 + 3, none⟩) hbl1).trans k3, ((hb1).cell (p := ⟨b2, off2 + k * 4, none⟩) hbl2).trans s0', ((hb1).cell (p := ⟨b2, off2 + k * 4 + 1, none⟩) hbl2).trans s1', ((hb1).cell (p := ⟨b2, off2 + k * 4 + 2, none⟩) hbl2).trans s2', ((hb1).cell (p := ⟨b2, off2 + k * 4 + 3, none⟩) hbl2).trans s3'⟩) (fun hHeld => ?_)
        clear hK K
        (try simp only [Act.put, List.setIfInBounds_toArray, List.set_cons_zero, List.set_cons_succ])
        refine wpAnyH_take (i := 9) (oi := ?_) (v := ?_) ?_ ?_ ?_ ?_ ?_ ?_ (by exact hHeld) ?_
        rotate_left 2
        · (simp only [List.getElem?_toArray, List.getElem?_cons_zero, List.getElem?_cons_succ]; try rfl)
        · kernel_rfl
        · kernel_rfl
        · kernel_rfl
        · exact fun _ _ _ h => h
        · refine Or.inl ⟨by rfl, ?_⟩
          (intro V hSV; (try dsimp only at hSV); obtain ⟨q0, q1, q2, q3, q4, q5, q6, q7⟩ := hSV; go_simp; try with_reducible rfl)
        (try simp only [Act.put, List.setIfInBounds_toArray, List.set_cons_zero, List.set_cons_succ])
        refine wpAnyH_done (by kernel_rfl) ?_ _
        have hb9 := below_then hb hb1
        cases z
        · go_wp2
          go_ret
          have : es ≠ fs := by
            intro e
            have h1 := of_decide_eq_false HQ.out
            have h2 := HS.out.1 (by rw [e])
            exact h1 h2
          exact ⟨by simp [this], hb9⟩
        · go_wp2
          go_roundw
          case rel => exact ⟨k + 1, by omega, by go_num, HS.out.2 (of_decide_eq_true HQ.out), hb9⟩
          case measure => simp [intOf]; omega
      · go_wp2
        go_ret
        have e1 : k = es.length := by omega
        subst e1
        rw [List.take_length] at htake
        have e2 : es = fs := by rw [htake, HLEN.out, List.take_length]
        exact ⟨by simp [e2], hb⟩
  · have hne : ((es.length : Int) != (fs.length : Int)) = true := by simp; omega
    go_enter Tryd.func23, Tryd.ntmps23
    go_wp2
    go_ret
    exact ⟨by simp; intro e; exact hlen (by rw [e]), Below.refl _ _⟩
end Go.Proofs.YtaekanhjkpoifaaDoor

/-
  Chapter 10, the laws' helpers on members: layouts and contracts (sizes, copies, equality). Own work.
-/
namespace Go.Proofs.YtaekanhjkpoifaaDoor
open Go.RowKit P
set_option linter.unusedVariables false
set_option linter.unusedSimpArgs false
set_option maxRecDepth 100000

/-- A member: the session, the selection, the stack. -/
abbrev Mb := Int × (Int × Int) × (List Ed × List Ed)
instance decEds : DecidableEq (List Ed × List Ed) := instDecidableEqProd
instance decMb : DecidableEq Mb := instDecidableEqProd
instance decMbs : DecidableEq (List Mb) := inferInstance
def Lay.selL : Lay (Int × Int) := Lay.pair Lay.int Lay.int
def Lay.stackL : Lay (List Ed × List Ed) := Lay.pair Lay.edits Lay.edits
def Lay.member : Lay Mb := Lay.pair Lay.int (Lay.pair Lay.selL Lay.stackL)
def Lay.members : Lay (List Mb) := Lay.slice 70 Lay.member
/-- The slice of members that starts at A. -/
def Mbs (w : World) (A : Option Addr) (es : List Mb) : Prop := Sl 5 Lay.member.rd w A es
theorem Mbs.below {w w' : World} {A : Option Addr} {es : List Mb} (h : Mbs w A es) (hb : Below w.heap.size w w') : Mbs w' A es := Sl.below (E := Lay.member) h hb
theorem Lay.member_rd {w : World} {cs : List Value} {s f t : Int} {u r : List Ed} (h : Lay.member.rd w cs (s, (f, t), (u, r))) : ∃ B c C d, cs = [.int .i64 s, .int .i64 f, .int .i64 t, .slice B u.length c, .slice C r.length d] ∧ isI s ∧ isI f ∧ isI t ∧ u.length ≤ c ∧ c ≤ maxLen ∧ r.length ≤ d ∧ d ≤ maxLen ∧ Es w B u ∧ Es w C r := by
  obtain ⟨c1, c2, rfl, ⟨rfl, hs⟩, c3, c4, rfl, ⟨c5, c6, rfl, ⟨rfl, hf⟩, rfl, ht⟩, c7, c8, rfl, ⟨B, c, rfl, h1, h2, hB⟩, C, d, rfl, h3, h4, hC⟩ := h
  exact ⟨B, c, C, d, rfl, hs, hf, ht, h1, h2, h3, h4, hB, hC⟩
theorem Mbs.at_ {w : World} {A : Option Addr} {es : List Mb} (h : Mbs w A es) (k : Nat) (hk : k < es.length) :
    ∃ b off s f t B u c C r d, A = some ⟨b, off, none⟩ ∧ b < w.heap.size ∧ es[k] = (s, (f, t), (u, r)) ∧ w.cell? ⟨b, off + k * 5, none⟩ = some (.int .i64 s) ∧ w.cell? ⟨b, off + k * 5 + 1, none⟩ = some (.int .i64 f) ∧ w.cell? ⟨b, off + k * 5 + 2, none⟩ = some (.int .i64 t) ∧
      w.cell? ⟨b, off + k * 5 + 3, none⟩ = some (.slice B u.length c) ∧ w.cell? ⟨b, off + k * 5 + 4, none⟩ = some (.slice C r.length d) ∧ isI s ∧ isI f ∧ isI t ∧ u.length ≤ c ∧ c ≤ maxLen ∧ r.length ≤ d ∧ d ≤ maxLen ∧ Es w B u ∧ Es w C r := by
  obtain ⟨b, off, us, hA, hlt, hus, hc, hr⟩ := h k hk
  obtain ⟨⟨s, ⟨f, t⟩, ⟨u, r⟩⟩, he⟩ : ∃ e, es[k] = e := ⟨_, rfl⟩
  rw [he] at hr
  obtain ⟨B, c, C, d, rfl, hs, hf, ht, h1, h2, h3, h4, hB, hC⟩ := Lay.member_rd hr
  refine ⟨b, off, s, f, t, B, u, c, C, r, d, hA, hlt, he, ?_, ?_, ?_, ?_, ?_, hs, hf, ht, h1, h2, h3, h4, hB, hC⟩
  · have := hc 0 (by simp); simpa using this
  · have := hc 1 (by simp); simpa [Nat.add_assoc] using this
  · have := hc 2 (by simp); simpa [Nat.add_assoc] using this
  · have := hc 3 (by simp); simpa [Nat.add_assoc] using this
  · have := hc 4 (by simp); simpa [Nat.add_assoc] using this
theorem Tryd.infoMb : (Tryd.prog.info? 70).map (fun i => (i.zero, i.size, i.bytes)) = some (some (.agg #[.int .i64 0, .int .i64 0, .int .i64 0, .slice none 0 0, .slice none 0 0]), 5, 72) := by kernel_rfl
/-- A member of the call's own. -/
theorem own_member {w : World} {base : Nat} {s f t : Int} {A B : Option Addr} {u r : List Ed} {c d : Nat} {fp gp : List Nat} (hs : isI s) (hf : isI f) (ht : isI t) (h : OwS w base A u c fp B r d gp) :
    Lay.member.ow w [.int .i64 s, .int .i64 f, .int .i64 t, .slice A u.length c, .slice B r.length d] (s, (f, t), (u, r)) (fp ++ gp) :=
  ⟨[.int .i64 s], [.int .i64 f, .int .i64 t, .slice A u.length c, .slice B r.length d], [], fp ++ gp, rfl, ⟨rfl, hs, rfl⟩, ⟨[.int .i64 f, .int .i64 t], [.slice A u.length c, .slice B r.length d], [], fp ++ gp, rfl, ⟨[.int .i64 f], [.int .i64 t], [], [], rfl, ⟨rfl, hf, rfl⟩, ⟨rfl, ht, rfl⟩, rfl⟩, ⟨[.slice A u.length c], [.slice B r.length d], fp, gp, rfl, h.u.ow, h.r.ow, rfl⟩, rfl⟩, rfl⟩
theorem OwS.nodup {w : World} {base : Nat} {A B : Option Addr} {u r : List Ed} {c d : Nat} {fp gp : List Nat} (h : OwS w base A u c fp B r d gp) : (fp ++ gp).Nodup := by
  rw [List.nodup_append]
  exact ⟨h.u.nd, h.r.nd, fun a ha b hb e => h.dis a ha (by rw [e]; exact hb)⟩
theorem OwS.lo {w : World} {base : Nat} {A B : Option Addr} {u r : List Ed} {c d : Nat} {fp gp : List Nat} (h : OwS w base A u c fp B r d gp) : ∀ k ∈ fp ++ gp, base ≤ k := by
  intro k hk
  rcases List.mem_append.1 hk with h1 | h1
  · exact h.u.lo k h1
  · exact h.r.lo k h1

/-- What the stacks of members hold. -/
def mtot (m : Mb) : Nat := m.2.2.1.length + tot (puts m.2.2.1) + m.2.2.2.length + tot (puts m.2.2.2)
def msum (es : List Mb) : Nat := (es.map mtot).sum
theorem msum_take (es : List Mb) (k : Nat) (hk : k < es.length) : msum (es.take (k + 1)) = msum (es.take k) + mtot es[k] := by
  unfold msum
  rw [List.take_succ_eq_append_getElem hk, List.map_append, List.sum_append]
  simp
theorem msum_mem (es : List Mb) (k : Nat) (hk : k < es.length) : mtot es[k] ≤ msum es := by
  unfold msum
  have h : es = es.take k ++ es[k] :: es.drop (k + 1) := by rw [← List.drop_eq_getElem_cons hk, List.take_append_drop]
  have h2 : (es.map mtot).sum = ((es.take k).map mtot).sum + (mtot es[k] + ((es.drop (k + 1)).map mtot).sum) := by
    conv => lhs; rw [h]
    rw [List.map_append, List.sum_append, List.map_cons, List.sum_cons]
  omega

set_option maxHeartbeats 1000000 in
theorem eqSel_gen (x y x' y' : Int) (w : World) :
    Calls Tryd.prog 46 #[.agg #[.int .i64 x, .int .i64 y], .agg #[.int .i64 x', .int .i64 y']] w fun e w' => e = .returned (.bool (decide (x = x' ∧ y = y'))) ∧ Below w.heap.size w w' := by
  by_cases h1 : x = x'
  · have e1 : (x != x') = false := by simp [h1]
    by_cases h2 : y = y'
    · have e2 : (y != y') = false := by simp [h2]
      rw [decide_eq_true ⟨h1, h2⟩]
      clear h1 h2
      go_enter Tryd.func46, Tryd.ntmps46
      go_wp2
      go_ret
      refine ⟨rfl, ?_⟩
      (repeat (first | exact Below.refl _ _ | assumption | refine Below.setCell ?_ (by first | (simp; done) | (simp; omega) | omega) _ | refine Below.drew ?_ | refine below_drewN ?_ _ | refine Below.alloc ?_ (by first | (simp; done) | (simp; omega) | omega) _))
    · have e2 : (y != y') = true := by simp [h2]
      rw [decide_eq_false (fun h => h2 h.2)]
      clear h1 h2
      go_enter Tryd.func46, Tryd.ntmps46
      go_wp2
      go_ret
      refine ⟨rfl, ?_⟩
      (repeat (first | exact Below.refl _ _ | assumption | refine Below.setCell ?_ (by first | (simp; done) | (simp; omega) | omega) _ | refine Below.drew ?_ | refine below_drewN ?_ _ | refine Below.alloc ?_ (by first | (simp; done) | (simp; omega) | omega) _))
  · have e1 : (x != x') = true := by simp [h1]
    rw [decide_eq_false (fun h => h1 h.1)]
    clear h1
    go_enter Tryd.func46, Tryd.ntmps46
    go_wp2
    go_ret
    refine ⟨rfl, ?_⟩
    (repeat (first | exact Below.refl _ _ | assumption | refine Below.setCell ?_ (by first | (simp; done) | (simp; omega) | omega) _ | refine Below.drew ?_ | refine below_drewN ?_ _ | refine Below.alloc ?_ (by first | (simp; done) | (simp; omega) | omega) _))

set_option maxHeartbeats 4000000 in
theorem eqMember_any (s f t s' f' t' : Int) (A : Option Addr) (u : List Ed) (c : Nat) (B : Option Addr) (r : List Ed) (d : Nat) (A' : Option Addr) (u' : List Ed) (c' : Nat) (B' : Option Addr) (r' : List Ed) (d' : Nat) (w : World) (hu9 : u.length ≤ 9223372036854775807) (hr9 : r.length ≤ 9223372036854775807) (hU : Es w A u) (hR : Es w B r) (hU' : Es w A' u') (hR' : Es w B' r') :
    Calls Tryd.prog 37 #[.agg #[.int .i64 s, .int .i64 f, .int .i64 t, .slice A u.length c, .slice B r.length d], .agg #[.int .i64 s', .int .i64 f', .int .i64 t', .slice A' u'.length c', .slice B' r'.length d']] w fun e w' => e = .returned (.bool (decide (s = s' ∧ (f = f' ∧ t = t') ∧ u = u' ∧ r = r'))) ∧ Below w.heap.size w w' := by
  have hb0 := (((Below.refl w.heap.size w).alloc (Nat.le_refl _) (.cells #[.int .i64 s, .int .i64 f, .int .i64 t, .slice A u.length c, .slice B r.length d] 70))).alloc (by simp) (.cells #[.int .i64 s', .int .i64 f', .int .i64 t', .slice A' u'.length c', .slice B' r'.length d'] 70)
  have BX := Lib.hid ((Blk.new w #[.int .i64 s, .int .i64 f, .int .i64 t, .slice A u.length c, .slice B r.length d] 70).alloc (.cells #[.int .i64 s', .int .i64 f', .int .i64 t', .slice A' u'.length c', .slice B' r'.length d'] 70))
  have hy := Blk.new (w.alloc (.cells #[.int .i64 s, .int .i64 f, .int .i64 t, .slice A u.length c, .slice B r.length d] 70)) #[.int .i64 s', .int .i64 f', .int .i64 t', .slice A' u'.length c', .slice B' r'.length d'] 70
  simp only [World.size_alloc] at hy
  have BY := Lib.hid hy
  have HU := Lib.hid (hU.below hb0)
  have HR := Lib.hid (hR.below hb0)
  have HU' := Lib.hid (hU'.below hb0)
  have HR' := Lib.hid (hR'.below hb0)
  obtain ⟨z, hz⟩ : ∃ z, decide (s = s' ∧ (f = f' ∧ t = t') ∧ u = u' ∧ r = r') = z := ⟨_, rfl⟩
  obtain ⟨z1, hz1⟩ : ∃ z, decide (f = f' ∧ t = t') = z := ⟨_, rfl⟩
  obtain ⟨z2, hz2⟩ : ∃ z, (decide (u = u') && decide (r = r')) = z := ⟨_, rfl⟩
  have F0 : s ≠ s' → z = false := fun h => by rw [← hz]; simp [h]
  have F1 : s = s' → z = (z1 && z2) := fun h => by
    rw [← hz, ← hz1, ← hz2]
    by_cases a1 : f = f' <;> by_cases a2 : t = t' <;> by_cases a3 : u = u' <;> by_cases a4 : r = r' <;> simp [h, a1, a2, a3, a4]
  rw [hz]
  have HZ1 := Lib.hid hz1
  have HZ2 := Lib.hid hz2
  have HF1 := Lib.hid F1
  have HB0 := Lib.hid hb0
  clear hU hR hU' hR' hy hz hz1 hz2 F1
  by_cases h1 : s = s'
  · have e1 : (s != s') = false := by simp [h1]
    have hzz := HF1.out h1
    subst hzz
    clear h1 F0
    have p1 := BX.out.cell 1
    have p2 := BX.out.cell 2
    have q1 := BY.out.cell 1
    have q2 := BY.out.cell 2
    go_enter Tryd.func37, Tryd.ntmps37
    go_wp2_with fail
    generalize (w.alloc (.cells #[.int .i64 s, .int .i64 f, .int .i64 t, .slice A u.length c, .slice B r.length d] 70)).alloc (.cells #[.int .i64 s', .int .i64 f', .int .i64 t', .slice A' u'.length c', .slice B' r'.length d'] 70) = W at *
    refine (eqSel_gen f t f' t' _).mono ?_
    rintro e w1 ⟨rfl, hb1⟩
    rw [HZ1.out]
    have BX := Lib.hid (BX.out.below hb1)
    have BY := Lib.hid (BY.out.below hb1)
    have HU := Lib.hid (HU.out.below hb1)
    have HR := Lib.hid (HR.out.below hb1)
    have HU' := Lib.hid (HU'.out.below hb1)
    have HR' := Lib.hid (HR'.out.below hb1)
    have HB9 := Lib.hid (below_then HB0.out hb1)
    clear p1 p2 q1 q2 hb0
    cases z1
    · go_wp2
      go_ret
      exact ⟨rfl, HB9.out⟩
    have p3 := BX.out.cell 3
    have p4 := BX.out.cell 4
    have q3 := BY.out.cell 3
    have q4 := BY.out.cell 4
    go_wp2_with fail
    refine (eqStack_any A u c B r d A' u' c' B' r' d' _ hu9 hr9 HU.out HR.out HU'.out HR'.out).mono ?_
    rintro e w2 ⟨rfl, hb2⟩
    rw [HZ2.out]
    have HB10 := Lib.hid (below_then HB9.out hb2)
    clear p3 p4 q3 q4
    cases z2
    · go_wp2
      go_ret
      exact ⟨rfl, HB10.out⟩
    · go_wp2
      go_ret
      exact ⟨rfl, HB10.out⟩
  · have hzz := F0 h1
    subst hzz
    have e1 : (s != s') = true := by simp [h1]
    clear h1 F0
    go_enter Tryd.func37, Tryd.ntmps37
    go_wp2
    go_ret
    exact ⟨rfl, HB0.out⟩
end Go.Proofs.YtaekanhjkpoifaaDoor

/-
  Chapter 10, the laws' equality of lists (eqMemberS): contract. Own work.
-/
namespace Go.Proofs.YtaekanhjkpoifaaDoor
open Go.RowKit P
set_option linter.unusedVariables false
set_option linter.unusedSimpArgs false
set_option maxRecDepth 100000

set_option maxHeartbeats 4000000 in
theorem eqMemberS_any (A B : Option Addr) (es fs : List Mb) (c d : Nat) (w : World) (hl : es.length ≤ 9223372036854775807) (hA : Mbs w A es) (hB : Mbs w B fs) :
    Calls Tryd.prog 24 #[.slice A es.length c, .slice B fs.length d] w fun e w' => e = .returned (.bool (decide (es = fs))) ∧ Below w.heap.size w w' := by
  by_cases hlen : es.length = fs.length
  · have hne : ((es.length : Int) != (fs.length : Int)) = false := by simp [hlen]
    have HLEN := Lib.hid hlen
    have hle : es.length ≤ fs.length := by omega
    clear hlen
    go_enter Tryd.func24, Tryd.ntmps24
    go_wp2
    go_loopw [5] (fun i wr => ∃ k : Nat, k ≤ es.length ∧ i = .int .i64 k ∧ es.take k = fs.take k ∧ Below w.heap.size w wr)
      (fun i _ => es.length - (intOf i).toNat)
    case atStart => exact ⟨0, Nat.zero_le _, rfl, by simp, Below.refl _ _⟩
    case round =>
      obtain ⟨k, hk, rfl, htake, hb⟩ := hrel
      by_cases hlt : k < es.length
      · have hlt2 : k < fs.length := by omega
        obtain ⟨b1, off1, s, f, t, A1, u, c1, B1, r, d1, rfl, hbl1, hek1, k0, k1, k2, k3, k4, _, _, _, hcu1, hcm1, hdr1, hdm1, hU1, hR1⟩ := (hA.below hb).at_ k hlt
        obtain ⟨b2, off2, s', f', t', A2, u', c2, B2, r', d2, rfl, hbl2, hek2, s0', s1', s2', s3', s4', _, _, _, hcu2, hcm2, hdr2, hdm2, hU2, hR2⟩ := (hB.below hb).at_ k hlt2
        have HT := Lib.hid htake
        clear htake
        have hst : es.take (k + 1) = fs.take (k + 1) ↔ (s = s' ∧ (f = f' ∧ t = t') ∧ u = u' ∧ r = r') := by
          rw [List.take_succ_eq_append_getElem hlt, List.take_succ_eq_append_getElem hlt2, HT.out, List.append_cancel_left_eq, hek1, hek2]
          simp only [List.cons.injEq, and_true, Prod.mk.injEq]
        have HS := Lib.hid hst
        clear hst hek1 hek2
        have hi0 : (0 : Int) ≤ (k : Int) := by omega
        have hi1 : (k : Int) < (es.length : Int) := by omega
        have hi2 : (k : Int) < (fs.length : Int) := by omega
        have hu9 : u.length ≤ 9223372036854775807 := by unfold maxLen at hcm1; omega
        have hr9 : r.length ≤ 9223372036854775807 := by unfold maxLen at hdm1; omega
        have HU1 := Lib.hid hU1
        have HR1 := Lib.hid hR1
        have HU2 := Lib.hid hU2
        have HR2 := Lib.hid hR2
        generalize hq : decide (s = s' ∧ (f = f' ∧ t = t') ∧ u = u' ∧ r = r') = z
        have HQ := Lib.hid hq
        clear hq hU1 hR1 hU2 hR2
        go_wp2_with fail
        refine wp_region_held_drew (S := (fun V => V.cell? ⟨b1, off1 + k * 5, none⟩ = some (.int .i64 s) ∧ V.cell? ⟨b1, off1 + k * 5 + 1, none⟩ = some (.int .i64 f) ∧ V.cell? ⟨b1, off1 + k * 5 + 2, none⟩ = some (.int .i64 t) ∧ V.cell? ⟨b1, off1 + k * 5 + 3, none⟩ = some (.slice A1 u.length c1) ∧ V.cell? ⟨b1, off1 + k * 5 + 4, none⟩ = some (.slice B1 r.length d1) ∧ V.cell? ⟨b2, off2 + k * 5, none⟩ = some (.int .i64 s') ∧ V.cell? ⟨b2, off2 + k * 5 + 1, none⟩ = some (.int .i64 f') ∧ V.cell? ⟨b2, off2 + k * 5 + 2, none⟩ = some (.int .i64 t') ∧ V.cell? ⟨b2, off2 + k * 5 + 3, none⟩ = some (.slice A2 u'.length c2) ∧ V.cell? ⟨b2, off2 + k * 5 + 4, none⟩ = some (.slice B2 r'.length d2))) (by kernel_rfl) (by exact ⟨k0, k1, k2, k3, k4, s0', s1', s2', s3', s4'⟩) (fun hHeld => ?_)
        refine wpAnyH_take (i := 0) (oi := ?_) (v := ?_) ?_ ?_ ?_ ?_ ?_ ?_ (by exact hHeld) ?_
        rotate_left 2
        · (simp only [List.getElem?_toArray, List.getElem?_cons_zero]; try rfl)
        · kernel_rfl
        · kernel_rfl
        · kernel_rfl
        · exact fun _ _ _ h => h
        · refine Or.inl ⟨by rfl, ?_⟩
          (intro V hSV; (try dsimp only at hSV); obtain ⟨q0, q1, q2, q3, q4, q5, q6, q7, q8, q9⟩ := hSV; go_simp; try with_reducible rfl)
        (try simp only [Act.put, List.setIfInBounds_toArray, List.set_cons_zero, List.set_cons_succ])
        refine wpAnyH_take (i := 1) (oi := ?_) (v := ?_) ?_ ?_ ?_ ?_ ?_ ?_ (by exact hHeld) ?_
        rotate_left 2
        · (simp only [List.getElem?_toArray, List.getElem?_cons_zero, List.getElem?_cons_succ]; try rfl)
        · kernel_rfl
        · kernel_rfl
        · kernel_rfl
        · exact fun _ _ _ h => h
        · refine Or.inl ⟨by rfl, ?_⟩
          (intro V hSV; (try dsimp only at hSV); obtain ⟨q0, q1, q2, q3, q4, q5, q6, q7, q8, q9⟩ := hSV; go_simp; try with_reducible rfl)
        (try simp only [Act.put, List.setIfInBounds_toArray, List.set_cons_zero, List.set_cons_succ])
        refine wpAnyH_take (i := 2) (oi := ?_) (v := ?_) ?_ ?_ ?_ ?_ ?_ ?_ (by exact hHeld) ?_
        rotate_left 2
        · (simp only [List.getElem?_toArray, List.getElem?_cons_zero, List.getElem?_cons_succ]; try rfl)
        · kernel_rfl
        · kernel_rfl
        · kernel_rfl
        · exact fun _ _ _ h => h
        · refine Or.inl ⟨by rfl, ?_⟩
          (intro V hSV; (try dsimp only at hSV); obtain ⟨q0, q1, q2, q3, q4, q5, q6, q7, q8, q9⟩ := hSV; go_simp; try with_reducible rfl)
        (try simp only [Act.put, List.setIfInBounds_toArray, List.set_cons_zero, List.set_cons_succ])
        refine wpAnyH_take (i := 3) (oi := ?_) (v := ?_) ?_ ?_ ?_ ?_ ?_ ?_ (by exact hHeld) ?_
        rotate_left 2
        · (simp only [List.getElem?_toArray, List.getElem?_cons_zero, List.getElem?_cons_succ]; try rfl)
        · kernel_rfl
        · kernel_rfl
        · kernel_rfl
        · exact fun _ _ _ h => h
        · refine Or.inl ⟨by rfl, ?_⟩
          (intro V hSV; (try dsimp only at hSV); obtain ⟨q0, q1, q2, q3, q4, q5, q6, q7, q8, q9⟩ := hSV; go_simp; try with_reducible rfl)
        (try simp only [Act.put, List.setIfInBounds_toArray, List.set_cons_zero, List.set_cons_succ])
        refine wpAnyH_take (i := 4) (oi := ?_) (v := ?_) ?_ ?_ ?_ ?_ ?_ ?_ (by exact hHeld) ?_
        rotate_left 2
        · (simp only [List.getElem?_toArray, List.getElem?_cons_zero, List.getElem?_cons_succ]; try rfl)
        · kernel_rfl
        · kernel_rfl
        · kernel_rfl
        · exact fun _ _ _ h => h
        · refine Or.inl ⟨by rfl, ?_⟩
          (intro V hSV; (try dsimp only at hSV); obtain ⟨q0, q1, q2, q3, q4, q5, q6, q7, q8, q9⟩ := hSV; go_simp; try with_reducible rfl)
        (try simp only [Act.put, List.setIfInBounds_toArray, List.set_cons_zero, List.set_cons_succ])
        refine wpAnyH_take (i := 5) (oi := ?_) (v := ?_) ?_ ?_ ?_ ?_ ?_ ?_ (by exact hHeld) ?_
        rotate_left 2
        · (simp only [List.getElem?_toArray, List.getElem?_cons_zero, List.getElem?_cons_succ]; try rfl)
        · kernel_rfl
        · kernel_rfl
        · kernel_rfl
        · exact fun _ _ _ h => h
        · refine Or.inl ⟨by rfl, ?_⟩
          (intro V hSV; (try dsimp only at hSV); obtain ⟨q0, q1, q2, q3, q4, q5, q6, q7, q8, q9⟩ := hSV; go_simp; try with_reducible rfl)
        (try simp only [Act.put, List.setIfInBounds_toArray, List.set_cons_zero, List.set_cons_succ])
        refine wpAnyH_take (i := 6) (oi := ?_) (v := ?_) ?_ ?_ ?_ ?_ ?_ ?_ (by exact hHeld) ?_
        rotate_left 2
        · (simp only [List.getElem?_toArray, List.getElem?_cons_zero, List.getElem?_cons_succ]; try rfl)
        · kernel_rfl
        · kernel_rfl
        · kernel_rfl
        · exact fun _ _ _ h => h
        · refine Or.inl ⟨by rfl, ?_⟩
          (intro V hSV; (try dsimp only at hSV); obtain ⟨q0, q1, q2, q3, q4, q5, q6, q7, q8, q9⟩ := hSV; go_simp; try with_reducible rfl)
        (try simp only [Act.put, List.setIfInBounds_toArray, List.set_cons_zero, List.set_cons_succ])
        refine wpAnyH_take (i := 7) (oi := ?_) (v := ?_) ?_ ?_ ?_ ?_ ?_ ?_ (by exact hHeld) ?_
        rotate_left 2
        · (simp only [List.getElem?_toArray, List.getElem?_cons_zero, List.getElem?_cons_succ]; try rfl)
        · kernel_rfl
        · kernel_rfl
        · kernel_rfl
        · exact fun _ _ _ h => h
        · refine Or.inl ⟨by rfl, ?_⟩
          (intro V hSV; (try dsimp only at hSV); obtain ⟨q0, q1, q2, q3, q4, q5, q6, q7, q8, q9⟩ := hSV; go_simp; try with_reducible rfl)
        (try simp only [Act.put, List.setIfInBounds_toArray, List.set_cons_zero, List.set_cons_succ])
        refine wpAnyH_ready (rs := [8]) (by kernel_rfl) (by simp) ?_
        refine AllReadyH.cons rfl (fun K hK => ?_) AllReadyH.nil
        go_simp
        refine (eqMember_any s f t s' f' t' A1 u c1 B1 r d1 A2 u' c2 B2 r' d2 _ hu9 hr9 (by have h9 := HU1.out; exact h9) (by have h9 := HR1.out; exact h9) (by have h9 := HU2.out; exact h9) (by have h9 := HR2.out; exact h9)).mono ?_
        rintro e w1 ⟨rfl, hb1⟩
        rw [HQ.out]
        have hb1 : Below wr.heap.size wr w1 := ⟨hb1.os, hb1.tape, hb1.output, hb1.size, hb1.block⟩
        go_wp2_with fail
        refine hK.out _ _ (by exact ⟨((hb1).cell (p := ⟨b1, off1 + k * 5, none⟩) hbl1).trans k0, ((hb1).cell (p := ⟨b1, off1 + k * 5 + 1, none⟩) hbl1).trans k1, ((hb1).cell (p := ⟨b1, off1 + k * 5 + 2, none⟩) hbl1).trans k2, ((hb1).cell (p := ⟨b1, off1 + k * 5 + 3, none⟩) hbl1).trans k3, ((hb1).cell (p := ⟨b1, off1 + k * 5 + 4, none⟩) hbl1).trans k4, ((hb1).cell (p := ⟨b2, off2 + k * 5, none⟩) hbl2).trans s0', ((hb1).cell (p := ⟨b2, off2 + k * 5 + 1, none⟩) hbl2).trans s1', ((hb1).cell (p := ⟨b2, off2 + k * 5 + 2, none⟩) hbl2).trans s2', ((hb1).cell (p := ⟨b2, off2 + k * 5 + 3, none⟩) hbl2).trans s3', ((hb1).cell (p := ⟨b2, off2 + k * 5 + 4, none⟩) hbl2).trans s4'⟩) (fun hHeld => ?_)
        clear hK K
        (try simp only [Act.put, List.setIfInBounds_toArray, List.set_cons_zero, List.set_cons_succ])
        refine wpAnyH_take (i := 9) (oi := ?_) (v := ?_) ?_ ?_ ?_ ?_ ?_ ?_ (by exact hHeld) ?_
        rotate_left 2
        · (simp only [List.getElem?_toArray, List.getElem?_cons_zero, List.getElem?_cons_succ]; try rfl)
        · kernel_rfl
        · kernel_rfl
        · kernel_rfl
        · exact fun _ _ _ h => h
        · refine Or.inl ⟨by rfl, ?_⟩
          (intro V hSV; (try dsimp only at hSV); obtain ⟨q0, q1, q2, q3, q4, q5, q6, q7, q8, q9⟩ := hSV; go_simp; try with_reducible rfl)
        (try simp only [Act.put, List.setIfInBounds_toArray, List.set_cons_zero, List.set_cons_succ])
        refine wpAnyH_done (by kernel_rfl) ?_ _
        have hb9 := below_then hb hb1
        cases z
        · go_wp2
          go_ret
          have : es ≠ fs := by
            intro e
            have h1 := of_decide_eq_false HQ.out
            have h2 := HS.out.1 (by rw [e])
            exact h1 h2
          exact ⟨by simp [this], hb9⟩
        · go_wp2
          go_roundw
          case rel => exact ⟨k + 1, by omega, by go_num, HS.out.2 (of_decide_eq_true HQ.out), hb9⟩
          case measure => simp [intOf]; omega
      · go_wp2
        go_ret
        have e1 : k = es.length := by omega
        subst e1
        rw [List.take_length] at htake
        have e2 : es = fs := by rw [htake, HLEN.out, List.take_length]
        exact ⟨by simp [e2], hb⟩
  · have hne : ((es.length : Int) != (fs.length : Int)) = true := by simp; omega
    go_enter Tryd.func24, Tryd.ntmps24
    go_wp2
    go_ret
    exact ⟨by simp; intro e; exact hlen (by rw [e]), Below.refl _ _⟩
end Go.Proofs.YtaekanhjkpoifaaDoor

/-
  Chapter 10, the laws' helpers on documents: what a document reads as, and contracts (sizes, copies, equality). Own work.
-/
namespace Go.Proofs.YtaekanhjkpoifaaDoor
open Go.RowKit P
set_option linter.unusedVariables false
set_option linter.unusedSimpArgs false
set_option maxRecDepth 100000

/-- A document's value. -/
structure Dc where
  start : List UInt8
  text : List UInt8
  log : List Cm
  clock : Int
  mem : List Mb
  lea : List Le
instance decDc : DecidableEq Dc := fun x y => decidable_of_iff (x.start = y.start ∧ x.text = y.text ∧ x.log = y.log ∧ x.clock = y.clock ∧ x.mem = y.mem ∧ x.lea = y.lea) (by
  obtain ⟨a1, a2, a3, a4, a5, a6⟩ := x
  obtain ⟨b1, b2, b3, b4, b5, b6⟩ := y
  simp only [Dc.mk.injEq])
/-- Where a document's parts lie. -/
structure Da where
  s : Option Addr
  cs : Nat
  t : Option Addr
  ct : Nat
  l : Option Addr
  cl : Nat
  m : Option Addr
  cm : Nat
  e : Option Addr
  ce : Nat
/-- What the parts of a document read as. -/
structure RdD (w : World) (a : Da) (d : Dc) : Prop where
  s : Bs w a.s d.start
  t : Bs w a.t d.text
  l : Cms w a.l d.log
  m : Mbs w a.m d.mem
  e : Ll w a.e d.lea
  hs : d.start.length ≤ a.cs ∧ a.cs ≤ maxLen
  ht : d.text.length ≤ a.ct ∧ a.ct ≤ maxLen
  hl : d.log.length ≤ a.cl ∧ a.cl ≤ maxLen
  hm : d.mem.length ≤ a.cm ∧ a.cm ≤ maxLen
  he : d.lea.length ≤ a.ce ∧ a.ce ≤ maxLen
  clk : isI d.clock
theorem RdD.below {w w' : World} {a : Da} {d : Dc} (h : RdD w a d) (hb : Below w.heap.size w w') : RdD w' a d :=
  ⟨h.s.below hb, h.t.below hb, h.l.below hb, h.m.below hb, h.e.below hb, h.hs, h.ht, h.hl, h.hm, h.he, h.clk⟩
theorem RdD.n9 {w : World} {a : Da} {d : Dc} (h : RdD w a d) : d.start.length ≤ 9223372036854775807 ∧ d.text.length ≤ 9223372036854775807 ∧ d.log.length ≤ 9223372036854775807 ∧ d.mem.length ≤ 9223372036854775807 ∧ d.lea.length ≤ 9223372036854775807 := by
  have h1 := h.hs; have h2 := h.ht; have h3 := h.hl; have h4 := h.hm; have h5 := h.he
  unfold maxLen at h1 h2 h3 h4 h5
  refine ⟨?_, ?_, ?_, ?_, ?_⟩ <;> omega
/-- How much a document holds. -/
def dtot (d : Dc) : Nat := d.start.length + d.text.length + (d.log.length + tot (cputs d.log)) + (d.mem.length + msum d.mem) + d.lea.length
/-- A document of the call's own. -/
structure OwD (w : World) (base : Nat) (a : Da) (d : Dc) (fs ft fl fm fe : List Nat) : Prop where
  s : Lay.bytes.ow w [.slice a.s d.start.length a.cs] d.start fs
  t : Lay.bytes.ow w [.slice a.t d.text.length a.ct] d.text ft
  l : Lay.commits.ow w [.slice a.l d.log.length a.cl] d.log fl
  m : Lay.members.ow w [.slice a.m d.mem.length a.cm] d.mem fm
  e : Lay.leases.ow w [.slice a.e d.lea.length a.ce] d.lea fe
  clk : isI d.clock
  nd : (fs ++ (ft ++ (fl ++ (fm ++ fe)))).Nodup
  lo : ∀ k ∈ fs ++ (ft ++ (fl ++ (fm ++ fe))), base ≤ k
theorem OwD.below {w w' : World} {base : Nat} {a : Da} {d : Dc} {fs ft fl fm fe : List Nat} (h : OwD w base a d fs ft fl fm fe) (hb : Below w.heap.size w w') : OwD w' base a d fs ft fl fm fe :=
  ⟨Lay.bytes.owBelow h.s hb, Lay.bytes.owBelow h.t hb, Lay.commits.owBelow h.l hb, Lay.members.owBelow h.m hb, Lay.leases.owBelow h.e hb, h.clk, h.nd, h.lo⟩
theorem OwD.rd {w : World} {base : Nat} {a : Da} {d : Dc} {fs ft fl fm fe : List Nat} (h : OwD w base a d fs ft fl fm fe) : RdD w a d := by
  obtain ⟨A1, c1, e1, g1, k1, h1⟩ := Lay.bytes.read h.s
  obtain ⟨A2, c2, e2, g2, k2, h2⟩ := Lay.bytes.read h.t
  obtain ⟨A3, c3, e3, g3, k3, h3⟩ := Lay.commits.read h.l
  obtain ⟨A4, c4, e4, g4, k4, h4⟩ := Lay.members.read h.m
  obtain ⟨A5, c5, e5, g5, k5, h5⟩ := Lay.leases.read h.e
  simp only [List.cons.injEq, Value.slice.injEq, and_true, true_and] at e1 e2 e3 e4 e5
  rw [← e1.1] at h1; rw [← e2.1] at h2; rw [← e3.1] at h3; rw [← e4.1] at h4; rw [← e5.1] at h5
  rw [← e1.2] at g1 k1; rw [← e2.2] at g2 k2; rw [← e3.2] at g3 k3; rw [← e4.2] at g4 k4; rw [← e5.2] at g5 k5
  exact ⟨h1, h2, h3, h4, h5, ⟨g1, k1⟩, ⟨g2, k2⟩, ⟨g3, k3⟩, ⟨g4, k4⟩, ⟨g5, k5⟩, h.clk⟩

theorem gives_slice {α : Type} {T : TypeId} {E : Lay α} {x : List α} {w : World} {e : Ending} {w' : World} (h : Gives (Lay.slice T E) wSlice x w e w') :
    ∃ A c fp, e = .returned (.slice A x.length c) ∧ (Lay.slice T E).ow w' [.slice A x.length c] x fp ∧ fp.Nodup ∧ (∀ k ∈ fp, w.heap.size ≤ k) ∧ Below w.heap.size w w' := by
  obtain ⟨cs, fp, he, how, hn, hb, hbel⟩ := h
  obtain ⟨A, c, rfl, _, _, _⟩ := (Lay.slice T E).read how
  exact ⟨A, c, fp, he, how, hn, hb, hbel⟩

set_option maxHeartbeats 16000000 in
theorem eqDoc_any (a b : Da) (d f : Dc) (w : World) (hD : RdD w a d) (hE : RdD w b f) :
    Calls Tryd.prog 14 #[.agg #[.slice a.s d.start.length a.cs, .slice a.t d.text.length a.ct, .slice a.l d.log.length a.cl, .int .i64 d.clock, .slice a.m d.mem.length a.cm, .slice a.e d.lea.length a.ce], .agg #[.slice b.s f.start.length b.cs, .slice b.t f.text.length b.ct, .slice b.l f.log.length b.cl, .int .i64 f.clock, .slice b.m f.mem.length b.cm, .slice b.e f.lea.length b.ce]] w fun e w' => e = .returned (.bool (decide (d = f))) ∧ Below w.heap.size w w' := by
  have hal := ((Below.refl w.heap.size w).alloc (Nat.le_refl _) (.cells #[.slice a.s d.start.length a.cs, .slice a.t d.text.length a.ct, .slice a.l d.log.length a.cl, .int .i64 d.clock, .slice a.m d.mem.length a.cm, .slice a.e d.lea.length a.ce] 27)).alloc (by simp) (.cells #[.slice b.s f.start.length b.cs, .slice b.t f.text.length b.ct, .slice b.l f.log.length b.cl, .int .i64 f.clock, .slice b.m f.mem.length b.cm, .slice b.e f.lea.length b.ce] 27)
  have hx := (Blk.new w #[.slice a.s d.start.length a.cs, .slice a.t d.text.length a.ct, .slice a.l d.log.length a.cl, .int .i64 d.clock, .slice a.m d.mem.length a.cm, .slice a.e d.lea.length a.ce] 27).alloc (.cells #[.slice b.s f.start.length b.cs, .slice b.t f.text.length b.ct, .slice b.l f.log.length b.cl, .int .i64 f.clock, .slice b.m f.mem.length b.cm, .slice b.e f.lea.length b.ce] 27)
  have hy := Blk.new (w.alloc (.cells #[.slice a.s d.start.length a.cs, .slice a.t d.text.length a.ct, .slice a.l d.log.length a.cl, .int .i64 d.clock, .slice a.m d.mem.length a.cm, .slice a.e d.lea.length a.ce] 27)) #[.slice b.s f.start.length b.cs, .slice b.t f.text.length b.ct, .slice b.l f.log.length b.cl, .int .i64 f.clock, .slice b.m f.mem.length b.cm, .slice b.e f.lea.length b.ce] 27
  simp only [World.size_alloc] at hy
  have BX := Lib.hid hx
  have BY := Lib.hid hy
  have HD := Lib.hid (hD.below hal)
  have HE := Lib.hid (hE.below hal)
  have HB := Lib.hid hal
  obtain ⟨n1, n2, n3, n4, n5⟩ := hD.n9
  obtain ⟨z0, hz0⟩ : ∃ z, decide (d.start = f.start) = z := ⟨_, rfl⟩
  obtain ⟨z1, hz1⟩ : ∃ z, decide (d.text = f.text) = z := ⟨_, rfl⟩
  obtain ⟨z2, hz2⟩ : ∃ z, decide (d.log = f.log) = z := ⟨_, rfl⟩
  obtain ⟨z3, hz3⟩ : ∃ z, (d.clock != f.clock) = z := ⟨_, rfl⟩
  obtain ⟨z4, hz4⟩ : ∃ z, decide (d.mem = f.mem) = z := ⟨_, rfl⟩
  obtain ⟨z5, hz5⟩ : ∃ z, decide (d.lea = f.lea) = z := ⟨_, rfl⟩
  have hR : decide (d = f) = (z0 && (z1 && (z2 && (!z3 && (z4 && z5))))) := by
    rw [← hz0, ← hz1, ← hz2, ← hz3, ← hz4, ← hz5]
    obtain ⟨a1, a2, a3, a4, a5, a6⟩ := d
    obtain ⟨b1, b2, b3, b4, b5, b6⟩ := f
    simp only [Dc.mk.injEq]
    by_cases h1 : a1 = b1 <;> by_cases h2 : a2 = b2 <;> by_cases h3 : a3 = b3 <;> by_cases h4 : a4 = b4 <;> by_cases h5 : a5 = b5 <;> by_cases h6 : a6 = b6 <;> simp [h1, h2, h3, h4, h5, h6]
  rw [hR]
  have HZ0 := Lib.hid hz0
  have HZ1 := Lib.hid hz1
  have HZ2 := Lib.hid hz2
  have HZ4 := Lib.hid hz4
  have HZ5 := Lib.hid hz5
  have p0 := BX.out.cell 0
  have q0 := BY.out.cell 0
  clear hD hE hx hy hal hz0 hz1 hz2 hz4 hz5 hR
  go_enter Tryd.func14, Tryd.ntmps14
  go_wp2_with fail
  generalize (w.alloc (.cells #[.slice a.s d.start.length a.cs, .slice a.t d.text.length a.ct, .slice a.l d.log.length a.cl, .int .i64 d.clock, .slice a.m d.mem.length a.cm, .slice a.e d.lea.length a.ce] 27)).alloc (.cells #[.slice b.s f.start.length b.cs, .slice b.t f.text.length b.ct, .slice b.l f.log.length b.cl, .int .i64 f.clock, .slice b.m f.mem.length b.cm, .slice b.e f.lea.length b.ce] 27) = W at *

  refine (eqByteS_any a.s b.s d.start f.start a.cs b.cs _ n1 HD.out.s HE.out.s).mono ?_
  rintro e w0 ⟨rfl, n, rfl⟩
  have hb := below_drewN (Below.refl W.heap.size W) n
  generalize W.drewN n = w0 at *
  rw [HZ0.out]
  have HB := Lib.hid (below_then HB.out hb)
  have BX := Lib.hid (BX.out.below hb)
  have BY := Lib.hid (BY.out.below hb)
  have HD := Lib.hid (HD.out.below hb)
  have HE := Lib.hid (HE.out.below hb)
  clear hb p0 q0
  cases z0
  · go_wp2
    go_ret
    exact ⟨rfl, HB.out⟩
  have p0 := BX.out.cell 1
  have q0 := BY.out.cell 1
  go_wp2_with fail
  refine (eqByteS_any a.t b.t d.text f.text a.ct b.ct _ n2 HD.out.t HE.out.t).mono ?_
  rintro e w1 ⟨rfl, n, rfl⟩
  have hb := below_drewN (Below.refl w0.heap.size w0) n
  generalize w0.drewN n = w1 at *
  rw [HZ1.out]
  have HB := Lib.hid (below_then HB.out hb)
  have BX := Lib.hid (BX.out.below hb)
  have BY := Lib.hid (BY.out.below hb)
  have HD := Lib.hid (HD.out.below hb)
  have HE := Lib.hid (HE.out.below hb)
  clear hb p0 q0
  cases z1
  · go_wp2
    go_ret
    exact ⟨rfl, HB.out⟩
  have p0 := BX.out.cell 2
  have q0 := BY.out.cell 2
  go_wp2_with fail
  refine (eqCommitS_any a.l b.l d.log f.log a.cl b.cl _ n3 HD.out.l HE.out.l).mono ?_
  rintro e w2 ⟨rfl, hb⟩
  rw [HZ2.out]
  have HB := Lib.hid (below_then HB.out hb)
  have BX := Lib.hid (BX.out.below hb)
  have BY := Lib.hid (BY.out.below hb)
  have HD := Lib.hid (HD.out.below hb)
  have HE := Lib.hid (HE.out.below hb)
  clear hb p0 q0
  cases z2
  · go_wp2
    go_ret
    exact ⟨rfl, HB.out⟩
  have p0 := BX.out.cell 4
  have q0 := BY.out.cell 4
  have p3 := BX.out.cell 3
  have q3 := BY.out.cell 3
  cases z3
  rotate_left 1
  · go_wp2
    go_ret
    exact ⟨rfl, HB.out⟩
  go_wp2_with fail
  refine (eqMemberS_any a.m b.m d.mem f.mem a.cm b.cm _ n4 HD.out.m HE.out.m).mono ?_
  rintro e w3 ⟨rfl, hb⟩
  rw [HZ4.out]
  have HB := Lib.hid (below_then HB.out hb)
  have BX := Lib.hid (BX.out.below hb)
  have BY := Lib.hid (BY.out.below hb)
  have HD := Lib.hid (HD.out.below hb)
  have HE := Lib.hid (HE.out.below hb)
  clear hb p0 q0
  cases z4
  · go_wp2
    go_ret
    exact ⟨rfl, HB.out⟩
  have p0 := BX.out.cell 5
  have q0 := BY.out.cell 5
  go_wp2_with fail
  refine (eqLeaseS_any a.e b.e d.lea f.lea a.ce b.ce _ n5 HD.out.e HE.out.e).mono ?_
  rintro e w4 ⟨rfl, hb⟩
  rw [HZ5.out]
  have HB := Lib.hid (below_then HB.out hb)
  have BX := Lib.hid (BX.out.below hb)
  have BY := Lib.hid (BY.out.below hb)
  have HD := Lib.hid (HD.out.below hb)
  have HE := Lib.hid (HE.out.below hb)
  clear hb p0 q0
  cases z5
  · go_wp2
    go_ret
    exact ⟨rfl, HB.out⟩
  go_wp2
  go_ret
  exact ⟨rfl, HB.out⟩
end Go.Proofs.YtaekanhjkpoifaaDoor

/-
  One element of an own slice of anything, put anew: its cells in the row and what it owns. Own work.
-/
namespace Go.Proofs.YtaekanhjkpoifaaDoor
open Go.RowKit P
set_option linter.unusedVariables false
set_option linter.unusedSimpArgs false

theorem Lay.put {α : Type} {T : TypeId} {E : Lay α} {w : World} {v : Value} {l : List α} {fp : List Nat} (h : (Lay.slice T E).ow w [v] l fp) (hn : fp.Nodup) (hpos : 0 < E.sz) (i : Nat) (hi : i < l.length) :
    ∃ g c cur us fi, v = .slice (some ⟨g, 0, none⟩) l.length c ∧ us.length = E.sz ∧ Blk w g cur T ∧ l.length * E.sz ≤ cur.size ∧ (∀ j (hj : j < us.length), cur[i * E.sz + j]? = some us[j]) ∧
      E.ow w us l[i] fi ∧ fi.Nodup ∧ g ∈ fp ∧ (∀ k ∈ fi, k ∈ fp ∧ k ≠ g) ∧ ∀ w' x' us' cur', us'.length = E.sz → Keeps (g :: fi) w w' → Blk w' g cur' T → cur'.size = cur.size → (∀ j (hj : j < us'.length), cur'[i * E.sz + j]? = some us'[j]) →
        (∀ q, q < i * E.sz ∨ i * E.sz + E.sz ≤ q → cur'[q]? = cur[q]?) → E.ow w' us' x' fi → (Lay.slice T E).ow w' [v] (l.set i x') fp := by
  obtain ⟨v', es, hv, hl, hrow, hes, hfp⟩ := h
  cases hv
  subst hl
  rw [List.length_map] at hi
  obtain ⟨a, e, b, hab, ha, he⟩ := split_at es i hi
  have hlen : ∀ e ∈ es, (e.1 : List Value).length = E.sz := fun e he => E.len (E.read (hes e he))
  have hei : (es.map (·.2.1))[i]'(by rw [List.length_map]; exact hi) = e.2.1 := by rw [List.getElem_map, ← he]
  have heo := hes e (by rw [he]; exact List.getElem_mem hi)
  rcases hrow.2 with ⟨hv, h0⟩ | ⟨g, cap, cur, hv, _, hh, hnc, hcm, hcs, htk⟩
  · omega
  · subst hv
    have hg : g < w.heap.size := (Array.getElem?_eq_some_iff.1 hh).1
    have hgfp : g ∈ fp := by rw [hfp]; simp [Value.ownBlock]
    rw [hfp, hab, List.flatMap_append, List.flatMap_cons] at hn
    simp only [Value.ownBlock, Option.toList_some, List.singleton_append, List.nodup_cons, List.mem_append, not_or] at hn
    obtain ⟨⟨n1, n2, n3⟩, hn⟩ := hn
    rw [List.nodup_append] at hn
    obtain ⟨na, hn, nd1⟩ := hn
    rw [List.nodup_append] at hn
    obtain ⟨ne, nb, nd2⟩ := hn
    have hcz : es.length * E.sz ≤ cur.size := by rw [hcs]; exact Nat.mul_le_mul_right _ hnc
    refine ⟨g, cap, cur, e.1, e.2.2, by simp, hlen e (by rw [he]; exact List.getElem_mem hi), hh, by rw [List.length_map]; exact hcz, fun j hj => ?_, by rw [hei]; exact heo, ne, hgfp, fun k hk => ⟨?_, fun x => n2 (by rw [← x]; exact hk)⟩, fun w' x' us' cur' hus hke hblk hsz hnew hold hox => ?_⟩
    · have hj' : j < (es[i].1).length := by rw [← he]; exact hj
      have hgt := flat_get E.sz es (·.1) hlen i hi j hj'
      rw [← htk, List.getElem?_take] at hgt
      split at hgt
      · simp only [Array.getElem?_toList] at hgt
        rw [hgt]
        simp only [he]
      · cases hgt
    · rw [hfp, hab, List.flatMap_append, List.flatMap_cons]
      simp [hk]
    · have hset : (es.map (·.2.1)).set i x' = (a ++ (us', x', e.2.2) :: b).map (·.2.1) := by
        rw [hab, List.map_append, List.map_cons, List.set_append_right _ _ (by rw [List.length_map]; omega), List.length_map, ha, Nat.sub_self, List.set_cons_zero, List.map_append, List.map_cons]
      rw [hset]
      have e1 : (a ++ (us', x', e.2.2) :: b).length = es.length := by rw [hab]; simp
      have hla : ∀ f ∈ a, (f.1 : List Value).length = E.sz := fun f hf => hlen f (by rw [hab]; exact List.mem_append.2 (.inl hf))
      have hfa := flat_len E.sz a (·.1) hla
      have hle : (e.1 : List Value).length = E.sz := hlen e (by rw [hab]; simp)
      have hfl := flat_len E.sz es (·.1) hlen
      refine ⟨_, a ++ (us', x', e.2.2) :: b, rfl, rfl, ?_, ?_, ?_⟩
      · rw [e1]
        refine ⟨?_, .inr ⟨g, cap, cur', rfl, Nat.zero_le _, hblk, hnc, hcm, by rw [hsz]; exact hcs, ?_⟩⟩
        · have h9 := hrow.1
          rw [← h9, hab]
          simp [hus, hle]
        · apply List.ext_getElem?
          intro q
          have htq : (cur.toList.take (es.length * E.sz))[q]? = (es.flatMap (·.1))[q]? := by rw [htk]
          rw [List.getElem?_take] at htq ⊢
          rw [List.flatMap_append, List.flatMap_cons]
          rw [hab, List.flatMap_append, List.flatMap_cons] at htq
          simp only [Array.getElem?_toList] at htq ⊢
          by_cases h1 : q < i * E.sz
          · rw [hold q (.inl h1)]
            rw [List.getElem?_append_left (by rw [hfa, ha]; exact h1)] at htq ⊢
            rw [← hab] at htq
            exact htq
          · by_cases h2 : q < i * E.sz + E.sz
            · have hq : q = i * E.sz + (q - i * E.sz) := by omega
              have hin : q < es.length * E.sz := by
                have : (i + 1) * E.sz ≤ es.length * E.sz := Nat.mul_le_mul_right _ hi
                rw [Nat.add_mul, Nat.one_mul] at this
                omega
              rw [if_pos hin]
              have h9 := hnew (q - i * E.sz) (by rw [hus]; omega)
              rw [← hq] at h9
              rw [h9, List.getElem?_append_right (by rw [hfa, ha]; omega), hfa, ha, List.getElem?_append_left (by rw [hus]; omega), List.getElem?_eq_getElem]
            · rw [hold q (.inr (by omega))]
              rw [List.getElem?_append_right (by rw [hfa, ha]; omega), hfa, ha, List.getElem?_append_right (by rw [hle]; omega), hle] at htq
              rw [List.getElem?_append_right (by rw [hfa, ha]; omega), hfa, ha, List.getElem?_append_right (by rw [hus]; omega), hus]
              rw [← hab] at htq
              exact htq
      · intro f hf
        rcases List.mem_append.1 hf with hf | hf
        · refine E.keeps (hes f (by rw [hab]; exact List.mem_append.2 (.inl hf))) hke (fun k hk hk2 => ?_)
          rcases List.mem_cons.1 hk2 with e9 | hk2
          · exact n1 (List.mem_flatMap.2 ⟨f, hf, by rw [← e9]; exact hk⟩)
          · exact nd1 k (List.mem_flatMap.2 ⟨f, hf, hk⟩) k (List.mem_append.2 (.inl hk2)) rfl
        · rcases List.mem_cons.1 hf with rfl | hf
          · exact hox
          · refine E.keeps (hes f (by rw [hab]; exact List.mem_append.2 (.inr (List.mem_cons_of_mem _ hf)))) hke (fun k hk hk2 => ?_)
            rcases List.mem_cons.1 hk2 with e9 | hk2
            · exact n3 (List.mem_flatMap.2 ⟨f, hf, by rw [← e9]; exact hk⟩)
            · exact nd2 k hk2 k (List.mem_flatMap.2 ⟨f, hf, hk⟩) rfl
      · rw [hfp, hab]; simp
end Go.Proofs.YtaekanhjkpoifaaDoor

/-
  The laws' marks on lists of commits and of edits, told as owning: contracts. Own work.
-/
namespace Go.Proofs.YtaekanhjkpoifaaDoor
open Go.RowKit P
set_option linter.unusedVariables false
set_option linter.unusedSimpArgs false
set_option maxRecDepth 100000

/-- A list behind markCommitS. -/
def mkC (k : Nat) (c : Cm) : Cm := ((k : Int), (k : Int) + 1, (k : Int) + 2, marks (k + 3) c.2.2.2.length)
def nC (k : Nat) (es : List Cm) : Nat := k + 3 * es.length + tot (cputs es)
def markedC (k : Nat) : List Cm → List Cm
  | [] => []
  | c :: t => mkC k c :: markedC (k + 3 + c.2.2.2.length) t
theorem markedC_length (es : List Cm) : ∀ k, (markedC k es).length = es.length := by
  induction es with
  | nil => intro k; rfl
  | cons c t ih => intro k; simp [markedC, ih]
theorem nC_take (k : Nat) (es : List Cm) (j : Nat) (h : j < es.length) : nC k (es.take (j + 1)) = nC k (es.take j) + 3 + es[j].2.2.2.length := by
  have h1 : cputs (es.take (j + 1)) = cputs (es.take j) ++ [es[j].2.2.2] := by
    unfold cputs
    rw [List.take_succ_eq_append_getElem h, List.map_append]
    rfl
  have h2 : (es.take (j + 1)).length = j + 1 := by rw [List.length_take]; omega
  have h3 : (es.take j).length = j := by rw [List.length_take]; omega
  unfold nC tot
  rw [h1, h2, h3, List.flatten_append, List.length_append]
  simp only [List.flatten_cons, List.flatten_nil, List.append_nil]
  omega
theorem nC_le (k : Nat) (es : List Cm) (j : Nat) : nC k (es.take j) ≤ nC k es := by
  unfold nC
  have h2 : (cputs es).flatten = (cputs (es.take j)).flatten ++ (cputs (es.drop j)).flatten := by
    unfold cputs
    rw [← List.flatten_append, ← List.map_append, List.take_append_drop]
  have h3 : (es.take j).length ≤ es.length := by rw [List.length_take]; omega
  unfold tot
  rw [h2, List.length_append]
  omega
theorem markedC_snoc (es : List Cm) : ∀ (k j : Nat) (h : j < es.length), markedC k (es.take (j + 1)) = markedC k (es.take j) ++ [mkC (nC k (es.take j)) es[j]] := by
  induction es with
  | nil => intro k j h; simp at h
  | cons c t ih =>
    intro k j h
    cases j with
    | zero => simp [markedC, nC, tot, cputs]
    | succ j =>
      have h9 := ih (k + 3 + c.2.2.2.length) j (by simpa using h)
      have hn : nC (k + 3 + c.2.2.2.length) (t.take j) = nC k ((c :: t).take (j + 1)) := by
        unfold nC tot cputs
        simp
        omega
      rw [List.take_succ_cons, List.take_succ_cons]
      simp only [markedC, List.getElem_cons_succ, List.cons_append, h9]
      rw [hn]
      rfl
theorem markedC_step (k : Nat) (es : List Cm) (j : Nat) (h : j < es.length) : (markedC k (es.take j) ++ es.drop j).set j (mkC (nC k (es.take j)) es[j]) = markedC k (es.take (j + 1)) ++ es.drop (j + 1) := by
  have hl : (markedC k (es.take j)).length = j := by rw [markedC_length, List.length_take]; omega
  rw [List.drop_eq_getElem_cons h, List.set_append_right _ _ (by omega), hl, Nat.sub_self, List.set_cons_zero, markedC_snoc es k j h, List.append_assoc, List.singleton_append]

set_option maxHeartbeats 4000000 in
theorem markCommitS_any (A : Option Addr) (c : Nat) (es : List Cm) (fp : List Nat) (k : Nat) (w : World) (hk : k + 3 * es.length + tot (cputs es) ≤ 8000000) (hn : fp.Nodup) (h : Lay.commits.ow w [.slice A es.length c] es fp) :
    Calls Tryd.prog 27 #[.slice A es.length c, .int .i64 (k : Int)] w fun e w' => e = .returned (.int .i64 (nC k es : Int)) ∧ Lay.commits.ow w' [.slice A es.length c] (markedC k es) fp ∧ Keeps fp w w' := by
  go_enter Tryd.func27, Tryd.ntmps27
  go_wp2
  go_loopw [1, 5] (fun kk i wr => ∃ j : Nat, j ≤ es.length ∧ i = .int .i64 j ∧ kk = .int .i64 (nC k (es.take j) : Int) ∧ Lay.commits.ow wr [.slice A es.length c] (markedC k (es.take j) ++ es.drop j) fp ∧ Keeps fp w wr) (fun _ i _ => es.length - (intOf i).toNat)
  case atStart => exact ⟨0, Nat.zero_le _, rfl, by simp [nC, tot, cputs], by simpa [markedC] using h, Keeps.refl _ _⟩
  case round =>
    obtain ⟨j, hj, rfl, rfl, how, hke⟩ := hrel
    by_cases hlt : j < es.length
    · have hlE : (markedC k (es.take j) ++ es.drop j).length = es.length := by rw [List.length_append, markedC_length, List.length_take, List.length_drop]; omega
      have hll : j < (markedC k (es.take j) ++ es.drop j).length := by rw [hlE]; exact hlt
      obtain ⟨g, c', cur, us, fi, hv, hus, hblk, hcz, hcell, hoe, hni, hgf, hfi, hput⟩ := Lay.put (E := Lay.commit) how hn (by decide) j hll
      have hmid : (markedC k (es.take j) ++ es.drop j)[j] = es[j] := by
        rw [List.getElem_append_right (by rw [markedC_length, List.length_take]; omega)]
        simp [markedC_length, List.length_take, show min j es.length = j by omega]
      rw [hmid] at hoe
      rw [hlE] at hv hcz
      simp only [Value.slice.injEq, true_and] at hv
      obtain ⟨rfl, rfl⟩ := hv
      obtain ⟨v, hcs, i0, i1, i2, hown, hfp⟩ := commit_ow_inv hoe
      have hstep := markedC_step k es j hlt
      have hntk := nC_take k es j hlt
      have hnle := nC_le k es (j + 1)
      have hnb : nC k es ≤ 8000000 := hk
      obtain ⟨m, hm⟩ : ∃ m, nC k (es.take j) = m := ⟨_, rfl⟩
      rw [hm] at hstep hntk ⊢
      obtain ⟨p, hp⟩ : ∃ p, es[j].2.2.2 = p := ⟨_, rfl⟩
      have hmk : mkC m es[j] = ((m : Int), (m : Int) + 1, (m : Int) + 2, marks (m + 3) p.length) := by unfold mkC; rw [hp]
      rw [hmk] at hstep
      rw [hp] at hown hntk
      have c0 := hcell 0 (by rw [hcs]; simp)
      have c1 := hcell 1 (by rw [hcs]; simp)
      have c2 := hcell 2 (by rw [hcs]; simp)
      have c3 := hcell 3 (by rw [hcs]; simp)
      simp only [hcs, List.getElem_cons_zero, List.getElem_cons_succ] at c0 c1 c2 c3
      have hsz4 : Lay.commit.sz = 4 := rfl
      rw [hsz4] at c0 c1 c2 c3 hput hcz
      have hb4 : j * 4 + 4 ≤ cur.size := by omega
      have u0 : wr.cell? ⟨g, j * 4, none⟩ = some (.int .i64 es[j].1) := (hblk.cell _).trans (by simpa using c0)
      have u1 : wr.cell? ⟨g, j * 4 + 1, none⟩ = some (.int .i64 es[j].2.1) := (hblk.cell _).trans c1
      have u2 : wr.cell? ⟨g, j * 4 + 2, none⟩ = some (.int .i64 es[j].2.2.1) := (hblk.cell _).trans c2
      have u3 : wr.cell? ⟨g, j * 4 + 3, none⟩ = some v := (hblk.cell _).trans c3
      have f0 := hblk.frozen (j * 4)
      have f1 := hblk.frozen (j * 4 + 1)
      have f2 := hblk.frozen (j * 4 + 2)
      have hb2 := (((hblk.set (j * 4) (.int .i64 (m : Int))).set (j * 4 + 1) (.int .i64 ((m : Int) + 1))).set (j * 4 + 2) (.int .i64 ((m : Int) + 2)))
      have hk2 := ((((Keeps.refl (g :: fi) wr).set (List.mem_cons_self ..) (j * 4) (.int .i64 (m : Int))).set (List.mem_cons_self ..) (j * 4 + 1) (.int .i64 ((m : Int) + 1))).set (List.mem_cons_self ..) (j * 4 + 2) (.int .i64 ((m : Int) + 2)))
      have ho2 : Own (((wr.setCell ⟨g, j * 4, none⟩ (.int .i64 (m : Int))).setCell ⟨g, j * 4 + 1, none⟩ (.int .i64 ((m : Int) + 1))).setCell ⟨g, j * 4 + 2, none⟩ (.int .i64 ((m : Int) + 2))) 0 v p := hown.heap (fun q hq => by
        have hne : q ≠ g := (hfi q (by rw [hfp]; exact hq)).2
        rw [Below.heap_setCell _ _ _ _ (by simpa using hne), Below.heap_setCell _ _ _ _ (by simpa using hne), Below.heap_setCell _ _ _ _ (by simpa using hne)])
      have hgl : g < (((wr.setCell ⟨g, j * 4, none⟩ (.int .i64 (m : Int))).setCell ⟨g, j * 4 + 1, none⟩ (.int .i64 ((m : Int) + 1))).setCell ⟨g, j * 4 + 2, none⟩ (.int .i64 ((m : Int) + 2))).heap.size := hb2.lt
      have hmb : m ≤ 8000000 := by omega
      have hpb : p.length ≤ 8000000 := by omega
      have hji : (j : Int) < (es.length : Int) := by omega
      have hw0 : IntKind.i64.wrap ((m : Int) + 1) = (m : Int) + 1 := by rw [IntWalk.i64_in _ ⟨by omega, by omega⟩]; try omega
      have hw1 : IntKind.i64.wrap ((m : Int) + 1 + 1) = (m : Int) + 2 := by rw [IntWalk.i64_in _ ⟨by omega, by omega⟩]; try omega
      have hw2 : IntKind.i64.wrap ((m : Int) + 2 + 1) = ((m + 3 : Nat) : Int) := by rw [IntWalk.i64_in _ ⟨by omega, by omega⟩]; try omega
      have hcv : (((cur.setIfInBounds (j * 4) (.int .i64 (m : Int))).setIfInBounds (j * 4 + 1) (.int .i64 ((m : Int) + 1))).setIfInBounds (j * 4 + 2) (.int .i64 ((m : Int) + 2)))[j * 4 + 3]? = some v := by
        rw [Array.getElem?_setIfInBounds, if_neg (by omega), Array.getElem?_setIfInBounds, if_neg (by omega), Array.getElem?_setIfInBounds, if_neg (by omega)]; exact c3
      have HC3 := Lib.hid hcv
      have HO2 := Lib.hid ho2
      have HB2 := Lib.hid hb2
      have HK2 := Lib.hid hk2
      have HPUT := Lib.hid hput
      have HST := Lib.hid hstep
      have HNT := Lib.hid hntk
      have HKE := Lib.hid hke
      have HFI := Lib.hid hfi
      have HFP := Lib.hid hfp
      clear c0 c1 c2 c3 ho2 hb2 hk2 hput hstep hntk hke hcell hoe hown how hmid hmk hp hcs hfi hfp hblk hm hcv i0 i1 i2
      generalize es[j].1 = y0 at *
      generalize es[j].2.1 = y1 at *
      generalize es[j].2.2.1 = y2 at *
      go_wp2_with fail
      refine (markByteS_big v p 0 (m + 3) _ (by omega) (by omega) (by exact HO2.out)).mono ?_
      rintro e w1 ⟨rfl, how1, hgr⟩
      have hkb := Keeps.of_grown hgr
      have hgv : g ∉ v.ownBlock.toList := fun hq => (HFI.out g (by rw [HFP.out]; exact hq)).2 rfl
      have hb1 := HB2.out.of_block (hkb.block g hgl hgv)
      have hk1 := HK2.out.trans (hkb.mono (fun x hx => List.mem_cons_of_mem _ (by rw [HFP.out]; exact hx)))
      have hmem : ∀ x ∈ g :: fi, x ∈ fp := fun x hx => by
        rcases List.mem_cons.1 hx with e | hx
        · rw [e]; exact hgf
        · exact (HFI.out x hx).1
      have hnew := HPUT.out w1 ((m : Int), (m : Int) + 1, (m : Int) + 2, marks (m + 3) p.length) [.int .i64 (m : Int), .int .i64 ((m : Int) + 1), .int .i64 ((m : Int) + 2), v] _ rfl hk1 hb1 (by simp) (by
          intro q hq
          have hq4 : q < 4 := hq
          match q, hq4 with
          | 0, _ => simp [Array.getElem?_setIfInBounds]; omega
          | 1, _ => simp [Array.getElem?_setIfInBounds]; omega
          | 2, _ => simp [Array.getElem?_setIfInBounds]; omega
          | 3, _ => exact HC3.out) (by
          intro q hq
          rw [Array.getElem?_setIfInBounds, if_neg (by omega), Array.getElem?_setIfInBounds, if_neg (by omega), Array.getElem?_setIfInBounds, if_neg (by omega)]) (by
          rw [HFP.out]
          exact own_commit (p := marks (m + 3) p.length) (base := 0) ⟨by omega, by omega⟩ ⟨by omega, by omega⟩ ⟨by omega, by omega⟩ how1)
      rw [HST.out] at hnew
      have HN := Lib.hid hnew
      have HK9 := Lib.hid (HKE.out.trans (hk1.mono hmem))
      have hnx : m + 3 + p.length = nC k (es.take (j + 1)) := HNT.out.symm
      rw [hnx]
      clear u0 u1 u2 u3 f0 f1 f2 hb1 hk1 hnew hkb how1 hgr hnx hmem
      go_wp2
      go_roundw
      case rel => exact ⟨j + 1, by omega, by go_num, by first | rfl | go_num, HN.out, HK9.out⟩
      case measure => simp [intOf]; omega
    · have e : j = es.length := by omega
      subst e
      rw [List.take_length, List.drop_length, List.append_nil] at how
      rw [List.take_length]
      go_wp2
      go_ret
      exact ⟨rfl, how, hke⟩

/-- A list behind markEditS. -/
def mkEd (k : Nat) (c : Ed) : Ed := ((k : Int), (k : Int) + 1, marks (k + 2) c.2.2.length)
def nEd (k : Nat) (es : List Ed) : Nat := k + 2 * es.length + tot (puts es)
def markedEd (k : Nat) : List Ed → List Ed
  | [] => []
  | c :: t => mkEd k c :: markedEd (k + 2 + c.2.2.length) t
theorem markedEd_length (es : List Ed) : ∀ k, (markedEd k es).length = es.length := by
  induction es with
  | nil => intro k; rfl
  | cons c t ih => intro k; simp [markedEd, ih]
theorem nEd_take (k : Nat) (es : List Ed) (j : Nat) (h : j < es.length) : nEd k (es.take (j + 1)) = nEd k (es.take j) + 2 + es[j].2.2.length := by
  have h1 : puts (es.take (j + 1)) = puts (es.take j) ++ [es[j].2.2] := by
    unfold puts
    rw [List.take_succ_eq_append_getElem h, List.map_append]
    rfl
  have h2 : (es.take (j + 1)).length = j + 1 := by rw [List.length_take]; omega
  have h3 : (es.take j).length = j := by rw [List.length_take]; omega
  unfold nEd tot
  rw [h1, h2, h3, List.flatten_append, List.length_append]
  simp only [List.flatten_cons, List.flatten_nil, List.append_nil]
  omega
theorem nEd_le (k : Nat) (es : List Ed) (j : Nat) : nEd k (es.take j) ≤ nEd k es := by
  unfold nEd
  have h2 : (puts es).flatten = (puts (es.take j)).flatten ++ (puts (es.drop j)).flatten := by
    unfold puts
    rw [← List.flatten_append, ← List.map_append, List.take_append_drop]
  have h3 : (es.take j).length ≤ es.length := by rw [List.length_take]; omega
  unfold tot
  rw [h2, List.length_append]
  omega
theorem markedEd_snoc (es : List Ed) : ∀ (k j : Nat) (h : j < es.length), markedEd k (es.take (j + 1)) = markedEd k (es.take j) ++ [mkEd (nEd k (es.take j)) es[j]] := by
  induction es with
  | nil => intro k j h; simp at h
  | cons c t ih =>
    intro k j h
    cases j with
    | zero => simp [markedEd, nEd, tot, puts]
    | succ j =>
      have h9 := ih (k + 2 + c.2.2.length) j (by simpa using h)
      have hn : nEd (k + 2 + c.2.2.length) (t.take j) = nEd k ((c :: t).take (j + 1)) := by
        unfold nEd tot puts
        simp
        omega
      rw [List.take_succ_cons, List.take_succ_cons]
      simp only [markedEd, List.getElem_cons_succ, List.cons_append, h9]
      rw [hn]
      rfl
theorem markedEd_step (k : Nat) (es : List Ed) (j : Nat) (h : j < es.length) : (markedEd k (es.take j) ++ es.drop j).set j (mkEd (nEd k (es.take j)) es[j]) = markedEd k (es.take (j + 1)) ++ es.drop (j + 1) := by
  have hl : (markedEd k (es.take j)).length = j := by rw [markedEd_length, List.length_take]; omega
  rw [List.drop_eq_getElem_cons h, List.set_append_right _ _ (by omega), hl, Nat.sub_self, List.set_cons_zero, markedEd_snoc es k j h, List.append_assoc, List.singleton_append]

set_option maxHeartbeats 4000000 in
theorem markEditS_ow (A : Option Addr) (c : Nat) (es : List Ed) (fp : List Nat) (k : Nat) (w : World) (hk : k + 2 * es.length + tot (puts es) ≤ 8000000) (hn : fp.Nodup) (h : Lay.edits.ow w [.slice A es.length c] es fp) :
    Calls Tryd.prog 41 #[.slice A es.length c, .int .i64 (k : Int)] w fun e w' => e = .returned (.int .i64 (nEd k es : Int)) ∧ Lay.edits.ow w' [.slice A es.length c] (markedEd k es) fp ∧ Keeps fp w w' := by
  go_enter Tryd.func41, Tryd.ntmps41
  go_wp2
  go_loopw [1, 5] (fun kk i wr => ∃ j : Nat, j ≤ es.length ∧ i = .int .i64 j ∧ kk = .int .i64 (nEd k (es.take j) : Int) ∧ Lay.edits.ow wr [.slice A es.length c] (markedEd k (es.take j) ++ es.drop j) fp ∧ Keeps fp w wr) (fun _ i _ => es.length - (intOf i).toNat)
  case atStart => exact ⟨0, Nat.zero_le _, rfl, by simp [nEd, tot, puts], by simpa [markedEd] using h, Keeps.refl _ _⟩
  case round =>
    obtain ⟨j, hj, rfl, rfl, how, hke⟩ := hrel
    by_cases hlt : j < es.length
    · have hlE : (markedEd k (es.take j) ++ es.drop j).length = es.length := by rw [List.length_append, markedEd_length, List.length_take, List.length_drop]; omega
      have hll : j < (markedEd k (es.take j) ++ es.drop j).length := by rw [hlE]; exact hlt
      obtain ⟨g, c', cur, us, fi, hv, hus, hblk, hcz, hcell, hoe, hni, hgf, hfi, hput⟩ := Lay.put (E := Lay.edit) how hn (by decide) j hll
      have hmid : (markedEd k (es.take j) ++ es.drop j)[j] = es[j] := by
        rw [List.getElem_append_right (by rw [markedEd_length, List.length_take]; omega)]
        simp [markedEd_length, List.length_take, show min j es.length = j by omega]
      rw [hmid] at hoe
      rw [hlE] at hv hcz
      simp only [Value.slice.injEq, true_and] at hv
      obtain ⟨rfl, rfl⟩ := hv
      obtain ⟨v, hcs, hown, hfp⟩ := edit_ow_inv hoe
      have hstep := markedEd_step k es j hlt
      have hntk := nEd_take k es j hlt
      have hnle := nEd_le k es (j + 1)
      have hnb : nEd k es ≤ 8000000 := hk
      obtain ⟨m, hm⟩ : ∃ m, nEd k (es.take j) = m := ⟨_, rfl⟩
      rw [hm] at hstep hntk ⊢
      obtain ⟨p, hp⟩ : ∃ p, es[j].2.2 = p := ⟨_, rfl⟩
      have hmk : mkEd m es[j] = ((m : Int), (m : Int) + 1, marks (m + 2) p.length) := by unfold mkEd; rw [hp]
      rw [hmk] at hstep
      rw [hp] at hown hntk
      have c0 := hcell 0 (by rw [hcs]; simp)
      have c1 := hcell 1 (by rw [hcs]; simp)
      have c2 := hcell 2 (by rw [hcs]; simp)
      simp only [hcs, List.getElem_cons_zero, List.getElem_cons_succ] at c0 c1 c2
      have hsz4 : Lay.edit.sz = 3 := rfl
      rw [hsz4] at c0 c1 c2 hput hcz
      have hb4 : j * 3 + 3 ≤ cur.size := by omega
      have u0 : wr.cell? ⟨g, j * 3, none⟩ = some (.int .i64 es[j].1) := (hblk.cell _).trans (by simpa using c0)
      have u1 : wr.cell? ⟨g, j * 3 + 1, none⟩ = some (.int .i64 es[j].2.1) := (hblk.cell _).trans c1
      have u2 : wr.cell? ⟨g, j * 3 + 2, none⟩ = some v := (hblk.cell _).trans c2
      have f0 := hblk.frozen (j * 3)
      have f1 := hblk.frozen (j * 3 + 1)
      have hb2 := ((hblk.set (j * 3) (.int .i64 (m : Int))).set (j * 3 + 1) (.int .i64 ((m : Int) + 1)))
      have hk2 := (((Keeps.refl (g :: fi) wr).set (List.mem_cons_self ..) (j * 3) (.int .i64 (m : Int))).set (List.mem_cons_self ..) (j * 3 + 1) (.int .i64 ((m : Int) + 1)))
      have ho2 : Own ((wr.setCell ⟨g, j * 3, none⟩ (.int .i64 (m : Int))).setCell ⟨g, j * 3 + 1, none⟩ (.int .i64 ((m : Int) + 1))) 0 v p := hown.heap (fun q hq => by
        have hne : q ≠ g := (hfi q (by rw [hfp]; exact hq)).2
        rw [Below.heap_setCell _ _ _ _ (by simpa using hne), Below.heap_setCell _ _ _ _ (by simpa using hne)])
      have hgl : g < ((wr.setCell ⟨g, j * 3, none⟩ (.int .i64 (m : Int))).setCell ⟨g, j * 3 + 1, none⟩ (.int .i64 ((m : Int) + 1))).heap.size := hb2.lt
      have hmb : m ≤ 8000000 := by omega
      have hpb : p.length ≤ 8000000 := by omega
      have hji : (j : Int) < (es.length : Int) := by omega
      have hw0 : IntKind.i64.wrap ((m : Int) + 1) = (m : Int) + 1 := by rw [IntWalk.i64_in _ ⟨by omega, by omega⟩]; try omega
      have hw1 : IntKind.i64.wrap ((m : Int) + 1 + 1) = ((m + 2 : Nat) : Int) := by rw [IntWalk.i64_in _ ⟨by omega, by omega⟩]; try omega
      have hcv : ((cur.setIfInBounds (j * 3) (.int .i64 (m : Int))).setIfInBounds (j * 3 + 1) (.int .i64 ((m : Int) + 1)))[j * 3 + 2]? = some v := by
        rw [Array.getElem?_setIfInBounds, if_neg (by omega), Array.getElem?_setIfInBounds, if_neg (by omega)]; exact c2
      have HC3 := Lib.hid hcv
      have HO2 := Lib.hid ho2
      have HB2 := Lib.hid hb2
      have HK2 := Lib.hid hk2
      have HPUT := Lib.hid hput
      have HST := Lib.hid hstep
      have HNT := Lib.hid hntk
      have HKE := Lib.hid hke
      have HFI := Lib.hid hfi
      have HFP := Lib.hid hfp
      clear c0 c1 c2 ho2 hb2 hk2 hput hstep hntk hke hcell hoe hown how hmid hmk hp hcs hfi hfp hblk hm hcv
      generalize es[j].1 = y0 at *
      generalize es[j].2.1 = y1 at *
      go_wp2_with fail
      refine (markByteS_big v p 0 (m + 2) _ (by omega) (by omega) (by exact HO2.out)).mono ?_
      rintro e w1 ⟨rfl, how1, hgr⟩
      have hkb := Keeps.of_grown hgr
      have hgv : g ∉ v.ownBlock.toList := fun hq => (HFI.out g (by rw [HFP.out]; exact hq)).2 rfl
      have hb1 := HB2.out.of_block (hkb.block g hgl hgv)
      have hk1 := HK2.out.trans (hkb.mono (fun x hx => List.mem_cons_of_mem _ (by rw [HFP.out]; exact hx)))
      have hmem : ∀ x ∈ g :: fi, x ∈ fp := fun x hx => by
        rcases List.mem_cons.1 hx with e | hx
        · rw [e]; exact hgf
        · exact (HFI.out x hx).1
      have hnew := HPUT.out w1 ((m : Int), (m : Int) + 1, marks (m + 2) p.length) [.int .i64 (m : Int), .int .i64 ((m : Int) + 1), v] _ rfl hk1 hb1 (by simp) (by
          intro q hq
          have hq4 : q < 3 := hq
          match q, hq4 with
          | 0, _ => simp [Array.getElem?_setIfInBounds]; omega
          | 1, _ => simp [Array.getElem?_setIfInBounds]; omega
          | 2, _ => exact HC3.out) (by
          intro q hq
          rw [Array.getElem?_setIfInBounds, if_neg (by omega), Array.getElem?_setIfInBounds, if_neg (by omega)]) (by
          rw [HFP.out]
          exact own_edit (p := marks (m + 2) p.length) (base := 0) ⟨by omega, by omega⟩ ⟨by omega, by omega⟩ how1)
      rw [HST.out] at hnew
      have HN := Lib.hid hnew
      have HK9 := Lib.hid (HKE.out.trans (hk1.mono hmem))
      have hnx : m + 2 + p.length = nEd k (es.take (j + 1)) := HNT.out.symm
      rw [hnx]
      clear u0 u1 u2 f0 f1 hb1 hk1 hnew hkb how1 hgr hnx hmem
      go_wp2
      go_roundw
      case rel => exact ⟨j + 1, by omega, by go_num, by first | rfl | go_num, HN.out, HK9.out⟩
      case measure => simp [intOf]; omega
    · have e : j = es.length := by omega
      subst e
      rw [List.take_length, List.drop_length, List.append_nil] at how
      rw [List.take_length]
      go_wp2
      go_ret
      exact ⟨rfl, how, hke⟩
end Go.Proofs.YtaekanhjkpoifaaDoor

/-
  The laws' marks on members, told as owning: contracts. Own work.
-/
namespace Go.Proofs.YtaekanhjkpoifaaDoor
open Go.RowKit P
set_option linter.unusedVariables false
set_option linter.unusedSimpArgs false
set_option maxRecDepth 100000

/-- The number behind a member's marks. -/
def nMb (k : Nat) (m : Mb) : Nat := nEd (nEd (k + 3) m.2.2.1) m.2.2.2
def mkM (k : Nat) (m : Mb) : Mb := ((k : Int), ((k : Int) + 1, (k : Int) + 2), (markedEd (k + 3) m.2.2.1, markedEd (nEd (k + 3) m.2.2.1) m.2.2.2))
def markedM (k : Nat) : List Mb → List Mb
  | [] => []
  | m :: t => mkM k m :: markedM (nMb k m) t
def nM (k : Nat) : List Mb → Nat
  | [] => k
  | m :: t => nM (nMb k m) t
theorem markedM_length (es : List Mb) : ∀ k, (markedM k es).length = es.length := by
  induction es with
  | nil => intro k; rfl
  | cons c t ih => intro k; simp [markedM, ih]
theorem nM_snoc (es : List Mb) : ∀ (k j : Nat) (h : j < es.length), nM k (es.take (j + 1)) = nMb (nM k (es.take j)) es[j] := by
  induction es with
  | nil => intro k j h; simp at h
  | cons c t ih =>
    intro k j h
    cases j with
    | zero => simp [nM]
    | succ j =>
      rw [List.take_succ_cons, List.take_succ_cons]
      simp only [nM, List.getElem_cons_succ]
      exact ih (nMb k c) j (by simpa using h)
theorem nMb_eq (k : Nat) (m : Mb) : nMb k m = k + 3 + 2 * m.2.2.1.length + tot (puts m.2.2.1) + 2 * m.2.2.2.length + tot (puts m.2.2.2) := by
  unfold nMb nEd
  omega
theorem nM_le (es : List Mb) : ∀ (k : Nat), nM k es ≤ k + 3 * es.length + 2 * msum es := by
  induction es with
  | nil => intro k; simp [nM]
  | cons c t ih =>
    intro k
    have h1 := ih (nMb k c)
    have h2 := nMb_eq k c
    have h3 : msum (c :: t) = mtot c + msum t := by unfold msum; simp
    have h4 : mtot c = c.2.2.1.length + tot (puts c.2.2.1) + c.2.2.2.length + tot (puts c.2.2.2) := rfl
    simp only [nM, List.length_cons]
    omega
theorem nM_ge (es : List Mb) : ∀ (k : Nat), k ≤ nM k es := by
  induction es with
  | nil => intro k; exact Nat.le_refl _
  | cons c t ih =>
    intro k
    have h1 := ih (nMb k c)
    have h2 := nMb_eq k c
    simp only [nM]
    omega
theorem nM_take_le (es : List Mb) : ∀ (k j : Nat), nM k (es.take j) ≤ nM k es := by
  induction es with
  | nil => intro k j; simp
  | cons c t ih =>
    intro k j
    cases j with
    | zero => exact nM_ge _ _
    | succ j => rw [List.take_succ_cons]; simp only [nM]; exact ih _ _
theorem markedM_snoc (es : List Mb) : ∀ (k j : Nat) (h : j < es.length), markedM k (es.take (j + 1)) = markedM k (es.take j) ++ [mkM (nM k (es.take j)) es[j]] := by
  induction es with
  | nil => intro k j h; simp at h
  | cons c t ih =>
    intro k j h
    cases j with
    | zero => simp [markedM, nM]
    | succ j =>
      rw [List.take_succ_cons, List.take_succ_cons]
      simp only [markedM, List.getElem_cons_succ, List.cons_append, nM]
      rw [ih (nMb k c) j (by simpa using h)]
theorem markedM_step (k : Nat) (es : List Mb) (j : Nat) (h : j < es.length) : (markedM k (es.take j) ++ es.drop j).set j (mkM (nM k (es.take j)) es[j]) = markedM k (es.take (j + 1)) ++ es.drop (j + 1) := by
  have hl : (markedM k (es.take j)).length = j := by rw [markedM_length, List.length_take]; omega
  rw [List.drop_eq_getElem_cons h, List.set_append_right _ _ (by omega), hl, Nat.sub_self, List.set_cons_zero, markedM_snoc es k j h, List.append_assoc, List.singleton_append]
theorem markedEd_len (k : Nat) (es : List Ed) : (markedEd k es).length = es.length := markedEd_length es k

theorem member_ow_inv {w : World} {cs : List Value} {d : Mb} {fp : List Nat} (h : Lay.member.ow w cs d fp) : ∃ A c B e fu fr, cs = [.int .i64 d.1, .int .i64 d.2.1.1, .int .i64 d.2.1.2, .slice A d.2.2.1.length c, .slice B d.2.2.2.length e] ∧
    Lay.edits.ow w [.slice A d.2.2.1.length c] d.2.2.1 fu ∧ Lay.edits.ow w [.slice B d.2.2.2.length e] d.2.2.2 fr ∧ fp = fu ++ fr := by
  obtain ⟨_, _, _, _, rfl, ⟨rfl, _, rfl⟩, ⟨_, _, _, _, rfl, ⟨_, _, _, _, rfl, ⟨rfl, _, rfl⟩, ⟨rfl, _, rfl⟩, rfl⟩, ⟨cu, cr, fu, fr, rfl, hu, hr, rfl⟩, rfl⟩, rfl⟩ := h
  obtain ⟨A, c, rfl, _⟩ := Lay.edits.read hu
  obtain ⟨B, e, rfl, _⟩ := Lay.edits.read hr
  exact ⟨A, c, B, e, fu, fr, rfl, hu, hr, by simp⟩
theorem own_member' {w : World} {s f t : Int} {A B : Option Addr} {u r : List Ed} {c d : Nat} {fp gp : List Nat} (hs : isI s) (hf : isI f) (ht : isI t) (hu : Lay.edits.ow w [.slice A u.length c] u fp) (hr : Lay.edits.ow w [.slice B r.length d] r gp) :
    Lay.member.ow w [.int .i64 s, .int .i64 f, .int .i64 t, .slice A u.length c, .slice B r.length d] (s, (f, t), (u, r)) (fp ++ gp) :=
  ⟨[.int .i64 s], [.int .i64 f, .int .i64 t, .slice A u.length c, .slice B r.length d], [], fp ++ gp, rfl, ⟨rfl, hs, rfl⟩, ⟨[.int .i64 f, .int .i64 t], [.slice A u.length c, .slice B r.length d], [], fp ++ gp, rfl, ⟨[.int .i64 f], [.int .i64 t], [], [], rfl, ⟨rfl, hf, rfl⟩, ⟨rfl, ht, rfl⟩, rfl⟩, ⟨[.slice A u.length c], [.slice B r.length d], fp, gp, rfl, hu, hr, rfl⟩, rfl⟩, rfl⟩

set_option maxHeartbeats 4000000 in
theorem markMemberS_any (A : Option Addr) (c : Nat) (es : List Mb) (fp : List Nat) (k : Nat) (w : World) (hk : k + 3 * es.length + 2 * msum es ≤ 8000000) (hn : fp.Nodup) (h : Lay.members.ow w [.slice A es.length c] es fp) :
    Calls Tryd.prog 28 #[.slice A es.length c, .int .i64 (k : Int)] w fun e w' => e = .returned (.int .i64 (nM k es : Int)) ∧ Lay.members.ow w' [.slice A es.length c] (markedM k es) fp ∧ Keeps fp w w' := by
  go_enter Tryd.func28, Tryd.ntmps28
  go_wp2
  go_loopw [1, 5] (fun kk i wr => ∃ j : Nat, j ≤ es.length ∧ i = .int .i64 j ∧ kk = .int .i64 (nM k (es.take j) : Int) ∧ Lay.members.ow wr [.slice A es.length c] (markedM k (es.take j) ++ es.drop j) fp ∧ Keeps fp w wr) (fun _ i _ => es.length - (intOf i).toNat)
  case atStart => exact ⟨0, Nat.zero_le _, rfl, by simp [nM], by simpa [markedM] using h, Keeps.refl _ _⟩
  case round =>
    obtain ⟨j, hj, rfl, rfl, how, hke⟩ := hrel
    by_cases hlt : j < es.length
    · have hlE : (markedM k (es.take j) ++ es.drop j).length = es.length := by rw [List.length_append, markedM_length, List.length_take, List.length_drop]; omega
      have hll : j < (markedM k (es.take j) ++ es.drop j).length := by rw [hlE]; exact hlt
      obtain ⟨g, c', cur, us, fi, hv, hus, hblk, hcz, hcell, hoe, hni, hgf, hfi, hput⟩ := Lay.put (E := Lay.member) how hn (by decide) j hll
      have hmid : (markedM k (es.take j) ++ es.drop j)[j] = es[j] := by
        rw [List.getElem_append_right (by rw [markedM_length, List.length_take]; omega)]
        simp [markedM_length, List.length_take, show min j es.length = j by omega]
      rw [hmid] at hoe
      rw [hlE] at hv hcz
      simp only [Value.slice.injEq, true_and] at hv
      obtain ⟨rfl, rfl⟩ := hv
      obtain ⟨U, cu, R, cr, fu, fr, hcs, hou, hor, hfp⟩ := member_ow_inv hoe
      have hstep := markedM_step k es j hlt
      have hntk := nM_snoc es k j hlt
      have hnle := nM_take_le es k (j + 1)
      have hnb : nM k es ≤ 8000000 := Nat.le_trans (nM_le es k) hk
      obtain ⟨m, hm⟩ : ∃ m, nM k (es.take j) = m := ⟨_, rfl⟩
      rw [hm] at hstep hntk ⊢
      obtain ⟨u, hu⟩ : ∃ u, es[j].2.2.1 = u := ⟨_, rfl⟩
      obtain ⟨r, hr⟩ : ∃ r, es[j].2.2.2 = r := ⟨_, rfl⟩
      have hmk : mkM m es[j] = ((m : Int), ((m : Int) + 1, (m : Int) + 2), (markedEd (m + 3) u, markedEd (nEd (m + 3) u) r)) := by unfold mkM; rw [hu, hr]
      have hnk : nMb m es[j] = nEd (nEd (m + 3) u) r := by unfold nMb; rw [hu, hr]
      have hmq := nMb_eq m es[j]
      rw [hu, hr] at hmq
      rw [hmk] at hstep
      rw [hnk] at hntk
      rw [hu] at hou
      rw [hr] at hor
      rw [hu, hr] at hcs
      have c0 := hcell 0 (by rw [hcs]; simp)
      have c1 := hcell 1 (by rw [hcs]; simp)
      have c2 := hcell 2 (by rw [hcs]; simp)
      have c3 := hcell 3 (by rw [hcs]; simp)
      have c4 := hcell 4 (by rw [hcs]; simp)
      simp only [hcs, List.getElem_cons_zero, List.getElem_cons_succ] at c0 c1 c2 c3 c4
      have hsz4 : Lay.member.sz = 5 := rfl
      rw [hsz4] at c0 c1 c2 c3 c4 hput hcz
      have hb4 : j * 5 + 5 ≤ cur.size := by omega
      have u0 : wr.cell? ⟨g, j * 5, none⟩ = some (.int .i64 es[j].1) := (hblk.cell _).trans (by simpa using c0)
      have u1 : wr.cell? ⟨g, j * 5 + 1, none⟩ = some (.int .i64 es[j].2.1.1) := (hblk.cell _).trans c1
      have u2 : wr.cell? ⟨g, j * 5 + 2, none⟩ = some (.int .i64 es[j].2.1.2) := (hblk.cell _).trans c2
      have u3 : wr.cell? ⟨g, j * 5 + 3, none⟩ = some (.slice U u.length cu) := (hblk.cell _).trans c3
      have u4 : wr.cell? ⟨g, j * 5 + 4, none⟩ = some (.slice R r.length cr) := (hblk.cell _).trans c4
      have f0 := hblk.frozen (j * 5)
      have f1 := hblk.frozen (j * 5 + 1)
      have f2 := hblk.frozen (j * 5 + 2)
      have hb2 := (((hblk.set (j * 5) (.int .i64 (m : Int))).set (j * 5 + 1) (.int .i64 ((m : Int) + 1))).set (j * 5 + 2) (.int .i64 ((m : Int) + 2)))
      have hk2 := ((((Keeps.refl (g :: fi) wr).set (List.mem_cons_self ..) (j * 5) (.int .i64 (m : Int))).set (List.mem_cons_self ..) (j * 5 + 1) (.int .i64 ((m : Int) + 1))).set (List.mem_cons_self ..) (j * 5 + 2) (.int .i64 ((m : Int) + 2)))
      have hgn : g ∉ fi := fun hq => (hfi g hq).2 rfl
      have hk3 : Keeps [g] wr (((wr.setCell ⟨g, j * 5, none⟩ (.int .i64 (m : Int))).setCell ⟨g, j * 5 + 1, none⟩ (.int .i64 ((m : Int) + 1))).setCell ⟨g, j * 5 + 2, none⟩ (.int .i64 ((m : Int) + 2))) := ((Keeps.refl [g] wr).set (List.mem_singleton.2 rfl) (j * 5) (.int .i64 (m : Int))).set (List.mem_singleton.2 rfl) (j * 5 + 1) (.int .i64 ((m : Int) + 1)) |>.set (List.mem_singleton.2 rfl) (j * 5 + 2) (.int .i64 ((m : Int) + 2))
      have hou2 := Lay.edits.keeps hou hk3 (fun q hq h9 => hgn (by rw [hfp, ← List.mem_singleton.1 h9]; exact List.mem_append.2 (.inl hq)))
      have hor2 := Lay.edits.keeps hor hk3 (fun q hq h9 => hgn (by rw [hfp, ← List.mem_singleton.1 h9]; exact List.mem_append.2 (.inr hq)))
      have hgl : g < (((wr.setCell ⟨g, j * 5, none⟩ (.int .i64 (m : Int))).setCell ⟨g, j * 5 + 1, none⟩ (.int .i64 ((m : Int) + 1))).setCell ⟨g, j * 5 + 2, none⟩ (.int .i64 ((m : Int) + 2))).heap.size := hb2.lt
      have hnd := hni
      rw [hfp, List.nodup_append] at hnd
      obtain ⟨hnu, hnr, hdj⟩ := hnd
      have hmb : m ≤ 8000000 := by omega
      have hji : (j : Int) < (es.length : Int) := by omega
      have hw0 : IntKind.i64.wrap ((m : Int) + 1) = (m : Int) + 1 := by rw [IntWalk.i64_in _ ⟨by omega, by omega⟩]; try omega
      have hw1 : IntKind.i64.wrap ((m : Int) + 1 + 1) = (m : Int) + 2 := by rw [IntWalk.i64_in _ ⟨by omega, by omega⟩]; try omega
      have hw2 : IntKind.i64.wrap ((m : Int) + 2 + 1) = ((m + 3 : Nat) : Int) := by rw [IntWalk.i64_in _ ⟨by omega, by omega⟩]; try omega
      have hcv3 : (((cur.setIfInBounds (j * 5) (.int .i64 (m : Int))).setIfInBounds (j * 5 + 1) (.int .i64 ((m : Int) + 1))).setIfInBounds (j * 5 + 2) (.int .i64 ((m : Int) + 2)))[j * 5 + 3]? = some (.slice U u.length cu) := by
        rw [Array.getElem?_setIfInBounds, if_neg (by omega), Array.getElem?_setIfInBounds, if_neg (by omega), Array.getElem?_setIfInBounds, if_neg (by omega)]; exact c3
      have hcv4 : (((cur.setIfInBounds (j * 5) (.int .i64 (m : Int))).setIfInBounds (j * 5 + 1) (.int .i64 ((m : Int) + 1))).setIfInBounds (j * 5 + 2) (.int .i64 ((m : Int) + 2)))[j * 5 + 4]? = some (.slice R r.length cr) := by
        rw [Array.getElem?_setIfInBounds, if_neg (by omega), Array.getElem?_setIfInBounds, if_neg (by omega), Array.getElem?_setIfInBounds, if_neg (by omega)]; exact c4
      have hbu : m + 3 + 2 * u.length + tot (puts u) ≤ 8000000 := by omega
      have hnu1 : nEd (m + 3) u = m + 3 + 2 * u.length + tot (puts u) := rfl
      have hbr : nEd (m + 3) u + 2 * r.length + tot (puts r) ≤ 8000000 := by rw [hnu1]; omega
      have C3 := Lib.hid hcv3
      have C4 := Lib.hid hcv4
      have HOU := Lib.hid hou2
      have HOR := Lib.hid hor2
      have HB2 := Lib.hid hb2
      have HK2 := Lib.hid hk2
      have HPUT := Lib.hid hput
      have HST := Lib.hid hstep
      have HNT := Lib.hid hntk
      have HKE := Lib.hid hke
      have HFI := Lib.hid hfi
      have HFP := Lib.hid hfp
      have HNU := Lib.hid hnu
      have HNR := Lib.hid hnr
      have HDJ := Lib.hid hdj
      have HBU := Lib.hid hbu
      have HBR := Lib.hid hbr
      have HGN := Lib.hid hgn
      clear c0 c1 c2 c3 c4 hou2 hor2 hb2 hk2 hk3 hput hstep hntk hke hcell hoe hou hor how hmid hmk hnk hmq hu hr hcs hfi hfp hblk hm hcv3 hcv4 hnu hnr hdj hni hbu hbr hnu1 hgn
      generalize es[j].1 = y0 at *
      generalize es[j].2.1.1 = y1 at *
      generalize es[j].2.1.2 = y2 at *
      go_wp2_with fail
      refine (markEditS_ow U cu u fu (m + 3) _ HBU.out HNU.out (by exact HOU.out)).mono ?_
      rintro e w1 ⟨rfl, hou1, hke1⟩
      have hgu : g ∉ fu := fun hq => HGN.out (by rw [HFP.out]; exact List.mem_append.2 (.inl hq))
      have hb1 := HB2.out.of_block (hke1.block g hgl hgu)
      have hor1 := Lay.edits.keeps HOR.out hke1 (fun q hq h9 => HDJ.out q h9 q hq rfl)
      have hk1 := HK2.out.trans (hke1.mono (fun x hx => List.mem_cons_of_mem _ (by rw [HFP.out]; exact List.mem_append.2 (.inl hx))))
      have HB1 := Lib.hid hb1
      have HK1 := Lib.hid hk1
      have HO1 := Lib.hid hou1
      have HR1 := Lib.hid hor1
      have hgl1 := hb1.lt
      obtain ⟨n1, hn1⟩ : ∃ n, nEd (m + 3) u = n := ⟨_, rfl⟩
      have HN1 := Lib.hid hn1
      have hbr := HBR.out
      rw [hn1] at hbr ⊢
      have u4 : w1.cell? ⟨g, j * 5 + 4, none⟩ = some (.slice R r.length cr) := (hb1.cell _).trans C4.out
      clear u0 u1 u2 u3 f0 f1 f2 hb1 hk1 hou1 hor1 hke1 hn1
      go_wp2_with fail
      refine (markEditS_ow R cr r fr n1 _ hbr HNR.out (by exact HR1.out)).mono ?_
      rintro e w2 ⟨rfl, hor2, hke2⟩
      have hgr : g ∉ fr := fun hq => HGN.out (by rw [HFP.out]; exact List.mem_append.2 (.inr hq))
      have hb3 := HB1.out.of_block (hke2.block g hgl1 hgr)
      have hou3 := Lay.edits.keeps HO1.out hke2 (fun q hq h9 => HDJ.out q hq q h9 rfl)
      have hk3 := HK1.out.trans (hke2.mono (fun x hx => List.mem_cons_of_mem _ (by rw [HFP.out]; exact List.mem_append.2 (.inr hx))))
      have hmem : ∀ x ∈ g :: fi, x ∈ fp := fun x hx => by
        rcases List.mem_cons.1 hx with e | hx
        · rw [e]; exact hgf
        · exact (HFI.out x hx).1
      have hlu : u.length = (markedEd (m + 3) u).length := (markedEd_len _ _).symm
      have hlr : r.length = (markedEd n1 r).length := (markedEd_len _ _).symm
      have hnew := HPUT.out w2 ((m : Int), ((m : Int) + 1, (m : Int) + 2), (markedEd (m + 3) u, markedEd n1 r)) [.int .i64 (m : Int), .int .i64 ((m : Int) + 1), .int .i64 ((m : Int) + 2), .slice U u.length cu, .slice R r.length cr] _ rfl hk3 hb3 (by simp) (by
          intro q hq
          have hq4 : q < 5 := hq
          match q, hq4 with
          | 0, _ => simp [Array.getElem?_setIfInBounds]; omega
          | 1, _ => simp [Array.getElem?_setIfInBounds]; omega
          | 2, _ => simp [Array.getElem?_setIfInBounds]; omega
          | 3, _ => exact C3.out
          | 4, _ => exact C4.out) (by
          intro q hq
          rw [Array.getElem?_setIfInBounds, if_neg (by omega), Array.getElem?_setIfInBounds, if_neg (by omega), Array.getElem?_setIfInBounds, if_neg (by omega)]) (by
          rw [HFP.out]
          have h1 := hou3
          have h2 := hor2
          rw [hlu] at h1 ⊢
          rw [hlr] at h2 ⊢
          exact own_member' ⟨by omega, by omega⟩ ⟨by omega, by omega⟩ ⟨by omega, by omega⟩ h1 h2)
      have hst := HST.out
      rw [HN1.out] at hst
      rw [hst] at hnew
      have HN := Lib.hid hnew
      have HK9 := Lib.hid (HKE.out.trans (hk3.mono hmem))
      have hnx : nEd n1 r = nM k (es.take (j + 1)) := by rw [← HN1.out]; exact HNT.out.symm
      rw [hnx]
      clear u4 hb3 hk3 hnew hou3 hor2 hke2 hnx hmem hst hlu hlr
      go_wp2
      go_roundw
      case rel => exact ⟨j + 1, by omega, by go_num, by first | rfl | go_num, HN.out, HK9.out⟩
      case measure => simp [intOf]; omega
    · have e : j = es.length := by omega
      subst e
      rw [List.take_length, List.drop_length, List.append_nil] at how
      rw [List.take_length]
      go_wp2
      go_ret
      exact ⟨rfl, how, hke⟩
end Go.Proofs.YtaekanhjkpoifaaDoor

/-
  The laws' reading of marks on commits, members and documents: contracts. Own work.
-/
namespace Go.Proofs.YtaekanhjkpoifaaDoor
open Go.RowKit P
set_option linter.unusedVariables false
set_option linter.unusedSimpArgs false
set_option maxRecDepth 100000

theorem markedEd_eq (es : List Ed) : ∀ k, markedEd k es = markedE k es := by
  induction es with
  | nil => intro k; rfl
  | cons c t ih => intro k; simp only [markedEd, markedE, mkEd, ih]
theorem markedC_get (es : List Cm) : ∀ (k j : Nat) (h : j < es.length), (markedC k es)[j]'(by rw [markedC_length]; exact h) = mkC (nC k (es.take j)) es[j] := by
  intro k j h
  have hs := markedC_snoc es k j h
  have h2 : markedC k (es.take (j + 1)) = (markedC k es).take (j + 1) := by
    clear hs h
    induction es generalizing k j with
    | nil => simp [markedC]
    | cons c t ih =>
      rw [List.take_succ_cons]
      simp only [markedC, List.take_succ_cons]
      cases j with
      | zero => simp [markedC]
      | succ j => rw [ih (k + 3 + c.2.2.2.length) j]
  have h3 : (markedC k (es.take (j + 1)))[j]? = some (mkC (nC k (es.take j)) es[j]) := by
    rw [hs, List.getElem?_append_right (by rw [markedC_length, List.length_take]; omega)]
    simp [markedC_length, List.length_take, show min j es.length = j by omega]
  rw [h2, List.getElem?_take, if_pos (by omega), List.getElem?_eq_getElem (by rw [markedC_length]; exact h)] at h3
  exact Option.some.inj h3
theorem markedM_get (es : List Mb) : ∀ (k j : Nat) (h : j < es.length), (markedM k es)[j]'(by rw [markedM_length]; exact h) = mkM (nM k (es.take j)) es[j] := by
  intro k j h
  have hs := markedM_snoc es k j h
  have h2 : markedM k (es.take (j + 1)) = (markedM k es).take (j + 1) := by
    clear hs h
    induction es generalizing k j with
    | nil => simp [markedM]
    | cons c t ih =>
      rw [List.take_succ_cons]
      simp only [markedM, List.take_succ_cons]
      cases j with
      | zero => simp [markedM]
      | succ j => rw [ih (nMb k c) j]
  have h3 : (markedM k (es.take (j + 1)))[j]? = some (mkM (nM k (es.take j)) es[j]) := by
    rw [hs, List.getElem?_append_right (by rw [markedM_length, List.length_take]; omega)]
    simp [markedM_length, List.length_take, show min j es.length = j by omega]
  rw [h2, List.getElem?_take, if_pos (by omega), List.getElem?_eq_getElem (by rw [markedM_length]; exact h)] at h3
  exact Option.some.inj h3

theorem nM_ge3 (es : List Mb) : ∀ (k : Nat), k + 3 * es.length ≤ nM k es := by
  induction es with
  | nil => intro k; exact Nat.le_refl _
  | cons c t ih =>
    intro k
    have h1 := ih (nMb k c)
    have h2 := nMb_eq k c
    simp only [nM, List.length_cons]
    omega

set_option maxHeartbeats 4000000 in
theorem heldCommitS_any (A : Option Addr) (es : List Cm) (c k : Nat) (w : World) (hk : nC k es ≤ 1900000) (hE : Cms w A (markedC k es)) :
    Calls Tryd.prog 31 #[.slice A es.length c, .int .i64 (k : Int)] w fun e w' => e = .returned (.int .i64 (nC k es : Int)) ∧ Below w.heap.size w w' := by
  have hlen9 : es.length ≤ 1900000 := by
    have h9 := hk
    unfold nC at h9
    omega
  go_enter Tryd.func31, Tryd.ntmps31
  go_wp2
  go_loopw [1, 5] (fun kk i wr => ∃ j : Nat, j ≤ es.length ∧ i = .int .i64 j ∧ kk = .int .i64 (nC k (es.take j) : Int) ∧ Below w.heap.size w wr) (fun _ i _ => es.length - (intOf i).toNat)
  case atStart => exact ⟨0, Nat.zero_le _, rfl, by simp [nC, tot, cputs], Below.refl _ _⟩
  case round =>
    obtain ⟨j, hj, rfl, rfl, hb⟩ := hrel
    by_cases hlt : j < es.length
    · obtain ⟨b, off, s, a, m, P, p, ep, rfl, hbl, hek, k0, k1, k2, k3, hs, ha, hm, hpd, hdm, hBp⟩ := (hE.below hb).at_ j (by rw [markedC_length]; exact hlt)
      rw [markedC_get es k j hlt] at hek
      unfold mkC at hek
      simp only [Prod.mk.injEq] at hek
      obtain ⟨rfl, rfl, rfl, rfl⟩ := hek
      have hntk := nC_take k es j hlt
      have hnle := nC_le k es (j + 1)
      have HNT := Lib.hid hntk
      obtain ⟨q, hq⟩ : ∃ q, nC k (es.take j) = q := ⟨_, rfl⟩
      rw [hq] at k0 k1 k2 k3 hBp hntk ⊢
      rw [marks_length] at k3
      obtain ⟨n, hnn⟩ : ∃ n, es[j].2.2.2.length = n := ⟨_, rfl⟩
      rw [hnn] at k3 hBp hntk
      have HBP := Lib.hid hBp
      have HB := Lib.hid hb
      have hji : (j : Int) < (es.length : Int) := by omega
      have hqb : q + 3 ≤ 2000000 := by omega
      have hnb : n ≤ 2000000 := by omega
      have hw0 : IntKind.i64.wrap ((q : Int) + 1) = (q : Int) + 1 := by rw [IntWalk.i64_in _ ⟨by omega, by omega⟩]
      have hw1 : IntKind.i64.wrap ((q : Int) + 1 + 1) = (q : Int) + 2 := by rw [IntWalk.i64_in _ ⟨by omega, by omega⟩]; omega
      have hw2 : IntKind.i64.wrap ((q : Int) + 2 + 1) = ((q + 3 : Nat) : Int) := by rw [IntWalk.i64_in _ ⟨by omega, by omega⟩]; omega
      have hnx : q + 3 + n = nC k (es.take (j + 1)) := hntk.symm
      have HNX := Lib.hid hnx
      have hneg : ¬ ((nC k (es.take (j + 1)) : Nat) : Int) < 0 := by omega
      have e1 : ((q : Int) != (q : Int)) = false := by simp
      have e2 : ((q : Int) + 1 != (q : Int) + 1) = false := by simp
      have e3 : ((q : Int) + 2 != (q : Int) + 2) = false := by simp
      clear hBp hb hntk hnx hnn hq hs ha hm hpd hdm
      go_wp2_with fail
      refine (heldByteS_any P n ep (q + 3) _ hqb hnb HBP.out).mono ?_
      rintro e w1 ⟨rfl, rfl⟩
      rw [HNX.out]
      go_wp2
      go_roundw
      case rel => exact ⟨j + 1, by omega, by go_num, by first | rfl | go_num, HB.out⟩
      case measure => simp [intOf]; omega
    · have e : j = es.length := by omega
      subst e
      rw [List.take_length]
      go_wp2
      go_ret
      exact ⟨rfl, hb⟩

set_option maxHeartbeats 4000000 in
theorem heldMemberS_any (A : Option Addr) (es : List Mb) (c k : Nat) (w : World) (hk : nM k es ≤ 390000) (hE : Mbs w A (markedM k es)) :
    Calls Tryd.prog 32 #[.slice A es.length c, .int .i64 (k : Int)] w fun e w' => e = .returned (.int .i64 (nM k es : Int)) ∧ Below w.heap.size w w' := by
  have hlen9 : es.length ≤ 390000 := by
    have h9 := nM_ge3 es k
    omega
  go_enter Tryd.func32, Tryd.ntmps32
  go_wp2
  go_loopw [1, 5] (fun kk i wr => ∃ j : Nat, j ≤ es.length ∧ i = .int .i64 j ∧ kk = .int .i64 (nM k (es.take j) : Int) ∧ Below w.heap.size w wr) (fun _ i _ => es.length - (intOf i).toNat)
  case atStart => exact ⟨0, Nat.zero_le _, rfl, by simp [nM], Below.refl _ _⟩
  case round =>
    obtain ⟨j, hj, rfl, rfl, hb⟩ := hrel
    by_cases hlt : j < es.length
    · obtain ⟨b, off, s, f, t, U, u', cu, R, r', cr, rfl, hbl, hek, k0, k1, k2, k3, k4, hs, hf, ht, hcu, hcm, hdr, hdm, hU, hR⟩ := (hE.below hb).at_ j (by rw [markedM_length]; exact hlt)
      rw [markedM_get es k j hlt] at hek
      unfold mkM at hek
      simp only [Prod.mk.injEq] at hek
      obtain ⟨rfl, ⟨rfl, rfl⟩, rfl, rfl⟩ := hek
      have hntk := nM_snoc es k j hlt
      have hnle := nM_take_le es k (j + 1)
      have hmq := nMb_eq (nM k (es.take j)) es[j]
      obtain ⟨q, hq⟩ : ∃ q, nM k (es.take j) = q := ⟨_, rfl⟩
      rw [hq] at k0 k1 k2 k3 k4 hU hR hntk hmq ⊢
      rw [markedEd_len] at k3 k4
      rw [markedEd_eq] at hU hR
      unfold nMb at hntk hmq
      obtain ⟨u, hu⟩ : ∃ u, es[j].2.2.1 = u := ⟨_, rfl⟩
      obtain ⟨r, hr⟩ : ∃ r, es[j].2.2.2 = r := ⟨_, rfl⟩
      rw [hu] at k3 hU hR hntk hmq
      rw [hr] at k4 hR hntk hmq
      obtain ⟨n1, hn1⟩ : ∃ n, nEd (q + 3) u = n := ⟨_, rfl⟩
      have hn1v : n1 = q + 3 + 2 * u.length + tot (puts u) := hn1.symm
      rw [hn1] at hR hntk hmq
      have hn2v : nEd n1 r = n1 + 2 * r.length + tot (puts r) := rfl
      have HN1 := Lib.hid (show q + 3 + 2 * u.length + tot (puts u) = n1 from hn1)
      have HN2 := Lib.hid (show n1 + 2 * r.length + tot (puts r) = nM k (es.take (j + 1)) from hntk.symm)
      have HU := Lib.hid hU
      have HR := Lib.hid hR
      have HB := Lib.hid hb
      have hji : (j : Int) < (es.length : Int) := by omega
      have hqb : q + 3 ≤ 1500000 := by omega
      have hub : 2 * u.length + tot (puts u) ≤ 400000 := by omega
      have hrb : 2 * r.length + tot (puts r) ≤ 400000 := by omega
      have hnb : n1 ≤ 1500000 := by omega
      have hw0 : IntKind.i64.wrap ((q : Int) + 1) = (q : Int) + 1 := by rw [IntWalk.i64_in _ ⟨by omega, by omega⟩]
      have hw1 : IntKind.i64.wrap ((q : Int) + 1 + 1) = (q : Int) + 2 := by rw [IntWalk.i64_in _ ⟨by omega, by omega⟩]; omega
      have hw2 : IntKind.i64.wrap ((q : Int) + 2 + 1) = ((q + 3 : Nat) : Int) := by rw [IntWalk.i64_in _ ⟨by omega, by omega⟩]; omega
      have hneg1 : ¬ ((n1 : Nat) : Int) < 0 := by omega
      have hneg : ¬ ((nM k (es.take (j + 1)) : Nat) : Int) < 0 := by omega
      have e1 : ((q : Int) != (q : Int)) = false := by simp
      have e2 : ((q : Int) + 1 != (q : Int) + 1) = false := by simp
      have e3 : ((q : Int) + 2 != (q : Int) + 2) = false := by simp
      clear hU hR hb hntk hn1 hq hs hf ht hcu hcm hdr hdm hu hr hn1v hn2v hmq
      go_wp2_with fail
      refine (heldEditS_any U u cu (q + 3) _ hqb hub HU.out).mono ?_
      rintro e w1 ⟨rfl, hb1⟩
      rw [HN1.out]
      have k4 := (hb1.cell (p := ⟨b, off + j * 5 + 4, none⟩) hbl).trans k4
      have HR := Lib.hid (HR.out.below hb1)
      have HB := Lib.hid (below_then HB.out hb1)
      clear k0 k1 k2 k3 hb1
      go_wp2_with fail
      refine (heldEditS_any R r cr n1 _ hnb hrb HR.out).mono ?_
      rintro e w2 ⟨rfl, hb2⟩
      rw [HN2.out]
      have HB := Lib.hid (below_then HB.out hb2)
      clear hb2
      go_wp2
      go_roundw
      case rel => exact ⟨j + 1, by omega, by go_num, by first | rfl | go_num, HB.out⟩
      case measure => simp [intOf]; omega
    · have e : j = es.length := by omega
      subst e
      rw [List.take_length]
      go_wp2
      go_ret
      exact ⟨rfl, hb⟩
end Go.Proofs.YtaekanhjkpoifaaDoor

/-
  Chapter 10, the laws' marks on documents: contracts. Own work.
-/
namespace Go.Proofs.YtaekanhjkpoifaaDoor
open Go.RowKit P
set_option linter.unusedVariables false
set_option linter.unusedSimpArgs false
set_option maxRecDepth 100000

/-- The numbers behind the parts of a marked document. -/
def nD1 (k : Nat) (d : Dc) : Nat := k + d.start.length
def nD2 (k : Nat) (d : Dc) : Nat := nD1 k d + d.text.length
def nD3 (k : Nat) (d : Dc) : Nat := nC (nD2 k d) d.log
def nD4 (k : Nat) (d : Dc) : Nat := nM (nD3 k d) d.mem
def nD5 (k : Nat) (d : Dc) : Nat := nD4 k d + 4 * d.lea.length
/-- A bound on what marks a document takes. -/
def wD (k : Nat) (d : Dc) : Nat := k + d.start.length + d.text.length + (3 * d.log.length + tot (cputs d.log)) + (3 * d.mem.length + 2 * msum d.mem) + 4 * d.lea.length
theorem nD_le (k : Nat) (d : Dc) : nD1 k d ≤ nD2 k d ∧ nD2 k d ≤ nD3 k d ∧ nD3 k d ≤ nD4 k d ∧ nD4 k d ≤ nD5 k d ∧ nD5 k d ≤ wD k d ∧ nD3 k d + 3 * d.mem.length + 2 * msum d.mem ≤ wD k d ∧ nD2 k d + 3 * d.log.length + tot (cputs d.log) ≤ wD k d := by
  have h1 := nM_le d.mem (nD3 k d)
  have h2 := nM_ge d.mem (nD3 k d)
  unfold nD5 nD4 wD
  unfold nD3 nC nD2 nD1 at *
  refine ⟨?_, ?_, ?_, ?_, ?_, ?_, ?_⟩ <;> omega
/-- What a marked document reads as. -/
structure MkdD (w : World) (a : Da) (d : Dc) (k : Nat) : Prop where
  s : Bs w a.s (marks k d.start.length)
  t : Bs w a.t (marks (nD1 k d) d.text.length)
  l : Cms w a.l (markedC (nD2 k d) d.log)
  m : Mbs w a.m (markedM (nD3 k d) d.mem)
  e : Ll w a.e (marksL (nD4 k d) d.lea.length)
theorem MkdD.below {w w' : World} {a : Da} {d : Dc} {k : Nat} (h : MkdD w a d k) (hb : Below w.heap.size w w') : MkdD w' a d k := ⟨h.s.below hb, h.t.below hb, h.l.below hb, h.m.below hb, h.e.below hb⟩

theorem bytes_own {w : World} {A : Option Addr} {l : List UInt8} {c : Nat} {fp : List Nat} (h : Lay.bytes.ow w [.slice A l.length c] l fp) : Own w 0 (.slice A l.length c) l ∧ fp = (Value.slice A l.length c).ownBlock.toList := by
  obtain ⟨v, e, ho, rfl⟩ := h
  simp only [List.cons.injEq, and_true] at e
  subst e
  exact ⟨ho, rfl⟩
theorem own_marks_bs {w : World} {A : Option Addr} {n c k : Nat} (h : Own w 0 (.slice A n c) (marks k n)) : Bs w A (marks k n) := own_bs9 h
theorem commits_cms {w : World} {A : Option Addr} {es : List Cm} {n c : Nat} {fp : List Nat} (h : Lay.commits.ow w [.slice A n c] es fp) : Cms w A es := by
  obtain ⟨A', c', e, _, _, h5⟩ := Lay.commits.read h
  simp only [List.cons.injEq, Value.slice.injEq, and_true] at e
  rw [e.1]
  exact h5
theorem members_mbs {w : World} {A : Option Addr} {es : List Mb} {n c : Nat} {fp : List Nat} (h : Lay.members.ow w [.slice A n c] es fp) : Mbs w A es := by
  obtain ⟨A', c', e, _, _, h5⟩ := Lay.members.read h
  simp only [List.cons.injEq, Value.slice.injEq, and_true] at e
  rw [e.1]
  exact h5

theorem marksL_in_wide {k n : Nat} (hk : k ≤ 8000000) (hn : n ≤ 1100000) : ∀ l ∈ marksL k n, leIn l := by
  intro l hl
  obtain ⟨i, hi, rfl⟩ := List.mem_map.1 hl
  have := List.mem_range.1 hi
  unfold leIn isI mk4
  simp only
  omega
set_option maxHeartbeats 4000000 in
theorem markLeaseS_wide (A : Option Addr) (c : Nat) (es : List Le) (fp : List Nat) (base k : Nat) (w : World) (hk : k ≤ 8000000) (hl : es.length ≤ 1100000) (h : OwL w base A es c fp) :
    Calls Tryd.prog 29 #[.slice A es.length c, .int .i64 (k : Int)] w fun e w' => e = .returned (.int .i64 ((k + 4 * es.length : Nat) : Int)) ∧ Ll w' A (marksL k es.length) ∧ Keeps fp w w' := by
  rcases rowL_of h with rfl | ⟨g, rfl, rfl, hrow, _⟩
  · go_enter Tryd.func29, Tryd.ntmps29
    go_wp2
    go_loopw [1, 5] (fun kk i wr => kk = .int .i64 (k : Int) ∧ i = .int .i64 0 ∧ wr = w) (fun _ _ _ => 0)
    case atStart => exact ⟨rfl, rfl, rfl⟩
    case round =>
      obtain ⟨rfl, rfl, rfl⟩ := hrel
      go_wp2
      go_ret
      exact ⟨by simp, Sl.nil _ _ _ _, Keeps.refl _ _⟩
  · clear h
    go_enter Tryd.func29, Tryd.ntmps29
    go_wp2
    go_loopw [1, 5] (fun kk i wr => ∃ j : Nat, j ≤ es.length ∧ i = .int .i64 j ∧ kk = .int .i64 ((k + 4 * j : Nat) : Int) ∧ RowL wr g (marksL k j ++ es.drop j) ∧ Keeps [g] w wr) (fun _ i _ => es.length - (intOf i).toNat)
    case atStart => exact ⟨0, Nat.zero_le _, rfl, rfl, by simpa [marksL] using hrow, Keeps.refl _ _⟩
    case round =>
      obtain ⟨j, hj, rfl, rfl, hr, hke⟩ := hrel
      by_cases hlt : j < es.length
      · have hll : j < (marksL k j ++ es.drop j).length := by rw [List.length_append, marksL_length, List.length_drop]; omega
        obtain ⟨u0, u1, u2, u3⟩ := hr.cells j hll
        have f0 := hr.frozen (j * 4)
        have f1 := hr.frozen (j * 4 + 1)
        have f2 := hr.frozen (j * 4 + 2)
        have f3 := hr.frozen (j * 4 + 3)
        have hnew := hr.set4 j hll ((k + 4 * j : Nat) : Int) ((k + 4 * j + 1 : Nat) : Int) ((k + 4 * j + 2 : Nat) : Int) ((k + 4 * j + 3 : Nat) : Int)
        rw [show ((((k + 4 * j : Nat) : Int), ((k + 4 * j + 1 : Nat) : Int), ((k + 4 * j + 2 : Nat) : Int), ((k + 4 * j + 3 : Nat) : Int)) : Le) = mk4 k j from rfl, marksL_step k es j hlt] at hnew
        have hkn := (((hke.put (List.mem_singleton.2 rfl) (j * 4) (.int .i64 ((k + 4 * j : Nat) : Int))).put (List.mem_singleton.2 rfl) (j * 4 + 1) (.int .i64 ((k + 4 * j + 1 : Nat) : Int))).put (List.mem_singleton.2 rfl) (j * 4 + 2) (.int .i64 ((k + 4 * j + 2 : Nat) : Int))).put (List.mem_singleton.2 rfl) (j * 4 + 3) (.int .i64 ((k + 4 * j + 3 : Nat) : Int))
        have HN := Lib.hid hnew
        have HK := Lib.hid hkn
        generalize (marksL k j ++ es.drop j)[j] = o at *
        clear hnew hkn hr hke hll
        go_wp2
        go_roundw
        case rel => exact ⟨j + 1, by omega, by go_num, by go_num, HN.out, HK.out⟩
        case measure => simp [intOf]; omega
      · have e : j = es.length := by omega
        subst e
        rw [List.drop_length, List.append_nil] at hr
        go_wp2
        go_ret
        exact ⟨rfl, hr.ll (marksL_in_wide hk hl), hke⟩

theorem OwD.range {w : World} {base : Nat} {a : Da} {d : Dc} {fs ft fl fm fe : List Nat} (h : OwD w base a d fs ft fl fm fe) : ∀ k ∈ fs ++ (ft ++ (fl ++ (fm ++ fe))), base ≤ k ∧ k < w.heap.size := fun x hx => by
  refine ⟨h.lo x hx, ?_⟩
  rcases List.mem_append.1 hx with h1 | hx
  · exact Lay.bytes.lt h.s x h1
  rcases List.mem_append.1 hx with h1 | hx
  · exact Lay.bytes.lt h.t x h1
  rcases List.mem_append.1 hx with h1 | hx
  · exact Lay.commits.lt h.l x h1
  rcases List.mem_append.1 hx with h1 | h1
  · exact Lay.members.lt h.m x h1
  · exact Lay.leases.lt h.e x h1
theorem wD_le (k : Nat) (d : Dc) : wD k d ≤ k + 4 * dtot d := by
  unfold wD dtot
  omega

set_option maxHeartbeats 8000000 in
theorem markDoc_any (a : Da) (d : Dc) (fs ft fl fm fe : List Nat) (base k : Nat) (w : World) (hk : wD k d ≤ 4400000) (hO : OwD w base a d fs ft fl fm fe) :
    Calls Tryd.prog 16 #[.agg #[.slice a.s d.start.length a.cs, .slice a.t d.text.length a.ct, .slice a.l d.log.length a.cl, .int .i64 d.clock, .slice a.m d.mem.length a.cm, .slice a.e d.lea.length a.ce], .int .i64 (k : Int)] w fun e w' => e = .returned (.int .i64 (nD5 k d : Int)) ∧ MkdD w' a d k ∧ Keeps (fs ++ (ft ++ (fl ++ (fm ++ fe)))) w w' := by
  have hal := (Below.refl w.heap.size w).alloc (Nat.le_refl _) (.cells #[.slice a.s d.start.length a.cs, .slice a.t d.text.length a.ct, .slice a.l d.log.length a.cl, .int .i64 d.clock, .slice a.m d.mem.length a.cm, .slice a.e d.lea.length a.ce] 27)
  have BX := Lib.hid (Blk.new w #[.slice a.s d.start.length a.cs, .slice a.t d.text.length a.ct, .slice a.l d.log.length a.cl, .int .i64 d.clock, .slice a.m d.mem.length a.cm, .slice a.e d.lea.length a.ce] 27)
  have H0 := Lib.hid (hO.below hal)
  obtain ⟨g1, g2, g3, g4, g5, g6, g7⟩ := nD_le k d
  have hg1 : nD1 k d = k + d.start.length := rfl
  have hg2 : nD2 k d = nD1 k d + d.text.length := rfl
  have hnd := hO.nd
  have hlt0 : ∀ x ∈ fs ++ (ft ++ (fl ++ (fm ++ fe))), x < w.heap.size := fun x hx => by
    rcases List.mem_append.1 hx with h | hx
    · exact Lay.bytes.lt hO.s x h
    rcases List.mem_append.1 hx with h | hx
    · exact Lay.bytes.lt hO.t x h
    rcases List.mem_append.1 hx with h | hx
    · exact Lay.commits.lt hO.l x h
    rcases List.mem_append.1 hx with h | h
    · exact Lay.members.lt hO.m x h
    · exact Lay.leases.lt hO.e x h
  have hd : (fs.Nodup ∧ (∀ x ∈ fs, x ∉ ft ∧ x ∉ fl ∧ x ∉ fm ∧ x ∉ fe)) ∧ (∀ x ∈ ft, x ∉ fl ∧ x ∉ fm ∧ x ∉ fe) ∧ (fl.Nodup ∧ ∀ x ∈ fl, x ∉ fm ∧ x ∉ fe) ∧ (fm.Nodup ∧ ∀ x ∈ fm, x ∉ fe) ∧ fe.Nodup := by
    simp only [List.nodup_append, List.mem_append] at hnd
    obtain ⟨a1, ⟨b1, ⟨c1, ⟨d1, e1, d2⟩, c2⟩, b2⟩, a2⟩ := hnd
    exact ⟨⟨a1, fun x hx => ⟨fun h => a2 x hx x (.inl h) rfl, fun h => a2 x hx x (.inr (.inl h)) rfl, fun h => a2 x hx x (.inr (.inr (.inl h))) rfl, fun h => a2 x hx x (.inr (.inr (.inr h))) rfl⟩⟩,
      fun x hx => ⟨fun h => b2 x hx x (.inl h) rfl, fun h => b2 x hx x (.inr (.inl h)) rfl, fun h => b2 x hx x (.inr (.inr h)) rfl⟩,
      ⟨c1, fun x hx => ⟨fun h => c2 x hx x (.inl h) rfl, fun h => c2 x hx x (.inr h) rfl⟩⟩, ⟨d1, fun x hx h => d2 x hx x h rfl⟩, e1⟩
  obtain ⟨⟨_, ds⟩, dt, ⟨nl, dl⟩, ⟨nm, dm⟩, ne⟩ := hd
  have DS := Lib.hid ds
  have DT := Lib.hid dt
  have DL := Lib.hid dl
  have DM := Lib.hid dm
  have NL := Lib.hid nl
  have NM := Lib.hid nm
  have NE := Lib.hid ne
  have HLT := Lib.hid hlt0
  have hL0 := hO.lo
  have HOE := Lib.hid hO.e
  have HK := Lib.hid (Keeps.of_below (fp := fs ++ (ft ++ (fl ++ (fm ++ fe)))) hal)
  obtain ⟨o1, e1⟩ := bytes_own H0.out.s
  obtain ⟨o2, e2⟩ := bytes_own H0.out.t
  have O1 := Lib.hid o1
  have O2 := Lib.hid o2
  have O3 := Lib.hid H0.out.l
  have O4 := Lib.hid H0.out.m
  have O5 := Lib.hid H0.out.e
  have E1 := Lib.hid e1
  have E2 := Lib.hid e2
  have hbx : ∀ x ∈ fs ++ (ft ++ (fl ++ (fm ++ fe))), x ≠ w.heap.size := fun x hx h => by have := hlt0 x hx; omega
  have HBX := Lib.hid hbx
  have p0 := BX.out.cell 0
  clear hal hO H0 hnd ds dt dl dm nl nm ne hlt0 o1 o2 e1 e2 hbx hL0
  go_enter Tryd.func16, Tryd.ntmps16
  go_wp2_with fail
  generalize w.alloc (.cells #[.slice a.s d.start.length a.cs, .slice a.t d.text.length a.ct, .slice a.l d.log.length a.cl, .int .i64 d.clock, .slice a.m d.mem.length a.cm, .slice a.e d.lea.length a.ce] 27) = W at *
  refine (markByteS_big _ d.start 0 k _ (by omega) (by omega) (by exact O1.out)).mono ?_
  rintro e w1 ⟨rfl, how, hgr⟩
  have hk1 : Keeps fs W w1 := by rw [E1.out]; exact Keeps.of_grown hgr
  have M1 := Lib.hid how
  have BX := Lib.hid (BX.out.of_block (hk1.block _ BX.out.lt (fun h => HBX.out _ (List.mem_append.2 (.inl h)) rfl)))
  have O2 := Lib.hid (O2.out.keeps hk1 (fun x hx h => (DS.out x h).1 (by rw [E2.out]; exact hx)))
  have O3 := Lib.hid (Lay.commits.keeps O3.out hk1 (fun x hx h => (DS.out x h).2.1 hx))
  have O4 := Lib.hid (Lay.members.keeps O4.out hk1 (fun x hx h => (DS.out x h).2.2.1 hx))
  have O5 := Lib.hid (Lay.leases.keeps O5.out hk1 (fun x hx h => (DS.out x h).2.2.2 hx))
  have HK := Lib.hid (HK.out.trans (hk1.mono (fun x hx => List.mem_append.2 (.inl hx))))
  rw [show ((k + d.start.length : Nat) : Int) = ((nD1 k d : Nat) : Int) from rfl]
  clear p0 how hgr hk1 O1
  obtain ⟨k1, hk1⟩ : ∃ x, nD1 k d = x := ⟨_, rfl⟩
  rw [hk1] at hg2 ⊢
  have HK1 := Lib.hid hk1
  have p1 := BX.out.cell 1
  go_wp2_with fail
  refine (markByteS_big _ d.text 0 k1 _ (by omega) (by omega) (by exact O2.out)).mono ?_
  rintro e w2 ⟨rfl, how, hgr⟩
  have hk2 : Keeps ft w1 w2 := by rw [E2.out]; exact Keeps.of_grown hgr
  have M2 := Lib.hid how
  have M1 := Lib.hid (M1.out.keeps hk2 (fun x hx h => (DS.out x (by rw [E1.out]; exact hx)).1 h))
  have BX := Lib.hid (BX.out.of_block (hk2.block _ BX.out.lt (fun h => HBX.out _ (List.mem_append.2 (.inr (List.mem_append.2 (.inl h)))) rfl)))
  have O3 := Lib.hid (Lay.commits.keeps O3.out hk2 (fun x hx h => (DT.out x h).1 hx))
  have O4 := Lib.hid (Lay.members.keeps O4.out hk2 (fun x hx h => (DT.out x h).2.1 hx))
  have O5 := Lib.hid (Lay.leases.keeps O5.out hk2 (fun x hx h => (DT.out x h).2.2 hx))
  have HK := Lib.hid (HK.out.trans (hk2.mono (fun x hx => List.mem_append.2 (.inr (List.mem_append.2 (.inl hx))))))
  rw [show ((k1 + d.text.length : Nat) : Int) = ((nD2 k d : Nat) : Int) by rw [hg2]]
  clear p1 how hgr hk2 O2
  obtain ⟨k2, hk2⟩ : ∃ x, nD2 k d = x := ⟨_, rfl⟩
  rw [hk2] at g7 ⊢
  have HK2 := Lib.hid hk2
  have p2 := BX.out.cell 2
  go_wp2_with fail
  refine (markCommitS_any a.l a.cl d.log fl k2 _ (by omega) NL.out O3.out).mono ?_
  rintro e w3 ⟨rfl, how, hk3⟩
  have M3 := Lib.hid how
  have M1 := Lib.hid (M1.out.keeps hk3 (fun x hx h => (DS.out x (by rw [E1.out]; exact hx)).2.1 h))
  have M2 := Lib.hid (M2.out.keeps hk3 (fun x hx h => (DT.out x (by rw [E2.out]; exact hx)).1 h))
  have BX := Lib.hid (BX.out.of_block (hk3.block _ BX.out.lt (fun h => HBX.out _ (by simp [h]) rfl)))
  have O4 := Lib.hid (Lay.members.keeps O4.out hk3 (fun x hx h => (DL.out x h).1 hx))
  have O5 := Lib.hid (Lay.leases.keeps O5.out hk3 (fun x hx h => (DL.out x h).2 hx))
  have HK := Lib.hid (HK.out.trans (hk3.mono (fun x hx => by simp [hx])))
  rw [show ((nC k2 d.log : Nat) : Int) = ((nD3 k d : Nat) : Int) by rw [← HK2.out]; rfl]
  clear p2 how hk3 O3
  obtain ⟨k3, hk3⟩ : ∃ x, nD3 k d = x := ⟨_, rfl⟩
  rw [hk3] at g6 ⊢
  have HK3 := Lib.hid hk3
  have p4 := BX.out.cell 4
  go_wp2_with fail
  refine (markMemberS_any a.m a.cm d.mem fm k3 _ (by omega) NM.out O4.out).mono ?_
  rintro e w4 ⟨rfl, how, hk4⟩
  have M4 := Lib.hid how
  have M1 := Lib.hid (M1.out.keeps hk4 (fun x hx h => (DS.out x (by rw [E1.out]; exact hx)).2.2.1 h))
  have M2 := Lib.hid (M2.out.keeps hk4 (fun x hx h => (DT.out x (by rw [E2.out]; exact hx)).2.1 h))
  have M3 := Lib.hid (Lay.commits.keeps M3.out hk4 (fun x hx h => (DL.out x hx).1 h))
  have BX := Lib.hid (BX.out.of_block (hk4.block _ BX.out.lt (fun h => HBX.out _ (by simp [h]) rfl)))
  have O5 := Lib.hid (Lay.leases.keeps O5.out hk4 (fun x hx h => DM.out x h hx))
  have HK := Lib.hid (HK.out.trans (hk4.mono (fun x hx => by simp [hx])))
  rw [show ((nM k3 d.mem : Nat) : Int) = ((nD4 k d : Nat) : Int) by rw [← HK3.out]; rfl]
  clear p4 how hk4 O4
  obtain ⟨k4, hk4⟩ : ∃ x, nD4 k d = x := ⟨_, rfl⟩
  rw [hk4] at g4 ⊢
  have HK4 := Lib.hid hk4
  have hg5 : nD5 k d = nD4 k d + 4 * d.lea.length := rfl
  have p5 := BX.out.cell 5
  go_wp2_with fail
  refine (markLeaseS_wide a.e a.ce d.lea fe 0 k4 _ (by omega) (by omega) ⟨O5.out, NE.out, fun x hx => Nat.zero_le _⟩).mono ?_
  rintro e w5 ⟨rfl, hml, hk5⟩
  have M5 := Lib.hid hml
  have M1 := Lib.hid (M1.out.keeps hk5 (fun x hx h => (DS.out x (by rw [E1.out]; exact hx)).2.2.2 h))
  have M2 := Lib.hid (M2.out.keeps hk5 (fun x hx h => (DT.out x (by rw [E2.out]; exact hx)).2.2 h))
  have M3 := Lib.hid (Lay.commits.keeps M3.out hk5 (fun x hx h => (DL.out x hx).2 h))
  have M4 := Lib.hid (Lay.members.keeps M4.out hk5 (fun x hx h => DM.out x hx h))
  have HK := Lib.hid (HK.out.trans (hk5.mono (fun x hx => by simp [hx])))
  rw [show ((k4 + 4 * d.lea.length : Nat) : Int) = ((nD5 k d : Nat) : Int) by rw [hg5, hk4]]
  have MD : MkdD w5 a d k := ⟨own_bs9 M1.out, by rw [HK1.out]; exact own_bs9 M2.out, by rw [HK2.out]; exact commits_cms M3.out, by rw [HK3.out]; exact members_mbs M4.out, by rw [HK4.out]; exact M5.out⟩
  have HMD := Lib.hid MD
  clear p5 hml hk5 O5 MD
  go_wp2
  go_ret
  refine ⟨ret_int ?_, HMD.out, HK.out⟩
  have h8 := HK4.out
  omega

set_option maxHeartbeats 8000000 in
theorem heldDoc_any (a : Da) (d : Dc) (k : Nat) (w : World) (hk : wD k d ≤ 380000) (hM : MkdD w a d k) :
    Calls Tryd.prog 18 #[.agg #[.slice a.s d.start.length a.cs, .slice a.t d.text.length a.ct, .slice a.l d.log.length a.cl, .int .i64 d.clock, .slice a.m d.mem.length a.cm, .slice a.e d.lea.length a.ce], .int .i64 (k : Int)] w fun e w' => e = .returned (.int .i64 (nD5 k d : Int)) ∧ Below w.heap.size w w' := by
  have hal := (Below.refl w.heap.size w).alloc (Nat.le_refl _) (.cells #[.slice a.s d.start.length a.cs, .slice a.t d.text.length a.ct, .slice a.l d.log.length a.cl, .int .i64 d.clock, .slice a.m d.mem.length a.cm, .slice a.e d.lea.length a.ce] 27)
  have BX := Lib.hid (Blk.new w #[.slice a.s d.start.length a.cs, .slice a.t d.text.length a.ct, .slice a.l d.log.length a.cl, .int .i64 d.clock, .slice a.m d.mem.length a.cm, .slice a.e d.lea.length a.ce] 27)
  have HM := Lib.hid (hM.below hal)
  have HB := Lib.hid hal
  obtain ⟨g1, g2, g3, g4, g5, g6, g7⟩ := nD_le k d
  obtain ⟨b0, b1, b2, b3⟩ : k ≤ 380000 ∧ d.start.length ≤ 380000 ∧ d.text.length ≤ 380000 ∧ d.lea.length ≤ 380000 := by
    have h9 := hk
    unfold wD at h9
    omega
  have hg1 : nD1 k d = k + d.start.length := rfl
  have hg2 : nD2 k d = nD1 k d + d.text.length := rfl
  have hg5 : nD5 k d = nD4 k d + 4 * d.lea.length := rfl
  obtain ⟨k1, hk1⟩ : ∃ x, nD1 k d = x := ⟨_, rfl⟩
  obtain ⟨k2, hk2⟩ : ∃ x, nD2 k d = x := ⟨_, rfl⟩
  obtain ⟨k3, hk3⟩ : ∃ x, nD3 k d = x := ⟨_, rfl⟩
  obtain ⟨k4, hk4⟩ : ∃ x, nD4 k d = x := ⟨_, rfl⟩
  obtain ⟨k5, hk5⟩ : ∃ x, nD5 k d = x := ⟨_, rfl⟩
  have f3 : nC k2 d.log = k3 := by rw [← hk2, ← hk3]; rfl
  have f4 : nM k3 d.mem = k4 := by rw [← hk3, ← hk4]; rfl
  have HD := Lib.hid (show ∀ W, Below w.heap.size w W → Bs W a.s (marks k d.start.length) ∧ Bs W a.t (marks k1 d.text.length) ∧ Cms W a.l (markedC k2 d.log) ∧ Mbs W a.m (markedM k3 d.mem) ∧ Ll W a.e (marksL k4 d.lea.length) from fun W h => by
    have h9 := hM.below h
    rw [← hk1, ← hk2, ← hk3, ← hk4]
    exact ⟨h9.s, h9.t, h9.l, h9.m, h9.e⟩)
  rw [hk1, hk2] at g1
  rw [hk2, hk3] at g2
  rw [hk3, hk4] at g3
  rw [hk4, hk5] at g4
  rw [hk5] at g5
  rw [hk3] at g6
  rw [hk2] at g7
  rw [hk1] at hg1
  rw [hk2, hk1] at hg2
  rw [hk5, hk4] at hg5
  rw [hk5]
  have G1 := Lib.hid (show k + d.start.length = k1 by omega)
  have G2 := Lib.hid (show k1 + d.text.length = k2 by omega)
  have G5 := Lib.hid (show k4 + 4 * d.lea.length = k5 by omega)
  have F3 := Lib.hid f3
  have F4 := Lib.hid f4
  have hn1 : ¬ (k1 : Int) < 0 := by omega
  have hn2 : ¬ (k2 : Int) < 0 := by omega
  have hn3 : ¬ (k3 : Int) < 0 := by omega
  have hn4 : ¬ (k4 : Int) < 0 := by omega
  have hn5 : ¬ (k5 : Int) < 0 := by omega
  have p0 := BX.out.cell 0
  clear hM hal hk1 hk2 hk3 hk4 hk5 hg1 hg2 hg5 f3 f4 HM
  go_enter Tryd.func18, Tryd.ntmps18
  go_wp2_with fail
  generalize w.alloc (.cells #[.slice a.s d.start.length a.cs, .slice a.t d.text.length a.ct, .slice a.l d.log.length a.cl, .int .i64 d.clock, .slice a.m d.mem.length a.cm, .slice a.e d.lea.length a.ce] 27) = W at *
  refine (heldByteS_any a.s d.start.length a.cs k _ (by omega) (by omega) (HD.out _ HB.out).1).mono ?_
  rintro e w1 ⟨rfl, rfl⟩
  rw [G1.out]
  clear p0
  have p1 := BX.out.cell 1
  go_wp2_with fail
  refine (heldByteS_any a.t d.text.length a.ct k1 _ (by omega) (by omega) (HD.out _ HB.out).2.1).mono ?_
  rintro e w2 ⟨rfl, rfl⟩
  rw [G2.out]
  clear p1
  have p2 := BX.out.cell 2
  go_wp2_with fail
  refine (heldCommitS_any a.l d.log a.cl k2 _ (by rw [F3.out]; omega) (HD.out _ HB.out).2.2.1).mono ?_
  rintro e w3 ⟨rfl, hb⟩
  rw [F3.out]
  have BX := Lib.hid (BX.out.below hb)
  have HB := Lib.hid (below_then HB.out hb)
  clear p2 hb
  have p4 := BX.out.cell 4
  go_wp2_with fail
  refine (heldMemberS_any a.m d.mem a.cm k3 _ (by rw [F4.out]; omega) (HD.out _ HB.out).2.2.2.1).mono ?_
  rintro e w4 ⟨rfl, hb⟩
  rw [F4.out]
  have BX := Lib.hid (BX.out.below hb)
  have HB := Lib.hid (below_then HB.out hb)
  clear p4 hb
  have p5 := BX.out.cell 5
  go_wp2_with fail
  refine (heldLeaseS_any a.e d.lea.length a.ce k4 _ (by omega) (by omega) (HD.out _ HB.out).2.2.2.2).mono ?_
  rintro e w5 ⟨rfl, rfl⟩
  rw [G5.out]
  clear p5
  go_wp2
  go_ret
  exact ⟨rfl, HB.out⟩
end Go.Proofs.YtaekanhjkpoifaaDoor

/-
  bytes.Clone: contract. Own work.
-/
namespace Go.Proofs.YtaekanhjkpoifaaDoor
open Go.RowKit P
set_option linter.unusedVariables false
set_option linter.unusedSimpArgs false
set_option maxRecDepth 100000

set_option maxHeartbeats 1000000 in
theorem bytesClone_e (a : Addr) (l : List UInt8) (n c : Nat) (w : World) (hn : n = l.length) (hl : l.length ≤ 1000000) (hA : Bs w (some a) l) :
    Calls Tryd.prog 22 #[.slice (some a) n c] w (Makes w l) := by
  have q22 : ∀ (w : World) (a : Option Addr) (n c n' c' : Nat), (binOp .eql 22 (.slice a n c) (.slice none n' c')).run Tryd.prog w = .ok (.bool a.isNone) w := fun w a n c n' c' => Lib.run_eql_slice_nil w _ _ a n c n' c' Tryd.underlying22
  have hown0 : Own (w.alloc (.cells #[] 5)) w.heap.size (.slice (some ⟨w.heap.size, 0, none⟩) 0 0) [] := World.ownsRow_made w #[] 0 (Nat.le_refl _) (by unfold maxLen; omega) rfl
  have hal := (Below.refl w.heap.size w).alloc (Nat.le_refl _) (.cells #[] 5)
  have hA0 := hA.below hal
  go_enter Tryd.func22, Tryd.ntmps22
  go_wp2_with (at_builtin; go_must (refine wpList_app_bytes rfl _ _ rfl w.heap.size _ [] l (some a) n c rfl rfl hn hown0 hA0 ?c1 ?c2 ?_))
  case c1 => simp; omega
  case c2 => simp
  intro v4 w4 hown4 hg4 _
  have hb4 := hal.grown hg4 (by simp) (fun x hx => (World.ownsRow.lt hown0 x hx).1)
  go_wp2
  go_ret
  exact ⟨_, rfl, hown4, hb4⟩

set_option maxHeartbeats 1000000 in
theorem bytesClone_opt (A : Option Addr) (l : List UInt8) (n c : Nat) (w : World) (hn : n = l.length) (hl : l.length ≤ 1000000) (hA : Bs w A l) :
    Calls Tryd.prog 22 #[.slice A n c] w (Makes w l) := by
  cases A with
  | some a => exact bytesClone_e a l n c w hn hl hA
  | none =>
    have h0 : l = [] := by
      cases l with
      | nil => rfl
      | cons x t => obtain ⟨b, off, e, _⟩ := hA 0 (by simp); cases e
    subst h0
    have q22 : ∀ (w : World) (a : Option Addr) (n c n' c' : Nat), (binOp .eql 22 (.slice a n c) (.slice none n' c')).run Tryd.prog w = .ok (.bool a.isNone) w := fun w a n c n' c' => Lib.run_eql_slice_nil w _ _ a n c n' c' Tryd.underlying22
    go_enter Tryd.func22, Tryd.ntmps22
    go_wp2
    go_ret
    exact Makes.nil w
end Go.Proofs.YtaekanhjkpoifaaDoor

/-
  Chapter 10, a new document: contracts of the model and of the program. Own work.
-/
namespace Go.Proofs.YtaekanhjkpoifaaDoor
open Go.RowKit P
set_option linter.unusedVariables false
set_option linter.unusedSimpArgs false
set_option maxRecDepth 100000

/-- The text of a new document. -/
def newT (l : List UInt8) : List UInt8 := if isText l = true then l else []
/-- A new document. -/
def newD (l : List UInt8) : Dc := ⟨newT l, newT l, [], 0, [], []⟩
/-- Where a new document's texts lie. -/
def newA (A : Option Addr) (c : Nat) (B : Option Addr) (d : Nat) : Da := ⟨A, c, B, d, none, 0, none, 0, none, 0⟩
/-- What the making of a document ends in. -/
def GivesN (l : List UInt8) (w : World) (e : Ending) (w' : World) : Prop :=
  ∃ A c B d, e = .returned (.tuple #[.agg #[.slice A (newT l).length c, .slice B (newT l).length d, .slice none 0 0, .int .i64 0, .slice none 0 0, .slice none 0 0], .bool (isText l)]) ∧
    Own w' w.heap.size (.slice A (newT l).length c) (newT l) ∧ Own w' w.heap.size (.slice B (newT l).length d) (newT l) ∧ (∀ k ∈ (Value.slice A (newT l).length c).ownBlock.toList, k ∉ (Value.slice B (newT l).length d).ownBlock.toList) ∧ Below w.heap.size w w'

set_option maxHeartbeats 8000000 in
theorem implDocNew_any (A : Option Addr) (l : List UInt8) (c : Nat) (w : World) (hl : l.length ≤ c) (hc9 : c ≤ 9223372036854775807) (hT : Tab w) (hA : Bs w A l) :
    Calls Tryd.prog 13 #[.slice A l.length c] w (GivesN l w) := by
  have hal := (Below.refl w.heap.size w).alloc (Nat.le_refl _) (.cells #[.slice none 0 0, .slice none 0 0, .slice none 0 0, .int .i64 0, .slice none 0 0, .slice none 0 0] 27)
  have BX := Lib.hid (Blk.new w #[.slice none 0 0, .slice none 0 0, .slice none 0 0, .int .i64 0, .slice none 0 0, .slice none 0 0] 27)
  have HT := Lib.hid (hT.below hal)
  have HA := Lib.hid (show ∀ W, Below w.heap.size w W → Bs W A l from fun W h => hA.below h)
  have HB := Lib.hid hal
  obtain ⟨q, hq⟩ : ∃ q, isText l = q := ⟨_, rfl⟩
  have HQ := Lib.hid hq
  have hzw : (w.alloc (.cells #[.slice none 0 0, .slice none 0 0, .slice none 0 0, .int .i64 0, .slice none 0 0, .slice none 0 0] 27)).heap.size = w.heap.size + 1 := by simp
  clear hT hA hal
  go_enter Tryd.func13, Tryd.ntmps13
  go_wp2_with fail
  generalize w.alloc (.cells #[.slice none 0 0, .slice none 0 0, .slice none 0 0, .int .i64 0, .slice none 0 0, .slice none 0 0] 27) = W at *
  refine (textOk_any A l c _ hl hc9 HT.out (HA.out _ HB.out)).mono ?_
  rintro e w1 ⟨rfl, n1, rfl⟩
  rw [HQ.out]
  have hb := below_of_drewN W n1
  have BX := Lib.hid (BX.out.below hb)
  have HB := Lib.hid (below_then HB.out hb)
  have hz1 := hb.size
  generalize W.drewN n1 = w1 at *
  clear hb
  cases q
  · have e1 : newT l = [] := by unfold newT; rw [HQ.out]; rfl
    have q0 := BX.out.cell 0
    have q1 := BX.out.cell 1
    have q2 := BX.out.cell 2
    have q3 := BX.out.cell 3
    have q4 := BX.out.cell 4
    have q5 := BX.out.cell 5
    have f0 := BX.out.frozen 0
    have f1 := BX.out.frozen 1
    have f2 := BX.out.frozen 2
    have f3 := BX.out.frozen 3
    have f4 := BX.out.frozen 4
    have f5 := BX.out.frozen 5
    have HE := Lib.hid e1
    clear e1 hq
    go_wp2
    refine bodyPost_ret (v := .tuple #[.agg #[.slice none 0 0, .slice none 0 0, .slice none 0 0, .int .i64 0, .slice none 0 0, .slice none 0 0], .bool false]) (by simp [results, Tryd.results13, go_sem, q0, q1, q2, q3, q4, q5]) rfl ?_
    have hn0 : ∀ W : World, Own W w.heap.size (.slice none (newT l).length 0) (newT l) := fun W => by rw [HE.out]; exact Own.nil _ _
    have hr0 : (Ending.returned (.tuple #[.agg #[.slice none 0 0, .slice none 0 0, .slice none 0 0, .int .i64 0, .slice none 0 0, .slice none 0 0], .bool false]) : Ending) = .returned (.tuple #[.agg #[.slice none (newT l).length 0, .slice none (newT l).length 0, .slice none 0 0, .int .i64 0, .slice none 0 0, .slice none 0 0], .bool (isText l)]) := by rw [HE.out, HQ.out]; rfl
    refine ⟨none, 0, none, 0, hr0, hn0 _, hn0 _, fun k hk => by simp [Value.ownBlock] at hk, ?_⟩
    exact (((((HB.out.setCell (p := ⟨w.heap.size, 0, none⟩) (by simp) _).setCell (p := ⟨w.heap.size, 1, none⟩) (by simp) _).setCell (p := ⟨w.heap.size, 2, none⟩) (by simp) _).setCell (p := ⟨w.heap.size, 3, none⟩) (by simp) _).setCell (p := ⟨w.heap.size, 4, none⟩) (by simp) _).setCell (p := ⟨w.heap.size, 5, none⟩) (by simp) _
  have hl4 := isText_len HQ.out
  have e1 : newT l = l := by unfold newT; rw [HQ.out]; rfl
  have HE := Lib.hid e1
  clear e1 hq
  go_wp2_with fail
  refine (bytesClone_opt A l l.length c _ rfl (by omega) (HA.out _ HB.out)).mono ?_
  rintro e w2 ⟨v1, rfl, ho1, hb⟩
  have HO1 := Lib.hid ho1
  have HR1 := Lib.hid ho1.range
  have BX := Lib.hid (BX.out.below hb)
  have HB := Lib.hid (below_then HB.out hb)
  have hz2 := hb.size
  obtain ⟨A1, c1, e1, _, _, _⟩ := ho1.form
  subst e1
  clear ho1 hb
  go_wp2_with fail
  refine (bytesClone_opt A l l.length c _ rfl (by omega) (HA.out _ HB.out)).mono ?_
  rintro e w3 ⟨v2, rfl, ho2, hb⟩
  have HO1 := Lib.hid (HO1.out.below hb)
  have HO2 := Lib.hid ho2
  have HR2 := Lib.hid ho2.range
  have BX := Lib.hid (BX.out.below hb)
  have HB := Lib.hid (below_then HB.out hb)
  obtain ⟨A2, c2, e2, _, _, _⟩ := ho2.form
  subst e2
  have hd : ∀ k ∈ (Value.slice A1 l.length c1).ownBlock.toList, k ∉ (Value.slice A2 l.length c2).ownBlock.toList := fun k h1 h2 => by
    have := (HR1.out k h1).2
    have := (HR2.out k h2).1
    omega
  have HDJ := Lib.hid hd
  have hlo1 : ∀ k ∈ (Value.slice A1 l.length c1).ownBlock.toList, w.heap.size < k := fun k hk => by have := (HR1.out k hk).1; omega
  have hlo2 : ∀ k ∈ (Value.slice A2 l.length c2).ownBlock.toList, w.heap.size < k := fun k hk => by have := (HR2.out k hk).1; omega
  have hke := ((((((Keeps.refl [w.heap.size] w3).set (List.mem_singleton.2 rfl) 0 (.slice A1 l.length c1)).set (List.mem_singleton.2 rfl) 1 (.slice A2 l.length c2)).set (List.mem_singleton.2 rfl) 2 (.slice none 0 0)).set (List.mem_singleton.2 rfl) 3 (.int .i64 0)).set (List.mem_singleton.2 rfl) 4 (.slice none 0 0)).set (List.mem_singleton.2 rfl) 5 (.slice none 0 0)
  have HO19 := Lib.hid (HO1.out.keeps hke (fun k hk => by have := hlo1 k hk; simp; omega))
  have HO29 := Lib.hid (HO2.out.keeps hke (fun k hk => by have := hlo2 k hk; simp; omega))
  have HB9 := Lib.hid ((((((HB.out.setCell (p := ⟨w.heap.size, 0, none⟩) (by simp) (.slice A1 l.length c1)).setCell (p := ⟨w.heap.size, 1, none⟩) (by simp) (.slice A2 l.length c2)).setCell (p := ⟨w.heap.size, 2, none⟩) (by simp) (.slice none 0 0)).setCell (p := ⟨w.heap.size, 3, none⟩) (by simp) (.int .i64 0)).setCell (p := ⟨w.heap.size, 4, none⟩) (by simp) (.slice none 0 0)).setCell (p := ⟨w.heap.size, 5, none⟩) (by simp) (.slice none 0 0))
  have hzl : w.heap.size ≤ w1.heap.size := by omega
  have hzl2 : w.heap.size ≤ w2.heap.size := by omega
  have q0 := BX.out.cell 0
  have q1 := BX.out.cell 1
  have q2 := BX.out.cell 2
  have q3 := BX.out.cell 3
  have q4 := BX.out.cell 4
  have q5 := BX.out.cell 5
  have f0 := BX.out.frozen 0
  have f1 := BX.out.frozen 1
  have f2 := BX.out.frozen 2
  have f3 := BX.out.frozen 3
  have f4 := BX.out.frozen 4
  have f5 := BX.out.frozen 5
  clear ho2 hb hke hd hlo1 hlo2
  go_wp2
  refine bodyPost_ret (v := .tuple #[.agg #[.slice A1 l.length c1, .slice A2 l.length c2, .slice none 0 0, .int .i64 0, .slice none 0 0, .slice none 0 0], .bool true]) (by simp [results, Tryd.results13, go_sem, q0, q1, q2, q3, q4, q5]) rfl ?_
  exact ⟨A1, c1, A2, c2, by rw [HE.out, HQ.out], by rw [HE.out]; exact HO19.out.mono hzl, by rw [HE.out]; exact HO29.out.mono hzl2, by rw [HE.out]; exact HDJ.out, HB9.out⟩
set_option maxHeartbeats 8000000 in
theorem specDocNew_any (A : Option Addr) (l : List UInt8) (c : Nat) (w : World) (hl : l.length ≤ c) (hc9 : c ≤ 9223372036854775807) (hA : Bs w A l) :
    Calls Tryd.prog 12 #[.slice A l.length c] w (GivesN l w) := by
  have hal := (Below.refl w.heap.size w).alloc (Nat.le_refl _) (.cells #[.slice none 0 0, .slice none 0 0, .slice none 0 0, .int .i64 0, .slice none 0 0, .slice none 0 0] 27)
  have BX := Lib.hid (Blk.new w #[.slice none 0 0, .slice none 0 0, .slice none 0 0, .int .i64 0, .slice none 0 0, .slice none 0 0] 27)
  have HA := Lib.hid (show ∀ W, Below w.heap.size w W → Bs W A l from fun W h => hA.below h)
  have HB := Lib.hid hal
  obtain ⟨q, hq⟩ : ∃ q, isText l = q := ⟨_, rfl⟩
  have HQ := Lib.hid hq
  have hzw : (w.alloc (.cells #[.slice none 0 0, .slice none 0 0, .slice none 0 0, .int .i64 0, .slice none 0 0, .slice none 0 0] 27)).heap.size = w.heap.size + 1 := by simp
  clear hA hal
  go_enter Tryd.func12, Tryd.ntmps12
  go_wp2_with fail
  generalize w.alloc (.cells #[.slice none 0 0, .slice none 0 0, .slice none 0 0, .int .i64 0, .slice none 0 0, .slice none 0 0] 27) = W at *
  refine (specTextOk_any A l c _ hl hc9 (HA.out _ HB.out)).mono ?_
  rintro e w1 ⟨rfl, hb⟩
  rw [HQ.out]
  have BX := Lib.hid (BX.out.below hb)
  have HB := Lib.hid (below_then HB.out hb)
  have hz1 := hb.size
  clear hb
  cases q
  · have e1 : newT l = [] := by unfold newT; rw [HQ.out]; rfl
    have q0 := BX.out.cell 0
    have q1 := BX.out.cell 1
    have q2 := BX.out.cell 2
    have q3 := BX.out.cell 3
    have q4 := BX.out.cell 4
    have q5 := BX.out.cell 5
    have f0 := BX.out.frozen 0
    have f1 := BX.out.frozen 1
    have f2 := BX.out.frozen 2
    have f3 := BX.out.frozen 3
    have f4 := BX.out.frozen 4
    have f5 := BX.out.frozen 5
    have HE := Lib.hid e1
    clear e1 hq
    go_wp2
    refine bodyPost_ret (v := .tuple #[.agg #[.slice none 0 0, .slice none 0 0, .slice none 0 0, .int .i64 0, .slice none 0 0, .slice none 0 0], .bool false]) (by simp [results, Tryd.results12, go_sem, q0, q1, q2, q3, q4, q5]) rfl ?_
    have hn0 : ∀ W : World, Own W w.heap.size (.slice none (newT l).length 0) (newT l) := fun W => by rw [HE.out]; exact Own.nil _ _
    have hr0 : (Ending.returned (.tuple #[.agg #[.slice none 0 0, .slice none 0 0, .slice none 0 0, .int .i64 0, .slice none 0 0, .slice none 0 0], .bool false]) : Ending) = .returned (.tuple #[.agg #[.slice none (newT l).length 0, .slice none (newT l).length 0, .slice none 0 0, .int .i64 0, .slice none 0 0, .slice none 0 0], .bool (isText l)]) := by rw [HE.out, HQ.out]; rfl
    refine ⟨none, 0, none, 0, hr0, hn0 _, hn0 _, fun k hk => by simp [Value.ownBlock] at hk, ?_⟩
    exact (((((HB.out.setCell (p := ⟨w.heap.size, 0, none⟩) (by simp) _).setCell (p := ⟨w.heap.size, 1, none⟩) (by simp) _).setCell (p := ⟨w.heap.size, 2, none⟩) (by simp) _).setCell (p := ⟨w.heap.size, 3, none⟩) (by simp) _).setCell (p := ⟨w.heap.size, 4, none⟩) (by simp) _).setCell (p := ⟨w.heap.size, 5, none⟩) (by simp) _
  have hl4 := isText_len HQ.out
  have e1 : newT l = l := by unfold newT; rw [HQ.out]; rfl
  have HE := Lib.hid e1
  clear e1 hq
  have hown0 : Own (w1.alloc (.cells #[] 5)) w1.heap.size (.slice (some ⟨w1.heap.size, 0, none⟩) 0 0) [] := World.ownsRow_made w1 #[] 0 (Nat.le_refl _) (by unfold maxLen; omega) rfl
  have hal1 := (Below.refl w1.heap.size w1).alloc (Nat.le_refl _) (.cells #[] 5)
  have hA1 := HA.out _ (below_then HB.out hal1)
  go_wp2_with (at_builtin; go_must (refine wpList_app_bytes rfl _ _ rfl w1.heap.size _ [] l A l.length c rfl rfl rfl hown0 hA1 (by simp; omega) (by simp) ?_))
  intro v1 w2 ho1 hg1 _
  have hb := hal1.grown hg1 (by simp) (fun x hx => (World.ownsRow.lt hown0 x hx).1)
  have HO1 := Lib.hid ho1
  have HR1 := Lib.hid ho1.range
  have BX := Lib.hid (BX.out.below hb)
  have HB := Lib.hid (below_then HB.out hb)
  have hz2 := hb.size
  obtain ⟨A1, c1, e1, _, _, _⟩ := ho1.form
  subst e1
  clear ho1 hb hg1 hal1 hA1 hown0
  have hown0 : Own (w2.alloc (.cells #[] 5)) w2.heap.size (.slice (some ⟨w2.heap.size, 0, none⟩) 0 0) [] := World.ownsRow_made w2 #[] 0 (Nat.le_refl _) (by unfold maxLen; omega) rfl
  have hal1 := (Below.refl w2.heap.size w2).alloc (Nat.le_refl _) (.cells #[] 5)
  have hA1 := HA.out _ (below_then HB.out hal1)
  go_wp2_with (at_builtin; go_must (refine wpList_app_bytes rfl _ _ rfl w2.heap.size _ [] l A l.length c rfl rfl rfl hown0 hA1 (by simp; omega) (by simp) ?_))
  intro v2 w3 ho2 hg2 _
  have hb := hal1.grown hg2 (by simp) (fun x hx => (World.ownsRow.lt hown0 x hx).1)
  have HO1 := Lib.hid (HO1.out.below hb)
  have HO2 := Lib.hid ho2
  have HR2 := Lib.hid ho2.range
  have BX := Lib.hid (BX.out.below hb)
  have HB := Lib.hid (below_then HB.out hb)
  obtain ⟨A2, c2, e2, _, _, _⟩ := ho2.form
  subst e2
  clear hg2 hal1 hA1 hown0
  have hd : ∀ k ∈ (Value.slice A1 l.length c1).ownBlock.toList, k ∉ (Value.slice A2 l.length c2).ownBlock.toList := fun k h1 h2 => by
    have := (HR1.out k h1).2
    have := (HR2.out k h2).1
    omega
  have HDJ := Lib.hid hd
  have hlo1 : ∀ k ∈ (Value.slice A1 l.length c1).ownBlock.toList, w.heap.size < k := fun k hk => by have := (HR1.out k hk).1; omega
  have hlo2 : ∀ k ∈ (Value.slice A2 l.length c2).ownBlock.toList, w.heap.size < k := fun k hk => by have := (HR2.out k hk).1; omega
  have hke := ((((((Keeps.refl [w.heap.size] w3).set (List.mem_singleton.2 rfl) 0 (.slice A1 l.length c1)).set (List.mem_singleton.2 rfl) 1 (.slice A2 l.length c2)).set (List.mem_singleton.2 rfl) 2 (.slice none 0 0)).set (List.mem_singleton.2 rfl) 3 (.int .i64 0)).set (List.mem_singleton.2 rfl) 4 (.slice none 0 0)).set (List.mem_singleton.2 rfl) 5 (.slice none 0 0)
  have HO19 := Lib.hid (HO1.out.keeps hke (fun k hk => by have := hlo1 k hk; simp; omega))
  have HO29 := Lib.hid (HO2.out.keeps hke (fun k hk => by have := hlo2 k hk; simp; omega))
  have HB9 := Lib.hid ((((((HB.out.setCell (p := ⟨w.heap.size, 0, none⟩) (by simp) (.slice A1 l.length c1)).setCell (p := ⟨w.heap.size, 1, none⟩) (by simp) (.slice A2 l.length c2)).setCell (p := ⟨w.heap.size, 2, none⟩) (by simp) (.slice none 0 0)).setCell (p := ⟨w.heap.size, 3, none⟩) (by simp) (.int .i64 0)).setCell (p := ⟨w.heap.size, 4, none⟩) (by simp) (.slice none 0 0)).setCell (p := ⟨w.heap.size, 5, none⟩) (by simp) (.slice none 0 0))
  have hzl : w.heap.size ≤ w1.heap.size := by omega
  have hzl2 : w.heap.size ≤ w2.heap.size := by omega
  have q0 := BX.out.cell 0
  have q1 := BX.out.cell 1
  have q2 := BX.out.cell 2
  have q3 := BX.out.cell 3
  have q4 := BX.out.cell 4
  have q5 := BX.out.cell 5
  have f0 := BX.out.frozen 0
  have f1 := BX.out.frozen 1
  have f2 := BX.out.frozen 2
  have f3 := BX.out.frozen 3
  have f4 := BX.out.frozen 4
  have f5 := BX.out.frozen 5
  clear ho2 hb hke hd hlo1 hlo2
  go_wp2
  refine bodyPost_ret (v := .tuple #[.agg #[.slice A1 l.length c1, .slice A2 l.length c2, .slice none 0 0, .int .i64 0, .slice none 0 0, .slice none 0 0], .bool true]) (by simp [results, Tryd.results12, go_sem, q0, q1, q2, q3, q4, q5]) rfl ?_
  exact ⟨A1, c1, A2, c2, by rw [HE.out, HQ.out], by rw [HE.out]; exact HO19.out.mono hzl, by rw [HE.out]; exact HO29.out.mono hzl2, by rw [HE.out]; exact HDJ.out, HB9.out⟩

end Go.Proofs.YtaekanhjkpoifaaDoor

/-
  Chapter 11, a new machine: the laws' helpers on machines without ops, MachNew of both: contracts. Own work.
-/
namespace Go.Proofs.YtaekanhjkpoifaaDoor
open Go.RowKit P
set_option linter.unusedVariables false
set_option linter.unusedSimpArgs false
set_option maxRecDepth 100000

theorem eqOpS_nil (w : World) : Calls Tryd.prog 15 #[.slice none 0 0, .slice none 0 0] w fun e w' => e = .returned (.bool true) ∧ Below w.heap.size w w' := by
  go_enter Tryd.func15, Tryd.ntmps15
  go_wp2
  go_loopw [5] (fun i wr => i = .int .i64 0 ∧ wr = w) (fun _ _ => 0)
  case atStart => exact ⟨rfl, rfl⟩
  case round =>
    obtain ⟨rfl, rfl⟩ := hrel
    go_wp2
    go_ret
    exact ⟨rfl, Below.refl _ _⟩
theorem markOpS_nil (k : Int) (w : World) : Calls Tryd.prog 17 #[.slice none 0 0, .int .i64 k] w fun e w' => e = .returned (.int .i64 k) ∧ Below w.heap.size w w' := by
  go_enter Tryd.func17, Tryd.ntmps17
  go_wp2
  go_loopw [5, 1] (fun i x wr => i = .int .i64 0 ∧ x = .int .i64 k ∧ wr = w) (fun _ _ _ => 0)
  case atStart => exact ⟨rfl, rfl, rfl⟩
  case round =>
    obtain ⟨rfl, rfl, rfl⟩ := hrel
    go_wp2
    go_ret
    exact ⟨rfl, Below.refl _ _⟩
theorem heldOpS_nil (k : Int) (w : World) : Calls Tryd.prog 19 #[.slice none 0 0, .int .i64 k] w fun e w' => e = .returned (.int .i64 k) ∧ Below w.heap.size w w' := by
  go_enter Tryd.func19, Tryd.ntmps19
  go_wp2
  go_loopw [5, 1] (fun i x wr => i = .int .i64 0 ∧ x = .int .i64 k ∧ wr = w) (fun _ _ _ => 0)
  case atStart => exact ⟨rfl, rfl, rfl⟩
  case round =>
    obtain ⟨rfl, rfl, rfl⟩ := hrel
    go_wp2
    go_ret
    exact ⟨rfl, Below.refl _ _⟩

set_option maxHeartbeats 4000000 in
theorem eqMach_any (a b : Da) (d : Dc) (w : World) (hD : RdD w a d) (hE : RdD w b d) :
    Calls Tryd.prog 7 #[.agg #[.slice a.s d.start.length a.cs, .slice a.t d.text.length a.ct, .slice a.l d.log.length a.cl, .int .i64 d.clock, .slice a.m d.mem.length a.cm, .slice a.e d.lea.length a.ce, .slice none 0 0], .agg #[.slice b.s d.start.length b.cs, .slice b.t d.text.length b.ct, .slice b.l d.log.length b.cl, .int .i64 d.clock, .slice b.m d.mem.length b.cm, .slice b.e d.lea.length b.ce, .slice none 0 0]] w fun e w' => e = .returned (.bool true) ∧ Below w.heap.size w w' := by
  have hal := ((Below.refl w.heap.size w).alloc (Nat.le_refl _) (.cells #[.slice a.s d.start.length a.cs, .slice a.t d.text.length a.ct, .slice a.l d.log.length a.cl, .int .i64 d.clock, .slice a.m d.mem.length a.cm, .slice a.e d.lea.length a.ce, .slice none 0 0] 30)).alloc (by simp) (.cells #[.slice b.s d.start.length b.cs, .slice b.t d.text.length b.ct, .slice b.l d.log.length b.cl, .int .i64 d.clock, .slice b.m d.mem.length b.cm, .slice b.e d.lea.length b.ce, .slice none 0 0] 30)
  have BX := Lib.hid ((Blk.new w #[.slice a.s d.start.length a.cs, .slice a.t d.text.length a.ct, .slice a.l d.log.length a.cl, .int .i64 d.clock, .slice a.m d.mem.length a.cm, .slice a.e d.lea.length a.ce, .slice none 0 0] 30).alloc (.cells #[.slice b.s d.start.length b.cs, .slice b.t d.text.length b.ct, .slice b.l d.log.length b.cl, .int .i64 d.clock, .slice b.m d.mem.length b.cm, .slice b.e d.lea.length b.ce, .slice none 0 0] 30))
  have hby := Blk.new (w.alloc (.cells #[.slice a.s d.start.length a.cs, .slice a.t d.text.length a.ct, .slice a.l d.log.length a.cl, .int .i64 d.clock, .slice a.m d.mem.length a.cm, .slice a.e d.lea.length a.ce, .slice none 0 0] 30)) #[.slice b.s d.start.length b.cs, .slice b.t d.text.length b.ct, .slice b.l d.log.length b.cl, .int .i64 d.clock, .slice b.m d.mem.length b.cm, .slice b.e d.lea.length b.ce, .slice none 0 0] 30
  simp only [World.size_alloc] at hby
  have BY := Lib.hid hby
  have HD := Lib.hid (hD.below hal)
  have HE := Lib.hid (hE.below hal)
  have HB := Lib.hid hal
  have p0 := BX.out.cell 0
  have p1 := BX.out.cell 1
  have p2 := BX.out.cell 2
  have p3 := BX.out.cell 3
  have p4 := BX.out.cell 4
  have p5 := BX.out.cell 5
  have p6 := BX.out.cell 6
  have q0 := BY.out.cell 0
  have q1 := BY.out.cell 1
  have q2 := BY.out.cell 2
  have q3 := BY.out.cell 3
  have q4 := BY.out.cell 4
  have q5 := BY.out.cell 5
  have q6 := BY.out.cell 6
  clear hal hby hD hE
  go_enter Tryd.func7, Tryd.ntmps7
  go_wp2_with fail
  generalize (w.alloc (.cells #[.slice a.s d.start.length a.cs, .slice a.t d.text.length a.ct, .slice a.l d.log.length a.cl, .int .i64 d.clock, .slice a.m d.mem.length a.cm, .slice a.e d.lea.length a.ce, .slice none 0 0] 30)).alloc (.cells #[.slice b.s d.start.length b.cs, .slice b.t d.text.length b.ct, .slice b.l d.log.length b.cl, .int .i64 d.clock, .slice b.m d.mem.length b.cm, .slice b.e d.lea.length b.ce, .slice none 0 0] 30) = W at *
  refine (eqDoc_any a b d d _ HD.out HE.out).mono ?_
  rintro e w1 ⟨rfl, hb⟩
  rw [decide_eq_true (rfl : d = d)]
  have BX := Lib.hid (BX.out.below hb)
  have BY := Lib.hid (BY.out.below hb)
  have HB := Lib.hid (below_then HB.out hb)
  clear hb p0 q0 p1 q1 p2 q2 p3 q3 p4 q4 p5 q5 p6 q6
  have p6 := BX.out.cell 6
  have q6 := BY.out.cell 6
  go_wp2_with fail
  refine (eqOpS_nil _).mono ?_
  rintro e w2 ⟨rfl, hb⟩
  have HB := Lib.hid (below_then HB.out hb)
  clear hb p6 q6
  go_wp2
  go_ret
  exact ⟨rfl, HB.out⟩

set_option maxHeartbeats 4000000 in
theorem markMach_any (a : Da) (d : Dc) (fs ft fl fm fe : List Nat) (base k : Nat) (w : World) (hk : wD k d ≤ 4400000) (hO : OwD w base a d fs ft fl fm fe) :
    Calls Tryd.prog 10 #[.agg #[.slice a.s d.start.length a.cs, .slice a.t d.text.length a.ct, .slice a.l d.log.length a.cl, .int .i64 d.clock, .slice a.m d.mem.length a.cm, .slice a.e d.lea.length a.ce, .slice none 0 0], .int .i64 (k : Int)] w fun e w' => e = .returned (.int .i64 (nD5 k d : Int)) ∧ MkdD w' a d k ∧ Keeps (fs ++ (ft ++ (fl ++ (fm ++ fe)))) w w' := by
  have hal := (Below.refl w.heap.size w).alloc (Nat.le_refl _) (.cells #[.slice a.s d.start.length a.cs, .slice a.t d.text.length a.ct, .slice a.l d.log.length a.cl, .int .i64 d.clock, .slice a.m d.mem.length a.cm, .slice a.e d.lea.length a.ce, .slice none 0 0] 30)
  have BX := Lib.hid (Blk.new w #[.slice a.s d.start.length a.cs, .slice a.t d.text.length a.ct, .slice a.l d.log.length a.cl, .int .i64 d.clock, .slice a.m d.mem.length a.cm, .slice a.e d.lea.length a.ce, .slice none 0 0] 30)
  have HO := Lib.hid (hO.below hal)
  have HLT := Lib.hid (show ∀ q ∈ fs ++ (ft ++ (fl ++ (fm ++ fe))), q < w.heap.size from fun q hq => by
    simp only [List.mem_append] at hq
    rcases hq with h | h | h | h | h
    · exact Lay.bytes.lt hO.s q h
    · exact Lay.bytes.lt hO.t q h
    · exact Lay.commits.lt hO.l q h
    · exact Lay.members.lt hO.m q h
    · exact Lay.leases.lt hO.e q h)
  have HB := Lib.hid (Keeps.of_below (fp := fs ++ (ft ++ (fl ++ (fm ++ fe)))) hal)
  have p0 := BX.out.cell 0
  have p1 := BX.out.cell 1
  have p2 := BX.out.cell 2
  have p3 := BX.out.cell 3
  have p4 := BX.out.cell 4
  have p5 := BX.out.cell 5
  have p6 := BX.out.cell 6
  clear hal hO
  go_enter Tryd.func10, Tryd.ntmps10
  go_wp2_with fail
  generalize w.alloc (.cells #[.slice a.s d.start.length a.cs, .slice a.t d.text.length a.ct, .slice a.l d.log.length a.cl, .int .i64 d.clock, .slice a.m d.mem.length a.cm, .slice a.e d.lea.length a.ce, .slice none 0 0] 30) = W at *
  refine (markDoc_any a d fs ft fl fm fe base k _ hk HO.out).mono ?_
  rintro e w1 ⟨rfl, hmk, hke⟩
  obtain ⟨K, hK⟩ : ∃ K : Int, ((nD5 k d : Nat) : Int) = K := ⟨_, rfl⟩
  rw [hK]
  have HK := Lib.hid hK
  have BX := Lib.hid (BX.out.of_block (hke.block _ BX.out.lt (fun h => by have := HLT.out _ h; omega)))
  have HB := Lib.hid (HB.out.trans hke)
  have MK := Lib.hid hmk
  clear hmk hke hK p0 p1 p2 p3 p4 p5 p6
  have p6 := BX.out.cell 6
  go_wp2_with fail
  refine (markOpS_nil K _).mono ?_
  rintro e w2 ⟨rfl, hb⟩
  have HB := Lib.hid (HB.out.trans (Keeps.of_below hb))
  have MK := Lib.hid (MK.out.below hb)
  clear hb p6
  go_wp2
  go_ret
  exact ⟨(by rw [HK.out]; rfl), MK.out, HB.out⟩

set_option maxHeartbeats 4000000 in
theorem heldMach_any (a : Da) (d : Dc) (k : Nat) (w : World) (hk : wD k d ≤ 380000) (hM : MkdD w a d k) :
    Calls Tryd.prog 11 #[.agg #[.slice a.s d.start.length a.cs, .slice a.t d.text.length a.ct, .slice a.l d.log.length a.cl, .int .i64 d.clock, .slice a.m d.mem.length a.cm, .slice a.e d.lea.length a.ce, .slice none 0 0], .int .i64 (k : Int)] w fun e w' => e = .returned (.int .i64 (nD5 k d : Int)) ∧ Below w.heap.size w w' := by
  have hal := (Below.refl w.heap.size w).alloc (Nat.le_refl _) (.cells #[.slice a.s d.start.length a.cs, .slice a.t d.text.length a.ct, .slice a.l d.log.length a.cl, .int .i64 d.clock, .slice a.m d.mem.length a.cm, .slice a.e d.lea.length a.ce, .slice none 0 0] 30)
  have BX := Lib.hid (Blk.new w #[.slice a.s d.start.length a.cs, .slice a.t d.text.length a.ct, .slice a.l d.log.length a.cl, .int .i64 d.clock, .slice a.m d.mem.length a.cm, .slice a.e d.lea.length a.ce, .slice none 0 0] 30)
  have HM := Lib.hid (hM.below hal)
  have HB := Lib.hid hal
  have p0 := BX.out.cell 0
  have p1 := BX.out.cell 1
  have p2 := BX.out.cell 2
  have p3 := BX.out.cell 3
  have p4 := BX.out.cell 4
  have p5 := BX.out.cell 5
  have p6 := BX.out.cell 6
  clear hal hM
  go_enter Tryd.func11, Tryd.ntmps11
  go_wp2_with fail
  generalize w.alloc (.cells #[.slice a.s d.start.length a.cs, .slice a.t d.text.length a.ct, .slice a.l d.log.length a.cl, .int .i64 d.clock, .slice a.m d.mem.length a.cm, .slice a.e d.lea.length a.ce, .slice none 0 0] 30) = W at *
  refine (heldDoc_any a d k _ hk HM.out).mono ?_
  rintro e w1 ⟨rfl, hb⟩
  obtain ⟨K, hK, hK0⟩ : ∃ K : Int, ((nD5 k d : Nat) : Int) = K ∧ ¬ K < 0 := ⟨_, rfl, by omega⟩
  have hKd : decide (K < 0) = false := decide_eq_false hK0
  rw [hK]
  have HK := Lib.hid hK
  have BX := Lib.hid (BX.out.below hb)
  have HB := Lib.hid (below_then HB.out hb)
  clear hb hK p0 p1 p2 p3 p4 p5 p6
  have p6 := BX.out.cell 6
  go_wp2_with fail
  refine (heldOpS_nil K _).mono ?_
  rintro e w2 ⟨rfl, hb⟩
  have HB := Lib.hid (below_then HB.out hb)
  clear hb p6
  go_wp2
  go_ret
  exact ⟨(by rw [HK.out]; rfl), HB.out⟩

/-- What the making of a machine ends in. -/
def GivesMN (l : List UInt8) (w : World) (e : Ending) (w' : World) : Prop :=
  ∃ A c B d, e = .returned (.tuple #[.agg #[.slice A (newT l).length c, .slice B (newT l).length d, .slice none 0 0, .int .i64 0, .slice none 0 0, .slice none 0 0, .slice none 0 0], .bool (isText l)]) ∧
    Own w' w.heap.size (.slice A (newT l).length c) (newT l) ∧ Own w' w.heap.size (.slice B (newT l).length d) (newT l) ∧ (∀ k ∈ (Value.slice A (newT l).length c).ownBlock.toList, k ∉ (Value.slice B (newT l).length d).ownBlock.toList) ∧ Below w.heap.size w w'

set_option maxHeartbeats 8000000 in
theorem implMachNew_any (A : Option Addr) (l : List UInt8) (c : Nat) (w : World) (hl : l.length ≤ c) (hc9 : c ≤ 9223372036854775807) (hT : Tab w) (hA : Bs w A l) :
    Calls Tryd.prog 6 #[.slice A l.length c] w (GivesMN l w) := by
  have hal := (Below.refl w.heap.size w).alloc (Nat.le_refl _) (.cells #[.slice none 0 0, .slice none 0 0, .slice none 0 0, .int .i64 0, .slice none 0 0, .slice none 0 0, .slice none 0 0] 30)
  have RX := Lib.hid (Blk.new w #[.slice none 0 0, .slice none 0 0, .slice none 0 0, .int .i64 0, .slice none 0 0, .slice none 0 0, .slice none 0 0] 30)
  have HB := Lib.hid hal
  have HA := Lib.hid (hA.below hal)
  have HT := Lib.hid (hT.below hal)
  obtain ⟨q, hq⟩ : ∃ q, isText l = q := ⟨_, rfl⟩
  obtain ⟨R, hR⟩ : ∃ R, newT l = R := ⟨_, rfl⟩
  have HQ := Lib.hid hq
  have HR := Lib.hid hR
  have hzw : (w.alloc (.cells #[.slice none 0 0, .slice none 0 0, .slice none 0 0, .int .i64 0, .slice none 0 0, .slice none 0 0, .slice none 0 0] 30)).heap.size = w.heap.size + 1 := by simp
  clear hal hA hq hR hT
  go_enter Tryd.func6, Tryd.ntmps6
  go_wp2_with fail
  generalize w.alloc (.cells #[.slice none 0 0, .slice none 0 0, .slice none 0 0, .int .i64 0, .slice none 0 0, .slice none 0 0, .slice none 0 0] 30) = W at *
  refine (implDocNew_any A l c _ hl hc9 HT.out HA.out).mono ?_
  rintro e w1 hgv
  unfold GivesN at hgv
  rw [HR.out, HQ.out] at hgv
  obtain ⟨A, c, B, dd, rfl, ho1, ho2, hdj, hb⟩ := hgv
  have hal := (Below.refl w1.heap.size w1).alloc (Nat.le_refl _) (.cells #[.slice A R.length c, .slice B R.length dd, .slice none 0 0, .int .i64 0, .slice none 0 0, .slice none 0 0] 27)
  have hb2 := below_then hb hal
  have H1 := Lib.hid (ho1.below hal)
  have H2 := Lib.hid (ho2.below hal)
  have DJ := Lib.hid hdj
  have BD := Lib.hid (Blk.new w1 #[.slice A R.length c, .slice B R.length dd, .slice none 0 0, .int .i64 0, .slice none 0 0, .slice none 0 0] 27)
  have HB := Lib.hid (below_then HB.out hb2)
  have RX := Lib.hid (RX.out.below hb2)
  have hz1 := hb.size
  clear ho1 ho2 hdj hb hb2 hal
  have p0 := BD.out.cell 0
  have p1 := BD.out.cell 1
  have p2 := BD.out.cell 2
  have p3 := BD.out.cell 3
  have p4 := BD.out.cell 4
  have p5 := BD.out.cell 5
  clear p0 p1 p2 p3 p4 p5
  go_upto_region 2 with fail
  generalize w1.alloc (.cells #[.slice A R.length c, .slice B R.length dd, .slice none 0 0, .int .i64 0, .slice none 0 0, .slice none 0 0] 27) = W2 at *
  generalize w1.heap.size = gb at *
  have p0 := BD.out.cell 0
  have p1 := BD.out.cell 1
  have p2 := BD.out.cell 2
  have p3 := BD.out.cell 3
  have p4 := BD.out.cell 4
  have p5 := BD.out.cell 5
  have hke := (((((((Keeps.refl [w.heap.size] W2).set (List.mem_singleton.2 rfl) 0 (.slice A R.length c)).set (List.mem_singleton.2 rfl) 1 (.slice B R.length dd)).set (List.mem_singleton.2 rfl) 2 (.slice none 0 0)).set (List.mem_singleton.2 rfl) 3 (.int .i64 0)).set (List.mem_singleton.2 rfl) 4 (.slice none 0 0)).set (List.mem_singleton.2 rfl) 5 (.slice none 0 0)).set (List.mem_singleton.2 rfl) 6 (.slice none 0 0)
  have H1 := Lib.hid (H1.out.keeps hke (fun k hk => by have := (H1.out.range k hk).1; simp; omega))
  have H2 := Lib.hid (H2.out.keeps hke (fun k hk => by have := (H2.out.range k hk).1; simp; omega))
  have HF := Lib.hid (((((((HB.out.setCell (p := ⟨w.heap.size, 0, none⟩) (by simp) (.slice A R.length c)).setCell (p := ⟨w.heap.size, 1, none⟩) (by simp) (.slice B R.length dd)).setCell (p := ⟨w.heap.size, 2, none⟩) (by simp) (.slice none 0 0)).setCell (p := ⟨w.heap.size, 3, none⟩) (by simp) (.int .i64 0)).setCell (p := ⟨w.heap.size, 4, none⟩) (by simp) (.slice none 0 0)).setCell (p := ⟨w.heap.size, 5, none⟩) (by simp) (.slice none 0 0)).setCell (p := ⟨w.heap.size, 6, none⟩) (by simp) (.slice none 0 0))
  have r0 := RX.out.cell 0
  have f0 := RX.out.frozen 0
  have r1 := RX.out.cell 1
  have f1 := RX.out.frozen 1
  have r2 := RX.out.cell 2
  have f2 := RX.out.frozen 2
  have r3 := RX.out.cell 3
  have f3 := RX.out.frozen 3
  have r4 := RX.out.cell 4
  have f4 := RX.out.frozen 4
  have r5 := RX.out.cell 5
  have f5 := RX.out.frozen 5
  have r6 := RX.out.cell 6
  have f6 := RX.out.frozen 6
  clear hke
  go_wp2
  refine bodyPost_ret (v := .tuple #[.agg #[.slice A R.length c, .slice B R.length dd, .slice none 0 0, .int .i64 0, .slice none 0 0, .slice none 0 0, .slice none 0 0], .bool q]) (by simp [results, Tryd.results6, go_sem, r0, r1, r2, r3, r4, r5, r6]) rfl ?_
  exact ⟨A, c, B, dd, by rw [HR.out, HQ.out], by rw [HR.out]; exact H1.out.mono (by omega), by rw [HR.out]; exact H2.out.mono (by omega), by rw [HR.out]; exact DJ.out, HF.out⟩

set_option maxHeartbeats 8000000 in
theorem specMachNew_any (A : Option Addr) (l : List UInt8) (c : Nat) (w : World) (hl : l.length ≤ c) (hc9 : c ≤ 9223372036854775807) (hA : Bs w A l) :
    Calls Tryd.prog 4 #[.slice A l.length c] w (GivesMN l w) := by
  have hal := (Below.refl w.heap.size w).alloc (Nat.le_refl _) (.cells #[.slice none 0 0, .slice none 0 0, .slice none 0 0, .int .i64 0, .slice none 0 0, .slice none 0 0, .slice none 0 0] 30)
  have RX := Lib.hid (Blk.new w #[.slice none 0 0, .slice none 0 0, .slice none 0 0, .int .i64 0, .slice none 0 0, .slice none 0 0, .slice none 0 0] 30)
  have HB := Lib.hid hal
  have HA := Lib.hid (hA.below hal)
  obtain ⟨q, hq⟩ : ∃ q, isText l = q := ⟨_, rfl⟩
  obtain ⟨R, hR⟩ : ∃ R, newT l = R := ⟨_, rfl⟩
  have HQ := Lib.hid hq
  have HR := Lib.hid hR
  have hzw : (w.alloc (.cells #[.slice none 0 0, .slice none 0 0, .slice none 0 0, .int .i64 0, .slice none 0 0, .slice none 0 0, .slice none 0 0] 30)).heap.size = w.heap.size + 1 := by simp
  clear hal hA hq hR 
  go_enter Tryd.func4, Tryd.ntmps4
  go_wp2_with fail
  generalize w.alloc (.cells #[.slice none 0 0, .slice none 0 0, .slice none 0 0, .int .i64 0, .slice none 0 0, .slice none 0 0, .slice none 0 0] 30) = W at *
  refine (specDocNew_any A l c _ hl hc9 HA.out).mono ?_
  rintro e w1 hgv
  unfold GivesN at hgv
  rw [HR.out, HQ.out] at hgv
  obtain ⟨A, c, B, dd, rfl, ho1, ho2, hdj, hb⟩ := hgv
  have hal := (Below.refl w1.heap.size w1).alloc (Nat.le_refl _) (.cells #[.slice A R.length c, .slice B R.length dd, .slice none 0 0, .int .i64 0, .slice none 0 0, .slice none 0 0] 27)
  have hb2 := below_then hb hal
  have H1 := Lib.hid (ho1.below hal)
  have H2 := Lib.hid (ho2.below hal)
  have DJ := Lib.hid hdj
  have BD := Lib.hid (Blk.new w1 #[.slice A R.length c, .slice B R.length dd, .slice none 0 0, .int .i64 0, .slice none 0 0, .slice none 0 0] 27)
  have HB := Lib.hid (below_then HB.out hb2)
  have RX := Lib.hid (RX.out.below hb2)
  have hz1 := hb.size
  clear ho1 ho2 hdj hb hb2 hal
  have p0 := BD.out.cell 0
  have p1 := BD.out.cell 1
  have p2 := BD.out.cell 2
  have p3 := BD.out.cell 3
  have p4 := BD.out.cell 4
  have p5 := BD.out.cell 5
  clear p0 p1 p2 p3 p4 p5
  go_upto_region 2 with fail
  generalize w1.alloc (.cells #[.slice A R.length c, .slice B R.length dd, .slice none 0 0, .int .i64 0, .slice none 0 0, .slice none 0 0] 27) = W2 at *
  generalize w1.heap.size = gb at *
  have p0 := BD.out.cell 0
  have p1 := BD.out.cell 1
  have p2 := BD.out.cell 2
  have p3 := BD.out.cell 3
  have p4 := BD.out.cell 4
  have p5 := BD.out.cell 5
  have hke := (((((((Keeps.refl [w.heap.size] W2).set (List.mem_singleton.2 rfl) 0 (.slice A R.length c)).set (List.mem_singleton.2 rfl) 1 (.slice B R.length dd)).set (List.mem_singleton.2 rfl) 2 (.slice none 0 0)).set (List.mem_singleton.2 rfl) 3 (.int .i64 0)).set (List.mem_singleton.2 rfl) 4 (.slice none 0 0)).set (List.mem_singleton.2 rfl) 5 (.slice none 0 0)).set (List.mem_singleton.2 rfl) 6 (.slice none 0 0)
  have H1 := Lib.hid (H1.out.keeps hke (fun k hk => by have := (H1.out.range k hk).1; simp; omega))
  have H2 := Lib.hid (H2.out.keeps hke (fun k hk => by have := (H2.out.range k hk).1; simp; omega))
  have HF := Lib.hid (((((((HB.out.setCell (p := ⟨w.heap.size, 0, none⟩) (by simp) (.slice A R.length c)).setCell (p := ⟨w.heap.size, 1, none⟩) (by simp) (.slice B R.length dd)).setCell (p := ⟨w.heap.size, 2, none⟩) (by simp) (.slice none 0 0)).setCell (p := ⟨w.heap.size, 3, none⟩) (by simp) (.int .i64 0)).setCell (p := ⟨w.heap.size, 4, none⟩) (by simp) (.slice none 0 0)).setCell (p := ⟨w.heap.size, 5, none⟩) (by simp) (.slice none 0 0)).setCell (p := ⟨w.heap.size, 6, none⟩) (by simp) (.slice none 0 0))
  have r0 := RX.out.cell 0
  have f0 := RX.out.frozen 0
  have r1 := RX.out.cell 1
  have f1 := RX.out.frozen 1
  have r2 := RX.out.cell 2
  have f2 := RX.out.frozen 2
  have r3 := RX.out.cell 3
  have f3 := RX.out.frozen 3
  have r4 := RX.out.cell 4
  have f4 := RX.out.frozen 4
  have r5 := RX.out.cell 5
  have f5 := RX.out.frozen 5
  have r6 := RX.out.cell 6
  have f6 := RX.out.frozen 6
  clear hke
  go_wp2
  refine bodyPost_ret (v := .tuple #[.agg #[.slice A R.length c, .slice B R.length dd, .slice none 0 0, .int .i64 0, .slice none 0 0, .slice none 0 0, .slice none 0 0], .bool q]) (by simp [results, Tryd.results4, go_sem, r0, r1, r2, r3, r4, r5, r6]) rfl ?_
  exact ⟨A, c, B, dd, by rw [HR.out, HQ.out], by rw [HR.out]; exact H1.out.mono (by omega), by rw [HR.out]; exact H2.out.mono (by omega), by rw [HR.out]; exact DJ.out, HF.out⟩
end Go.Proofs.YtaekanhjkpoifaaDoor

/-
  FnExactMachNew, its walk. Own work.
-/
namespace Go.Proofs.YtaekanhjkpoifaaDoor.fnExactMachNew
open Go.ChangeShapes Go.WideShapes Go.ChangeAt Go.RowKit P
set_option linter.unusedVariables false
set_option maxRecDepth 100000

theorem rdN {w : World} {R : List UInt8} {A B : Option Addr} {c d b1 b2 : Nat} (h1 : Own w b1 (.slice A R.length c) R) (h2 : Own w b2 (.slice B R.length d) R) : RdD w ⟨A, c, B, d, none, 0, none, 0, none, 0⟩ ⟨R, R, [], 0, [], []⟩ := by
  obtain ⟨A1, c1, e1, g1, k1, l1⟩ := h1.form
  obtain ⟨A2, c2, e2, g2, k2, l2⟩ := h2.form
  simp only [Value.slice.injEq, true_and] at e1 e2
  obtain ⟨rfl, rfl⟩ := e1
  obtain ⟨rfl, rfl⟩ := e2
  have hm : (0 : Nat) ≤ maxLen := Nat.zero_le _
  exact ⟨l1, l2, Sl.nil _ _ _ _, Sl.nil _ _ _ _, Sl.nil _ _ _ _, ⟨g1, k1⟩, ⟨g2, k2⟩, ⟨Nat.le_refl _, hm⟩, ⟨Nat.le_refl _, hm⟩, ⟨Nat.le_refl _, hm⟩, (show isI (0 : Int) from ⟨by omega, by omega⟩)⟩
theorem owN {w : World} {R : List UInt8} {A B : Option Addr} {c d b1 b2 : Nat} (h1 : Own w b1 (.slice A R.length c) R) (h2 : Own w b2 (.slice B R.length d) R) (hd : ∀ k ∈ (Value.slice A R.length c).ownBlock.toList, k ∉ (Value.slice B R.length d).ownBlock.toList) :
    OwD w 0 ⟨A, c, B, d, none, 0, none, 0, none, 0⟩ ⟨R, R, [], 0, [], []⟩ (Value.slice A R.length c).ownBlock.toList (Value.slice B R.length d).ownBlock.toList [] [] [] := by
  refine ⟨h1.ow, h2.ow, Lay.slice_nil _ _ _, Lay.slice_nil _ _ _, Lay.slice_nil _ _ _, (show isI (0 : Int) from ⟨by omega, by omega⟩), ?_, fun k hk => Nat.zero_le _⟩
  simp only [List.append_nil]
  rw [List.nodup_append]
  exact ⟨h1.fp.1, h2.fp.1, fun a ha b hb e => hd a ha (by rw [e]; exact hb)⟩
theorem wN (R : List UInt8) (h : R.length ≤ 400) : wD 1 ⟨R, R, [], 0, [], []⟩ ≤ 1000 := by
  unfold wD tot cputs msum
  simp
  omega

set_option maxHeartbeats 16000000 in
theorem walk (A : Option Addr) (l : List UInt8) (c : Nat) (hc : l.length ≤ c) (hm : c ≤ maxLen) (w : World) (hL : Bs w A l) (hT : Tab w) :
    Calls Tryd.prog 3 #[.slice A l.length c] w fun e w' => e = .returned (.bool true) ∧ Below w.heap.size w w' := by
  have hn9 : l.length ≤ 9223372036854775807 := by unfold maxLen at hm; omega
  clear hc hm
  obtain ⟨R, hRe⟩ : ∃ R, newT l = R := ⟨_, rfl⟩
  obtain ⟨z, hze⟩ : ∃ z, isText l = z := ⟨_, rfl⟩
  have HZE := Lib.hid hze
  have HRE := Lib.hid hRe
  have hzz : (z != z) = false := by simp
  by_cases hbig : 1048576 < (l.length : Int)
  · go_enter Tryd.func3, Tryd.ntmps3
    go_wp2
    go_ret
    exact ⟨rfl, Below.refl _ _⟩
  have hl : l.length ≤ 1048576 := by omega
  have hR4 : R.length ≤ 400 := by
    rw [← hRe]
    unfold newT
    by_cases h : isText l = true
    · rw [if_pos h]; exact isText_len h
    · rw [if_neg h]; simp
  have hR9 : R.length ≤ 9223372036854775807 := by omega
  clear hbig hRe hze
  have HB := Lib.hid (Below.refl w.heap.size w)
  go_enter Tryd.func3, Tryd.ntmps3
  have HL := Lib.hid (hL.below HB.out)
  go_wp2_with fail
  refine (toByteS_e A l c _ hl (by exact HL.out)).mono ?_
  rintro e a1 ⟨a1g, rfl, hrow, hb⟩
  have z1 := hb.size
  have HB := Lib.hid (below_then HB.out hb)
  have HX := Lib.hid hrow.bs
  clear hrow HL
  clear hb
  go_wp2_with fail
  refine (specMachNew_any (some ⟨a1g, 0, none⟩) l l.length _ (Nat.le_refl _) hn9 (by exact HX.out)).mono ?_
  rintro e m1 hgv
  unfold GivesMN at hgv
  rw [HRE.out, HZE.out] at hgv
  obtain ⟨OA, Oc, OB, Od, rfl, ho1, ho2, hdj, hb⟩ := hgv
  have RO1 := Lib.hid ho1.range
  have RO2 := Lib.hid ho2.range
  have JO := Lib.hid hdj
  have z2 := hb.size
  have HB := Lib.hid (below_then HB.out hb)
  have O1 := Lib.hid (ho1.below (Below.refl _ _))
  have O2 := Lib.hid (ho2.below (Below.refl _ _))
  clear ho1 ho2 hdj HX
  clear hb
  have hal := (Below.refl m1.heap.size m1).alloc (Nat.le_refl _) (.cells #[.slice OA R.length Oc, .slice OB R.length Od, .slice none 0 0, .int .i64 0, .slice none 0 0, .slice none 0 0, .slice none 0 0] 30)
  have hbx := Blk.new m1 #[.slice OA R.length Oc, .slice OB R.length Od, .slice none 0 0, .int .i64 0, .slice none 0 0, .slice none 0 0, .slice none 0 0] 30
  have zbOX : m1.heap.size < (m1.alloc (.cells #[.slice OA R.length Oc, .slice OB R.length Od, .slice none 0 0, .int .i64 0, .slice none 0 0, .slice none 0 0, .slice none 0 0] 30)).heap.size := by simp
  have O1 := Lib.hid (O1.out.below hal)
  have O2 := Lib.hid (O2.out.below hal)
  have HB := Lib.hid (below_then HB.out hal)
  have z3 := hal.size
  have OX := Lib.hid hbx
  clear hbx hal
  have HL := Lib.hid (hL.below HB.out)
  go_wp2_with fail
  generalize m1.alloc (.cells #[.slice OA R.length Oc, .slice OB R.length Od, .slice none 0 0, .int .i64 0, .slice none 0 0, .slice none 0 0, .slice none 0 0] 30) = m1w at *
  refine (toByteS_any A l c _ hl (by exact HL.out)).mono ?_
  rintro e x1 ⟨rfl, hrow, hb⟩
  have hx := hrow.own m1w.heap.size (Nat.le_refl _) (by unfold maxLen; omega)
  have RX := Lib.hid hx.range
  have z4 := hb.size
  have O1 := Lib.hid (O1.out.below hb)
  have O2 := Lib.hid (O2.out.below hb)
  have OX := Lib.hid (OX.out.below hb)
  have HB := Lib.hid (below_then HB.out hb)
  have X := Lib.hid hx
  clear hrow HL hx
  clear hb
  have HX := Lib.hid (own_bs9 X.out)
  have HT := Lib.hid (hT.below HB.out)
  go_wp2_with fail
  refine (implMachNew_any (some ⟨m1w.heap.size, 0, none⟩) l l.length _ (Nat.le_refl _) hn9 (by exact HT.out) (by exact HX.out)).mono ?_
  rintro e g1 hgv
  unfold GivesMN at hgv
  rw [HRE.out, HZE.out] at hgv
  obtain ⟨GA, Gc, GB, Gd, rfl, ho1, ho2, hdj, hb⟩ := hgv
  have RG1 := Lib.hid ho1.range
  have RG2 := Lib.hid ho2.range
  have JG := Lib.hid hdj
  have z5 := hb.size
  have O1 := Lib.hid (O1.out.below hb)
  have O2 := Lib.hid (O2.out.below hb)
  have OX := Lib.hid (OX.out.below hb)
  have X := Lib.hid (X.out.below hb)
  have HB := Lib.hid (below_then HB.out hb)
  have G1 := Lib.hid (ho1.below (Below.refl _ _))
  have G2 := Lib.hid (ho2.below (Below.refl _ _))
  clear ho1 ho2 hdj HX HT
  clear hb
  have hal := (Below.refl g1.heap.size g1).alloc (Nat.le_refl _) (.cells #[.slice GA R.length Gc, .slice GB R.length Gd, .slice none 0 0, .int .i64 0, .slice none 0 0, .slice none 0 0, .slice none 0 0] 30)
  have hbx := Blk.new g1 #[.slice GA R.length Gc, .slice GB R.length Gd, .slice none 0 0, .int .i64 0, .slice none 0 0, .slice none 0 0, .slice none 0 0] 30
  have zbGX : g1.heap.size < (g1.alloc (.cells #[.slice GA R.length Gc, .slice GB R.length Gd, .slice none 0 0, .int .i64 0, .slice none 0 0, .slice none 0 0, .slice none 0 0] 30)).heap.size := by simp
  have O1 := Lib.hid (O1.out.below hal)
  have O2 := Lib.hid (O2.out.below hal)
  have OX := Lib.hid (OX.out.below hal)
  have X := Lib.hid (X.out.below hal)
  have G1 := Lib.hid (G1.out.below hal)
  have G2 := Lib.hid (G2.out.below hal)
  have HB := Lib.hid (below_then HB.out hal)
  have z6 := hal.size
  have GX := Lib.hid hbx
  clear hbx hal
  have q0 := GX.out.cell 0
  have q1 := GX.out.cell 1
  have q2 := GX.out.cell 2
  have q3 := GX.out.cell 3
  have q4 := GX.out.cell 4
  have q5 := GX.out.cell 5
  have q6 := GX.out.cell 6
  have p0 := OX.out.cell 0
  have p1 := OX.out.cell 1
  have p2 := OX.out.cell 2
  have p3 := OX.out.cell 3
  have p4 := OX.out.cell 4
  have p5 := OX.out.cell 5
  have p6 := OX.out.cell 6
  go_wp2_with fail
  generalize g1.alloc (.cells #[.slice GA R.length Gc, .slice GB R.length Gd, .slice none 0 0, .int .i64 0, .slice none 0 0, .slice none 0 0, .slice none 0 0] 30) = g1w at *
  refine (eqMach_any ⟨GA, Gc, GB, Gd, none, 0, none, 0, none, 0⟩ ⟨OA, Oc, OB, Od, none, 0, none, 0, none, 0⟩ (⟨R, R, [], 0, [], []⟩ : Dc) _ (by exact rdN G1.out G2.out) (by exact rdN O1.out O2.out)).mono ?_
  rintro e v1 ⟨rfl, hb⟩
  have z7 := hb.size
  have O1 := Lib.hid (O1.out.below hb)
  have O2 := Lib.hid (O2.out.below hb)
  have OX := Lib.hid (OX.out.below hb)
  have X := Lib.hid (X.out.below hb)
  have G1 := Lib.hid (G1.out.below hb)
  have G2 := Lib.hid (G2.out.below hb)
  have GX := Lib.hid (GX.out.below hb)
  have HB := Lib.hid (below_then HB.out hb)
  clear hb
  clear q0 q1 q2 q3 q4 q5 q6
  clear p0 p1 p2 p3 p4 p5 p6
  have HL := Lib.hid (hL.below HB.out)
  go_wp2_with fail
  refine (toByteS_e A l c _ hl (by exact HL.out)).mono ?_
  rintro e u1 ⟨u1g, rfl, hrow, hb⟩
  have z8 := hb.size
  have O1 := Lib.hid (O1.out.below hb)
  have O2 := Lib.hid (O2.out.below hb)
  have OX := Lib.hid (OX.out.below hb)
  have X := Lib.hid (X.out.below hb)
  have G1 := Lib.hid (G1.out.below hb)
  have G2 := Lib.hid (G2.out.below hb)
  have GX := Lib.hid (GX.out.below hb)
  have HB := Lib.hid (below_then HB.out hb)
  have HX := Lib.hid hrow.bs
  clear hrow HL
  clear hb
  go_wp2_with fail
  refine (eqByteS_any _ _ l l _ _ _ hn9 (by exact own_bs9 X.out) (by exact HX.out)).mono ?_
  rintro e v ⟨rfl, nn, rfl⟩
  rw [decide_eq_true (rfl : l = l)]
  have hb := below_drewN (Below.refl u1.heap.size u1) nn
  have z9 := hb.size
  have O1 := Lib.hid (O1.out.below hb)
  have O2 := Lib.hid (O2.out.below hb)
  have OX := Lib.hid (OX.out.below hb)
  have X := Lib.hid (X.out.below hb)
  have G1 := Lib.hid (G1.out.below hb)
  have G2 := Lib.hid (G2.out.below hb)
  have GX := Lib.hid (GX.out.below hb)
  have HB := Lib.hid (below_then HB.out hb)
  clear hb
  generalize u1.drewN nn = v2 at *
  clear HX
  go_wp2_with fail
  refine (markByteS_any _ l _ 1 _ (by omega) (by omega) (by exact X.out)).mono ?_
  rintro e k1 ⟨rfl, _, hgr⟩
  have hke := Keeps.of_grown hgr
  have O1 := Lib.hid (O1.out.keeps hke (fun b hb h => by have h1 := RX.out b h; have h2 := RO1.out b hb; omega))
  have O2 := Lib.hid (O2.out.keeps hke (fun b hb h => by have h1 := RX.out b h; have h2 := RO2.out b hb; omega))
  have OX := Lib.hid (OX.out.of_block (hke.block _ OX.out.lt (fun h => by have h1 := RX.out _ h; omega)))
  have G1 := Lib.hid (G1.out.keeps hke (fun b hb h => by have h1 := RX.out b h; have h2 := RG1.out b hb; omega))
  have G2 := Lib.hid (G2.out.keeps hke (fun b hb h => by have h1 := RX.out b h; have h2 := RG2.out b hb; omega))
  have GX := Lib.hid (GX.out.of_block (hke.block _ GX.out.lt (fun h => by have h1 := RX.out _ h; omega)))
  have HB := Lib.hid (HB.out.trans (hke.below (B := w.heap.size) HB.out.size (fun k hk => by have h1 := RX.out k hk; omega)))
  have z10 := hke.size
  clear hke hgr X
  obtain ⟨K, hK, hK0⟩ : ∃ K : Int, ((1 + l.length : Nat) : Int) = K ∧ ¬ K < 0 := ⟨_, rfl, by omega⟩
  have hKd : decide (K < 0) = false := decide_eq_false hK0
  rw [hK]
  clear hK hK0
  have q0 := GX.out.cell 0
  have q1 := GX.out.cell 1
  have q2 := GX.out.cell 2
  have q3 := GX.out.cell 3
  have q4 := GX.out.cell 4
  have q5 := GX.out.cell 5
  have q6 := GX.out.cell 6
  have p0 := OX.out.cell 0
  have p1 := OX.out.cell 1
  have p2 := OX.out.cell 2
  have p3 := OX.out.cell 3
  have p4 := OX.out.cell 4
  have p5 := OX.out.cell 5
  have p6 := OX.out.cell 6
  go_wp2_with fail
  refine (eqMach_any ⟨GA, Gc, GB, Gd, none, 0, none, 0, none, 0⟩ ⟨OA, Oc, OB, Od, none, 0, none, 0, none, 0⟩ (⟨R, R, [], 0, [], []⟩ : Dc) _ (by exact rdN G1.out G2.out) (by exact rdN O1.out O2.out)).mono ?_
  rintro e v3 ⟨rfl, hb⟩
  have z11 := hb.size
  have O1 := Lib.hid (O1.out.below hb)
  have O2 := Lib.hid (O2.out.below hb)
  have OX := Lib.hid (OX.out.below hb)
  have G1 := Lib.hid (G1.out.below hb)
  have G2 := Lib.hid (G2.out.below hb)
  have GX := Lib.hid (GX.out.below hb)
  have HB := Lib.hid (below_then HB.out hb)
  clear hb
  clear q0 q1 q2 q3 q4 q5 q6
  clear p0 p1 p2 p3 p4 p5 p6
  clear hKd
  obtain ⟨K2, hK2, hK20⟩ : ∃ K : Int, ((nD5 1 (⟨R, R, [], 0, [], []⟩ : Dc) : Nat) : Int) = K ∧ ¬ K < 0 := ⟨_, rfl, by omega⟩
  have hKd2 : decide (K2 < 0) = false := decide_eq_false hK20
  have hKn2 : (K2 != K2) = false := by simp
  have HK2 := Lib.hid hK2
  have hw4 := wN R hR4
  clear hK2 hK20
  have q0 := GX.out.cell 0
  have q1 := GX.out.cell 1
  have q2 := GX.out.cell 2
  have q3 := GX.out.cell 3
  have q4 := GX.out.cell 4
  have q5 := GX.out.cell 5
  have q6 := GX.out.cell 6
  have RG := Lib.hid (show ∀ k ∈ (Value.slice GA R.length Gc).ownBlock.toList ++ ((Value.slice GB R.length Gd).ownBlock.toList ++ ([] ++ ([] ++ []))), x1.heap.size ≤ k ∧ k < g1.heap.size from fun k hk => by
    simp only [List.append_nil, List.mem_append] at hk
    rcases hk with h | h
    · exact RG1.out k h
    · exact RG2.out k h)
  go_wp2_with fail
  refine (markMach_any ⟨GA, Gc, GB, Gd, none, 0, none, 0, none, 0⟩ (⟨R, R, [], 0, [], []⟩ : Dc) _ _ _ _ _ 0 1 _ (by omega) (by exact owN G1.out G2.out JG.out)).mono ?_
  rintro e k2 ⟨rfl, hmk, hke⟩
  rw [HK2.out]
  have O1 := Lib.hid (O1.out.keeps hke (fun b hb h => by have h1 := RG.out b h; have h2 := RO1.out b hb; omega))
  have O2 := Lib.hid (O2.out.keeps hke (fun b hb h => by have h1 := RG.out b h; have h2 := RO2.out b hb; omega))
  have OX := Lib.hid (OX.out.of_block (hke.block _ OX.out.lt (fun h => by have h1 := RG.out _ h; omega)))
  have GX := Lib.hid (GX.out.of_block (hke.block _ GX.out.lt (fun h => by have h1 := RG.out _ h; omega)))
  have HB := Lib.hid (HB.out.trans (hke.below (B := w.heap.size) HB.out.size (fun k hk => by have h1 := RG.out k hk; omega)))
  have z12 := hke.size
  have MK := Lib.hid hmk
  clear hmk hke G1 G2
  clear q0 q1 q2 q3 q4 q5 q6
  have q0 := GX.out.cell 0
  have q1 := GX.out.cell 1
  have q2 := GX.out.cell 2
  have q3 := GX.out.cell 3
  have q4 := GX.out.cell 4
  have q5 := GX.out.cell 5
  have q6 := GX.out.cell 6
  go_wp2_with fail
  refine (heldMach_any ⟨GA, Gc, GB, Gd, none, 0, none, 0, none, 0⟩ (⟨R, R, [], 0, [], []⟩ : Dc) 1 _ (by omega) (by exact MK.out)).mono ?_
  rintro e k3 ⟨rfl, hb⟩
  rw [HK2.out]
  have z13 := hb.size
  have O1 := Lib.hid (O1.out.below hb)
  have O2 := Lib.hid (O2.out.below hb)
  have OX := Lib.hid (OX.out.below hb)
  have GX := Lib.hid (GX.out.below hb)
  have MK := Lib.hid (MK.out.below hb)
  have HB := Lib.hid (below_then HB.out hb)
  clear hb
  clear q0 q1 q2 q3 q4 q5 q6
  have HL := Lib.hid (hL.below HB.out)
  go_wp2_with fail
  refine (toByteS_e A l c _ hl (by exact HL.out)).mono ?_
  rintro e y1 ⟨y1g, rfl, hrow, hb⟩
  have z14 := hb.size
  have O1 := Lib.hid (O1.out.below hb)
  have O2 := Lib.hid (O2.out.below hb)
  have OX := Lib.hid (OX.out.below hb)
  have GX := Lib.hid (GX.out.below hb)
  have MK := Lib.hid (MK.out.below hb)
  have HB := Lib.hid (below_then HB.out hb)
  have HX := Lib.hid hrow.bs
  clear hrow HL
  clear hb
  have HT := Lib.hid (hT.below HB.out)
  go_wp2_with fail
  refine (implMachNew_any (some ⟨y1g, 0, none⟩) l l.length _ (Nat.le_refl _) hn9 (by exact HT.out) (by exact HX.out)).mono ?_
  rintro e h1 hgv
  unfold GivesMN at hgv
  rw [HRE.out, HZE.out] at hgv
  obtain ⟨VA, Vc, VB, Vd, rfl, ho1, ho2, hdj, hb⟩ := hgv
  have RV1 := Lib.hid ho1.range
  have RV2 := Lib.hid ho2.range
  have JV := Lib.hid hdj
  have z15 := hb.size
  have O1 := Lib.hid (O1.out.below hb)
  have O2 := Lib.hid (O2.out.below hb)
  have OX := Lib.hid (OX.out.below hb)
  have GX := Lib.hid (GX.out.below hb)
  have MK := Lib.hid (MK.out.below hb)
  have HB := Lib.hid (below_then HB.out hb)
  have V1 := Lib.hid (ho1.below (Below.refl _ _))
  have V2 := Lib.hid (ho2.below (Below.refl _ _))
  clear ho1 ho2 hdj HX HT
  clear hb
  have hal := (Below.refl h1.heap.size h1).alloc (Nat.le_refl _) (.cells #[.slice VA R.length Vc, .slice VB R.length Vd, .slice none 0 0, .int .i64 0, .slice none 0 0, .slice none 0 0, .slice none 0 0] 30)
  have hbx := Blk.new h1 #[.slice VA R.length Vc, .slice VB R.length Vd, .slice none 0 0, .int .i64 0, .slice none 0 0, .slice none 0 0, .slice none 0 0] 30
  have zbVX : h1.heap.size < (h1.alloc (.cells #[.slice VA R.length Vc, .slice VB R.length Vd, .slice none 0 0, .int .i64 0, .slice none 0 0, .slice none 0 0, .slice none 0 0] 30)).heap.size := by simp
  have O1 := Lib.hid (O1.out.below hal)
  have O2 := Lib.hid (O2.out.below hal)
  have OX := Lib.hid (OX.out.below hal)
  have GX := Lib.hid (GX.out.below hal)
  have MK := Lib.hid (MK.out.below hal)
  have V1 := Lib.hid (V1.out.below hal)
  have V2 := Lib.hid (V2.out.below hal)
  have HB := Lib.hid (below_then HB.out hal)
  have z16 := hal.size
  have VX := Lib.hid hbx
  clear hbx hal
  have q0 := VX.out.cell 0
  have q1 := VX.out.cell 1
  have q2 := VX.out.cell 2
  have q3 := VX.out.cell 3
  have q4 := VX.out.cell 4
  have q5 := VX.out.cell 5
  have q6 := VX.out.cell 6
  have p0 := OX.out.cell 0
  have p1 := OX.out.cell 1
  have p2 := OX.out.cell 2
  have p3 := OX.out.cell 3
  have p4 := OX.out.cell 4
  have p5 := OX.out.cell 5
  have p6 := OX.out.cell 6
  go_wp2_with fail
  generalize h1.alloc (.cells #[.slice VA R.length Vc, .slice VB R.length Vd, .slice none 0 0, .int .i64 0, .slice none 0 0, .slice none 0 0, .slice none 0 0] 30) = h1w at *
  refine (eqMach_any ⟨VA, Vc, VB, Vd, none, 0, none, 0, none, 0⟩ ⟨OA, Oc, OB, Od, none, 0, none, 0, none, 0⟩ (⟨R, R, [], 0, [], []⟩ : Dc) _ (by exact rdN V1.out V2.out) (by exact rdN O1.out O2.out)).mono ?_
  rintro e v4 ⟨rfl, hb⟩
  have z17 := hb.size
  have O1 := Lib.hid (O1.out.below hb)
  have O2 := Lib.hid (O2.out.below hb)
  have OX := Lib.hid (OX.out.below hb)
  have GX := Lib.hid (GX.out.below hb)
  have MK := Lib.hid (MK.out.below hb)
  have V1 := Lib.hid (V1.out.below hb)
  have V2 := Lib.hid (V2.out.below hb)
  have VX := Lib.hid (VX.out.below hb)
  have HB := Lib.hid (below_then HB.out hb)
  clear hb
  clear q0 q1 q2 q3 q4 q5 q6
  clear p0 p1 p2 p3 p4 p5 p6
  have q0 := GX.out.cell 0
  have q1 := GX.out.cell 1
  have q2 := GX.out.cell 2
  have q3 := GX.out.cell 3
  have q4 := GX.out.cell 4
  have q5 := GX.out.cell 5
  have q6 := GX.out.cell 6
  go_wp2_with fail
  refine (heldMach_any ⟨GA, Gc, GB, Gd, none, 0, none, 0, none, 0⟩ (⟨R, R, [], 0, [], []⟩ : Dc) 1 _ (by omega) (by exact MK.out)).mono ?_
  rintro e k4 ⟨rfl, hb⟩
  rw [HK2.out]
  have z18 := hb.size
  have O1 := Lib.hid (O1.out.below hb)
  have O2 := Lib.hid (O2.out.below hb)
  have OX := Lib.hid (OX.out.below hb)
  have GX := Lib.hid (GX.out.below hb)
  have MK := Lib.hid (MK.out.below hb)
  have V1 := Lib.hid (V1.out.below hb)
  have V2 := Lib.hid (V2.out.below hb)
  have VX := Lib.hid (VX.out.below hb)
  have HB := Lib.hid (below_then HB.out hb)
  clear hb
  clear q0 q1 q2 q3 q4 q5 q6
  go_wp2
  go_ret
  exact ⟨rfl, HB.out⟩

end Go.Proofs.YtaekanhjkpoifaaDoor.fnExactMachNew
