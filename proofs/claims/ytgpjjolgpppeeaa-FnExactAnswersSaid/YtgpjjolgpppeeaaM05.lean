/-
  Chapter 12, the answers to a session: contracts of the program and of the model. Own work.
-/
import Derived.Test.YtgpjjolgpppeeaaC25
import Derived.Test.YtgpjjolgpppeeaaSnoc
import Derived.Test.YtgpjjolgpppeeaaClw
import Derived.Test.YtgpjjolgpppeeaaApp
import Derived.Deep.RegionHeld3
import Derived.Deep.DeepCutAuto
namespace Go.Proofs.Ytgpjjolgpppeeaa
open Go.RowKit P
set_option linter.unusedVariables false
set_option linter.unusedSimpArgs false
set_option maxRecDepth 100000

theorem Try.infoReply : (Try.prog.info? 83).map (fun i => (i.zero, i.size, i.bytes)) = some (some (.agg #[.int .i64 0, .int .i64 0, .int .i64 0, .slice none 0 0]), 4, 48) := by kernel_rfl
theorem Lay.rps_rd {w : World} {cs : List Value} {L : List Rp} (h : Lay.rps.rd w cs L) : ∃ A c, cs = [.slice A L.length c] ∧ L.length ≤ c ∧ c ≤ maxLen ∧ Evs w A L := h
/-- The replies of the outputs of a session. -/
def ansV (os : List Ot) (n : Int) : List Rp := (os.filter (fun o => decide (o.2.1 = n))).map (·.2.2.2.2)
def ansE (os : List Ot) (n : Int) : List Rp := if os.length ≤ 300 then ansV os n else []
theorem ansV_yes {os : List Ot} {n : Int} {k : Nat} (hk : k < os.length) (h : os[k].2.1 = n) : ansV (os.take (k + 1)) n = ansV (os.take k) n ++ [os[k].2.2.2.2] := by
  unfold ansV
  rw [List.take_succ_eq_append_getElem hk, List.filter_append, List.map_append]
  simp [h]
theorem ansV_no {os : List Ot} {n : Int} {k : Nat} (hk : k < os.length) (h : os[k].2.1 ≠ n) : ansV (os.take (k + 1)) n = ansV (os.take k) n := by
  unfold ansV
  rw [List.take_succ_eq_append_getElem hk, List.filter_append, List.map_append]
  simp [h]
theorem ansV_len (os : List Ot) (n : Int) : (ansV os n).length ≤ os.length := by
  unfold ansV
  rw [List.length_map]
  exact List.length_filter_le _ _
theorem ansE_le {os : List Ot} {n : Int} (h : os.length ≤ 300) : ansE os n = ansV os n := if_pos h
theorem ansE_gt {os : List Ot} {n : Int} (h : 300 < os.length) : ansE os n = [] := if_neg (by omega)
theorem cells12 {w : World} {g : Nat} {vs : List Value} {T : TypeId} (h : Blk w g vs.toArray T) : ∀ j u, vs[j]? = some u → w.cell? ((⟨g, 0, none⟩ : Addr).add j) = some u := by
  intro j u hu
  rw [add_plain, Nat.zero_add, h.cell j]
  simpa using hu

set_option maxHeartbeats 16000000 in
theorem implAnswers_any (A0 : Option Addr) (os : List Ot) (c0 : Nat) (n : Int) (w : World) (hn : os.length + sumB obt os ≤ 1048576) (hE : Ots w A0 os) :
    Calls Try.prog 12 #[.slice A0 os.length c0, .int .i64 n] w (Gives Lay.rps wSlice (ansE os n) w) := by
  by_cases h3 : 300 < os.length
  · have h3' : (300 : Int) < (os.length : Int) := by omega
    rw [ansE_gt h3]
    have HGV := Lib.hid (show Gives Lay.rps wSlice [] w (.returned (.slice none 0 0)) w from ⟨[.slice none 0 0], [], rfl, Lay.slice_nil _ _ _, by simp, by simp, Below.refl _ _⟩)
    clear h3
    go_enter Try.func12, Try.ntmps12
    go_wp2
    go_ret
    exact HGV.out
  have h3' : ¬ (300 : Int) < (os.length : Int) := by omega
  rw [ansE_le (by omega)]
  go_enter Try.func12, Try.ntmps12
  go_wp2
  go_loopw [5, 13] (fun list i wr => ∃ (k : Nat) (AL : Option Addr) (cL : Nat) (L : List Rp) (fp : List Nat), k ≤ os.length ∧ i = .int .i64 k ∧ list = .slice AL L.length cL ∧ L = ansV (os.take k) n ∧ Lay.rps.ow wr [.slice AL L.length cL] L fp ∧ fp.Nodup ∧ (∀ x ∈ fp, w.heap.size ≤ x ∧ x < wr.heap.size) ∧ Below w.heap.size w wr) (fun _ i _ => os.length - (intOf i).toNat)
  case atStart => exact ⟨0, none, 0, [], [], Nat.zero_le _, rfl, rfl, by simp [ansV], Lay.slice_nil _ _ _, by simp, by simp, Below.refl _ _⟩
  case round =>
    obtain ⟨k, AL, cL, L, fp, hk, rfl, rfl, hL, how, hnd, hfp, hb⟩ := hrel
    by_cases hlt : k < os.length
    case neg =>
      have e9 : k = os.length := by omega
      subst e9
      rw [List.take_length] at hL
      have HGV := Lib.hid (show Gives Lay.rps wSlice (ansV os n) w (.returned (.slice AL L.length cL)) wr from ⟨[.slice AL L.length cL], fp, rfl, by rw [← hL]; exact how, hnd, fun z hz => (hfp z hz).1, hb⟩)
      clear hL how hnd hfp hb
      go_wp2
      go_ret
      exact HGV.out
    case pos =>
      obtain ⟨b, off, a, u, x, s, p, q, r, f, y, i, j, A, l, c, C, m, d, rfl, hbl, hek, k0, k1, k2, k3, k4, k5, k6, k7, k8, k9, k10, k11, k12, i0, i1, i2, i3, i4, i5, i6, i7, i8, i9, i10, hl0, hc0, hb0, hl1, hc1, hb1⟩ := (hE.below hb).at_ k hlt
      have hm6 : m.length ≤ 100000000 := by
        have h1 := sumB_mem obt os k hlt
        rw [hek] at h1
        have h2 : l.length + m.length ≤ sumB obt os := h1
        omega
      have hki : (k : Int) < (os.length : Int) := by omega
      have hk0 : (0 : Int) ≤ (k : Int) := by omega
      by_cases hu : u = n
      case neg =>
        have hne : (u == n) = false := by simp [hu]
        have HL := Lib.hid (ansV_no (n := n) hlt (by rw [hek]; exact hu))
        have HOW := Lib.hid how
        have HND := Lib.hid hnd
        have HFP := Lib.hid hfp
        have HB := Lib.hid hb
        clear hek hb hu how hnd hfp hm6 hl0 hc0 hb0 hl1 hc1 hb1
        have hal := (Below.refl wr.heap.size wr).alloc (Nat.le_refl _) (.cells #[.int .i64 a, .int .i64 u, .int .i64 x, .int .i64 s, .int .i64 p, .int .i64 q, .int .i64 r, .slice A l.length c, .int .i64 f, .int .i64 y, .int .i64 i, .int .i64 j, .slice C m.length d] 85)
        have HOW := Lib.hid (Lay.rps.owBelow HOW.out hal)
        have HB := Lib.hid (below_then HB.out hal)
        have HFP := Lib.hid (fun z hz => (⟨(HFP.out z hz).1, Nat.lt_of_lt_of_le (HFP.out z hz).2 hal.size⟩ : w.heap.size ≤ z ∧ z < (wr.alloc (.cells #[.int .i64 a, .int .i64 u, .int .i64 x, .int .i64 s, .int .i64 p, .int .i64 q, .int .i64 r, .slice A l.length c, .int .i64 f, .int .i64 y, .int .i64 i, .int .i64 j, .slice C m.length d] 85)).heap.size))
        clear hal
        go_wp2
        go_roundw
        case rel => exact ⟨k + 1, AL, cL, L, fp, by omega, by go_num, rfl, by rw [HL.out]; exact hL, HOW.out, HND.out, HFP.out, HB.out⟩
        case measure => simp [intOf]; omega
      have hee : (u == n) = true := by simp [hu]
      have HL := Lib.hid (ansV_yes (n := n) hlt (by rw [hek]; exact hu))
      have HEK := Lib.hid (show os[k].2.2.2.2 = (y, i, j, m) by rw [hek])
      have I8 := Lib.hid i8
      have I9 := Lib.hid i9
      have I10 := Lib.hid i10
      have HLL := Lib.hid hL
      have HND := Lib.hid hnd
      have HFP := Lib.hid hfp
      have hal := (Below.refl wr.heap.size wr).alloc (Nat.le_refl _) (.cells #[.int .i64 a, .int .i64 u, .int .i64 x, .int .i64 s, .int .i64 p, .int .i64 q, .int .i64 r, .slice A l.length c, .int .i64 f, .int .i64 y, .int .i64 i, .int .i64 j, .slice C m.length d] 85)
      have BX := Lib.hid (Blk.new wr #[.int .i64 a, .int .i64 u, .int .i64 x, .int .i64 s, .int .i64 p, .int .i64 q, .int .i64 r, .slice A l.length c, .int .i64 f, .int .i64 y, .int .i64 i, .int .i64 j, .slice C m.length d] 85)
      have HOW := Lib.hid (Lay.rps.owBelow how hal)
      have HB := Lib.hid (below_then hb hal)
      have HC := Lib.hid (hb1.below hal)
      have hsz1 : wr.heap.size < (wr.alloc (.cells #[.int .i64 a, .int .i64 u, .int .i64 x, .int .i64 s, .int .i64 p, .int .i64 q, .int .i64 r, .slice A l.length c, .int .i64 f, .int .i64 y, .int .i64 i, .int .i64 j, .slice C m.length d] 85)).heap.size := by simp
      have hz0 := hb.size
      clear hek hb hu how hnd hfp hL i0 i1 i2 i3 i4 i5 i6 i7 i8 i9 i10 hl0 hc0 hb0 hl1 hc1 hb1 hal
      have hcl := fun (W : World) (h : Bs W C m) => bytesClone_w C m m.length d W rfl hm6 h
      have HCL := Lib.hid hcl
      clear hcl
      have p0 := BX.out.cell 0
      have p1 := BX.out.cell 1
      have p2 := BX.out.cell 2
      have p3 := BX.out.cell 3
      have p4 := BX.out.cell 4
      have p5 := BX.out.cell 5
      have p6 := BX.out.cell 6
      have p7 := BX.out.cell 7
      have p8 := BX.out.cell 8
      have p9 := BX.out.cell 9
      have p10 := BX.out.cell 10
      have p11 := BX.out.cell 11
      have p12 := BX.out.cell 12
      go_upto_region 8 with fail
      generalize wr.alloc (.cells #[.int .i64 a, .int .i64 u, .int .i64 x, .int .i64 s, .int .i64 p, .int .i64 q, .int .i64 r, .slice A l.length c, .int .i64 f, .int .i64 y, .int .i64 i, .int .i64 j, .slice C m.length d] 85) = W1 at *
      go_wp2_with fail
      refine (HCL.out _ (by exact HC.out)).mono ?_
      rintro e w3 ⟨v3, rfl, hown3, hb3⟩
      obtain ⟨A3, c3, rfl, _, _, _⟩ := hown3.form
      have HO3 := Lib.hid hown3
      have HR3 := Lib.hid hown3.range
      have hs3 := hb3.size
      have HOW3 := Lib.hid (Lay.rps.owBelow HOW.out hb3)
      have HB3 := Lib.hid (below_then HB.out hb3)
      have BX3 := Lib.hid (BX.out.below hb3)
      clear hb3 hown3 HOW HB BX HC HCL p0 p1 p2 p3 p4 p5 p6 p7 p8 p9 p10 p11 p12
      have hkp := (Keeps.refl [wr.heap.size] w3).put1 (List.mem_singleton.2 rfl) 12 (.slice A3 m.length c3)
      have HOW4 := Lib.hid (Lay.rps.keeps HOW3.out hkp (fun z hz => by have h1 := HFP.out z hz; simp; omega))
      have HO4 := Lib.hid (HO3.out.keeps hkp (fun z hz => by have h1 := HR3.out z hz; simp; omega))
      have HB4 := Lib.hid (HB3.out.setCell (p := ⟨wr.heap.size, 12, none⟩) hz0 (.slice A3 m.length c3))
      have BX4 := Lib.hid (BX3.out.set 12 (.slice A3 m.length c3))
      have f12 := BX3.out.frozen 12
      have q12 := BX3.out.cell 12
      have hs4 : (w3.setCell ⟨wr.heap.size, 12, none⟩ (.slice A3 m.length c3)).heap.size = w3.heap.size := by simp
      clear hkp
      go_upto_region 9 with fail
      generalize w3.setCell ⟨wr.heap.size, 12, none⟩ (.slice A3 m.length c3) = w4 at *
      have HS4 := Lib.hid hs4
      clear f12 q12 hs4
      have hal4 := (Below.refl w4.heap.size w4).alloc (Nat.le_refl _) (.cells #[.int .i64 y, .int .i64 i, .int .i64 j, .slice A3 m.length c3] 83)
      have how5 := Lay.rps.owBelow HOW4.out hal4
      have hox5 := own_event I8.out I9.out I10.out ⟨HO4.out.below hal4⟩
      have hb5 := below_then HB4.out hal4
      have hfx5 := (HO4.out.below hal4).fp
      have hL6 : L.length ≤ 1000000 := by
        have h1 := ansV_len (os.take k) n
        rw [← HLL.out, List.length_take] at h1
        omega
      have p9 := BX4.out.cell 9
      have p10 := BX4.out.cell 10
      have p11 := BX4.out.cell 11
      have p12 := BX4.out.cell 12
      simp at p9 p10 p11 p12
      go_wp2_with (at_builtin; go_must (refine wpList_app_one rfl _ _ 24 rfl 83 Lay.rpL (.agg #[.int .i64 0, .int .i64 0, .int .i64 0, .slice none 0 0]) 4 48 Try.underlying24 Try.infoReply rfl rfl (by decide) (by decide) _ L fp [.int .i64 y, .int .i64 i, .int .i64 j, .slice A3 m.length c3] (y, i, j, m) _ ⟨w4.heap.size, 0, none⟩ 1 rfl rfl how5 HND.out hox5 hfx5.1 W1.heap.size ?c1 ?c2 ?c3 hL6 ?_))
      case c1 => intro z hz; have h1 := HFP.out z hz; omega
      case c2 => intro z hz; exact (HR3.out z hz).1
      case c3 => exact cells12 (Blk.new w4 #[.int .i64 y, .int .i64 i, .int .i64 j, .slice A3 m.length c3] 83)
      intro v6 w6 fp6 how6 hn6 hf6 hg6
      have hs6 := hg6.size
      rw [alloc_size] at hs6
      have hb6 := hb5.grown hg6 hb5.size (fun z hz => (HFP.out z (by obtain ⟨es9, _, _, _, e9⟩ := ow_one how5; rw [e9, hz]; simp)).1)
      have hf6' : ∀ z ∈ fp6, w.heap.size ≤ z ∧ z < w6.heap.size := fun z hz => by
        refine ⟨?_, Lay.rps.lt how6 z hz⟩
        rcases hf6 z hz with h | h | h
        · exact (HFP.out z h).1
        · have := HR3.out z (by simpa using h); omega
        · rw [h]; have := hb5.size; simp at this; omega
      obtain ⟨A6, c6, hv6, _, _, _⟩ := Lay.rps_rd (Lay.rps.read how6)
      obtain rfl : v6 = .slice A6 (L ++ [(y, i, j, m)]).length c6 := by simpa using hv6
      have hnew : L ++ [(y, i, j, m)] = ansV (os.take (k + 1)) n := by rw [HL.out, HEK.out, ← HLL.out]
      have HOW6 := Lib.hid how6
      have HN6 := Lib.hid hn6
      have HF6 := Lib.hid hf6'
      have HB6 := Lib.hid hb6
      clear how5 hox5 hfx5 hb5 hg6 hf6 how6 hn6 hf6' hb6 hal4 p9 p10 p11 p12
      obtain ⟨L2, hL2⟩ : ∃ L2, L ++ [(y, i, j, m)] = L2 := ⟨_, rfl⟩
      rw [hL2] at HOW6 hnew ⊢
      clear hL2
      have HNW := Lib.hid hnew
      clear hnew
      go_wp2
      go_roundw
      case rel => exact ⟨k + 1, A6, c6, L2, fp6, by omega, by go_num, rfl, HNW.out, HOW6.out, HN6.out, HF6.out, HB6.out⟩
      case measure => simp [intOf]; omega

set_option maxHeartbeats 16000000 in
theorem specAnswers_any (A0 : Option Addr) (os : List Ot) (c0 : Nat) (n : Int) (w : World) (hn : os.length + sumB obt os ≤ 1048576) (hE : Ots w A0 os) :
    Calls Try.prog 10 #[.slice A0 os.length c0, .int .i64 n] w (Gives Lay.rps wSlice (ansE os n) w) := by
  have how0 := Lib.hid (Lay.slice_empty 83 Lay.rpL w)
  have hal0 := Lib.hid ((Below.refl w.heap.size w).alloc (Nat.le_refl _) (.cells #[] 83))
  go_enter Try.func10, Try.ntmps10
  go_wp2
  go_loopw [5, 6] (fun list i wr => ∃ (k : Nat) (AL : Option Addr) (cL : Nat) (L : List Rp) (fp : List Nat), k ≤ os.length ∧ i = .int .i64 k ∧ list = .slice AL L.length cL ∧ L = ansV (os.take k) n ∧ (300 < os.length → k = 0) ∧ Lay.rps.ow wr [.slice AL L.length cL] L fp ∧ fp.Nodup ∧ (∀ x ∈ fp, w.heap.size ≤ x ∧ x < wr.heap.size) ∧ Below w.heap.size w wr) (fun _ i _ => os.length - (intOf i).toNat)
  case atStart => exact ⟨0, some ⟨w.heap.size, 0, none⟩, 0, [], [w.heap.size], Nat.zero_le _, rfl, rfl, by simp [ansV], fun _ => rfl, how0.out, by simp, by intro k hk; simp at hk; subst hk; exact ⟨Nat.le_refl _, by simp⟩, hal0.out⟩
  case round =>
    obtain ⟨k, AL, cL, L, fp, hk, rfl, rfl, hL, hg0, how, hnd, hfp, hb⟩ := hrel
    by_cases h3 : 300 < os.length
    · have h3' : ¬ (os.length : Int) ≤ 300 := by omega
      have hk0 := hg0 h3
      subst hk0
      have hlen0 : (0 : Int) < (os.length : Int) := by omega
      have hL0 : L = [] := by rw [hL]; simp [ansV]
      have HGV := Lib.hid (show Gives Lay.rps wSlice (ansE os n) w (.returned (.slice AL L.length cL)) wr from ⟨[.slice AL L.length cL], fp, rfl, by rw [ansE_gt h3, ← hL0]; exact how, hnd, fun z hz => (hfp z hz).1, hb⟩)
      clear hL how hnd hfp hb hg0 h3 hL0 hk
      go_wp2
      go_ret
      exact HGV.out
    have h3' : (os.length : Int) ≤ 300 := by omega
    have HG3 : 300 < os.length → k + 1 = 0 := fun h => absurd h h3
    by_cases hlt : k < os.length
    case neg =>
      have e9 : k = os.length := by omega
      have hlt' : ¬ (k : Int) < (os.length : Int) := by omega
      have hT : os.take k = os := by rw [e9, List.take_length]
      rw [hT] at hL
      have HGV := Lib.hid (show Gives Lay.rps wSlice (ansE os n) w (.returned (.slice AL L.length cL)) wr from ⟨[.slice AL L.length cL], fp, rfl, by rw [ansE_le (by omega), ← hL]; exact how, hnd, fun z hz => (hfp z hz).1, hb⟩)
      clear hL how hnd hfp hb hT hg0 e9 HG3
      go_wp2
      go_ret
      exact HGV.out
    case pos =>
      clear hg0
      obtain ⟨b, off, a, u, x, s, p, q, r, f, y, i, j, A, l, c, C, m, d, rfl, hbl, hek, k0, k1, k2, k3, k4, k5, k6, k7, k8, k9, k10, k11, k12, i0, i1, i2, i3, i4, i5, i6, i7, i8, i9, i10, hl0, hc0, hb0, hl1, hc1, hb1⟩ := (hE.below hb).at_ k hlt
      have hm6 : m.length ≤ 100000000 := by
        have h1 := sumB_mem obt os k hlt
        rw [hek] at h1
        have h2 : l.length + m.length ≤ sumB obt os := h1
        omega
      have hki : (k : Int) < (os.length : Int) := by omega
      have hk0 : (0 : Int) ≤ (k : Int) := by omega
      by_cases hu : u = n
      case neg =>
        have hne : (u == n) = false := by simp [hu]
        have HL := Lib.hid (ansV_no (n := n) hlt (by rw [hek]; exact hu))
        have HOW := Lib.hid how
        have HND := Lib.hid hnd
        have HFP := Lib.hid hfp
        have HB := Lib.hid hb
        clear hek hb hu how hnd hfp hm6 hl0 hc0 hb0 hl1 hc1 hb1
        go_wp2
        go_roundw
        case rel => exact ⟨k + 1, AL, cL, L, fp, by omega, by go_num, rfl, by rw [HL.out]; exact hL, HG3, HOW.out, HND.out, HFP.out, HB.out⟩
        case measure => simp [intOf]; omega
      have hee : (u == n) = true := by simp [hu]
      have HL := Lib.hid (ansV_yes (n := n) hlt (by rw [hek]; exact hu))
      have HEK := Lib.hid (show os[k].2.2.2.2 = (y, i, j, m) by rw [hek])
      have I8 := Lib.hid i8
      have I9 := Lib.hid i9
      have I10 := Lib.hid i10
      have HLL := Lib.hid hL
      have HND := Lib.hid hnd
      have HFP := Lib.hid hfp
      have hal := (Below.refl wr.heap.size wr).alloc (Nat.le_refl _) (.cells #[.int .i64 y, .int .i64 i, .int .i64 j, .slice C m.length d] 83)
      have BX := Lib.hid (Blk.new wr #[.int .i64 y, .int .i64 i, .int .i64 j, .slice C m.length d] 83)
      have HOW := Lib.hid (Lay.rps.owBelow how hal)
      have HB := Lib.hid (below_then hb hal)
      have HC := Lib.hid (hb1.below hal)
      have hsz1 : wr.heap.size < (wr.alloc (.cells #[.int .i64 y, .int .i64 i, .int .i64 j, .slice C m.length d] 83)).heap.size := by simp
      have hz0 := hb.size
      clear hek hb hu how hnd hfp hL i0 i1 i2 i3 i4 i5 i6 i7 i8 i9 i10 hl0 hc0 hb0 hl1 hc1 hb1 hal
      go_upto_region 7 with fail
      generalize wr.alloc (.cells #[.int .i64 y, .int .i64 i, .int .i64 j, .slice C m.length d] 83) = W1 at *
      have p0 := BX.out.cell 0
      have p1 := BX.out.cell 1
      have p2 := BX.out.cell 2
      have p3 := BX.out.cell 3
      have hO0 : Own (W1.alloc (.cells #[] 5)) W1.heap.size (.slice (some ⟨W1.heap.size, 0, none⟩) 0 0) [] := World.ownsRow_made W1 #[] 0 (Nat.le_refl _) (by unfold maxLen; omega) rfl
      have hC0 : Bs (W1.alloc (.cells #[] 5)) C m := HC.out.below ((Below.refl W1.heap.size W1).alloc (Nat.le_refl _) (.cells #[] 5))
      have hal2 := (Below.refl W1.heap.size W1).alloc (Nat.le_refl _) (.cells #[] 5)
      have f3 := BX.out.frozen 3
      go_wp2_with (at_builtin; go_must (refine wpList_app_bytes rfl _ _ rfl W1.heap.size _ [] m C m.length d rfl rfl rfl hO0 hC0 ?c1 ?c2 ?_))
      case c1 => simp; omega
      case c2 => simp
      intro v3 w3 ho3 hg3 _
      obtain ⟨A3, c3, rfl, _, _, _⟩ := ho3.form
      have hb3 : Below W1.heap.size W1 w3 := hal2.grown hg3 (by simp) (fun z hz => by simp [Value.ownBlock] at hz; omega)
      have HO3 := Lib.hid ho3
      have HR3 := Lib.hid ho3.range
      have hs3 := hb3.size
      have HOW3 := Lib.hid (Lay.rps.owBelow HOW.out hb3)
      have HB3 := Lib.hid (below_then HB.out hb3)
      have BX3 := Lib.hid (BX.out.below hb3)
      clear hb3 ho3 hg3 hal2 hO0 hC0 HOW HB BX HC p0 p1 p2 p3 f3
      have hkp := (Keeps.refl [wr.heap.size] w3).put1 (List.mem_singleton.2 rfl) 3 (.slice A3 m.length c3)
      have HOW4 := Lib.hid (Lay.rps.keeps HOW3.out hkp (fun z hz => by have h1 := HFP.out z hz; simp; omega))
      have HO4 := Lib.hid (HO3.out.keeps hkp (fun z hz => by have h1 := HR3.out z hz; simp; omega))
      have HB4 := Lib.hid (HB3.out.setCell (p := ⟨wr.heap.size, 3, none⟩) hz0 (.slice A3 m.length c3))
      have BX4 := Lib.hid (BX3.out.set 3 (.slice A3 m.length c3))
      have f12 := BX3.out.frozen 3
      have q12 := BX3.out.cell 3
      have hs4 : (w3.setCell ⟨wr.heap.size, 3, none⟩ (.slice A3 m.length c3)).heap.size = w3.heap.size := by simp
      clear hkp
      go_upto_region 8 with fail
      generalize w3.setCell ⟨wr.heap.size, 3, none⟩ (.slice A3 m.length c3) = w4 at *
      have HS4 := Lib.hid hs4
      clear f12 q12 hs4
      have hal4 := (Below.refl w4.heap.size w4).alloc (Nat.le_refl _) (.cells #[.int .i64 y, .int .i64 i, .int .i64 j, .slice A3 m.length c3] 83)
      have how5 := Lay.rps.owBelow HOW4.out hal4
      have hox5 := own_event I8.out I9.out I10.out ⟨HO4.out.below hal4⟩
      have hb5 := below_then HB4.out hal4
      have hfx5 := (HO4.out.below hal4).fp
      have hL6 : L.length ≤ 1000000 := by
        have h1 := ansV_len (os.take k) n
        rw [← HLL.out, List.length_take] at h1
        omega
      have p0 := BX4.out.cell 0
      have p1 := BX4.out.cell 1
      have p2 := BX4.out.cell 2
      have p3 := BX4.out.cell 3
      simp at p0 p1 p2 p3
      go_wp2_with (at_builtin; go_must (refine wpList_app_one rfl _ _ 24 rfl 83 Lay.rpL (.agg #[.int .i64 0, .int .i64 0, .int .i64 0, .slice none 0 0]) 4 48 Try.underlying24 Try.infoReply rfl rfl (by decide) (by decide) _ L fp [.int .i64 y, .int .i64 i, .int .i64 j, .slice A3 m.length c3] (y, i, j, m) _ ⟨w4.heap.size, 0, none⟩ 1 rfl rfl how5 HND.out hox5 hfx5.1 W1.heap.size ?c1 ?c2 ?c3 hL6 ?_))
      case c1 => intro z hz; have h1 := HFP.out z hz; omega
      case c2 => intro z hz; exact (HR3.out z hz).1
      case c3 => exact cells12 (Blk.new w4 #[.int .i64 y, .int .i64 i, .int .i64 j, .slice A3 m.length c3] 83)
      intro v6 w6 fp6 how6 hn6 hf6 hg6
      have hs6 := hg6.size
      rw [alloc_size] at hs6
      have hb6 := hb5.grown hg6 hb5.size (fun z hz => (HFP.out z (by obtain ⟨es9, _, _, _, e9⟩ := ow_one how5; rw [e9, hz]; simp)).1)
      have hf6' : ∀ z ∈ fp6, w.heap.size ≤ z ∧ z < w6.heap.size := fun z hz => by
        refine ⟨?_, Lay.rps.lt how6 z hz⟩
        rcases hf6 z hz with h | h | h
        · exact (HFP.out z h).1
        · have := HR3.out z (by simpa using h); omega
        · rw [h]; have := hb5.size; simp at this; omega
      obtain ⟨A6, c6, hv6, _, _, _⟩ := Lay.rps_rd (Lay.rps.read how6)
      obtain rfl : v6 = .slice A6 (L ++ [(y, i, j, m)]).length c6 := by simpa using hv6
      have hnew : L ++ [(y, i, j, m)] = ansV (os.take (k + 1)) n := by rw [HL.out, HEK.out, ← HLL.out]
      have HOW6 := Lib.hid how6
      have HN6 := Lib.hid hn6
      have HF6 := Lib.hid hf6'
      have HB6 := Lib.hid hb6
      clear how5 hox5 hfx5 hb5 hg6 hf6 how6 hn6 hf6' hb6 hal4 p0 p1 p2 p3
      obtain ⟨L2, hL2⟩ : ∃ L2, L ++ [(y, i, j, m)] = L2 := ⟨_, rfl⟩
      rw [hL2] at HOW6 hnew ⊢
      clear hL2
      have HNW := Lib.hid hnew
      clear hnew
      go_wp2
      go_roundw
      case rel => exact ⟨k + 1, A6, c6, L2, fp6, by omega, by go_num, rfl, HNW.out, HG3, HOW6.out, HN6.out, HF6.out, HB6.out⟩
      case measure => simp [intOf]; omega
end Go.Proofs.Ytgpjjolgpppeeaa
