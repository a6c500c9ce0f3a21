/-
  Texts of one claim in one: M14, M17. Own work.
-/
import Derived.Test.YtgpjjolgpppeeaaDoorQTop1itness
import Derived.Test.YtgpjjolgpppeeaaDoorM08
import Derived.Deep.RegionHeld3
import Derived.Deep.DeepCutAuto

/-
  Chapter 12, the actions that a run shows: contract of the model. Own work.
-/
namespace Go.Proofs.YtgpjjolgpppeeaaDoor
open Go.RowKit P
set_option linter.unusedVariables false
set_option linter.unusedSimpArgs false
set_option maxRecDepth 100000

theorem cellsA {w : World} {g : Nat} {vs : List Value} {T : TypeId} (h : Blk w g vs.toArray T) : ∀ j u, vs[j]? = some u → w.cell? ((⟨g, 0, none⟩ : Addr).add j) = some u := by
  intro j u hu
  rw [add_plain, Nat.zero_add, h.cell j]
  simpa using hu
/-- append of one element, with what it owns, inside a region that draws its order. -/
theorem step_app_act {P : Program} {w : World} {ops : Array Oper} {o : Oper} {a : Act} {K : Act → World → Prop} {Q : Exit → Act → World → Prop} {X : Prop} (hgd : o.guard = none) (s y : Operand) (t : TypeId)
    (ho : o.op = .call { callee := .builtin .append, args := #[s, y], argTypes := #[t, t] })
    {α : Type} (T : TypeId) (E : Lay α) (z : Value) (size bytes : Nat) (ht : P.underlying t = some (.slice T))
    (hinfo : (P.info? T).map (fun i => (i.zero, i.size, i.bytes)) = some (some z, size, bytes)) (hsz : size = E.sz) (hzs : z.cells.size = size) (hpos : 0 < size) (hby : bytes ≤ 10000)
    (v : Value) (l : List α) (fp : List Nat) (us : List Value) (x : α) (fx : List Nat) (ad : Addr) (c : Nat) (hs : a.eval s = v) (hy : a.eval y = .slice (some ad) 1 c)
    (h : (Lay.slice T E).ow w [v] l fp) (hn : fp.Nodup) (hx : E.ow w us x fx) (hnx : fx.Nodup) (B : Nat) (hB : ∀ k ∈ fp, k < B) (hB2 : ∀ k ∈ fx, B ≤ k)
    (hc : ∀ j u, us[j]? = some u → w.cell? (ad.add j) = some u) (hlen : l.length ≤ 1000000)
    (hK : ∀ v' w' fp', (Lay.slice T E).ow w' [v'] (l ++ [x]) fp' → fp'.Nodup → (∀ k ∈ fp', k ∈ fp ∨ k ∈ fx ∨ k = w.heap.size) → w.grownBy w' v.ownBlock → K (a.put o.dst v') w') :
    if Region.wanted o (yielded ops a.tmps) = true then Oper.wp P o a w K Q else X := by
  obtain ⟨v', w', fp', hrun, h2, h3, h4, h5⟩ := run_app_one (P := P) t o.type ht hinfo hsz hzs hpos h hn hx hnx B hB hB2 ad c hc hlen hby
  have hw : Region.wanted o (yielded ops a.tmps) = true := by simp [Region.wanted, hgd]
  rw [if_pos hw]
  unfold Oper.wp execOp
  simp only [ho, resolve, invoke, builtin, Sem.run_bind, Sem.run_pure, Result.andThen_ok, List.map_toArray, List.map_cons, List.map_nil, hs, hy, hrun]
  exact hK v' w' fp' h2 h3 h4 h5

set_option maxHeartbeats 64000000 in
theorem specWitness_any (A : Option Addr) (es : List Evt) (c lo hi : Nat) (fE : List Nat) (B : Option Addr) (os : List Ot) (d : Nat) (w : World) (hne : es.length + sumB ebt es ≤ 1048576) (hno : os.length + sumB obt os ≤ 1048576) (hE : OwnL 83 Lay.rpL w lo hi A es c fE) (hO : Ots w B os) :
    Calls Tryd.prog 23 #[.slice A es.length c, .slice B os.length d] w (GivesW (witV es os) (witOk es os) w) := by
  obtain ⟨Z, hZ⟩ : ∃ z, witOk es os = z := ⟨_, rfl⟩
  obtain ⟨ZL, hZL⟩ : ∃ z, witV es os = z := ⟨_, rfl⟩
  rw [hZ, hZL]
  have HZ := Lib.hid hZ
  have HZL := Lib.hid hZL
  clear hZ hZL
  obtain ⟨ok, hok⟩ : ∃ z, outsOk es os = z := ⟨_, rfl⟩
  have HOK := Lib.hid hok
  clear hok
  go_enter Tryd.func23, Tryd.ntmps23
  go_wp2_with fail
  refine (specOutsOk_any A es c lo hi fE B os d _ hne hno (by exact hE) (by exact hO)).mono ?_
  rintro e w0 ⟨rfl, hb⟩
  rw [HOK.out]
  have HB0 := Lib.hid hb
  clear hb
  cases ok
  case false =>
    have hw9 : witOk es os = false := wit_no HOK.out
    have hz : Z = false := by rw [← HZ.out]; exact hw9
    have hl : ZL = [] := by rw [← HZL.out]; unfold witV; rw [hw9]; rfl
    subst hz
    subst hl
    clear hw9
    go_wp2
    refine bodyPost_ret (v := .tuple #[.slice none 0 0, .bool false]) (by simp [results, Tryd.results23, go_sem]) rfl ?_
    exact ⟨none, 0, [], rfl, Lay.slice_nil _ _ _, by simp, by simp, HB0.out⟩

  have he6 : es.length ≤ 300 := (outsOk_le HOK.out).1
  have ho6 : os.length ≤ 300 := by have := (outsOk_le HOK.out).2; omega
  have how0 := Lib.hid (Lay.slice_empty 31 Lay.actL w0)
  have hal0 := Lib.hid (below_then HB0.out ((Below.refl w0.heap.size w0).alloc (Nat.le_refl _) (.cells #[] 31)))
  have hz0 := Lib.hid HB0.out.size
  go_wp2
  go_loopw [6, 7] (fun list i wr => ∃ (k : Nat) (AL : Option Addr) (cL : Nat) (L : List At) (fp : List Nat), k ≤ es.length ∧ i = .int .i64 k ∧ list = .slice AL L.length cL ∧ L = (List.range k).flatMap (wAt es os) ∧ L.length ≤ 301 * k ∧ (∀ q (hq : q < os.length), os[q].1 < (k : Int) → badF os[q] = false) ∧ Lay.acts.ow wr [.slice AL L.length cL] L fp ∧ fp.Nodup ∧ (∀ x ∈ fp, w.heap.size ≤ x ∧ x < wr.heap.size) ∧ Below w.heap.size w wr) (fun _ i _ => es.length - (intOf i).toNat)
  case atStart => exact ⟨0, some ⟨w0.heap.size, 0, none⟩, 0, [], [w0.heap.size], Nat.zero_le _, rfl, rfl, by simp, by simp, fun q hq h => absurd h (by have := outsOk_asc HOK.out hq; omega), how0.out, by simp, by intro z hz; simp at hz; subst hz; exact ⟨hz0.out, by simp⟩, hal0.out⟩
  case round =>
    clear how0 hal0 hz0
    obtain ⟨k, AL0, cL0, L0, fp0, hk, rfl, rfl, hL, hLl, hbad, how, hnd, hfp, hb⟩ := hrel
    by_cases hlt : k < es.length
    case neg =>
      have e9 : k = es.length := by omega
      have hw9 : witOk es os = true := wit_all HOK.out (fun q hq h => hbad q hq (by omega))
      have hz : Z = true := by rw [← HZ.out]; exact hw9
      have hl : ZL = L0 := by rw [← HZL.out, hL, e9]; unfold witV; rw [hw9]; rfl
      have HGV := Lib.hid (show GivesW ZL Z w (.returned (.tuple #[.slice AL0 L0.length cL0, .bool true])) wr from ⟨AL0, cL0, fp0, by rw [hz, hl], by rw [hl]; exact how, hnd, fun z hz => (hfp z hz).1, hb⟩)
      clear hL hLl hbad how hnd hfp hb e9 hw9 hz hl
      go_wp2
      refine bodyPost_ret (v := .tuple #[.slice AL0 L0.length cL0, .bool true]) (by simp [results, Tryd.results23, go_sem]) rfl ?_
      exact HGV.out
    have hki : (k : Int) < (es.length : Int) := by omega
    have hk0 : (0 : Int) ≤ (k : Int) := by omega
    obtain ⟨g2, ex, es9, ep, DD, dl, dc, rfl, hg2, he2, e0, e1, e2, e3, n0, n1, n2, _⟩ := ev_own (hE.below hb) k hlt
    have hgd : es.getD k dEv = (ex, es9, ep, dl) := by rw [getD_lt hlt, he2]
    obtain ⟨PRE, hPRE⟩ : ∃ z, (List.range k).flatMap (wAt es os) ++ tkOf (es.getD k dEv) = z := ⟨_, rfl⟩
    have HPRE := Lib.hid hPRE
    have HBAD := Lib.hid hbad
    have HOW := Lib.hid how
    have HND := Lib.hid hnd
    have HFP := Lib.hid hfp
    have HB := Lib.hid hb
    have I1 := Lib.hid (show isI 1 from ⟨by decide, by decide⟩)
    have I0 := Lib.hid (show isI 0 from ⟨by decide, by decide⟩)
    by_cases c3 : ex = 3
    case pos =>
      have d3 : (ex == 3) = true := by simp [c3]
      have hpl : L0 ++ [((2 : Int), ep, (0 : Int), (0 : Int), (0 : Int), (0 : Int), (0 : Int), (0 : Int), ([] : List UInt8))] = PRE := by
        rw [← hPRE, hL, hgd]; unfold tkOf; rw [if_pos c3]
      have HPL := Lib.hid hpl
      have HN2 := Lib.hid n2
      clear hpl hPRE hgd hL hbad how hnd hfp hb he2 c3 n0 n1 n2 e1 e3
      go_upto_region 8 with fail
      have hal4 := (Below.refl wr.heap.size wr).alloc (Nat.le_refl _) (.cells #[.int .i64 2, .int .i64 ep, .int .i64 0, .int .i64 0, .int .i64 0, .int .i64 0, .int .i64 0, .int .i64 0, .slice none 0 0] 31)
      have how5 := Lay.acts.owBelow HOW.out hal4
      have hb5 := below_then HB.out hal4
      go_wp2_with (at_builtin; go_must (refine wpList_app_one rfl _ _ 49 rfl 31 Lay.actL (.agg #[.int .i64 0, .int .i64 0, .int .i64 0, .int .i64 0, .int .i64 0, .int .i64 0, .int .i64 0, .int .i64 0, .slice none 0 0]) 9 88 Tryd.underlying49 Tryd.infoAct rfl rfl (by decide) (by decide) _ L0 fp0 [.int .i64 2, .int .i64 ep, .int .i64 0, .int .i64 0, .int .i64 0, .int .i64 0, .int .i64 0, .int .i64 0, .slice none 0 0] (2, ep, 0, 0, 0, 0, 0, 0, []) _ ⟨wr.heap.size, 0, none⟩ 1 rfl rfl how5 HND.out (own_tick HN2.out) (by simp) wr.heap.size (fun z hz => (HFP.out z hz).2) (by simp) ?c3 (by omega) ?_))
      case c3 => exact cellsA (Blk.new wr #[.int .i64 2, .int .i64 ep, .int .i64 0, .int .i64 0, .int .i64 0, .int .i64 0, .int .i64 0, .int .i64 0, .slice none 0 0] 31)
      intro v6 w6 fp6 how6 hn6 hf6 hg6
      have hs6 := hg6.size
      rw [alloc_size] at hs6
      have hb6 := hb5.grown hg6 hb5.size (fun z hz => (HFP.out z (by obtain ⟨es9, _, _, _, e9⟩ := ow_one how5; rw [e9, hz]; simp)).1)
      have hf6' : ∀ z ∈ fp6, w.heap.size ≤ z ∧ z < w6.heap.size := fun z hz => by
        refine ⟨?_, Lay.acts.lt how6 z hz⟩
        rcases hf6 z hz with h | h2
        · exact (HFP.out z h).1
        · have h3 : z = (wr.alloc (.cells #[.int .i64 2, .int .i64 ep, .int .i64 0, .int .i64 0, .int .i64 0, .int .i64 0, .int .i64 0, .int .i64 0, .slice none 0 0] 31)).heap.size := by simpa using h2
          rw [h3]; have := HB.out.size; simp; omega
      obtain ⟨A6, c6, hv6, _, _, _⟩ := Lay.acts_rd (Lay.acts.read how6)
      obtain rfl : v6 = .slice A6 (L0 ++ [((2 : Int), ep, (0 : Int), (0 : Int), (0 : Int), (0 : Int), (0 : Int), (0 : Int), ([] : List UInt8))]).length c6 := by simpa using hv6
      have HOW6 := Lib.hid how6
      have HN6 := Lib.hid hn6
      have HF6 := Lib.hid hf6'
      have HB6 := Lib.hid hb6
      clear how5 hb5 hg6 hf6 how6 hn6 hf6' hb6 hal4 hs6 hv6 HOW HND HFP HB e0 e2
      obtain ⟨L1, hL1⟩ : ∃ z, L0 ++ [((2 : Int), ep, (0 : Int), (0 : Int), (0 : Int), (0 : Int), (0 : Int), (0 : Int), ([] : List UInt8))] = z := ⟨_, rfl⟩
      have HLL := Lib.hid (show L1.length ≤ 301 * k + 1 by rw [← hL1]; simp; omega)
      rw [hL1] at HOW6 HPL ⊢
      clear hL1
      have HST0 := Lib.hid HOW6.out
      have HST1 := Lib.hid HN6.out
      have HST2 := Lib.hid HF6.out
      have HST3 := Lib.hid HB6.out
      go_wp2
      go_loopw [6, 8] (fun list j wr => ∃ (m : Nat) (AL : Option Addr) (cL : Nat) (L : List At) (fp : List Nat), m ≤ os.length ∧ j = .int .i64 m ∧ list = .slice AL L.length cL ∧ L = PRE ++ ((os.take m).filter (isAt k)).map actOf ∧ L.length ≤ 301 * k + 1 + m ∧ (∀ q (hq : q < os.length), q < m → os[q].1 = (k : Int) → badF os[q] = false) ∧ Lay.acts.ow wr [.slice AL L.length cL] L fp ∧ fp.Nodup ∧ (∀ x ∈ fp, w.heap.size ≤ x ∧ x < wr.heap.size) ∧ Below w.heap.size w wr) (fun _ j _ => os.length - (intOf j).toNat)
      case atStart => exact ⟨0, A6, c6, L1, fp6, Nat.zero_le _, rfl, rfl, by simpa using HPL.out, by have := HLL.out; omega, fun q hq h => absurd h (by omega), HST0.out, HST1.out, HST2.out, HST3.out⟩
      case round =>
        clear HST0 HST1 HST2 HST3
        obtain ⟨m, AL, cL, L, fp, hm, rfl, rfl, hL, hLl, hin, how, hnd, hfp, hb⟩ := hrel
        have HL := Lib.hid hL
        have HIN := Lib.hid hin
        have HOW := Lib.hid how
        have HND := Lib.hid hnd
        have HFP := Lib.hid hfp
        have HB := Lib.hid hb
        clear hL hin how hnd hfp
        by_cases hlm : m < os.length
        case neg =>
          have e8 : m = os.length := by omega
          have hL2 : L = (List.range (k + 1)).flatMap (wAt es os) := by
            have h1 := HL.out
            rw [e8, List.take_length] at h1
            rw [wit_succ, h1, ← HPRE.out, List.append_assoc]
            rfl
          have HL2 := Lib.hid hL2
          have HBAD2 := Lib.hid (show ∀ q (hq : q < os.length), os[q].1 < ((k + 1 : Nat) : Int) → badF os[q] = false from fun q hq h => by
            rcases Int.lt_or_eq_of_le (show os[q].1 ≤ (k : Int) by omega) with h1 | h1
            · exact HBAD.out q hq h1
            · exact HIN.out q hq (by omega) h1)
          have hL6 : L.length ≤ 301 * (k + 1) := by omega
          clear hL2 e8 hb
          go_wp2
          go_roundw
          case rel => exact ⟨k + 1, AL, cL, L, fp, by omega, by go_num, rfl, HL2.out, hL6, HBAD2.out, HOW.out, HND.out, HFP.out, HB.out⟩
          case measure => simp [intOf]; omega
        obtain ⟨b, off, a, u, x, s, p, q, r, f, y, i, j, AA, l, cc, CC, mm, dd, hAd, hblw, hek, j0, j1, j2, j3, j4, j5, j6, j7, j8, j9, j10, j11, j12, i0, i1, i2, i3, i4, i5, i6, i7, i8, i9, i10, hl0, hc0, hb0, hl1, hc1, hb1⟩ := hO.at_ m hlm
        subst hAd
        have k0 := (hb.cell (p := ⟨b, off + m * 13, none⟩) hblw).trans j0
        have k1 := (hb.cell (p := ⟨b, off + m * 13 + 1, none⟩) hblw).trans j1
        have k2 := (hb.cell (p := ⟨b, off + m * 13 + 2, none⟩) hblw).trans j2
        have k3 := (hb.cell (p := ⟨b, off + m * 13 + 3, none⟩) hblw).trans j3
        have k4 := (hb.cell (p := ⟨b, off + m * 13 + 4, none⟩) hblw).trans j4
        have k5 := (hb.cell (p := ⟨b, off + m * 13 + 5, none⟩) hblw).trans j5
        have k6 := (hb.cell (p := ⟨b, off + m * 13 + 6, none⟩) hblw).trans j6
        have k7 := (hb.cell (p := ⟨b, off + m * 13 + 7, none⟩) hblw).trans j7
        have k8 := (hb.cell (p := ⟨b, off + m * 13 + 8, none⟩) hblw).trans j8
        have k9 := (hb.cell (p := ⟨b, off + m * 13 + 9, none⟩) hblw).trans j9
        have hblr : b < wr.heap.size := Nat.lt_of_lt_of_le hblw hb.size
        have hl6 : l.length ≤ 100000000 := by
          have h1 := sumB_mem obt os m hlm
          rw [hek] at h1
          have h2 : l.length + mm.length ≤ sumB obt os := h1
          omega
        have hmj : (m : Int) < (os.length : Int) := by omega
        have hmj0 : (0 : Int) ≤ (m : Int) := by omega
        have HEK := Lib.hid hek
        have HBL := Lib.hid (hb0.below hb)
        have I2 := Lib.hid i2
        have I3 := Lib.hid i3
        have I4 := Lib.hid i4
        have I5 := Lib.hid i5
        have I6 := Lib.hid i6
        have I7 := Lib.hid i7
        have hno : isAt k os[m] = false → L = PRE ++ ((os.take (m + 1)).filter (isAt k)).map actOf := fun h => by rw [filt_no hlm h]; exact HL.out
        have HNO := Lib.hid hno
        have hst : (os[m].1 = (k : Int) → badF os[m] = false) → ∀ q (hq : q < os.length), q < m + 1 → os[q].1 = (k : Int) → badF os[q] = false := fun h q hq hqm he => by
          rcases Nat.lt_succ_iff_lt_or_eq.1 hqm with h1 | h1
          · exact HIN.out q hq h1 he
          · subst h1; exact h he
        have HSTEP := Lib.hid hst
        clear hno hst hek hb hb0 hb1 hl0 hc0 hl1 hc1 i0 i1 i2 i3 i4 i5 i6 i7 i8 i9 i10
        by_cases c5 : a = (k : Int)
        case neg =>
          have d5 : (a == (k : Int)) = false := by simp [c5]
          have HN := Lib.hid (HNO.out (by rw [HEK.out]; unfold isAt; rw [decide_eq_false c5]; rfl))
          have HS := Lib.hid (HSTEP.out (fun h => absurd (by rw [HEK.out] at h; exact h) c5))
          clear c5
          go_wp2
          go_roundw
          case rel => exact ⟨m + 1, AL, cL, L, fp, by omega, by go_num, rfl, HN.out, by omega, HS.out, HOW.out, HND.out, HFP.out, HB.out⟩
          case measure => simp [intOf]; omega
        have d5 : (a == (k : Int)) = true := by simp [c5]
        have HC5 := Lib.hid c5
        clear c5
        obtain ⟨zd, hzd⟩ : ∃ z, dn y = z := ⟨_, rfl⟩
        have HZD := Lib.hid hzd
        clear hzd
        go_wp2_with fail
        refine (l12Done_any y _).mono ?_
        rintro e w8 ⟨rfl, hw8⟩
        have hw9 := hw8.symm
        clear hw8
        subst hw9
        rw [HZD.out]
        cases zd
        case false =>
          have HN := Lib.hid (HNO.out (by rw [HEK.out]; unfold isAt; simp only; rw [HZD.out, Bool.and_false]))
          have HS := Lib.hid (HSTEP.out (fun h => by rw [HEK.out]; unfold badF; simp only; rw [HZD.out]; rfl))
          go_wp2
          go_roundw
          case rel => exact ⟨m + 1, AL, cL, L, fp, by omega, by go_num, rfl, HN.out, by omega, HS.out, HOW.out, HND.out, HFP.out, HB.out⟩
          case measure => simp [intOf]; omega
        by_cases c7 : f < 0
        case pos =>
          have hw9 : witOk es os = false := wit_bad hlm (by rw [HEK.out]; unfold badF; simp only; rw [HZD.out, decide_eq_true c7]; rfl)
          have hz : Z = false := by rw [← HZ.out]; exact hw9
          have hl : ZL = [] := by rw [← HZL.out]; unfold witV; rw [hw9]; rfl
          subst hz
          subst hl
          clear hw9
          go_wp2
          refine bodyPost_ret (v := .tuple #[.slice none 0 0, .bool false]) (by simp [results, Tryd.results23, go_sem]) rfl ?_
          exact ⟨none, 0, [], rfl, Lay.slice_nil _ _ _, by simp, by simp, HB.out⟩

        have HS := Lib.hid (HSTEP.out (fun h => by rw [HEK.out]; unfold badF; simp only; rw [decide_eq_false c7, Bool.and_false]))
        have HN := Lib.hid (show L ++ [(1, 0, f, x, s, p, q, r, l)] = PRE ++ ((os.take (m + 1)).filter (isAt k)).map actOf by
          rw [filt_yes hlm (by rw [HEK.out]; unfold isAt; simp only; rw [HZD.out, decide_eq_true HC5.out]; rfl), ← List.append_assoc, ← HL.out, HEK.out]
          rfl)
        clear k0 k1 k9
        go_upto_region 15 with fail
        refine wp_region_held_drew (S := (fun V => V.cell? ⟨b, off + m * 13 + 2, none⟩ = some (.int .i64 x) ∧ V.cell? ⟨b, off + m * 13 + 3, none⟩ = some (.int .i64 s) ∧ V.cell? ⟨b, off + m * 13 + 4, none⟩ = some (.int .i64 p) ∧ V.cell? ⟨b, off + m * 13 + 5, none⟩ = some (.int .i64 q) ∧ V.cell? ⟨b, off + m * 13 + 6, none⟩ = some (.int .i64 r) ∧ V.cell? ⟨b, off + m * 13 + 7, none⟩ = some (.slice AA l.length cc) ∧ V.cell? ⟨b, off + m * 13 + 8, none⟩ = some (.int .i64 f))) (by kernel_rfl) (by exact ⟨k2, k3, k4, k5, k6, k7, k8⟩) (fun hHeld => ?_)
        refine wpAnyH_take (i := 0) (oi := ?_) (v := ?_) ?_ ?_ ?_ ?_ ?_ ?_ (by exact hHeld) ?_
        rotate_left 2
        · (simp only [List.getElem?_toArray, List.getElem?_cons_zero]; try rfl)
        · kernel_rfl
        · kernel_rfl
        · kernel_rfl
        · exact fun _ _ _ h => h
        · refine Or.inl ⟨by rfl, ?_⟩
          (intro V hSV; (try dsimp only at hSV); obtain ⟨q0, q1, q2, q3, q4, q5, q6⟩ := hSV; go_simp; try with_reducible rfl)
        (try simp only [Act.put, List.setIfInBounds_toArray, List.set_cons_zero, List.set_cons_succ])
        refine wpAnyH_take (i := 1) (oi := ?_) (v := ?_) ?_ ?_ ?_ ?_ ?_ ?_ (by exact hHeld) ?_
        rotate_left 2
        · (simp only [List.getElem?_toArray, List.getElem?_cons_zero, List.getElem?_cons_succ]; try rfl)
        · kernel_rfl
        · kernel_rfl
        · kernel_rfl
        · exact fun _ _ _ h => h
        · refine Or.inl ⟨by rfl, ?_⟩
          (intro V hSV; (try dsimp only at hSV); obtain ⟨q0, q1, q2, q3, q4, q5, q6⟩ := hSV; go_simp; try with_reducible rfl)
        (try simp only [Act.put, List.setIfInBounds_toArray, List.set_cons_zero, List.set_cons_succ])
        refine wpAnyH_take (i := 2) (oi := ?_) (v := ?_) ?_ ?_ ?_ ?_ ?_ ?_ (by exact hHeld) ?_
        rotate_left 2
        · (simp only [List.getElem?_toArray, List.getElem?_cons_zero, List.getElem?_cons_succ]; try rfl)
        · kernel_rfl
        · kernel_rfl
        · kernel_rfl
        · exact fun _ _ _ h => h
        · refine Or.inl ⟨by rfl, ?_⟩
          (intro V hSV; (try dsimp only at hSV); obtain ⟨q0, q1, q2, q3, q4, q5, q6⟩ := hSV; go_simp; try with_reducible rfl)
        (try simp only [Act.put, List.setIfInBounds_toArray, List.set_cons_zero, List.set_cons_succ])
        refine wpAnyH_take (i := 3) (oi := ?_) (v := ?_) ?_ ?_ ?_ ?_ ?_ ?_ (by exact hHeld) ?_
        rotate_left 2
        · (simp only [List.getElem?_toArray, List.getElem?_cons_zero, List.getElem?_cons_succ]; try rfl)
        · kernel_rfl
        · kernel_rfl
        · kernel_rfl
        · exact fun _ _ _ h => h
        · refine Or.inl ⟨by rfl, ?_⟩
          (intro V hSV; (try dsimp only at hSV); obtain ⟨q0, q1, q2, q3, q4, q5, q6⟩ := hSV; go_simp; try with_reducible rfl)
        (try simp only [Act.put, List.setIfInBounds_toArray, List.set_cons_zero, List.set_cons_succ])
        refine wpAnyH_take (i := 4) (oi := ?_) (v := ?_) ?_ ?_ ?_ ?_ ?_ ?_ (by exact hHeld) ?_
        rotate_left 2
        · (simp only [List.getElem?_toArray, List.getElem?_cons_zero, List.getElem?_cons_succ]; try rfl)
        · kernel_rfl
        · kernel_rfl
        · kernel_rfl
        · exact fun _ _ _ h => h
        · refine Or.inl ⟨by rfl, ?_⟩
          (intro V hSV; (try dsimp only at hSV); obtain ⟨q0, q1, q2, q3, q4, q5, q6⟩ := hSV; go_simp; try with_reducible rfl)
        (try simp only [Act.put, List.setIfInBounds_toArray, List.set_cons_zero, List.set_cons_succ])
        refine wpAnyH_take (i := 5) (oi := ?_) (v := ?_) ?_ ?_ ?_ ?_ ?_ ?_ (by exact hHeld) ?_
        rotate_left 2
        · (simp only [List.getElem?_toArray, List.getElem?_cons_zero, List.getElem?_cons_succ]; try rfl)
        · kernel_rfl
        · kernel_rfl
        · kernel_rfl
        · exact fun _ _ _ h => h
        · refine Or.inl ⟨by rfl, ?_⟩
          (intro V hSV; (try dsimp only at hSV); obtain ⟨q0, q1, q2, q3, q4, q5, q6⟩ := hSV; go_simp; try with_reducible rfl)
        (try simp only [Act.put, List.setIfInBounds_toArray, List.set_cons_zero, List.set_cons_succ])
        refine wpAnyH_take (i := 6) (oi := ?_) (v := ?_) ?_ ?_ ?_ ?_ ?_ ?_ (by exact hHeld) ?_
        rotate_left 2
        · (simp only [List.getElem?_toArray, List.getElem?_cons_zero, List.getElem?_cons_succ]; try rfl)
        · kernel_rfl
        · kernel_rfl
        · kernel_rfl
        · exact fun _ _ _ h => h
        · refine Or.inl ⟨by rfl, ?_⟩
          (intro V hSV; (try dsimp only at hSV); obtain ⟨q0, q1, q2, q3, q4, q5, q6⟩ := hSV; go_simp; try with_reducible rfl)
        (try simp only [Act.put, List.setIfInBounds_toArray, List.set_cons_zero, List.set_cons_succ])
        refine wpAnyH_take (i := 7) (oi := ?_) (v := ?_) ?_ ?_ ?_ ?_ ?_ ?_ (by exact hHeld) ?_
        rotate_left 2
        · (simp only [List.getElem?_toArray, List.getElem?_cons_zero, List.getElem?_cons_succ]; try rfl)
        · kernel_rfl
        · kernel_rfl
        · kernel_rfl
        · exact fun _ _ _ h => h
        · refine Or.inl ⟨by rfl, ?_⟩
          (intro V hSV; (try dsimp only at hSV); obtain ⟨q0, q1, q2, q3, q4, q5, q6⟩ := hSV; go_simp; try with_reducible rfl)
        (try simp only [Act.put, List.setIfInBounds_toArray, List.set_cons_zero, List.set_cons_succ])
        refine wpAnyH_take (i := 8) (oi := ?_) (v := ?_) ?_ ?_ ?_ ?_ ?_ ?_ (by exact hHeld) ?_
        rotate_left 2
        · (simp only [List.getElem?_toArray, List.getElem?_cons_zero, List.getElem?_cons_succ]; try rfl)
        · kernel_rfl
        · kernel_rfl
        · kernel_rfl
        · exact fun _ _ _ h => h
        · refine Or.inl ⟨by rfl, ?_⟩
          (intro V hSV; (try dsimp only at hSV); obtain ⟨q0, q1, q2, q3, q4, q5, q6⟩ := hSV; go_simp; try with_reducible rfl)
        (try simp only [Act.put, List.setIfInBounds_toArray, List.set_cons_zero, List.set_cons_succ])
        refine wpAnyH_take (i := 9) (oi := ?_) (v := ?_) ?_ ?_ ?_ ?_ ?_ ?_ (by exact hHeld) ?_
        rotate_left 2
        · (simp only [List.getElem?_toArray, List.getElem?_cons_zero, List.getElem?_cons_succ]; try rfl)
        · kernel_rfl
        · kernel_rfl
        · kernel_rfl
        · exact fun _ _ _ h => h
        · refine Or.inl ⟨by rfl, ?_⟩
          (intro V hSV; (try dsimp only at hSV); obtain ⟨q0, q1, q2, q3, q4, q5, q6⟩ := hSV; go_simp; try with_reducible rfl)
        (try simp only [Act.put, List.setIfInBounds_toArray, List.set_cons_zero, List.set_cons_succ])
        refine wpAnyH_take (i := 10) (oi := ?_) (v := ?_) ?_ ?_ ?_ ?_ ?_ ?_ (by exact hHeld) ?_
        rotate_left 2
        · (simp only [List.getElem?_toArray, List.getElem?_cons_zero, List.getElem?_cons_succ]; try rfl)
        · kernel_rfl
        · kernel_rfl
        · kernel_rfl
        · exact fun _ _ _ h => h
        · refine Or.inl ⟨by rfl, ?_⟩
          (intro V hSV; (try dsimp only at hSV); obtain ⟨q0, q1, q2, q3, q4, q5, q6⟩ := hSV; go_simp; try with_reducible rfl)
        (try simp only [Act.put, List.setIfInBounds_toArray, List.set_cons_zero, List.set_cons_succ])
        refine wpAnyH_ready (rs := [11]) (by kernel_rfl) (by simp) ?_
        refine AllReadyH.cons rfl (fun K hK => ?_) AllReadyH.nil
        go_simp
        refine (l11Req_any x s p q r AA l cc _ hl6 (by exact HBL.out)).mono ?_
        rintro e w2 ⟨B2, d2, rfl, ho2, hbw2⟩
        have hbw2 : Below wr.heap.size wr w2 := ⟨hbw2.os, hbw2.tape, hbw2.output, hbw2.size, hbw2.block⟩
        have hbR := hbw2
        have ho2 : Own w2 wr.heap.size (.slice B2 l.length d2) l := ho2
        have HO2 := Lib.hid ho2
        have HR2 := Lib.hid ho2.range
        have HSZ2 := Lib.hid hbw2.size
        have HOW2 := Lib.hid (Lay.acts.owBelow HOW.out hbw2)
        have HB2 := Lib.hid (below_then HB.out hbw2)
        clear ho2
        go_wp2_with fail
        refine hK.out _ _ (by exact ⟨((hbR).cell (p := ⟨b, off + m * 13 + 2, none⟩) hblr).trans k2, ((hbR).cell (p := ⟨b, off + m * 13 + 3, none⟩) hblr).trans k3, ((hbR).cell (p := ⟨b, off + m * 13 + 4, none⟩) hblr).trans k4, ((hbR).cell (p := ⟨b, off + m * 13 + 5, none⟩) hblr).trans k5, ((hbR).cell (p := ⟨b, off + m * 13 + 6, none⟩) hblr).trans k6, ((hbR).cell (p := ⟨b, off + m * 13 + 7, none⟩) hblr).trans k7, ((hbR).cell (p := ⟨b, off + m * 13 + 8, none⟩) hblr).trans k8⟩) (fun hHeld => ?_)
        clear hK K
        (try simp only [Act.put, List.setIfInBounds_toArray, List.set_cons_zero, List.set_cons_succ])
        refine wpAnyH_take (i := 12) (oi := ?_) (v := ?_) ?_ ?_ ?_ ?_ ?_ ?_ (by exact hHeld) ?_
        rotate_left 2
        · (simp only [List.getElem?_toArray, List.getElem?_cons_zero, List.getElem?_cons_succ]; try rfl)
        · kernel_rfl
        · kernel_rfl
        · kernel_rfl
        · exact fun _ _ _ h => h
        · refine Or.inl ⟨by rfl, ?_⟩
          (intro V hSV; (try dsimp only at hSV); obtain ⟨q0, q1, q2, q3, q4, q5, q6⟩ := hSV; go_simp; try with_reducible rfl)
        (try simp only [Act.put, List.setIfInBounds_toArray, List.set_cons_zero, List.set_cons_succ])
        refine wpAnyH_ready (rs := [13]) (by kernel_rfl) (by simp) ?_
        refine AllReadyH.cons (o := ?_) ?_ (fun K hK => ?_) AllReadyH.nil
        rotate_left 1
        · (simp only [List.getElem?_toArray, List.getElem?_cons_zero, List.getElem?_cons_succ]; try rfl)
        have HG := Lib.hid (Blk.new w2 #[.int .i64 1, .int .i64 0, .int .i64 f, .int .i64 x, .int .i64 s, .int .i64 p, .int .i64 q, .int .i64 r, .slice B2 l.length d2] 31)
        have hal := (Below.refl w2.heap.size w2).alloc (Nat.le_refl _) (.cells #[.int .i64 1, .int .i64 0, .int .i64 f, .int .i64 x, .int .i64 s, .int .i64 p, .int .i64 q, .int .i64 r, .slice B2 l.length d2] 31)
        have HO3 := Lib.hid (HO2.out.below hal)
        have HOW3 := Lib.hid (Lay.acts.owBelow HOW2.out hal)
        have HB3 := Lib.hid (below_then HB2.out hal)
        have HSZ3 := Lib.hid (show w2.heap.size + 1 ≤ (w2.alloc (.cells #[.int .i64 1, .int .i64 0, .int .i64 f, .int .i64 x, .int .i64 s, .int .i64 p, .int .i64 q, .int .i64 r, .slice B2 l.length d2] 31)).heap.size by simp)
        clear hal
        go_simp
        generalize hg4 : w2.heap.size = g4 at HG HSZ3 HSZ2 ⊢
        generalize w2.alloc (.cells #[.int .i64 1, .int .i64 0, .int .i64 f, .int .i64 x, .int .i64 s, .int .i64 p, .int .i64 q, .int .i64 r, .slice B2 l.length d2] 31) = w3 at HG HO3 HOW3 HB3 HSZ3 ⊢
        have HG := Lib.hid (show Blk w3 g4 ([.int .i64 1, .int .i64 0, .int .i64 f, .int .i64 x, .int .i64 s, .int .i64 p, .int .i64 q, .int .i64 r, .slice B2 l.length d2] : List Value).toArray 31 from HG.out)
        refine hK.out _ _ (by exact ⟨((HB3.out).cell (p := ⟨b, off + m * 13 + 2, none⟩) hblw).trans j2, ((HB3.out).cell (p := ⟨b, off + m * 13 + 3, none⟩) hblw).trans j3, ((HB3.out).cell (p := ⟨b, off + m * 13 + 4, none⟩) hblw).trans j4, ((HB3.out).cell (p := ⟨b, off + m * 13 + 5, none⟩) hblw).trans j5, ((HB3.out).cell (p := ⟨b, off + m * 13 + 6, none⟩) hblw).trans j6, ((HB3.out).cell (p := ⟨b, off + m * 13 + 7, none⟩) hblw).trans j7, ((HB3.out).cell (p := ⟨b, off + m * 13 + 8, none⟩) hblw).trans j8⟩) (fun hHeld => ?_)
        clear hK K hg4
        (try simp only [Act.put, List.setIfInBounds_toArray, List.set_cons_zero, List.set_cons_succ])
        refine wpAnyH_ready (rs := [14]) (by kernel_rfl) (by simp) ?_
        refine AllReadyH.cons (o := ?_) ?_ (fun K hK => ?_) AllReadyH.nil
        rotate_left 1
        · (simp only [List.getElem?_toArray, List.getElem?_cons_zero, List.getElem?_cons_succ]; try rfl)
        refine step_app_act rfl (.tmp 63) (.tmp 76) 49 rfl 31 Lay.actL (.agg #[.int .i64 0, .int .i64 0, .int .i64 0, .int .i64 0, .int .i64 0, .int .i64 0, .int .i64 0, .int .i64 0, .slice none 0 0]) 9 88 Tryd.underlying49 Tryd.infoAct rfl rfl (by decide) (by decide) (.slice AL L.length cL) L fp [.int .i64 1, .int .i64 0, .int .i64 f, .int .i64 x, .int .i64 s, .int .i64 p, .int .i64 q, .int .i64 r, .slice B2 l.length d2] (1, 0, f, x, s, p, q, r, l) _ ⟨g4, 0, none⟩ 1 rfl rfl (by exact HOW3.out) HND.out (by exact own_act I1.out I0.out I7.out I2.out I3.out I4.out I5.out I6.out HO3.out) HO3.out.fp.1 wr.heap.size (fun z hz => (HFP.out z hz).2) (fun z hz => (HR2.out z hz).1) (cellsA HG.out) (by omega) ?_
        intro v6 w6 fp6 how6 hn6 hf6 hg6
        have hs6 := hg6.size
        have hb6 : Below w.heap.size w w6 := HB3.out.grown hg6 HB3.out.size (fun z hz => (HFP.out z (by obtain ⟨es9, _, _, _, e9⟩ := ow_one HOW3.out; rw [e9, hz]; simp)).1)
        have hf6' : ∀ z ∈ fp6, w.heap.size ≤ z ∧ z < w6.heap.size := fun z hz => by
          refine ⟨?_, Lay.acts.lt how6 z hz⟩
          rcases hf6 z hz with h | h | h
          · exact (HFP.out z h).1
          · have := (HR2.out z (by simpa using h)).1; have := HB.out.size; omega
          · have := HB3.out.size; omega
        obtain ⟨A6, c6, hv6, _, _, _⟩ := Lay.acts_rd (Lay.acts.read how6)
        obtain rfl : v6 = .slice A6 (L ++ [(1, 0, f, x, s, p, q, r, l)]).length c6 := by simpa using hv6
        have HOW6 := Lib.hid how6
        have HN6 := Lib.hid hn6
        have HF6 := Lib.hid hf6'
        have HB6 := Lib.hid hb6
        clear how6 hn6 hf6 hf6' hb6 hg6 hs6 hv6
        refine hK.out _ _ (by exact ⟨((HB6.out).cell (p := ⟨b, off + m * 13 + 2, none⟩) hblw).trans j2, ((HB6.out).cell (p := ⟨b, off + m * 13 + 3, none⟩) hblw).trans j3, ((HB6.out).cell (p := ⟨b, off + m * 13 + 4, none⟩) hblw).trans j4, ((HB6.out).cell (p := ⟨b, off + m * 13 + 5, none⟩) hblw).trans j5, ((HB6.out).cell (p := ⟨b, off + m * 13 + 6, none⟩) hblw).trans j6, ((HB6.out).cell (p := ⟨b, off + m * 13 + 7, none⟩) hblw).trans j7, ((HB6.out).cell (p := ⟨b, off + m * 13 + 8, none⟩) hblw).trans j8⟩) (fun hHeld => ?_)
        clear hK K
        (try simp only [Act.put, List.setIfInBounds_toArray, List.set_cons_zero, List.set_cons_succ])
        refine wpAnyH_take (i := 15) (oi := ?_) (v := ?_) ?_ ?_ ?_ ?_ ?_ ?_ (by exact hHeld) ?_
        rotate_left 2
        · (simp only [List.getElem?_toArray, List.getElem?_cons_zero, List.getElem?_cons_succ]; try rfl)
        · kernel_rfl
        · kernel_rfl
        · kernel_rfl
        · exact fun _ _ _ h => h
        · refine Or.inl ⟨by rfl, ?_⟩
          (intro V hSV; (try dsimp only at hSV); obtain ⟨q0, q1, q2, q3, q4, q5, q6⟩ := hSV; go_simp; try with_reducible rfl)
        (try simp only [Act.put, List.setIfInBounds_toArray, List.set_cons_zero, List.set_cons_succ])
        refine wpAnyH_done (by kernel_rfl) ?_ _

        obtain ⟨L2, hL2⟩ : ∃ L2, L ++ [(1, 0, f, x, s, p, q, r, l)] = L2 := ⟨_, rfl⟩
        have hLl2 : L2.length ≤ 301 * k + 1 + (m + 1) := by rw [← hL2]; simp; omega
        have HLN := Lib.hid (show L.length + 1 = L2.length by rw [← hL2]; simp)
        rw [hL2] at HOW6 HN ⊢
        clear hL2 hHeld
        go_wp2
        go_roundw
        case rel => exact ⟨m + 1, A6, c6, L2, fp6, by omega, by go_num, by first | rfl | rw [HLN.out], HN.out, hLl2, HS.out, HOW6.out, HN6.out, HF6.out, HB6.out⟩
        case measure => simp [intOf]; omega

    have d3 : (ex == 3) = false := by simp [c3]
    have hpl : L0 = PRE := by rw [← hPRE, hL, hgd]; unfold tkOf; rw [if_neg c3, List.append_nil]
    have HPL := Lib.hid hpl
    have HLL := Lib.hid (show L0.length ≤ 301 * k + 1 by omega)
    clear hpl hPRE hgd hL hbad how hnd hfp hb he2 c3 n0 n1 n2 e1 e2 e3
    have HST0 := Lib.hid HOW.out
    have HST1 := Lib.hid HND.out
    have HST2 := Lib.hid HFP.out
    have HST3 := Lib.hid HB.out
    go_wp2
    go_loopw [6, 8] (fun list j wr => ∃ (m : Nat) (AL : Option Addr) (cL : Nat) (L : List At) (fp : List Nat), m ≤ os.length ∧ j = .int .i64 m ∧ list = .slice AL L.length cL ∧ L = PRE ++ ((os.take m).filter (isAt k)).map actOf ∧ L.length ≤ 301 * k + 1 + m ∧ (∀ q (hq : q < os.length), q < m → os[q].1 = (k : Int) → badF os[q] = false) ∧ Lay.acts.ow wr [.slice AL L.length cL] L fp ∧ fp.Nodup ∧ (∀ x ∈ fp, w.heap.size ≤ x ∧ x < wr.heap.size) ∧ Below w.heap.size w wr) (fun _ j _ => os.length - (intOf j).toNat)
    case atStart => exact ⟨0, AL0, cL0, L0, fp0, Nat.zero_le _, rfl, rfl, by simpa using HPL.out, by have := HLL.out; omega, fun q hq h => absurd h (by omega), HST0.out, HST1.out, HST2.out, HST3.out⟩
    case round =>
      clear HST0 HST1 HST2 HST3
      obtain ⟨m, AL, cL, L, fp, hm, rfl, rfl, hL, hLl, hin, how, hnd, hfp, hb⟩ := hrel
      have HL := Lib.hid hL
      have HIN := Lib.hid hin
      have HOW := Lib.hid how
      have HND := Lib.hid hnd
      have HFP := Lib.hid hfp
      have HB := Lib.hid hb
      clear hL hin how hnd hfp
      by_cases hlm : m < os.length
      case neg =>
        have e8 : m = os.length := by omega
        have hL2 : L = (List.range (k + 1)).flatMap (wAt es os) := by
          have h1 := HL.out
          rw [e8, List.take_length] at h1
          rw [wit_succ, h1, ← HPRE.out, List.append_assoc]
          rfl
        have HL2 := Lib.hid hL2
        have HBAD2 := Lib.hid (show ∀ q (hq : q < os.length), os[q].1 < ((k + 1 : Nat) : Int) → badF os[q] = false from fun q hq h => by
          rcases Int.lt_or_eq_of_le (show os[q].1 ≤ (k : Int) by omega) with h1 | h1
          · exact HBAD.out q hq h1
          · exact HIN.out q hq (by omega) h1)
        have hL6 : L.length ≤ 301 * (k + 1) := by omega
        clear hL2 e8 hb
        go_wp2
        go_roundw
        case rel => exact ⟨k + 1, AL, cL, L, fp, by omega, by go_num, rfl, HL2.out, hL6, HBAD2.out, HOW.out, HND.out, HFP.out, HB.out⟩
        case measure => simp [intOf]; omega
      obtain ⟨b, off, a, u, x, s, p, q, r, f, y, i, j, AA, l, cc, CC, mm, dd, hAd, hblw, hek, j0, j1, j2, j3, j4, j5, j6, j7, j8, j9, j10, j11, j12, i0, i1, i2, i3, i4, i5, i6, i7, i8, i9, i10, hl0, hc0, hb0, hl1, hc1, hb1⟩ := hO.at_ m hlm
      subst hAd
      have k0 := (hb.cell (p := ⟨b, off + m * 13, none⟩) hblw).trans j0
      have k1 := (hb.cell (p := ⟨b, off + m * 13 + 1, none⟩) hblw).trans j1
      have k2 := (hb.cell (p := ⟨b, off + m * 13 + 2, none⟩) hblw).trans j2
      have k3 := (hb.cell (p := ⟨b, off + m * 13 + 3, none⟩) hblw).trans j3
      have k4 := (hb.cell (p := ⟨b, off + m * 13 + 4, none⟩) hblw).trans j4
      have k5 := (hb.cell (p := ⟨b, off + m * 13 + 5, none⟩) hblw).trans j5
      have k6 := (hb.cell (p := ⟨b, off + m * 13 + 6, none⟩) hblw).trans j6
      have k7 := (hb.cell (p := ⟨b, off + m * 13 + 7, none⟩) hblw).trans j7
      have k8 := (hb.cell (p := ⟨b, off + m * 13 + 8, none⟩) hblw).trans j8
      have k9 := (hb.cell (p := ⟨b, off + m * 13 + 9, none⟩) hblw).trans j9
      have hblr : b < wr.heap.size := Nat.lt_of_lt_of_le hblw hb.size
      have hl6 : l.length ≤ 100000000 := by
        have h1 := sumB_mem obt os m hlm
        rw [hek] at h1
        have h2 : l.length + mm.length ≤ sumB obt os := h1
        omega
      have hmj : (m : Int) < (os.length : Int) := by omega
      have hmj0 : (0 : Int) ≤ (m : Int) := by omega
      have HEK := Lib.hid hek
      have HBL := Lib.hid (hb0.below hb)
      have I2 := Lib.hid i2
      have I3 := Lib.hid i3
      have I4 := Lib.hid i4
      have I5 := Lib.hid i5
      have I6 := Lib.hid i6
      have I7 := Lib.hid i7
      have hno : isAt k os[m] = false → L = PRE ++ ((os.take (m + 1)).filter (isAt k)).map actOf := fun h => by rw [filt_no hlm h]; exact HL.out
      have HNO := Lib.hid hno
      have hst : (os[m].1 = (k : Int) → badF os[m] = false) → ∀ q (hq : q < os.length), q < m + 1 → os[q].1 = (k : Int) → badF os[q] = false := fun h q hq hqm he => by
        rcases Nat.lt_succ_iff_lt_or_eq.1 hqm with h1 | h1
        · exact HIN.out q hq h1 he
        · subst h1; exact h he
      have HSTEP := Lib.hid hst
      clear hno hst hek hb hb0 hb1 hl0 hc0 hl1 hc1 i0 i1 i2 i3 i4 i5 i6 i7 i8 i9 i10
      by_cases c5 : a = (k : Int)
      case neg =>
        have d5 : (a == (k : Int)) = false := by simp [c5]
        have HN := Lib.hid (HNO.out (by rw [HEK.out]; unfold isAt; rw [decide_eq_false c5]; rfl))
        have HS := Lib.hid (HSTEP.out (fun h => absurd (by rw [HEK.out] at h; exact h) c5))
        clear c5
        go_wp2
        go_roundw
        case rel => exact ⟨m + 1, AL, cL, L, fp, by omega, by go_num, rfl, HN.out, by omega, HS.out, HOW.out, HND.out, HFP.out, HB.out⟩
        case measure => simp [intOf]; omega
      have d5 : (a == (k : Int)) = true := by simp [c5]
      have HC5 := Lib.hid c5
      clear c5
      obtain ⟨zd, hzd⟩ : ∃ z, dn y = z := ⟨_, rfl⟩
      have HZD := Lib.hid hzd
      clear hzd
      go_wp2_with fail
      refine (l12Done_any y _).mono ?_
      rintro e w8 ⟨rfl, hw8⟩
      have hw9 := hw8.symm
      clear hw8
      subst hw9
      rw [HZD.out]
      cases zd
      case false =>
        have HN := Lib.hid (HNO.out (by rw [HEK.out]; unfold isAt; simp only; rw [HZD.out, Bool.and_false]))
        have HS := Lib.hid (HSTEP.out (fun h => by rw [HEK.out]; unfold badF; simp only; rw [HZD.out]; rfl))
        go_wp2
        go_roundw
        case rel => exact ⟨m + 1, AL, cL, L, fp, by omega, by go_num, rfl, HN.out, by omega, HS.out, HOW.out, HND.out, HFP.out, HB.out⟩
        case measure => simp [intOf]; omega
      by_cases c7 : f < 0
      case pos =>
        have hw9 : witOk es os = false := wit_bad hlm (by rw [HEK.out]; unfold badF; simp only; rw [HZD.out, decide_eq_true c7]; rfl)
        have hz : Z = false := by rw [← HZ.out]; exact hw9
        have hl : ZL = [] := by rw [← HZL.out]; unfold witV; rw [hw9]; rfl
        subst hz
        subst hl
        clear hw9
        go_wp2
        refine bodyPost_ret (v := .tuple #[.slice none 0 0, .bool false]) (by simp [results, Tryd.results23, go_sem]) rfl ?_
        exact ⟨none, 0, [], rfl, Lay.slice_nil _ _ _, by simp, by simp, HB.out⟩

      have HS := Lib.hid (HSTEP.out (fun h => by rw [HEK.out]; unfold badF; simp only; rw [decide_eq_false c7, Bool.and_false]))
      have HN := Lib.hid (show L ++ [(1, 0, f, x, s, p, q, r, l)] = PRE ++ ((os.take (m + 1)).filter (isAt k)).map actOf by
        rw [filt_yes hlm (by rw [HEK.out]; unfold isAt; simp only; rw [HZD.out, decide_eq_true HC5.out]; rfl), ← List.append_assoc, ← HL.out, HEK.out]
        rfl)
      clear k0 k1 k9
      go_upto_region 15 with fail
      refine wp_region_held_drew (S := (fun V => V.cell? ⟨b, off + m * 13 + 2, none⟩ = some (.int .i64 x) ∧ V.cell? ⟨b, off + m * 13 + 3, none⟩ = some (.int .i64 s) ∧ V.cell? ⟨b, off + m * 13 + 4, none⟩ = some (.int .i64 p) ∧ V.cell? ⟨b, off + m * 13 + 5, none⟩ = some (.int .i64 q) ∧ V.cell? ⟨b, off + m * 13 + 6, none⟩ = some (.int .i64 r) ∧ V.cell? ⟨b, off + m * 13 + 7, none⟩ = some (.slice AA l.length cc) ∧ V.cell? ⟨b, off + m * 13 + 8, none⟩ = some (.int .i64 f))) (by kernel_rfl) (by exact ⟨k2, k3, k4, k5, k6, k7, k8⟩) (fun hHeld => ?_)
      refine wpAnyH_take (i := 0) (oi := ?_) (v := ?_) ?_ ?_ ?_ ?_ ?_ ?_ (by exact hHeld) ?_
      rotate_left 2
      · (simp only [List.getElem?_toArray, List.getElem?_cons_zero]; try rfl)
      · kernel_rfl
      · kernel_rfl
      · kernel_rfl
      · exact fun _ _ _ h => h
      · refine Or.inl ⟨by rfl, ?_⟩
        (intro V hSV; (try dsimp only at hSV); obtain ⟨q0, q1, q2, q3, q4, q5, q6⟩ := hSV; go_simp; try with_reducible rfl)
      (try simp only [Act.put, List.setIfInBounds_toArray, List.set_cons_zero, List.set_cons_succ])
      refine wpAnyH_take (i := 1) (oi := ?_) (v := ?_) ?_ ?_ ?_ ?_ ?_ ?_ (by exact hHeld) ?_
      rotate_left 2
      · (simp only [List.getElem?_toArray, List.getElem?_cons_zero, List.getElem?_cons_succ]; try rfl)
      · kernel_rfl
      · kernel_rfl
      · kernel_rfl
      · exact fun _ _ _ h => h
      · refine Or.inl ⟨by rfl, ?_⟩
        (intro V hSV; (try dsimp only at hSV); obtain ⟨q0, q1, q2, q3, q4, q5, q6⟩ := hSV; go_simp; try with_reducible rfl)
      (try simp only [Act.put, List.setIfInBounds_toArray, List.set_cons_zero, List.set_cons_succ])
      refine wpAnyH_take (i := 2) (oi := ?_) (v := ?_) ?_ ?_ ?_ ?_ ?_ ?_ (by exact hHeld) ?_
      rotate_left 2
      · (simp only [List.getElem?_toArray, List.getElem?_cons_zero, List.getElem?_cons_succ]; try rfl)
      · kernel_rfl
      · kernel_rfl
      · kernel_rfl
      · exact fun _ _ _ h => h
      · refine Or.inl ⟨by rfl, ?_⟩
        (intro V hSV; (try dsimp only at hSV); obtain ⟨q0, q1, q2, q3, q4, q5, q6⟩ := hSV; go_simp; try with_reducible rfl)
      (try simp only [Act.put, List.setIfInBounds_toArray, List.set_cons_zero, List.set_cons_succ])
      refine wpAnyH_take (i := 3) (oi := ?_) (v := ?_) ?_ ?_ ?_ ?_ ?_ ?_ (by exact hHeld) ?_
      rotate_left 2
      · (simp only [List.getElem?_toArray, List.getElem?_cons_zero, List.getElem?_cons_succ]; try rfl)
      · kernel_rfl
      · kernel_rfl
      · kernel_rfl
      · exact fun _ _ _ h => h
      · refine Or.inl ⟨by rfl, ?_⟩
        (intro V hSV; (try dsimp only at hSV); obtain ⟨q0, q1, q2, q3, q4, q5, q6⟩ := hSV; go_simp; try with_reducible rfl)
      (try simp only [Act.put, List.setIfInBounds_toArray, List.set_cons_zero, List.set_cons_succ])
      refine wpAnyH_take (i := 4) (oi := ?_) (v := ?_) ?_ ?_ ?_ ?_ ?_ ?_ (by exact hHeld) ?_
      rotate_left 2
      · (simp only [List.getElem?_toArray, List.getElem?_cons_zero, List.getElem?_cons_succ]; try rfl)
      · kernel_rfl
      · kernel_rfl
      · kernel_rfl
      · exact fun _ _ _ h => h
      · refine Or.inl ⟨by rfl, ?_⟩
        (intro V hSV; (try dsimp only at hSV); obtain ⟨q0, q1, q2, q3, q4, q5, q6⟩ := hSV; go_simp; try with_reducible rfl)
      (try simp only [Act.put, List.setIfInBounds_toArray, List.set_cons_zero, List.set_cons_succ])
      refine wpAnyH_take (i := 5) (oi := ?_) (v := ?_) ?_ ?_ ?_ ?_ ?_ ?_ (by exact hHeld) ?_
      rotate_left 2
      · (simp only [List.getElem?_toArray, List.getElem?_cons_zero, List.getElem?_cons_succ]; try rfl)
      · kernel_rfl
      · kernel_rfl
      · kernel_rfl
      · exact fun _ _ _ h => h
      · refine Or.inl ⟨by rfl, ?_⟩
        (intro V hSV; (try dsimp only at hSV); obtain ⟨q0, q1, q2, q3, q4, q5, q6⟩ := hSV; go_simp; try with_reducible rfl)
      (try simp only [Act.put, List.setIfInBounds_toArray, List.set_cons_zero, List.set_cons_succ])
      refine wpAnyH_take (i := 6) (oi := ?_) (v := ?_) ?_ ?_ ?_ ?_ ?_ ?_ (by exact hHeld) ?_
      rotate_left 2
      · (simp only [List.getElem?_toArray, List.getElem?_cons_zero, List.getElem?_cons_succ]; try rfl)
      · kernel_rfl
      · kernel_rfl
      · kernel_rfl
      · exact fun _ _ _ h => h
      · refine Or.inl ⟨by rfl, ?_⟩
        (intro V hSV; (try dsimp only at hSV); obtain ⟨q0, q1, q2, q3, q4, q5, q6⟩ := hSV; go_simp; try with_reducible rfl)
      (try simp only [Act.put, List.setIfInBounds_toArray, List.set_cons_zero, List.set_cons_succ])
      refine wpAnyH_take (i := 7) (oi := ?_) (v := ?_) ?_ ?_ ?_ ?_ ?_ ?_ (by exact hHeld) ?_
      rotate_left 2
      · (simp only [List.getElem?_toArray, List.getElem?_cons_zero, List.getElem?_cons_succ]; try rfl)
      · kernel_rfl
      · kernel_rfl
      · kernel_rfl
      · exact fun _ _ _ h => h
      · refine Or.inl ⟨by rfl, ?_⟩
        (intro V hSV; (try dsimp only at hSV); obtain ⟨q0, q1, q2, q3, q4, q5, q6⟩ := hSV; go_simp; try with_reducible rfl)
      (try simp only [Act.put, List.setIfInBounds_toArray, List.set_cons_zero, List.set_cons_succ])
      refine wpAnyH_take (i := 8) (oi := ?_) (v := ?_) ?_ ?_ ?_ ?_ ?_ ?_ (by exact hHeld) ?_
      rotate_left 2
      · (simp only [List.getElem?_toArray, List.getElem?_cons_zero, List.getElem?_cons_succ]; try rfl)
      · kernel_rfl
      · kernel_rfl
      · kernel_rfl
      · exact fun _ _ _ h => h
      · refine Or.inl ⟨by rfl, ?_⟩
        (intro V hSV; (try dsimp only at hSV); obtain ⟨q0, q1, q2, q3, q4, q5, q6⟩ := hSV; go_simp; try with_reducible rfl)
      (try simp only [Act.put, List.setIfInBounds_toArray, List.set_cons_zero, List.set_cons_succ])
      refine wpAnyH_take (i := 9) (oi := ?_) (v := ?_) ?_ ?_ ?_ ?_ ?_ ?_ (by exact hHeld) ?_
      rotate_left 2
      · (simp only [List.getElem?_toArray, List.getElem?_cons_zero, List.getElem?_cons_succ]; try rfl)
      · kernel_rfl
      · kernel_rfl
      · kernel_rfl
      · exact fun _ _ _ h => h
      · refine Or.inl ⟨by rfl, ?_⟩
        (intro V hSV; (try dsimp only at hSV); obtain ⟨q0, q1, q2, q3, q4, q5, q6⟩ := hSV; go_simp; try with_reducible rfl)
      (try simp only [Act.put, List.setIfInBounds_toArray, List.set_cons_zero, List.set_cons_succ])
      refine wpAnyH_take (i := 10) (oi := ?_) (v := ?_) ?_ ?_ ?_ ?_ ?_ ?_ (by exact hHeld) ?_
      rotate_left 2
      · (simp only [List.getElem?_toArray, List.getElem?_cons_zero, List.getElem?_cons_succ]; try rfl)
      · kernel_rfl
      · kernel_rfl
      · kernel_rfl
      · exact fun _ _ _ h => h
      · refine Or.inl ⟨by rfl, ?_⟩
        (intro V hSV; (try dsimp only at hSV); obtain ⟨q0, q1, q2, q3, q4, q5, q6⟩ := hSV; go_simp; try with_reducible rfl)
      (try simp only [Act.put, List.setIfInBounds_toArray, List.set_cons_zero, List.set_cons_succ])
      refine wpAnyH_ready (rs := [11]) (by kernel_rfl) (by simp) ?_
      refine AllReadyH.cons rfl (fun K hK => ?_) AllReadyH.nil
      go_simp
      refine (l11Req_any x s p q r AA l cc _ hl6 (by exact HBL.out)).mono ?_
      rintro e w2 ⟨B2, d2, rfl, ho2, hbw2⟩
      have hbw2 : Below wr.heap.size wr w2 := ⟨hbw2.os, hbw2.tape, hbw2.output, hbw2.size, hbw2.block⟩
      have hbR := hbw2
      have ho2 : Own w2 wr.heap.size (.slice B2 l.length d2) l := ho2
      have HO2 := Lib.hid ho2
      have HR2 := Lib.hid ho2.range
      have HSZ2 := Lib.hid hbw2.size
      have HOW2 := Lib.hid (Lay.acts.owBelow HOW.out hbw2)
      have HB2 := Lib.hid (below_then HB.out hbw2)
      clear ho2
      go_wp2_with fail
      refine hK.out _ _ (by exact ⟨((hbR).cell (p := ⟨b, off + m * 13 + 2, none⟩) hblr).trans k2, ((hbR).cell (p := ⟨b, off + m * 13 + 3, none⟩) hblr).trans k3, ((hbR).cell (p := ⟨b, off + m * 13 + 4, none⟩) hblr).trans k4, ((hbR).cell (p := ⟨b, off + m * 13 + 5, none⟩) hblr).trans k5, ((hbR).cell (p := ⟨b, off + m * 13 + 6, none⟩) hblr).trans k6, ((hbR).cell (p := ⟨b, off + m * 13 + 7, none⟩) hblr).trans k7, ((hbR).cell (p := ⟨b, off + m * 13 + 8, none⟩) hblr).trans k8⟩) (fun hHeld => ?_)
      clear hK K
      (try simp only [Act.put, List.setIfInBounds_toArray, List.set_cons_zero, List.set_cons_succ])
      refine wpAnyH_take (i := 12) (oi := ?_) (v := ?_) ?_ ?_ ?_ ?_ ?_ ?_ (by exact hHeld) ?_
      rotate_left 2
      · (simp only [List.getElem?_toArray, List.getElem?_cons_zero, List.getElem?_cons_succ]; try rfl)
      · kernel_rfl
      · kernel_rfl
      · kernel_rfl
      · exact fun _ _ _ h => h
      · refine Or.inl ⟨by rfl, ?_⟩
        (intro V hSV; (try dsimp only at hSV); obtain ⟨q0, q1, q2, q3, q4, q5, q6⟩ := hSV; go_simp; try with_reducible rfl)
      (try simp only [Act.put, List.setIfInBounds_toArray, List.set_cons_zero, List.set_cons_succ])
      refine wpAnyH_ready (rs := [13]) (by kernel_rfl) (by simp) ?_
      refine AllReadyH.cons (o := ?_) ?_ (fun K hK => ?_) AllReadyH.nil
      rotate_left 1
      · (simp only [List.getElem?_toArray, List.getElem?_cons_zero, List.getElem?_cons_succ]; try rfl)
      have HG := Lib.hid (Blk.new w2 #[.int .i64 1, .int .i64 0, .int .i64 f, .int .i64 x, .int .i64 s, .int .i64 p, .int .i64 q, .int .i64 r, .slice B2 l.length d2] 31)
      have hal := (Below.refl w2.heap.size w2).alloc (Nat.le_refl _) (.cells #[.int .i64 1, .int .i64 0, .int .i64 f, .int .i64 x, .int .i64 s, .int .i64 p, .int .i64 q, .int .i64 r, .slice B2 l.length d2] 31)
      have HO3 := Lib.hid (HO2.out.below hal)
      have HOW3 := Lib.hid (Lay.acts.owBelow HOW2.out hal)
      have HB3 := Lib.hid (below_then HB2.out hal)
      have HSZ3 := Lib.hid (show w2.heap.size + 1 ≤ (w2.alloc (.cells #[.int .i64 1, .int .i64 0, .int .i64 f, .int .i64 x, .int .i64 s, .int .i64 p, .int .i64 q, .int .i64 r, .slice B2 l.length d2] 31)).heap.size by simp)
      clear hal
      go_simp
      generalize hg4 : w2.heap.size = g4 at HG HSZ3 HSZ2 ⊢
      generalize w2.alloc (.cells #[.int .i64 1, .int .i64 0, .int .i64 f, .int .i64 x, .int .i64 s, .int .i64 p, .int .i64 q, .int .i64 r, .slice B2 l.length d2] 31) = w3 at HG HO3 HOW3 HB3 HSZ3 ⊢
      have HG := Lib.hid (show Blk w3 g4 ([.int .i64 1, .int .i64 0, .int .i64 f, .int .i64 x, .int .i64 s, .int .i64 p, .int .i64 q, .int .i64 r, .slice B2 l.length d2] : List Value).toArray 31 from HG.out)
      refine hK.out _ _ (by exact ⟨((HB3.out).cell (p := ⟨b, off + m * 13 + 2, none⟩) hblw).trans j2, ((HB3.out).cell (p := ⟨b, off + m * 13 + 3, none⟩) hblw).trans j3, ((HB3.out).cell (p := ⟨b, off + m * 13 + 4, none⟩) hblw).trans j4, ((HB3.out).cell (p := ⟨b, off + m * 13 + 5, none⟩) hblw).trans j5, ((HB3.out).cell (p := ⟨b, off + m * 13 + 6, none⟩) hblw).trans j6, ((HB3.out).cell (p := ⟨b, off + m * 13 + 7, none⟩) hblw).trans j7, ((HB3.out).cell (p := ⟨b, off + m * 13 + 8, none⟩) hblw).trans j8⟩) (fun hHeld => ?_)
      clear hK K hg4
      (try simp only [Act.put, List.setIfInBounds_toArray, List.set_cons_zero, List.set_cons_succ])
      refine wpAnyH_ready (rs := [14]) (by kernel_rfl) (by simp) ?_
      refine AllReadyH.cons (o := ?_) ?_ (fun K hK => ?_) AllReadyH.nil
      rotate_left 1
      · (simp only [List.getElem?_toArray, List.getElem?_cons_zero, List.getElem?_cons_succ]; try rfl)
      refine step_app_act rfl (.tmp 63) (.tmp 76) 49 rfl 31 Lay.actL (.agg #[.int .i64 0, .int .i64 0, .int .i64 0, .int .i64 0, .int .i64 0, .int .i64 0, .int .i64 0, .int .i64 0, .slice none 0 0]) 9 88 Tryd.underlying49 Tryd.infoAct rfl rfl (by decide) (by decide) (.slice AL L.length cL) L fp [.int .i64 1, .int .i64 0, .int .i64 f, .int .i64 x, .int .i64 s, .int .i64 p, .int .i64 q, .int .i64 r, .slice B2 l.length d2] (1, 0, f, x, s, p, q, r, l) _ ⟨g4, 0, none⟩ 1 rfl rfl (by exact HOW3.out) HND.out (by exact own_act I1.out I0.out I7.out I2.out I3.out I4.out I5.out I6.out HO3.out) HO3.out.fp.1 wr.heap.size (fun z hz => (HFP.out z hz).2) (fun z hz => (HR2.out z hz).1) (cellsA HG.out) (by omega) ?_
      intro v6 w6 fp6 how6 hn6 hf6 hg6
      have hs6 := hg6.size
      have hb6 : Below w.heap.size w w6 := HB3.out.grown hg6 HB3.out.size (fun z hz => (HFP.out z (by obtain ⟨es9, _, _, _, e9⟩ := ow_one HOW3.out; rw [e9, hz]; simp)).1)
      have hf6' : ∀ z ∈ fp6, w.heap.size ≤ z ∧ z < w6.heap.size := fun z hz => by
        refine ⟨?_, Lay.acts.lt how6 z hz⟩
        rcases hf6 z hz with h | h | h
        · exact (HFP.out z h).1
        · have := (HR2.out z (by simpa using h)).1; have := HB.out.size; omega
        · have := HB3.out.size; omega
      obtain ⟨A6, c6, hv6, _, _, _⟩ := Lay.acts_rd (Lay.acts.read how6)
      obtain rfl : v6 = .slice A6 (L ++ [(1, 0, f, x, s, p, q, r, l)]).length c6 := by simpa using hv6
      have HOW6 := Lib.hid how6
      have HN6 := Lib.hid hn6
      have HF6 := Lib.hid hf6'
      have HB6 := Lib.hid hb6
      clear how6 hn6 hf6 hf6' hb6 hg6 hs6 hv6
      refine hK.out _ _ (by exact ⟨((HB6.out).cell (p := ⟨b, off + m * 13 + 2, none⟩) hblw).trans j2, ((HB6.out).cell (p := ⟨b, off + m * 13 + 3, none⟩) hblw).trans j3, ((HB6.out).cell (p := ⟨b, off + m * 13 + 4, none⟩) hblw).trans j4, ((HB6.out).cell (p := ⟨b, off + m * 13 + 5, none⟩) hblw).trans j5, ((HB6.out).cell (p := ⟨b, off + m * 13 + 6, none⟩) hblw).trans j6, ((HB6.out).cell (p := ⟨b, off + m * 13 + 7, none⟩) hblw).trans j7, ((HB6.out).cell (p := ⟨b, off + m * 13 + 8, none⟩) hblw).trans j8⟩) (fun hHeld => ?_)
      clear hK K
      (try simp only [Act.put, List.setIfInBounds_toArray, List.set_cons_zero, List.set_cons_succ])
      refine wpAnyH_take (i := 15) (oi := ?_) (v := ?_) ?_ ?_ ?_ ?_ ?_ ?_ (by exact hHeld) ?_
      rotate_left 2
      · (simp only [List.getElem?_toArray, List.getElem?_cons_zero, List.getElem?_cons_succ]; try rfl)
      · kernel_rfl
      · kernel_rfl
      · kernel_rfl
      · exact fun _ _ _ h => h
      · refine Or.inl ⟨by rfl, ?_⟩
        (intro V hSV; (try dsimp only at hSV); obtain ⟨q0, q1, q2, q3, q4, q5, q6⟩ := hSV; go_simp; try with_reducible rfl)
      (try simp only [Act.put, List.setIfInBounds_toArray, List.set_cons_zero, List.set_cons_succ])
      refine wpAnyH_done (by kernel_rfl) ?_ _

      obtain ⟨L2, hL2⟩ : ∃ L2, L ++ [(1, 0, f, x, s, p, q, r, l)] = L2 := ⟨_, rfl⟩
      have hLl2 : L2.length ≤ 301 * k + 1 + (m + 1) := by rw [← hL2]; simp; omega
      have HLN := Lib.hid (show L.length + 1 = L2.length by rw [← hL2]; simp)
      rw [hL2] at HOW6 HN ⊢
      clear hL2 hHeld
      go_wp2
      go_roundw
      case rel => exact ⟨m + 1, A6, c6, L2, fp6, by omega, by go_num, by first | rfl | rw [HLN.out], HN.out, hLl2, HS.out, HOW6.out, HN6.out, HF6.out, HB6.out⟩
      case measure => simp [intOf]; omega

end Go.Proofs.YtgpjjolgpppeeaaDoor

/-
  Chapter 12, the actions that a run shows: contract of the program (it defers and recovers). Own work.
-/
namespace Go.Proofs.YtgpjjolgpppeeaaDoor
open Go.RowKit P
set_option linter.unusedVariables false
set_option linter.unusedSimpArgs false
set_option maxRecDepth 100000

set_option maxHeartbeats 64000000 in
theorem implWitness_any (A : Option Addr) (es : List Evt) (c lo hi : Nat) (fE : List Nat) (B : Option Addr) (os : List Ot) (d : Nat) (w : World) (hne : es.length + sumB ebt es ≤ 1048576) (hno : os.length + sumB obt os ≤ 1048576) (hT : Tab w) (hE : OwnL 83 Lay.rpL w lo hi A es c fE) (hO : Ots w B os) (hd : os.length ≤ d) (hd9 : d ≤ maxLen) :
    Calls Tryd.prog 24 #[.slice A es.length c, .slice B os.length d] w (GivesW (witV es os) (witOk es os) w) := by
  have hmf : ∀ (fn : Fn) (first cap : Array Value) (w : World), (Instr.makeFunc fn first cap).run Tryd.prog w = .ok (.func fn first cap) w := fun _ _ _ _ => rfl
  obtain ⟨Z, hZ⟩ : ∃ z, witOk es os = z := ⟨_, rfl⟩
  obtain ⟨ZL, hZL⟩ : ∃ z, witV es os = z := ⟨_, rfl⟩
  rw [hZ, hZL]
  have HZ := Lib.hid hZ
  have HZL := Lib.hid hZL
  clear hZ hZL
  obtain ⟨ok, hok⟩ : ∃ z, outsOk es os = z := ⟨_, rfl⟩
  have HOK := Lib.hid hok
  clear hok
  have hal := ((Below.refl w.heap.size w).alloc (Nat.le_refl _) (.cells #[.slice none 0 0] 49)).alloc (by simp) (.cells #[.bool false] 4)
  have BX1 := Lib.hid ((Blk.new w #[.slice none 0 0] 49).alloc (.cells #[.bool false] 4))
  have BX2 := Lib.hid (show Blk ((w.alloc (.cells #[.slice none 0 0] 49)).alloc (.cells #[.bool false] 4)) (w.heap.size + 1) #[.bool false] 4 by have h1 := Blk.new (w.alloc (.cells #[.slice none 0 0] 49)) #[.bool false] 4; simp only [World.size_alloc] at h1; exact h1)
  have HB := Lib.hid hal
  have HT := Lib.hid (hT.below hal)
  have HE := Lib.hid (hE.below hal)
  have HO := Lib.hid (hO.below hal)
  have HSZ := Lib.hid (show ((w.alloc (.cells #[.slice none 0 0] 49)).alloc (.cells #[.bool false] 4)).heap.size = w.heap.size + 2 by simp)
  clear hal hT
  go_enter_defers Tryd.func24, Tryd.ntmps24
  go_upto_region 2 with fail
  generalize (w.alloc (.cells #[.slice none 0 0] 49)).alloc (.cells #[.bool false] 4) = W2 at *
  go_wp2_with fail
  refine (implOutsOk_any A es c lo hi fE B os d _ hne hno (by exact HT.out) (by exact HE.out) (by exact HO.out)).mono ?_
  rintro e w3 ⟨rfl, hb⟩
  rw [HOK.out]
  have HB0 := Lib.hid (below_then HB.out hb)
  have BX10 := Lib.hid (BX1.out.below hb)
  have BX20 := Lib.hid (BX2.out.below hb)
  have HSZ0 := Lib.hid (show w.heap.size + 2 ≤ w3.heap.size by have h1 := HSZ.out; have h2 := hb.size; omega)
  clear hb BX1 BX2 HB HT HE HO HSZ
  cases ok
  case false =>
    have hw9 : witOk es os = false := wit_no HOK.out
    have hz : Z = false := by rw [← HZ.out]; exact hw9
    have hl : ZL = [] := by rw [← HZL.out]; unfold witV; rw [hw9]; rfl
    subst hz
    subst hl
    clear hw9

    have x1 := BX10.out.cell 0
    have x2 := BX20.out.cell 0
    have g1 := BX10.out.frozen 0
    have g2 := BX20.out.frozen 0
    go_wp2
    refine leaves_cons (f := 66) (args := #[.pointer (some ⟨w.heap.size, 0, none⟩), .pointer (some ⟨w.heap.size + 1, 0, none⟩)]) (by simp) (by simp [go_sem]) ?_
    refine (catchW_idle _ _ _).mono ?_
    rintro e9 u9 w9 ⟨rfl, rfl, rfl⟩
    refine ⟨.tuple #[.slice none 0 0, .bool false], by simp [results, Tryd.results24, go_sem, x1, x2], ?_⟩
    exact ⟨none, 0, [], rfl, Lay.slice_nil _ _ _, by simp, by simp, (HB0.out.setCell (by simp) _).setCell (by simp) _⟩

  have he6 : es.length ≤ 300 := (outsOk_le HOK.out).1
  have ho6 : os.length ≤ 300 := by have := (outsOk_le HOK.out).2; omega
  go_wp2
  go_loopw [1, 15] (fun tv i wr => ∃ (k m : Nat) (AL : Option Addr) (cL : Nat) (L : List At) (fp : List Nat) (TO : Option Addr) (cT n : Nat), k ≤ es.length ∧ i = .int .i64 k ∧ tv = .slice TO n cT ∧ n = os.length - m ∧ n ≤ cT ∧ cT ≤ maxLen ∧ Ots w TO (os.drop m) ∧ Came os k m ∧ L = (List.range k).flatMap (wAt es os) ∧ L.length ≤ 301 * k ∧ (∀ q (hq : q < os.length), os[q].1 < (k : Int) → badF os[q] = false) ∧ Blk wr w.heap.size #[.slice AL L.length cL] 49 ∧ Blk wr (w.heap.size + 1) #[.bool false] 4 ∧ Lay.acts.ow wr [.slice AL L.length cL] L fp ∧ fp.Nodup ∧ (∀ x ∈ fp, w.heap.size + 2 ≤ x ∧ x < wr.heap.size) ∧ Below w.heap.size w wr) (fun _ i _ => es.length - (intOf i).toNat)
  case atStart => exact ⟨0, 0, none, 0, [], [], B, d, os.length, Nat.zero_le _, rfl, rfl, rfl, hd, hd9, hO, Came.start HOK.out, by simp, by simp, fun q hq h => absurd h (by have := outsOk_asc HOK.out hq; omega), BX10.out, BX20.out, Lay.slice_nil _ _ _, by simp, by simp, HB0.out⟩
  case round =>
    clear BX10 BX20 HB0
    obtain ⟨k, m, AL, cL, L, fp, TO, cT, n, hk, rfl, rfl, hn, hn1, hn2, hot, hcame, hL, hLl, hbad, hbx1, hbx2, how, hnd, hfp, hb⟩ := hrel
    by_cases hlt : k < es.length
    case neg =>
      have e9 : k = es.length := by omega
      have hw9 : witOk es os = true := wit_all HOK.out (fun q hq h => hbad q hq (by omega))
      have hz : Z = true := by rw [← HZ.out]; exact hw9
      have hl : ZL = L := by rw [← HZL.out, hL, e9]; unfold witV; rw [hw9]; rfl
      have hk1 := (Keeps.refl [w.heap.size] wr).put1 (List.mem_singleton.2 rfl) 0 (.slice AL L.length cL)
      have hk2 := (Keeps.refl [w.heap.size + 1] (wr.setCell ⟨w.heap.size, 0, none⟩ (.slice AL L.length cL))).put1 (List.mem_singleton.2 rfl) 0 (.bool true)
      have how9 := Lay.acts.keeps (Lay.acts.keeps how hk1 (fun z hz => by have h1 := (hfp z hz).1; simp; omega)) hk2 (fun z hz => by have h1 := (hfp z hz).1; simp; omega)
      have HB9 := Lib.hid ((hb.setCell (p := ⟨w.heap.size, 0, none⟩) (by simp) (.slice AL L.length cL)).setCell (p := ⟨w.heap.size + 1, 0, none⟩) (by simp) (.bool true))
      have HOW9 := Lib.hid how9
      have HND := Lib.hid hnd
      have HFP := Lib.hid hfp
      have x1 := hbx1.cell 0
      have g1 := hbx1.frozen 0
      have x2 := (hbx2.of_block (hk1.block _ hbx2.lt (by simp))).cell 0
      have g2 := (hbx2.of_block (hk1.block _ hbx2.lt (by simp))).frozen 0
      clear hk1 hk2 how9 how hnd hfp hb hL hLl hbad hot hcame hn hbx1 hbx2 e9 hw9
      subst hz
      subst hl
      go_wp2
      refine leaves_cons (f := 66) (args := #[.pointer (some ⟨w.heap.size, 0, none⟩), .pointer (some ⟨w.heap.size + 1, 0, none⟩)]) (by simp) (by simp [go_sem]) ?_
      refine (catchW_idle _ _ _).mono ?_
      rintro e9 u9 w9 ⟨rfl, rfl, rfl⟩
      refine ⟨.tuple #[.slice AL ZL.length cL, .bool true], by simp [results, Tryd.results24, go_sem, x1, x2, g1, g2], ?_⟩
      exact ⟨AL, cL, fp, rfl, HOW9.out, HND.out, fun z hz => by have h1 := (HFP.out z hz).1; omega, HB9.out⟩

    have hki : (k : Int) < (es.length : Int) := by omega
    have hk0 : (0 : Int) ≤ (k : Int) := by omega
    obtain ⟨g2, ex, es9, ep, DD, dl, dc, rfl, hg2, he2, e0, e1, e2, e3, n0, n1, n2, _⟩ := ev_own (hE.below hb) k hlt
    have hgd : es.getD k dEv = (ex, es9, ep, dl) := by rw [getD_lt hlt, he2]
    have hsucc : (List.range (k + 1)).flatMap (wAt es os) = L ++ (tkOf (ex, es9, ep, dl) ++ (os.filter (isAt k)).map actOf) := by
      rw [wit_succ, ← hL]
      unfold wAt
      rw [hgd]
    have HSU := Lib.hid hsucc
    have HCM0 := Lib.hid hcame
    have HBAD := Lib.hid hbad
    have HND := Lib.hid hnd
    have HFP := Lib.hid hfp
    have hal := (Below.refl wr.heap.size wr).alloc (Nat.le_refl _) (.cells #[.int .i64 ex, .int .i64 es9, .int .i64 ep, .slice DD dl.length dc] 83)
    have BE := Lib.hid (Blk.new wr #[.int .i64 ex, .int .i64 es9, .int .i64 ep, .slice DD dl.length dc] 83)
    have BX15 := Lib.hid (hbx1.below hal)
    have BX25 := Lib.hid (hbx2.below hal)
    have HOW5 := Lib.hid (Lay.acts.owBelow how hal)
    have HB5 := Lib.hid (below_then hb hal)
    have HFP5 := Lib.hid (show ∀ z ∈ fp, w.heap.size + 2 ≤ z ∧ z < (wr.alloc (.cells #[.int .i64 ex, .int .i64 es9, .int .i64 ep, .slice DD dl.length dc] 83)).heap.size from fun z hz => by have h1 := hfp z hz; simp; omega)
    have HSZ5 := Lib.hid (show wr.heap.size ≤ (wr.alloc (.cells #[.int .i64 ex, .int .i64 es9, .int .i64 ep, .slice DD dl.length dc] 83)).heap.size by simp)
    have HSZW := Lib.hid (show w.heap.size + 2 ≤ wr.heap.size by have h1 := hbx2.lt; omega)
    have HOT := Lib.hid hot
    have hng : ∀ (e : Ot), isAt k e = true → e.1 = (k : Int) := fun e h => by unfold isAt at h; simp only [Bool.and_eq_true, decide_eq_true_eq] at h; exact h.1
    have HNB0 := Lib.hid (show (∀ q (hq : q < os.length), os[q].1 = (k : Int) → badF os[q] = false) → ∀ q (hq : q < os.length), os[q].1 < ((k + 1 : Nat) : Int) → badF os[q] = false from fun h q hq h1 => by
      rcases Int.lt_or_eq_of_le (show os[q].1 ≤ (k : Int) by omega) with h2 | h2
      · exact hbad q hq h2
      · exact h q hq h2)
    have HNE := Lib.hid hn
    clear hsucc hcame hbad hnd hfp hal hbx1 hbx2 how hb hot hng hn hL
    have HIE := Lib.hid he2
    have HN2 := Lib.hid n2
    clear he2 hgd n0 n1 n2
    go_upto_region 7 with fail
    generalize wr.alloc (.cells #[.int .i64 ex, .int .i64 es9, .int .i64 ep, .slice DD dl.length dc] 83) = W5 at *
    clear e0 e1 e2 e3
    have y0 := BE.out.cell 0
    have y2 := BE.out.cell 2
    by_cases c3 : ex = 3
    case pos =>
      have d3 : (ex == 3) = true := by simp [c3]
      have hcm := HCM0.out.none (fun hm => tick_none HOK.out hlt (by rw [HIE.out]; exact c3) hm) HOK.out
      have hnl : L ++ [((2 : Int), ep, (0 : Int), (0 : Int), (0 : Int), (0 : Int), (0 : Int), (0 : Int), ([] : List UInt8))] = (List.range (k + 1)).flatMap (wAt es os) := by
        rw [HSU.out, hcm.2]; unfold tkOf; rw [if_pos c3]; simp
      have HNL := Lib.hid hnl
      have HCM := Lib.hid hcm
      have HNB := Lib.hid (HNB0.out (fun q hq h => absurd h (tick_none HOK.out hlt (by rw [HIE.out]; exact c3) hq)))
      clear hnl hcm c3
      have x1 := BX15.out.cell 0
      go_upto_region 8 with fail
      have hal4 := (Below.refl W5.heap.size W5).alloc (Nat.le_refl _) (.cells #[.int .i64 2, .int .i64 ep, .int .i64 0, .int .i64 0, .int .i64 0, .int .i64 0, .int .i64 0, .int .i64 0, .slice none 0 0] 31)
      have how6 := Lay.acts.owBelow HOW5.out hal4
      have hb6 := below_then HB5.out hal4
      have bx16 := BX15.out.below hal4
      have bx26 := BX25.out.below hal4
      go_wp2_with (at_builtin; go_must (refine wpList_app_one rfl _ _ 49 rfl 31 Lay.actL (.agg #[.int .i64 0, .int .i64 0, .int .i64 0, .int .i64 0, .int .i64 0, .int .i64 0, .int .i64 0, .int .i64 0, .slice none 0 0]) 9 88 Tryd.underlying49 Tryd.infoAct rfl rfl (by decide) (by decide) _ L fp [.int .i64 2, .int .i64 ep, .int .i64 0, .int .i64 0, .int .i64 0, .int .i64 0, .int .i64 0, .int .i64 0, .slice none 0 0] (2, ep, 0, 0, 0, 0, 0, 0, []) _ ⟨W5.heap.size, 0, none⟩ 1 rfl rfl how6 HND.out (own_tick HN2.out) (by simp) W5.heap.size (fun z hz => (HFP5.out z hz).2) (by simp) ?c3 (by omega) ?_))
      case c3 => exact cellsA (Blk.new W5 #[.int .i64 2, .int .i64 ep, .int .i64 0, .int .i64 0, .int .i64 0, .int .i64 0, .int .i64 0, .int .i64 0, .slice none 0 0] 31)
      intro v8 w8 fp8 how8 hn8 hf8 hg8
      have hin8 : ∀ z, ((.slice AL L.length cL) : Value).ownBlock = some z → w.heap.size + 2 ≤ z := fun z hz => (HFP5.out z (by obtain ⟨es8, _, _, _, e9⟩ := ow_one how6; rw [e9, hz]; simp)).1
      have hb8 : Below w.heap.size w w8 := hb6.grown hg8 hb6.size (fun z hz => by have := hin8 z hz; omega)
      have hk8 := Keeps.of_grown hg8
      have bx18 := bx16.of_block (hk8.block _ bx16.lt (fun h => by have := hin8 _ (by simpa using h); omega))
      have bx28 := bx26.of_block (hk8.block _ bx26.lt (fun h => by have := hin8 _ (by simpa using h); omega))
      have hf8' : ∀ z ∈ fp8, w.heap.size + 2 ≤ z ∧ z < w8.heap.size := fun z hz => by
        refine ⟨?_, Lay.acts.lt how8 z hz⟩
        rcases hf8 z hz with h | h2
        · exact (HFP5.out z h).1
        · have h3 : z = (W5.alloc (.cells #[.int .i64 2, .int .i64 ep, .int .i64 0, .int .i64 0, .int .i64 0, .int .i64 0, .int .i64 0, .int .i64 0, .slice none 0 0] 31)).heap.size := by simpa using h2
          have h4 := HSZ5.out
          have h5 := HSZW.out
          rw [h3]; simp; omega
      obtain ⟨A8, c8, hv8, _, _, _⟩ := Lay.acts_rd (Lay.acts.read how8)
      obtain rfl : v8 = .slice A8 (L ++ [((2 : Int), ep, (0 : Int), (0 : Int), (0 : Int), (0 : Int), (0 : Int), (0 : Int), ([] : List UInt8))]).length c8 := by simpa using hv8
      obtain ⟨L1, hL1⟩ : ∃ z, L ++ [((2 : Int), ep, (0 : Int), (0 : Int), (0 : Int), (0 : Int), (0 : Int), (0 : Int), ([] : List UInt8))] = z := ⟨_, rfl⟩
      have hLl1 : L1.length ≤ 301 * k + 1 := by rw [← hL1]; simp; omega
      rw [hL1] at HNL how8 ⊢
      clear hL1
      have HOW8 := Lib.hid how8
      have HN8 := Lib.hid hn8
      have HF8 := Lib.hid hf8'
      have HB8 := Lib.hid hb8
      have BX18 := Lib.hid bx18
      have BX28 := Lib.hid bx28
      have z1 := bx18.cell 0
      have g1 := bx18.frozen 0
      clear how6 hb6 bx16 bx26 hg8 hf8 how8 hn8 hf8' hb8 hal4 hv8 hk8 hin8 bx18 bx28 y0 y2 x1
      have hkp9 := (Keeps.refl [w.heap.size] w8).put1 (List.mem_singleton.2 rfl) 0 (.slice A8 (L1).length c8)
      have HOW9 := Lib.hid (Lay.acts.keeps HOW8.out hkp9 (fun z hz => by have h1 := (HF8.out z hz).1; simp; omega))
      have HB9 := Lib.hid (HB8.out.setCell (p := ⟨w.heap.size, 0, none⟩) (by simp) (.slice A8 (L1).length c8))
      have BX19 := Lib.hid (show Blk (w8.setCell ⟨w.heap.size, 0, none⟩ (.slice A8 (L1).length c8)) w.heap.size #[.slice A8 (L1).length c8] 49 from BX18.out.set 0 (.slice A8 (L1).length c8))
      have BX29 := Lib.hid (BX28.out.of_block (hkp9.block _ BX28.out.lt (by simp)))
      have HF9 := Lib.hid (show ∀ z ∈ fp8, w.heap.size + 2 ≤ z ∧ z < (w8.setCell ⟨w.heap.size, 0, none⟩ (.slice A8 (L1).length c8)).heap.size from fun z hz => by have h1 := HF8.out z hz; simp; exact h1)
      clear hkp9

      go_wp2
      go_roundw
      case rel => exact ⟨k + 1, m, A8, c8, L1, fp8, TO, cT, n, by omega, by go_num, rfl, HNE.out, hn1, hn2, HOT.out, HCM.out.1, HNL.out, by omega, HNB.out, BX19.out, BX29.out, HOW9.out, HN8.out, HF9.out, HB9.out⟩
      case measure => simp [intOf]; omega
    have d3 : (ex == 3) = false := by simp [c3]
    have htk : tkOf (ex, es9, ep, dl) = [] := by unfold tkOf; rw [if_neg c3]
    have HTK := Lib.hid htk
    clear c3 htk HN2
    by_cases hm : m < os.length
    case neg =>
      have hn0 : n = 0 := by have := HNE.out; omega
      subst hn0
      have hcm := HCM0.out.none (fun h => absurd h hm) HOK.out
      have HNL := Lib.hid (show L = (List.range (k + 1)).flatMap (wAt es os) by rw [HSU.out, hcm.2, HTK.out]; simp)
      have HCM := Lib.hid hcm
      have HNB := Lib.hid (HNB0.out (fun q hq h => by
        by_cases h2 : q < m
        · have := HCM0.out.lo q hq h2; omega
        · omega))
      clear hcm
      go_wp2
      go_roundw
      case rel => exact ⟨k + 1, m, AL, cL, L, fp, TO, cT, 0, by omega, by go_num, rfl, HNE.out, hn1, hn2, HOT.out, HCM.out.1, HNL.out, by omega, HNB.out, BX15.out, BX25.out, HOW5.out, HND.out, HFP5.out, HB5.out⟩
      case measure => simp [intOf]; omega

    have hn0 : 0 < n := by have := HNE.out; omega
    have hni : (0 : Int) < (n : Int) := by omega
    obtain ⟨b, off, a, u, x, s, p, q, r, f, y, i, j, AA, l, cc, CC, mm, dd, hAd, hblw, hek, j0, j1, j2, j3, j4, j5, j6, j7, j8, j9, j10, j11, j12, i0, i1, i2, i3, i4, i5, i6, i7, i8, i9, i10, hl0, hc0, hb0, hl1, hc1, hb1⟩ := HOT.out.at_ 0 (by rw [List.length_drop]; omega)
    subst hAd
    have hek5 : os[m] = (a, u, (x, s, p, q, r, l), f, (y, i, j, mm)) := by rw [← hek, List.getElem_drop]; rfl
    simp only [Nat.zero_mul, Nat.add_zero] at j0 j1 j2 j3 j4 j5 j6 j7 j8 j9 j10 j11 j12
    have k0 := (HB5.out.cell (p := ⟨b, off, none⟩) hblw).trans j0
    have k1 := (HB5.out.cell (p := ⟨b, off + 1, none⟩) hblw).trans j1
    have k2 := (HB5.out.cell (p := ⟨b, off + 2, none⟩) hblw).trans j2
    have k3 := (HB5.out.cell (p := ⟨b, off + 3, none⟩) hblw).trans j3
    have k4 := (HB5.out.cell (p := ⟨b, off + 4, none⟩) hblw).trans j4
    have k5 := (HB5.out.cell (p := ⟨b, off + 5, none⟩) hblw).trans j5
    have k6 := (HB5.out.cell (p := ⟨b, off + 6, none⟩) hblw).trans j6
    have k7 := (HB5.out.cell (p := ⟨b, off + 7, none⟩) hblw).trans j7
    have k8 := (HB5.out.cell (p := ⟨b, off + 8, none⟩) hblw).trans j8
    have k9 := (HB5.out.cell (p := ⟨b, off + 9, none⟩) hblw).trans j9
    have k10 := (HB5.out.cell (p := ⟨b, off + 10, none⟩) hblw).trans j10
    have k11 := (HB5.out.cell (p := ⟨b, off + 11, none⟩) hblw).trans j11
    have k12 := (HB5.out.cell (p := ⟨b, off + 12, none⟩) hblw).trans j12
    have hblr : b < W5.heap.size := Nat.lt_of_lt_of_le hblw HB5.out.size
    have hl6 : l.length ≤ 100000000 := by
      have h1 := sumB_mem obt os m hm
      rw [hek5] at h1
      have h2 : l.length + mm.length ≤ sumB obt os := h1
      omega
    have HEK := Lib.hid hek5
    have HBL := Lib.hid (hb0.below HB5.out)
    have I1 := Lib.hid (show isI 1 from ⟨by decide, by decide⟩)
    have I0 := Lib.hid (show isI 0 from ⟨by decide, by decide⟩)
    have I2 := Lib.hid i2
    have I3 := Lib.hid i3
    have I4 := Lib.hid i4
    have I5 := Lib.hid i5
    have I6 := Lib.hid i6
    have I7 := Lib.hid i7
    obtain ⟨TN, hsl, hot1⟩ := slcO b off n cT (by omega) hn1 hn2
    have HOT1 := Lib.hid (show Ots w TN (os.drop (m + 1)) by
      have h1 := hot1 w (os.drop m) (by have h9 := HNE.out; rw [List.length_drop]; omega) HOT.out
      rw [List.drop_drop] at h1
      exact h1)
    have HN9 := Lib.hid (show n - 1 = os.length - (m + 1) by have h9 := HNE.out; omega)
    have hn8 : n - 1 ≤ cT - 1 := by omega
    have hn7 : cT - 1 ≤ maxLen := by omega
    clear hot1 hek hek5 hb0 hb1 hl0 hc0 hl1 hc1 i0 i1 i2 i3 i4 i5 i6 i7 i8 i9 i10
    by_cases c5 : a = (k : Int)
    case neg =>
      have d5 : (a == (k : Int)) = false := by simp [c5]
      have hcm := HCM0.out.none (fun h => by rw [HEK.out]; exact c5) HOK.out
      have HNL := Lib.hid (show L = (List.range (k + 1)).flatMap (wAt es os) by rw [HSU.out, hcm.2, HTK.out]; simp)
      have HCM := Lib.hid hcm
      have HNB := Lib.hid (HNB0.out (fun q hq h => by
        have h2 := HCM.out.1
        by_cases h3 : q < m
        · have := h2.lo q hq h3; have := HCM0.out.lo q hq h3; omega
        · have := h2.hi q hq (by omega); omega))
      clear hcm c5 hsl
      go_wp2
      go_roundw
      case rel => exact ⟨k + 1, m, AL, cL, L, fp, some ⟨b, off, none⟩, cT, n, by omega, by go_num, rfl, HNE.out, hn1, hn2, HOT.out, HCM.out.1, HNL.out, by omega, HNB.out, BX15.out, BX25.out, HOW5.out, HND.out, HFP5.out, HB5.out⟩
      case measure => simp [intOf]; omega

    have d5 : (a == (k : Int)) = true := by simp [c5]
    have hcm := HCM0.out.one hm (by rw [HEK.out]; exact c5) HOK.out
    have HCM := Lib.hid hcm
    have hone : ∀ q (hq : q < os.length), os[q].1 = (k : Int) → q = m := fun q hq h => by
      have h2 := hcm.1
      by_cases h3 : q < m
      · have := HCM0.out.lo q hq h3; omega
      · by_cases h4 : q = m
        · exact h4
        · have := h2.hi q hq (by omega); omega
    have HON := Lib.hid hone
    clear hcm hone c5
    obtain ⟨zd, hzd⟩ : ∃ z, dn y = z := ⟨_, rfl⟩
    have HZD := Lib.hid hzd
    clear hzd
    go_wp2_with fail
    refine (isOfDoc_any a u x s p q r f y i j AA l cc CC mm dd _).mono ?_
    rintro e W5 ⟨rfl, hb4⟩
    rw [HZD.out]
    have BX15 := Lib.hid (BX15.out.below hb4)
    have BX25 := Lib.hid (BX25.out.below hb4)
    have HOW5 := Lib.hid (Lay.acts.owBelow HOW5.out hb4)
    have HB5 := Lib.hid (below_then HB5.out hb4)
    have HFP5 := Lib.hid (show ∀ z ∈ fp, w.heap.size + 2 ≤ z ∧ z < W5.heap.size from fun z hz => ⟨(HFP5.out z hz).1, Nat.lt_of_lt_of_le (HFP5.out z hz).2 hb4.size⟩)
    have HSZ5 := Lib.hid (show wr.heap.size ≤ W5.heap.size from Nat.le_trans HSZ5.out hb4.size)
    have HBL := Lib.hid (HBL.out.below hb4)
    clear k0 k1 k2 k3 k4 k5 k6 k7 k8 k9 k10 k11 k12 y0 y2 BE hblr hb4
    cases zd
    case false =>
      have HNL := Lib.hid (show L = (List.range (k + 1)).flatMap (wAt es os) by rw [HSU.out, HCM.out.2, HTK.out, HEK.out]; simp only; rw [HZD.out]; simp)
      have HNB := Lib.hid (HNB0.out (fun q hq h => by have h2 := HON.out q hq h; subst h2; rw [HEK.out]; unfold badF; simp only; rw [HZD.out]; rfl))
      go_wp2
      go_roundw
      case rel => exact ⟨k + 1, m + 1, AL, cL, L, fp, TN, cT - 1, n - 1, by omega, by go_num, rfl, HN9.out, hn8, hn7, HOT1.out, HCM.out.1, HNL.out, by omega, HNB.out, BX15.out, BX25.out, HOW5.out, HND.out, HFP5.out, HB5.out⟩
      case measure => simp [intOf]; omega

    have k0 := (HB5.out.cell (p := ⟨b, off, none⟩) hblw).trans j0
    have k1 := (HB5.out.cell (p := ⟨b, off + 1, none⟩) hblw).trans j1
    have k2 := (HB5.out.cell (p := ⟨b, off + 2, none⟩) hblw).trans j2
    have k3 := (HB5.out.cell (p := ⟨b, off + 3, none⟩) hblw).trans j3
    have k4 := (HB5.out.cell (p := ⟨b, off + 4, none⟩) hblw).trans j4
    have k5 := (HB5.out.cell (p := ⟨b, off + 5, none⟩) hblw).trans j5
    have k6 := (HB5.out.cell (p := ⟨b, off + 6, none⟩) hblw).trans j6
    have k7 := (HB5.out.cell (p := ⟨b, off + 7, none⟩) hblw).trans j7
    have k8 := (HB5.out.cell (p := ⟨b, off + 8, none⟩) hblw).trans j8
    have k9 := (HB5.out.cell (p := ⟨b, off + 9, none⟩) hblw).trans j9
    have k10 := (HB5.out.cell (p := ⟨b, off + 10, none⟩) hblw).trans j10
    have k11 := (HB5.out.cell (p := ⟨b, off + 11, none⟩) hblw).trans j11
    have k12 := (HB5.out.cell (p := ⟨b, off + 12, none⟩) hblw).trans j12
    have hblr : b < W5.heap.size := Nat.lt_of_lt_of_le hblw HB5.out.size
    have x1 := BX15.out.cell 0
    by_cases c7 : f < 0
    case pos =>
      have hw9 : witOk es os = false := wit_bad hm (by rw [HEK.out]; unfold badF; simp only; rw [HZD.out, decide_eq_true c7]; rfl)
      have hz : Z = false := by rw [← HZ.out]; exact hw9
      have hl : ZL = [] := by rw [← HZL.out]; unfold witV; rw [hw9]; rfl
      subst hz
      subst hl
      clear hw9

      go_upto_region 11 with fail
      refine wp_region_held_drew (S := fun _ => True) (by kernel_rfl) trivial (fun hHeld => ?_)
      refine wpAnyH_ready (rs := [0, 1]) (by kernel_rfl) (by simp) ?_
      refine AllReadyH.cons (o := ?_) ?_ (fun K hK => ?_) ?_
      rotate_left 1
      · (simp only [List.getElem?_toArray, List.getElem?_cons_zero, List.getElem?_cons_succ]; try rfl)
      · go_simp
        refine hK.out _ _ (by exact trivial) (fun hHeld => ?_)
        clear hK K
        (try simp only [Act.put, List.setIfInBounds_toArray, List.set_cons_zero, List.set_cons_succ])
        refine wpAnyH_ready (rs := [1]) (by kernel_rfl) (by simp) ?_
        refine AllReadyH.cons (o := ?_) ?_ (fun K hK => ?_) AllReadyH.nil
        rotate_left 1
        · (simp only [List.getElem?_toArray, List.getElem?_cons_zero, List.getElem?_cons_succ]; try rfl)
        go_simp
        refine hK.out _ _ (by exact trivial) (fun hHeld => ?_)
        clear hK K
        (try simp only [Act.put, List.setIfInBounds_toArray, List.set_cons_zero, List.set_cons_succ])
        refine wpAnyH_ready (rs := [2]) (by kernel_rfl) (by simp) ?_
        refine AllReadyH.cons (o := ?_) ?_ (fun K hK => ?_) AllReadyH.nil
        rotate_left 1
        · (simp only [List.getElem?_toArray, List.getElem?_cons_zero, List.getElem?_cons_succ]; try rfl)
        go_simp
        refine hK.out _ _ (by exact trivial) (fun hHeld => ?_)
        clear hK K
        (try simp only [Act.put, List.setIfInBounds_toArray, List.set_cons_zero, List.set_cons_succ])
        refine wpAnyH_ready (rs := [3]) (by kernel_rfl) (by simp) ?_
        refine AllReadyH.cons (o := ?_) ?_ (fun K hK => ?_) AllReadyH.nil
        rotate_left 1
        · (simp only [List.getElem?_toArray, List.getElem?_cons_zero, List.getElem?_cons_succ]; try rfl)
        go_simp
        refine hK.out _ _ (by exact trivial) (fun hHeld => ?_)
        clear hK K
        (try simp only [Act.put, List.setIfInBounds_toArray, List.set_cons_zero, List.set_cons_succ])
        refine wpAnyH_ready (rs := [4]) (by kernel_rfl) (by simp) ?_
        refine AllReadyH.cons (o := ?_) ?_ (fun K hK => ?_) AllReadyH.nil
        rotate_left 1
        · (simp only [List.getElem?_toArray, List.getElem?_cons_zero, List.getElem?_cons_succ]; try rfl)
        go_simp
        refine (outAct_bad a u x s p q r f y i j AA l cc CC mm dd _ c7).mono ?_
        rintro e w6 ⟨⟨t9, z9, rfl⟩, hb6⟩
        have hb6 : Below W5.heap.size W5 w6 := ⟨hb6.os, hb6.tape, hb6.output, hb6.size, hb6.block⟩
        have HB6 := Lib.hid (below_then HB5.out hb6)
        have BX16 := Lib.hid (BX15.out.below hb6)
        have BX26 := Lib.hid (BX25.out.below hb6)
        clear hb6
        have x1 := BX16.out.cell 0
        have x2 := BX26.out.cell 0
        have g1 := BX16.out.frozen 0
        have g2 := BX26.out.frozen 0
        go_wp2_with fail
        refine leaves_cons (f := 66) (args := #[.pointer (some ⟨w.heap.size, 0, none⟩), .pointer (some ⟨w.heap.size + 1, 0, none⟩)]) (by simp) (by simp [go_sem]) ?_
        refine (catchW_panicking ⟨w.heap.size, 0, none⟩ ⟨w.heap.size + 1, 0, none⟩ _ _ _ _ [] _ x1 g1 x2 g2 (by simp)).mono ?_
        rintro e9 u9 w9 ⟨rfl, rfl, rfl⟩
        refine ⟨.tuple #[.slice none 0 0, .bool false], by simp [results, Tryd.results24, go_sem, x1, x2], ?_⟩
        exact ⟨none, 0, [], rfl, Lay.slice_nil _ _ _, by simp, by simp, (HB6.out.setCell (by simp) _).setCell (by simp) _⟩
      refine AllReadyH.cons (o := ?_) ?_ (fun K hK => ?_) AllReadyH.nil
      rotate_left 1
      · (simp only [List.getElem?_toArray, List.getElem?_cons_zero, List.getElem?_cons_succ]; try rfl)
      go_simp
      refine hK.out _ _ (by exact trivial) (fun hHeld => ?_)
      clear hK K
      (try simp only [Act.put, List.setIfInBounds_toArray, List.set_cons_zero, List.set_cons_succ])
      refine wpAnyH_ready (rs := [0, 2]) (by kernel_rfl) (by simp) ?_
      refine AllReadyH.cons (o := ?_) ?_ (fun K hK => ?_) ?_
      rotate_left 1
      · (simp only [List.getElem?_toArray, List.getElem?_cons_zero, List.getElem?_cons_succ]; try rfl)
      · go_simp
        refine hK.out _ _ (by exact trivial) (fun hHeld => ?_)
        clear hK K
        (try simp only [Act.put, List.setIfInBounds_toArray, List.set_cons_zero, List.set_cons_succ])
        refine wpAnyH_ready (rs := [2]) (by kernel_rfl) (by simp) ?_
        refine AllReadyH.cons (o := ?_) ?_ (fun K hK => ?_) AllReadyH.nil
        rotate_left 1
        · (simp only [List.getElem?_toArray, List.getElem?_cons_zero, List.getElem?_cons_succ]; try rfl)
        go_simp
        refine hK.out _ _ (by exact trivial) (fun hHeld => ?_)
        clear hK K
        (try simp only [Act.put, List.setIfInBounds_toArray, List.set_cons_zero, List.set_cons_succ])
        refine wpAnyH_ready (rs := [3]) (by kernel_rfl) (by simp) ?_
        refine AllReadyH.cons (o := ?_) ?_ (fun K hK => ?_) AllReadyH.nil
        rotate_left 1
        · (simp only [List.getElem?_toArray, List.getElem?_cons_zero, List.getElem?_cons_succ]; try rfl)
        go_simp
        refine hK.out _ _ (by exact trivial) (fun hHeld => ?_)
        clear hK K
        (try simp only [Act.put, List.setIfInBounds_toArray, List.set_cons_zero, List.set_cons_succ])
        refine wpAnyH_ready (rs := [4]) (by kernel_rfl) (by simp) ?_
        refine AllReadyH.cons (o := ?_) ?_ (fun K hK => ?_) AllReadyH.nil
        rotate_left 1
        · (simp only [List.getElem?_toArray, List.getElem?_cons_zero, List.getElem?_cons_succ]; try rfl)
        go_simp
        refine (outAct_bad a u x s p q r f y i j AA l cc CC mm dd _ c7).mono ?_
        rintro e w6 ⟨⟨t9, z9, rfl⟩, hb6⟩
        have hb6 : Below W5.heap.size W5 w6 := ⟨hb6.os, hb6.tape, hb6.output, hb6.size, hb6.block⟩
        have HB6 := Lib.hid (below_then HB5.out hb6)
        have BX16 := Lib.hid (BX15.out.below hb6)
        have BX26 := Lib.hid (BX25.out.below hb6)
        clear hb6
        have x1 := BX16.out.cell 0
        have x2 := BX26.out.cell 0
        have g1 := BX16.out.frozen 0
        have g2 := BX26.out.frozen 0
        go_wp2_with fail
        refine leaves_cons (f := 66) (args := #[.pointer (some ⟨w.heap.size, 0, none⟩), .pointer (some ⟨w.heap.size + 1, 0, none⟩)]) (by simp) (by simp [go_sem]) ?_
        refine (catchW_panicking ⟨w.heap.size, 0, none⟩ ⟨w.heap.size + 1, 0, none⟩ _ _ _ _ [] _ x1 g1 x2 g2 (by simp)).mono ?_
        rintro e9 u9 w9 ⟨rfl, rfl, rfl⟩
        refine ⟨.tuple #[.slice none 0 0, .bool false], by simp [results, Tryd.results24, go_sem, x1, x2], ?_⟩
        exact ⟨none, 0, [], rfl, Lay.slice_nil _ _ _, by simp, by simp, (HB6.out.setCell (by simp) _).setCell (by simp) _⟩
      refine AllReadyH.cons (o := ?_) ?_ (fun K hK => ?_) AllReadyH.nil
      rotate_left 1
      · (simp only [List.getElem?_toArray, List.getElem?_cons_zero, List.getElem?_cons_succ]; try rfl)
      go_simp
      refine hK.out _ _ (by exact trivial) (fun hHeld => ?_)
      clear hK K
      (try simp only [Act.put, List.setIfInBounds_toArray, List.set_cons_zero, List.set_cons_succ])
      refine wpAnyH_ready (rs := [0, 3]) (by kernel_rfl) (by simp) ?_
      refine AllReadyH.cons (o := ?_) ?_ (fun K hK => ?_) ?_
      rotate_left 1
      · (simp only [List.getElem?_toArray, List.getElem?_cons_zero, List.getElem?_cons_succ]; try rfl)
      · go_simp
        refine hK.out _ _ (by exact trivial) (fun hHeld => ?_)
        clear hK K
        (try simp only [Act.put, List.setIfInBounds_toArray, List.set_cons_zero, List.set_cons_succ])
        refine wpAnyH_ready (rs := [3]) (by kernel_rfl) (by simp) ?_
        refine AllReadyH.cons (o := ?_) ?_ (fun K hK => ?_) AllReadyH.nil
        rotate_left 1
        · (simp only [List.getElem?_toArray, List.getElem?_cons_zero, List.getElem?_cons_succ]; try rfl)
        go_simp
        refine hK.out _ _ (by exact trivial) (fun hHeld => ?_)
        clear hK K
        (try simp only [Act.put, List.setIfInBounds_toArray, List.set_cons_zero, List.set_cons_succ])
        refine wpAnyH_ready (rs := [4]) (by kernel_rfl) (by simp) ?_
        refine AllReadyH.cons (o := ?_) ?_ (fun K hK => ?_) AllReadyH.nil
        rotate_left 1
        · (simp only [List.getElem?_toArray, List.getElem?_cons_zero, List.getElem?_cons_succ]; try rfl)
        go_simp
        refine (outAct_bad a u x s p q r f y i j AA l cc CC mm dd _ c7).mono ?_
        rintro e w6 ⟨⟨t9, z9, rfl⟩, hb6⟩
        have hb6 : Below W5.heap.size W5 w6 := ⟨hb6.os, hb6.tape, hb6.output, hb6.size, hb6.block⟩
        have HB6 := Lib.hid (below_then HB5.out hb6)
        have BX16 := Lib.hid (BX15.out.below hb6)
        have BX26 := Lib.hid (BX25.out.below hb6)
        clear hb6
        have x1 := BX16.out.cell 0
        have x2 := BX26.out.cell 0
        have g1 := BX16.out.frozen 0
        have g2 := BX26.out.frozen 0
        go_wp2_with fail
        refine leaves_cons (f := 66) (args := #[.pointer (some ⟨w.heap.size, 0, none⟩), .pointer (some ⟨w.heap.size + 1, 0, none⟩)]) (by simp) (by simp [go_sem]) ?_
        refine (catchW_panicking ⟨w.heap.size, 0, none⟩ ⟨w.heap.size + 1, 0, none⟩ _ _ _ _ [] _ x1 g1 x2 g2 (by simp)).mono ?_
        rintro e9 u9 w9 ⟨rfl, rfl, rfl⟩
        refine ⟨.tuple #[.slice none 0 0, .bool false], by simp [results, Tryd.results24, go_sem, x1, x2], ?_⟩
        exact ⟨none, 0, [], rfl, Lay.slice_nil _ _ _, by simp, by simp, (HB6.out.setCell (by simp) _).setCell (by simp) _⟩
      refine AllReadyH.cons (o := ?_) ?_ (fun K hK => ?_) AllReadyH.nil
      rotate_left 1
      · (simp only [List.getElem?_toArray, List.getElem?_cons_zero, List.getElem?_cons_succ]; try rfl)
      go_simp
      refine hK.out _ _ (by exact trivial) (fun hHeld => ?_)
      clear hK K
      (try simp only [Act.put, List.setIfInBounds_toArray, List.set_cons_zero, List.set_cons_succ])
      refine wpAnyH_ready (rs := [0, 4]) (by kernel_rfl) (by simp) ?_
      refine AllReadyH.cons (o := ?_) ?_ (fun K hK => ?_) ?_
      rotate_left 1
      · (simp only [List.getElem?_toArray, List.getElem?_cons_zero, List.getElem?_cons_succ]; try rfl)
      · go_simp
        refine hK.out _ _ (by exact trivial) (fun hHeld => ?_)
        clear hK K
        (try simp only [Act.put, List.setIfInBounds_toArray, List.set_cons_zero, List.set_cons_succ])
        refine wpAnyH_ready (rs := [4]) (by kernel_rfl) (by simp) ?_
        refine AllReadyH.cons (o := ?_) ?_ (fun K hK => ?_) AllReadyH.nil
        rotate_left 1
        · (simp only [List.getElem?_toArray, List.getElem?_cons_zero, List.getElem?_cons_succ]; try rfl)
        go_simp
        refine (outAct_bad a u x s p q r f y i j AA l cc CC mm dd _ c7).mono ?_
        rintro e w6 ⟨⟨t9, z9, rfl⟩, hb6⟩
        have hb6 : Below W5.heap.size W5 w6 := ⟨hb6.os, hb6.tape, hb6.output, hb6.size, hb6.block⟩
        have HB6 := Lib.hid (below_then HB5.out hb6)
        have BX16 := Lib.hid (BX15.out.below hb6)
        have BX26 := Lib.hid (BX25.out.below hb6)
        clear hb6
        have x1 := BX16.out.cell 0
        have x2 := BX26.out.cell 0
        have g1 := BX16.out.frozen 0
        have g2 := BX26.out.frozen 0
        go_wp2_with fail
        refine leaves_cons (f := 66) (args := #[.pointer (some ⟨w.heap.size, 0, none⟩), .pointer (some ⟨w.heap.size + 1, 0, none⟩)]) (by simp) (by simp [go_sem]) ?_
        refine (catchW_panicking ⟨w.heap.size, 0, none⟩ ⟨w.heap.size + 1, 0, none⟩ _ _ _ _ [] _ x1 g1 x2 g2 (by simp)).mono ?_
        rintro e9 u9 w9 ⟨rfl, rfl, rfl⟩
        refine ⟨.tuple #[.slice none 0 0, .bool false], by simp [results, Tryd.results24, go_sem, x1, x2], ?_⟩
        exact ⟨none, 0, [], rfl, Lay.slice_nil _ _ _, by simp, by simp, (HB6.out.setCell (by simp) _).setCell (by simp) _⟩
      refine AllReadyH.cons (o := ?_) ?_ (fun K hK => ?_) AllReadyH.nil
      rotate_left 1
      · (simp only [List.getElem?_toArray, List.getElem?_cons_zero, List.getElem?_cons_succ]; try rfl)
      go_simp
      refine (outAct_bad a u x s p q r f y i j AA l cc CC mm dd _ c7).mono ?_
      rintro e w6 ⟨⟨t9, z9, rfl⟩, hb6⟩
      have hb6 : Below W5.heap.size W5 w6 := ⟨hb6.os, hb6.tape, hb6.output, hb6.size, hb6.block⟩
      have HB6 := Lib.hid (below_then HB5.out hb6)
      have BX16 := Lib.hid (BX15.out.below hb6)
      have BX26 := Lib.hid (BX25.out.below hb6)
      clear hb6
      have x1 := BX16.out.cell 0
      have x2 := BX26.out.cell 0
      have g1 := BX16.out.frozen 0
      have g2 := BX26.out.frozen 0
      go_wp2_with fail
      refine leaves_cons (f := 66) (args := #[.pointer (some ⟨w.heap.size, 0, none⟩), .pointer (some ⟨w.heap.size + 1, 0, none⟩)]) (by simp) (by simp [go_sem]) ?_
      refine (catchW_panicking ⟨w.heap.size, 0, none⟩ ⟨w.heap.size + 1, 0, none⟩ _ _ _ _ [] _ x1 g1 x2 g2 (by simp)).mono ?_
      rintro e9 u9 w9 ⟨rfl, rfl, rfl⟩
      refine ⟨.tuple #[.slice none 0 0, .bool false], by simp [results, Tryd.results24, go_sem, x1, x2], ?_⟩
      exact ⟨none, 0, [], rfl, Lay.slice_nil _ _ _, by simp, by simp, (HB6.out.setCell (by simp) _).setCell (by simp) _⟩

    have HNL := Lib.hid (show L ++ [(1, 0, f, x, s, p, q, r, l)] = (List.range (k + 1)).flatMap (wAt es os) by rw [HSU.out, HCM.out.2, HTK.out, HEK.out]; simp only; rw [HZD.out]; simp [actOf])
    have HNB := Lib.hid (HNB0.out (fun q hq h => by have h2 := HON.out q hq h; subst h2; rw [HEK.out]; unfold badF; simp only; rw [decide_eq_false c7, Bool.and_false]))
    have HC7 := Lib.hid c7
    clear c7
    go_upto_region 11 with fail
    refine wp_region_noPanic ?_
    refine wp_region_held_drew (S := (fun V => V.cell? ⟨b, off, none⟩ = some (.int .i64 a) ∧ V.cell? ⟨b, off + 1, none⟩ = some (.int .i64 u) ∧ V.cell? ⟨b, off + 2, none⟩ = some (.int .i64 x) ∧ V.cell? ⟨b, off + 3, none⟩ = some (.int .i64 s) ∧ V.cell? ⟨b, off + 4, none⟩ = some (.int .i64 p) ∧ V.cell? ⟨b, off + 5, none⟩ = some (.int .i64 q) ∧ V.cell? ⟨b, off + 6, none⟩ = some (.int .i64 r) ∧ V.cell? ⟨b, off + 7, none⟩ = some (.slice AA l.length cc) ∧ V.cell? ⟨b, off + 8, none⟩ = some (.int .i64 f) ∧ V.cell? ⟨b, off + 9, none⟩ = some (.int .i64 y) ∧ V.cell? ⟨b, off + 10, none⟩ = some (.int .i64 i) ∧ V.cell? ⟨b, off + 11, none⟩ = some (.int .i64 j) ∧ V.cell? ⟨b, off + 12, none⟩ = some (.slice CC mm.length dd))) (by kernel_rfl) (by exact ⟨k0, k1, k2, k3, k4, k5, k6, k7, k8, k9, k10, k11, k12⟩) (fun hHeld => ?_)
    refine wpAnyH_take (i := 1) (oi := ?_) (v := ?_) ?_ ?_ ?_ ?_ ?_ ?_ (by exact hHeld) ?_
    rotate_left 2
    · (simp only [List.getElem?_toArray, List.getElem?_cons_zero, List.getElem?_cons_succ]; try rfl)
    · kernel_rfl
    · kernel_rfl
    · kernel_rfl
    · exact fun _ _ _ h => h
    · refine Or.inl ⟨by rfl, ?_⟩
      (intro V hSV; (try dsimp only at hSV); obtain ⟨q0, q1, q2, q3, q4, q5, q6, q7, q8, q9, q10, q11, q12⟩ := hSV; go_simp; try with_reducible rfl)
    (try simp only [Act.put, List.setIfInBounds_toArray, List.set_cons_zero, List.set_cons_succ])
    refine wpAnyH_take (i := 2) (oi := ?_) (v := ?_) ?_ ?_ ?_ ?_ ?_ ?_ (by exact hHeld) ?_
    rotate_left 2
    · (simp only [List.getElem?_toArray, List.getElem?_cons_zero, List.getElem?_cons_succ]; try rfl)
    · kernel_rfl
    · kernel_rfl
    · kernel_rfl
    · exact fun _ _ _ h => h
    · refine Or.inl ⟨by rfl, ?_⟩
      (intro V hSV; (try dsimp only at hSV); obtain ⟨q0, q1, q2, q3, q4, q5, q6, q7, q8, q9, q10, q11, q12⟩ := hSV; go_simp; try with_reducible rfl)
    (try simp only [Act.put, List.setIfInBounds_toArray, List.set_cons_zero, List.set_cons_succ])
    refine wpAnyH_take (i := 3) (oi := ?_) (v := ?_) ?_ ?_ ?_ ?_ ?_ ?_ (by exact hHeld) ?_
    rotate_left 2
    · (simp only [List.getElem?_toArray, List.getElem?_cons_zero, List.getElem?_cons_succ]; try rfl)
    · kernel_rfl
    · kernel_rfl
    · kernel_rfl
    · exact fun _ _ _ h => h
    · refine Or.inl ⟨by rfl, ?_⟩
      (intro V hSV; (try dsimp only at hSV); obtain ⟨q0, q1, q2, q3, q4, q5, q6, q7, q8, q9, q10, q11, q12⟩ := hSV; go_simp; try with_reducible rfl)
    (try simp only [Act.put, List.setIfInBounds_toArray, List.set_cons_zero, List.set_cons_succ])
    refine wpAnyH_ready (rs := [0, 4]) (by kernel_rfl) (by simp) ?_
    refine AllReadyH.cons (o := ?_) ?_ (fun K hK => ?_) ?_
    rotate_left 1
    · (simp only [List.getElem?_toArray, List.getElem?_cons_zero, List.getElem?_cons_succ]; try rfl)
    · go_simp
      refine hK.out _ _ (by exact ⟨k0, k1, k2, k3, k4, k5, k6, k7, k8, k9, k10, k11, k12⟩) (fun hHeld => ?_)
      clear hK K
      (try simp only [Act.put, List.setIfInBounds_toArray, List.set_cons_zero, List.set_cons_succ])
      refine wpAnyH_ready (rs := [4]) (by kernel_rfl) (by simp) ?_
      refine AllReadyH.cons (o := ?_) ?_ (fun K hK => ?_) AllReadyH.nil
      rotate_left 1
      · (simp only [List.getElem?_toArray, List.getElem?_cons_zero, List.getElem?_cons_succ]; try rfl)
      go_simp
      refine (outAct_any a u x s p q r f y i j AA l cc CC mm dd _ (by have h7 := HC7.out; omega) hl6 (by exact HBL.out)).mono ?_
      rintro e w6 ⟨B2, d2, rfl, ho6, hbw6⟩
      have hbw6 : Below W5.heap.size W5 w6 := ⟨hbw6.os, hbw6.tape, hbw6.output, hbw6.size, hbw6.block⟩
      have ho6 : Own w6 W5.heap.size (.slice B2 l.length d2) l := ho6
      have HO6 := Lib.hid ho6
      have HR6 := Lib.hid ho6.range
      have HSZ6 := Lib.hid hbw6.size
      have HOW6 := Lib.hid (Lay.acts.owBelow HOW5.out hbw6)
      have HB6 := Lib.hid (below_then HB5.out hbw6)
      have BX16 := Lib.hid (BX15.out.below hbw6)
      have BX26 := Lib.hid (BX25.out.below hbw6)
      clear ho6
      have x1 := BX16.out.cell 0
      go_wp2_with fail
      refine hK.out _ _ (by exact ⟨((HB6.out).cell (p := ⟨b, off, none⟩) hblw).trans j0, ((HB6.out).cell (p := ⟨b, off + 1, none⟩) hblw).trans j1, ((HB6.out).cell (p := ⟨b, off + 2, none⟩) hblw).trans j2, ((HB6.out).cell (p := ⟨b, off + 3, none⟩) hblw).trans j3, ((HB6.out).cell (p := ⟨b, off + 4, none⟩) hblw).trans j4, ((HB6.out).cell (p := ⟨b, off + 5, none⟩) hblw).trans j5, ((HB6.out).cell (p := ⟨b, off + 6, none⟩) hblw).trans j6, ((HB6.out).cell (p := ⟨b, off + 7, none⟩) hblw).trans j7, ((HB6.out).cell (p := ⟨b, off + 8, none⟩) hblw).trans j8, ((HB6.out).cell (p := ⟨b, off + 9, none⟩) hblw).trans j9, ((HB6.out).cell (p := ⟨b, off + 10, none⟩) hblw).trans j10, ((HB6.out).cell (p := ⟨b, off + 11, none⟩) hblw).trans j11, ((HB6.out).cell (p := ⟨b, off + 12, none⟩) hblw).trans j12⟩) (fun hHeld => ?_)
      clear hK K
      (try simp only [Act.put, List.setIfInBounds_toArray, List.set_cons_zero, List.set_cons_succ])
      refine wpAnyH_ready (rs := [5]) (by kernel_rfl) (by simp) ?_
      refine AllReadyH.cons (o := ?_) ?_ (fun K hK => ?_) AllReadyH.nil
      rotate_left 1
      · (simp only [List.getElem?_toArray, List.getElem?_cons_zero, List.getElem?_cons_succ]; try rfl)
      have HG := Lib.hid (Blk.new w6 #[.int .i64 1, .int .i64 0, .int .i64 f, .int .i64 x, .int .i64 s, .int .i64 p, .int .i64 q, .int .i64 r, .slice B2 l.length d2] 31)
      have hal := (Below.refl w6.heap.size w6).alloc (Nat.le_refl _) (.cells #[.int .i64 1, .int .i64 0, .int .i64 f, .int .i64 x, .int .i64 s, .int .i64 p, .int .i64 q, .int .i64 r, .slice B2 l.length d2] 31)
      have HO7 := Lib.hid (HO6.out.below hal)
      have HOW7 := Lib.hid (Lay.acts.owBelow HOW6.out hal)
      have HB7 := Lib.hid (below_then HB6.out hal)
      have BX17 := Lib.hid (BX16.out.below hal)
      have BX27 := Lib.hid (BX26.out.below hal)
      have HSZ7 := Lib.hid (show w6.heap.size + 1 ≤ (w6.alloc (.cells #[.int .i64 1, .int .i64 0, .int .i64 f, .int .i64 x, .int .i64 s, .int .i64 p, .int .i64 q, .int .i64 r, .slice B2 l.length d2] 31)).heap.size by simp)
      clear hal
      go_simp
      generalize hg4 : w6.heap.size = g4 at HG HSZ7 HSZ6 ⊢
      generalize w6.alloc (.cells #[.int .i64 1, .int .i64 0, .int .i64 f, .int .i64 x, .int .i64 s, .int .i64 p, .int .i64 q, .int .i64 r, .slice B2 l.length d2] 31) = w7 at HG HO7 HOW7 HB7 BX17 BX27 HSZ7 ⊢
      have HG := Lib.hid (show Blk w7 g4 ([.int .i64 1, .int .i64 0, .int .i64 f, .int .i64 x, .int .i64 s, .int .i64 p, .int .i64 q, .int .i64 r, .slice B2 l.length d2] : List Value).toArray 31 from HG.out)
      refine hK.out _ _ (by exact ⟨((HB7.out).cell (p := ⟨b, off, none⟩) hblw).trans j0, ((HB7.out).cell (p := ⟨b, off + 1, none⟩) hblw).trans j1, ((HB7.out).cell (p := ⟨b, off + 2, none⟩) hblw).trans j2, ((HB7.out).cell (p := ⟨b, off + 3, none⟩) hblw).trans j3, ((HB7.out).cell (p := ⟨b, off + 4, none⟩) hblw).trans j4, ((HB7.out).cell (p := ⟨b, off + 5, none⟩) hblw).trans j5, ((HB7.out).cell (p := ⟨b, off + 6, none⟩) hblw).trans j6, ((HB7.out).cell (p := ⟨b, off + 7, none⟩) hblw).trans j7, ((HB7.out).cell (p := ⟨b, off + 8, none⟩) hblw).trans j8, ((HB7.out).cell (p := ⟨b, off + 9, none⟩) hblw).trans j9, ((HB7.out).cell (p := ⟨b, off + 10, none⟩) hblw).trans j10, ((HB7.out).cell (p := ⟨b, off + 11, none⟩) hblw).trans j11, ((HB7.out).cell (p := ⟨b, off + 12, none⟩) hblw).trans j12⟩) (fun hHeld => ?_)
      clear hK K hg4
      (try simp only [Act.put, List.setIfInBounds_toArray, List.set_cons_zero, List.set_cons_succ])
      refine wpAnyH_ready (rs := [6]) (by kernel_rfl) (by simp) ?_
      refine AllReadyH.cons (o := ?_) ?_ (fun K hK => ?_) AllReadyH.nil
      rotate_left 1
      · (simp only [List.getElem?_toArray, List.getElem?_cons_zero, List.getElem?_cons_succ]; try rfl)
      refine step_app_act rfl (.tmp 46) (.tmp 51) 49 rfl 31 Lay.actL (.agg #[.int .i64 0, .int .i64 0, .int .i64 0, .int .i64 0, .int .i64 0, .int .i64 0, .int .i64 0, .int .i64 0, .slice none 0 0]) 9 88 Tryd.underlying49 Tryd.infoAct rfl rfl (by decide) (by decide) (.slice AL L.length cL) L fp [.int .i64 1, .int .i64 0, .int .i64 f, .int .i64 x, .int .i64 s, .int .i64 p, .int .i64 q, .int .i64 r, .slice B2 l.length d2] (1, 0, f, x, s, p, q, r, l) _ ⟨g4, 0, none⟩ 1 rfl rfl (by exact HOW7.out) HND.out (by exact own_act I1.out I0.out I7.out I2.out I3.out I4.out I5.out I6.out HO7.out) HO7.out.fp.1 W5.heap.size (fun z hz => by have h1 := (HFP.out z hz).2; have h2 := HSZ5.out; omega) (fun z hz => (HR6.out z hz).1) (cellsA HG.out) (by omega) ?_
      intro v8 w8 fp8 how8 hn8 hf8 hg8
      have hin8 : ∀ z, ((.slice AL L.length cL) : Value).ownBlock = some z → w.heap.size + 2 ≤ z := fun z hz => (HFP.out z (by obtain ⟨es8, _, _, _, e9⟩ := ow_one HOW7.out; rw [e9, hz]; simp)).1
      have hb8 : Below w.heap.size w w8 := HB7.out.grown hg8 HB7.out.size (fun z hz => by have := hin8 z hz; omega)
      have hk8 := Keeps.of_grown hg8
      have bx18 := BX17.out.of_block (hk8.block _ BX17.out.lt (fun h => by have := hin8 _ (by simpa using h); omega))
      have bx28 := BX27.out.of_block (hk8.block _ BX27.out.lt (fun h => by have := hin8 _ (by simpa using h); omega))
      have hf8' : ∀ z ∈ fp8, w.heap.size + 2 ≤ z ∧ z < w8.heap.size := fun z hz => by
        refine ⟨?_, Lay.acts.lt how8 z hz⟩
        rcases hf8 z hz with h | h | h
        · exact (HFP.out z h).1
        · have h1 := (HR6.out z (by simpa using h)).1; have h2 := HSZ5.out; have h3 := HSZW.out; omega
        · have h1 := HSZ7.out; have h2 := HSZ6.out; have h3 := HSZ5.out; have h4 := HSZW.out; omega
      obtain ⟨A8, c8, hv8, _, _, _⟩ := Lay.acts_rd (Lay.acts.read how8)
      obtain rfl : v8 = .slice A8 (L ++ [(1, 0, f, x, s, p, q, r, l)]).length c8 := by simpa using hv8
      obtain ⟨L2, hL2⟩ : ∃ L2, L ++ [(1, 0, f, x, s, p, q, r, l)] = L2 := ⟨_, rfl⟩
      have hLl2 : L2.length ≤ 301 * (k + 1) := by rw [← hL2]; simp; omega
      rw [hL2] at how8 HNL ⊢
      clear hL2
      have HOW8 := Lib.hid how8
      have HN8 := Lib.hid hn8
      have HF8 := Lib.hid hf8'
      have HB8 := Lib.hid hb8
      have BX18 := Lib.hid bx18
      have BX28 := Lib.hid bx28
      clear how8 hn8 hf8 hf8' hb8 hg8 hv8 bx18 bx28 hk8 hin8
      refine hK.out _ _ (by exact ⟨((HB8.out).cell (p := ⟨b, off, none⟩) hblw).trans j0, ((HB8.out).cell (p := ⟨b, off + 1, none⟩) hblw).trans j1, ((HB8.out).cell (p := ⟨b, off + 2, none⟩) hblw).trans j2, ((HB8.out).cell (p := ⟨b, off + 3, none⟩) hblw).trans j3, ((HB8.out).cell (p := ⟨b, off + 4, none⟩) hblw).trans j4, ((HB8.out).cell (p := ⟨b, off + 5, none⟩) hblw).trans j5, ((HB8.out).cell (p := ⟨b, off + 6, none⟩) hblw).trans j6, ((HB8.out).cell (p := ⟨b, off + 7, none⟩) hblw).trans j7, ((HB8.out).cell (p := ⟨b, off + 8, none⟩) hblw).trans j8, ((HB8.out).cell (p := ⟨b, off + 9, none⟩) hblw).trans j9, ((HB8.out).cell (p := ⟨b, off + 10, none⟩) hblw).trans j10, ((HB8.out).cell (p := ⟨b, off + 11, none⟩) hblw).trans j11, ((HB8.out).cell (p := ⟨b, off + 12, none⟩) hblw).trans j12⟩) (fun hHeld => ?_)
      clear hK K
      (try simp only [Act.put, List.setIfInBounds_toArray, List.set_cons_zero, List.set_cons_succ])
      refine wpAnyH_ready (rs := [7]) (by kernel_rfl) (by simp) ?_
      refine AllReadyH.cons (o := ?_) ?_ (fun K hK => ?_) AllReadyH.nil
      rotate_left 1
      · (simp only [List.getElem?_toArray, List.getElem?_cons_zero, List.getElem?_cons_succ]; try rfl)
      have x1 := BX18.out.cell 0
      have g1 := BX18.out.frozen 0
      have hkp9 := (Keeps.refl [w.heap.size] w8).put1 (List.mem_singleton.2 rfl) 0 (.slice A8 (L2).length c8)
      have HOW9 := Lib.hid (Lay.acts.keeps HOW8.out hkp9 (fun z hz => by have h1 := (HF8.out z hz).1; simp; omega))
      have HB9 := Lib.hid (HB8.out.setCell (p := ⟨w.heap.size, 0, none⟩) (by simp) (.slice A8 (L2).length c8))
      have BX19 := Lib.hid (show Blk (w8.setCell ⟨w.heap.size, 0, none⟩ (.slice A8 (L2).length c8)) w.heap.size #[.slice A8 (L2).length c8] 49 from BX18.out.set 0 (.slice A8 (L2).length c8))
      have BX29 := Lib.hid (BX28.out.of_block (hkp9.block _ BX28.out.lt (by simp)))
      have HF9 := Lib.hid (show ∀ z ∈ fp8, w.heap.size + 2 ≤ z ∧ z < (w8.setCell ⟨w.heap.size, 0, none⟩ (.slice A8 (L2).length c8)).heap.size from fun z hz => by have h1 := HF8.out z hz; simp; exact h1)
      clear hkp9
      go_simp
      refine hK.out _ _ (by exact ⟨((HB9.out).cell (p := ⟨b, off, none⟩) hblw).trans j0, ((HB9.out).cell (p := ⟨b, off + 1, none⟩) hblw).trans j1, ((HB9.out).cell (p := ⟨b, off + 2, none⟩) hblw).trans j2, ((HB9.out).cell (p := ⟨b, off + 3, none⟩) hblw).trans j3, ((HB9.out).cell (p := ⟨b, off + 4, none⟩) hblw).trans j4, ((HB9.out).cell (p := ⟨b, off + 5, none⟩) hblw).trans j5, ((HB9.out).cell (p := ⟨b, off + 6, none⟩) hblw).trans j6, ((HB9.out).cell (p := ⟨b, off + 7, none⟩) hblw).trans j7, ((HB9.out).cell (p := ⟨b, off + 8, none⟩) hblw).trans j8, ((HB9.out).cell (p := ⟨b, off + 9, none⟩) hblw).trans j9, ((HB9.out).cell (p := ⟨b, off + 10, none⟩) hblw).trans j10, ((HB9.out).cell (p := ⟨b, off + 11, none⟩) hblw).trans j11, ((HB9.out).cell (p := ⟨b, off + 12, none⟩) hblw).trans j12⟩) (fun hHeld => ?_)
      clear hK K
      (try simp only [Act.put, List.setIfInBounds_toArray, List.set_cons_zero, List.set_cons_succ])
      refine wpAnyH_done (by kernel_rfl) ?_ _
      refine NoPanic.normal ?_
      clear hHeld
      go_wp2
      go_roundw
      case rel => exact ⟨k + 1, m + 1, A8, c8, L2, fp8, TN, cT - 1, n - 1, by omega, by go_num, rfl, HN9.out, hn8, hn7, HOT1.out, HCM.out.1, HNL.out, hLl2, HNB.out, BX19.out, BX29.out, HOW9.out, HN8.out, HF9.out, HB9.out⟩
      case measure => simp [intOf]; omega
    refine AllReadyH.cons (o := ?_) ?_ (fun K hK => ?_) AllReadyH.nil
    rotate_left 1
    · (simp only [List.getElem?_toArray, List.getElem?_cons_zero, List.getElem?_cons_succ]; try rfl)
    go_simp
    refine (outAct_any a u x s p q r f y i j AA l cc CC mm dd _ (by have h7 := HC7.out; omega) hl6 (by exact HBL.out)).mono ?_
    rintro e w6 ⟨B2, d2, rfl, ho6, hbw6⟩
    have hbw6 : Below W5.heap.size W5 w6 := ⟨hbw6.os, hbw6.tape, hbw6.output, hbw6.size, hbw6.block⟩
    have ho6 : Own w6 W5.heap.size (.slice B2 l.length d2) l := ho6
    have HO6 := Lib.hid ho6
    have HR6 := Lib.hid ho6.range
    have HSZ6 := Lib.hid hbw6.size
    have HOW6 := Lib.hid (Lay.acts.owBelow HOW5.out hbw6)
    have HB6 := Lib.hid (below_then HB5.out hbw6)
    have BX16 := Lib.hid (BX15.out.below hbw6)
    have BX26 := Lib.hid (BX25.out.below hbw6)
    clear ho6
    have x1 := BX16.out.cell 0
    go_wp2_with fail
    refine hK.out _ _ (by exact ⟨((HB6.out).cell (p := ⟨b, off, none⟩) hblw).trans j0, ((HB6.out).cell (p := ⟨b, off + 1, none⟩) hblw).trans j1, ((HB6.out).cell (p := ⟨b, off + 2, none⟩) hblw).trans j2, ((HB6.out).cell (p := ⟨b, off + 3, none⟩) hblw).trans j3, ((HB6.out).cell (p := ⟨b, off + 4, none⟩) hblw).trans j4, ((HB6.out).cell (p := ⟨b, off + 5, none⟩) hblw).trans j5, ((HB6.out).cell (p := ⟨b, off + 6, none⟩) hblw).trans j6, ((HB6.out).cell (p := ⟨b, off + 7, none⟩) hblw).trans j7, ((HB6.out).cell (p := ⟨b, off + 8, none⟩) hblw).trans j8, ((HB6.out).cell (p := ⟨b, off + 9, none⟩) hblw).trans j9, ((HB6.out).cell (p := ⟨b, off + 10, none⟩) hblw).trans j10, ((HB6.out).cell (p := ⟨b, off + 11, none⟩) hblw).trans j11, ((HB6.out).cell (p := ⟨b, off + 12, none⟩) hblw).trans j12⟩) (fun hHeld => ?_)
    clear hK K
    (try simp only [Act.put, List.setIfInBounds_toArray, List.set_cons_zero, List.set_cons_succ])
    refine wpAnyH_ready (rs := [0, 5]) (by kernel_rfl) (by simp) ?_
    refine AllReadyH.cons (o := ?_) ?_ (fun K hK => ?_) ?_
    rotate_left 1
    · (simp only [List.getElem?_toArray, List.getElem?_cons_zero, List.getElem?_cons_succ]; try rfl)
    · go_simp
      refine hK.out _ _ (by exact ⟨((HB6.out).cell (p := ⟨b, off, none⟩) hblw).trans j0, ((HB6.out).cell (p := ⟨b, off + 1, none⟩) hblw).trans j1, ((HB6.out).cell (p := ⟨b, off + 2, none⟩) hblw).trans j2, ((HB6.out).cell (p := ⟨b, off + 3, none⟩) hblw).trans j3, ((HB6.out).cell (p := ⟨b, off + 4, none⟩) hblw).trans j4, ((HB6.out).cell (p := ⟨b, off + 5, none⟩) hblw).trans j5, ((HB6.out).cell (p := ⟨b, off + 6, none⟩) hblw).trans j6, ((HB6.out).cell (p := ⟨b, off + 7, none⟩) hblw).trans j7, ((HB6.out).cell (p := ⟨b, off + 8, none⟩) hblw).trans j8, ((HB6.out).cell (p := ⟨b, off + 9, none⟩) hblw).trans j9, ((HB6.out).cell (p := ⟨b, off + 10, none⟩) hblw).trans j10, ((HB6.out).cell (p := ⟨b, off + 11, none⟩) hblw).trans j11, ((HB6.out).cell (p := ⟨b, off + 12, none⟩) hblw).trans j12⟩) (fun hHeld => ?_)
      clear hK K
      (try simp only [Act.put, List.setIfInBounds_toArray, List.set_cons_zero, List.set_cons_succ])
      refine wpAnyH_ready (rs := [5]) (by kernel_rfl) (by simp) ?_
      refine AllReadyH.cons (o := ?_) ?_ (fun K hK => ?_) AllReadyH.nil
      rotate_left 1
      · (simp only [List.getElem?_toArray, List.getElem?_cons_zero, List.getElem?_cons_succ]; try rfl)
      have HG := Lib.hid (Blk.new w6 #[.int .i64 1, .int .i64 0, .int .i64 f, .int .i64 x, .int .i64 s, .int .i64 p, .int .i64 q, .int .i64 r, .slice B2 l.length d2] 31)
      have hal := (Below.refl w6.heap.size w6).alloc (Nat.le_refl _) (.cells #[.int .i64 1, .int .i64 0, .int .i64 f, .int .i64 x, .int .i64 s, .int .i64 p, .int .i64 q, .int .i64 r, .slice B2 l.length d2] 31)
      have HO7 := Lib.hid (HO6.out.below hal)
      have HOW7 := Lib.hid (Lay.acts.owBelow HOW6.out hal)
      have HB7 := Lib.hid (below_then HB6.out hal)
      have BX17 := Lib.hid (BX16.out.below hal)
      have BX27 := Lib.hid (BX26.out.below hal)
      have HSZ7 := Lib.hid (show w6.heap.size + 1 ≤ (w6.alloc (.cells #[.int .i64 1, .int .i64 0, .int .i64 f, .int .i64 x, .int .i64 s, .int .i64 p, .int .i64 q, .int .i64 r, .slice B2 l.length d2] 31)).heap.size by simp)
      clear hal
      go_simp
      generalize hg4 : w6.heap.size = g4 at HG HSZ7 HSZ6 ⊢
      generalize w6.alloc (.cells #[.int .i64 1, .int .i64 0, .int .i64 f, .int .i64 x, .int .i64 s, .int .i64 p, .int .i64 q, .int .i64 r, .slice B2 l.length d2] 31) = w7 at HG HO7 HOW7 HB7 BX17 BX27 HSZ7 ⊢
      have HG := Lib.hid (show Blk w7 g4 ([.int .i64 1, .int .i64 0, .int .i64 f, .int .i64 x, .int .i64 s, .int .i64 p, .int .i64 q, .int .i64 r, .slice B2 l.length d2] : List Value).toArray 31 from HG.out)
      refine hK.out _ _ (by exact ⟨((HB7.out).cell (p := ⟨b, off, none⟩) hblw).trans j0, ((HB7.out).cell (p := ⟨b, off + 1, none⟩) hblw).trans j1, ((HB7.out).cell (p := ⟨b, off + 2, none⟩) hblw).trans j2, ((HB7.out).cell (p := ⟨b, off + 3, none⟩) hblw).trans j3, ((HB7.out).cell (p := ⟨b, off + 4, none⟩) hblw).trans j4, ((HB7.out).cell (p := ⟨b, off + 5, none⟩) hblw).trans j5, ((HB7.out).cell (p := ⟨b, off + 6, none⟩) hblw).trans j6, ((HB7.out).cell (p := ⟨b, off + 7, none⟩) hblw).trans j7, ((HB7.out).cell (p := ⟨b, off + 8, none⟩) hblw).trans j8, ((HB7.out).cell (p := ⟨b, off + 9, none⟩) hblw).trans j9, ((HB7.out).cell (p := ⟨b, off + 10, none⟩) hblw).trans j10, ((HB7.out).cell (p := ⟨b, off + 11, none⟩) hblw).trans j11, ((HB7.out).cell (p := ⟨b, off + 12, none⟩) hblw).trans j12⟩) (fun hHeld => ?_)
      clear hK K hg4
      (try simp only [Act.put, List.setIfInBounds_toArray, List.set_cons_zero, List.set_cons_succ])
      refine wpAnyH_ready (rs := [6]) (by kernel_rfl) (by simp) ?_
      refine AllReadyH.cons (o := ?_) ?_ (fun K hK => ?_) AllReadyH.nil
      rotate_left 1
      · (simp only [List.getElem?_toArray, List.getElem?_cons_zero, List.getElem?_cons_succ]; try rfl)
      refine step_app_act rfl (.tmp 46) (.tmp 51) 49 rfl 31 Lay.actL (.agg #[.int .i64 0, .int .i64 0, .int .i64 0, .int .i64 0, .int .i64 0, .int .i64 0, .int .i64 0, .int .i64 0, .slice none 0 0]) 9 88 Tryd.underlying49 Tryd.infoAct rfl rfl (by decide) (by decide) (.slice AL L.length cL) L fp [.int .i64 1, .int .i64 0, .int .i64 f, .int .i64 x, .int .i64 s, .int .i64 p, .int .i64 q, .int .i64 r, .slice B2 l.length d2] (1, 0, f, x, s, p, q, r, l) _ ⟨g4, 0, none⟩ 1 rfl rfl (by exact HOW7.out) HND.out (by exact own_act I1.out I0.out I7.out I2.out I3.out I4.out I5.out I6.out HO7.out) HO7.out.fp.1 W5.heap.size (fun z hz => by have h1 := (HFP.out z hz).2; have h2 := HSZ5.out; omega) (fun z hz => (HR6.out z hz).1) (cellsA HG.out) (by omega) ?_
      intro v8 w8 fp8 how8 hn8 hf8 hg8
      have hin8 : ∀ z, ((.slice AL L.length cL) : Value).ownBlock = some z → w.heap.size + 2 ≤ z := fun z hz => (HFP.out z (by obtain ⟨es8, _, _, _, e9⟩ := ow_one HOW7.out; rw [e9, hz]; simp)).1
      have hb8 : Below w.heap.size w w8 := HB7.out.grown hg8 HB7.out.size (fun z hz => by have := hin8 z hz; omega)
      have hk8 := Keeps.of_grown hg8
      have bx18 := BX17.out.of_block (hk8.block _ BX17.out.lt (fun h => by have := hin8 _ (by simpa using h); omega))
      have bx28 := BX27.out.of_block (hk8.block _ BX27.out.lt (fun h => by have := hin8 _ (by simpa using h); omega))
      have hf8' : ∀ z ∈ fp8, w.heap.size + 2 ≤ z ∧ z < w8.heap.size := fun z hz => by
        refine ⟨?_, Lay.acts.lt how8 z hz⟩
        rcases hf8 z hz with h | h | h
        · exact (HFP.out z h).1
        · have h1 := (HR6.out z (by simpa using h)).1; have h2 := HSZ5.out; have h3 := HSZW.out; omega
        · have h1 := HSZ7.out; have h2 := HSZ6.out; have h3 := HSZ5.out; have h4 := HSZW.out; omega
      obtain ⟨A8, c8, hv8, _, _, _⟩ := Lay.acts_rd (Lay.acts.read how8)
      obtain rfl : v8 = .slice A8 (L ++ [(1, 0, f, x, s, p, q, r, l)]).length c8 := by simpa using hv8
      obtain ⟨L2, hL2⟩ : ∃ L2, L ++ [(1, 0, f, x, s, p, q, r, l)] = L2 := ⟨_, rfl⟩
      have hLl2 : L2.length ≤ 301 * (k + 1) := by rw [← hL2]; simp; omega
      rw [hL2] at how8 HNL ⊢
      clear hL2
      have HOW8 := Lib.hid how8
      have HN8 := Lib.hid hn8
      have HF8 := Lib.hid hf8'
      have HB8 := Lib.hid hb8
      have BX18 := Lib.hid bx18
      have BX28 := Lib.hid bx28
      clear how8 hn8 hf8 hf8' hb8 hg8 hv8 bx18 bx28 hk8 hin8
      refine hK.out _ _ (by exact ⟨((HB8.out).cell (p := ⟨b, off, none⟩) hblw).trans j0, ((HB8.out).cell (p := ⟨b, off + 1, none⟩) hblw).trans j1, ((HB8.out).cell (p := ⟨b, off + 2, none⟩) hblw).trans j2, ((HB8.out).cell (p := ⟨b, off + 3, none⟩) hblw).trans j3, ((HB8.out).cell (p := ⟨b, off + 4, none⟩) hblw).trans j4, ((HB8.out).cell (p := ⟨b, off + 5, none⟩) hblw).trans j5, ((HB8.out).cell (p := ⟨b, off + 6, none⟩) hblw).trans j6, ((HB8.out).cell (p := ⟨b, off + 7, none⟩) hblw).trans j7, ((HB8.out).cell (p := ⟨b, off + 8, none⟩) hblw).trans j8, ((HB8.out).cell (p := ⟨b, off + 9, none⟩) hblw).trans j9, ((HB8.out).cell (p := ⟨b, off + 10, none⟩) hblw).trans j10, ((HB8.out).cell (p := ⟨b, off + 11, none⟩) hblw).trans j11, ((HB8.out).cell (p := ⟨b, off + 12, none⟩) hblw).trans j12⟩) (fun hHeld => ?_)
      clear hK K
      (try simp only [Act.put, List.setIfInBounds_toArray, List.set_cons_zero, List.set_cons_succ])
      refine wpAnyH_ready (rs := [7]) (by kernel_rfl) (by simp) ?_
      refine AllReadyH.cons (o := ?_) ?_ (fun K hK => ?_) AllReadyH.nil
      rotate_left 1
      · (simp only [List.getElem?_toArray, List.getElem?_cons_zero, List.getElem?_cons_succ]; try rfl)
      have x1 := BX18.out.cell 0
      have g1 := BX18.out.frozen 0
      have hkp9 := (Keeps.refl [w.heap.size] w8).put1 (List.mem_singleton.2 rfl) 0 (.slice A8 (L2).length c8)
      have HOW9 := Lib.hid (Lay.acts.keeps HOW8.out hkp9 (fun z hz => by have h1 := (HF8.out z hz).1; simp; omega))
      have HB9 := Lib.hid (HB8.out.setCell (p := ⟨w.heap.size, 0, none⟩) (by simp) (.slice A8 (L2).length c8))
      have BX19 := Lib.hid (show Blk (w8.setCell ⟨w.heap.size, 0, none⟩ (.slice A8 (L2).length c8)) w.heap.size #[.slice A8 (L2).length c8] 49 from BX18.out.set 0 (.slice A8 (L2).length c8))
      have BX29 := Lib.hid (BX28.out.of_block (hkp9.block _ BX28.out.lt (by simp)))
      have HF9 := Lib.hid (show ∀ z ∈ fp8, w.heap.size + 2 ≤ z ∧ z < (w8.setCell ⟨w.heap.size, 0, none⟩ (.slice A8 (L2).length c8)).heap.size from fun z hz => by have h1 := HF8.out z hz; simp; exact h1)
      clear hkp9
      go_simp
      refine hK.out _ _ (by exact ⟨((HB9.out).cell (p := ⟨b, off, none⟩) hblw).trans j0, ((HB9.out).cell (p := ⟨b, off + 1, none⟩) hblw).trans j1, ((HB9.out).cell (p := ⟨b, off + 2, none⟩) hblw).trans j2, ((HB9.out).cell (p := ⟨b, off + 3, none⟩) hblw).trans j3, ((HB9.out).cell (p := ⟨b, off + 4, none⟩) hblw).trans j4, ((HB9.out).cell (p := ⟨b, off + 5, none⟩) hblw).trans j5, ((HB9.out).cell (p := ⟨b, off + 6, none⟩) hblw).trans j6, ((HB9.out).cell (p := ⟨b, off + 7, none⟩) hblw).trans j7, ((HB9.out).cell (p := ⟨b, off + 8, none⟩) hblw).trans j8, ((HB9.out).cell (p := ⟨b, off + 9, none⟩) hblw).trans j9, ((HB9.out).cell (p := ⟨b, off + 10, none⟩) hblw).trans j10, ((HB9.out).cell (p := ⟨b, off + 11, none⟩) hblw).trans j11, ((HB9.out).cell (p := ⟨b, off + 12, none⟩) hblw).trans j12⟩) (fun hHeld => ?_)
      clear hK K
      (try simp only [Act.put, List.setIfInBounds_toArray, List.set_cons_zero, List.set_cons_succ])
      refine wpAnyH_done (by kernel_rfl) ?_ _
      refine NoPanic.normal ?_
      clear hHeld
      go_wp2
      go_roundw
      case rel => exact ⟨k + 1, m + 1, A8, c8, L2, fp8, TN, cT - 1, n - 1, by omega, by go_num, rfl, HN9.out, hn8, hn7, HOT1.out, HCM.out.1, HNL.out, hLl2, HNB.out, BX19.out, BX29.out, HOW9.out, HN8.out, HF9.out, HB9.out⟩
      case measure => simp [intOf]; omega
    refine AllReadyH.cons (o := ?_) ?_ (fun K hK => ?_) AllReadyH.nil
    rotate_left 1
    · (simp only [List.getElem?_toArray, List.getElem?_cons_zero, List.getElem?_cons_succ]; try rfl)
    have HG := Lib.hid (Blk.new w6 #[.int .i64 1, .int .i64 0, .int .i64 f, .int .i64 x, .int .i64 s, .int .i64 p, .int .i64 q, .int .i64 r, .slice B2 l.length d2] 31)
    have hal := (Below.refl w6.heap.size w6).alloc (Nat.le_refl _) (.cells #[.int .i64 1, .int .i64 0, .int .i64 f, .int .i64 x, .int .i64 s, .int .i64 p, .int .i64 q, .int .i64 r, .slice B2 l.length d2] 31)
    have HO7 := Lib.hid (HO6.out.below hal)
    have HOW7 := Lib.hid (Lay.acts.owBelow HOW6.out hal)
    have HB7 := Lib.hid (below_then HB6.out hal)
    have BX17 := Lib.hid (BX16.out.below hal)
    have BX27 := Lib.hid (BX26.out.below hal)
    have HSZ7 := Lib.hid (show w6.heap.size + 1 ≤ (w6.alloc (.cells #[.int .i64 1, .int .i64 0, .int .i64 f, .int .i64 x, .int .i64 s, .int .i64 p, .int .i64 q, .int .i64 r, .slice B2 l.length d2] 31)).heap.size by simp)
    clear hal
    go_simp
    generalize hg4 : w6.heap.size = g4 at HG HSZ7 HSZ6 ⊢
    generalize w6.alloc (.cells #[.int .i64 1, .int .i64 0, .int .i64 f, .int .i64 x, .int .i64 s, .int .i64 p, .int .i64 q, .int .i64 r, .slice B2 l.length d2] 31) = w7 at HG HO7 HOW7 HB7 BX17 BX27 HSZ7 ⊢
    have HG := Lib.hid (show Blk w7 g4 ([.int .i64 1, .int .i64 0, .int .i64 f, .int .i64 x, .int .i64 s, .int .i64 p, .int .i64 q, .int .i64 r, .slice B2 l.length d2] : List Value).toArray 31 from HG.out)
    refine hK.out _ _ (by exact ⟨((HB7.out).cell (p := ⟨b, off, none⟩) hblw).trans j0, ((HB7.out).cell (p := ⟨b, off + 1, none⟩) hblw).trans j1, ((HB7.out).cell (p := ⟨b, off + 2, none⟩) hblw).trans j2, ((HB7.out).cell (p := ⟨b, off + 3, none⟩) hblw).trans j3, ((HB7.out).cell (p := ⟨b, off + 4, none⟩) hblw).trans j4, ((HB7.out).cell (p := ⟨b, off + 5, none⟩) hblw).trans j5, ((HB7.out).cell (p := ⟨b, off + 6, none⟩) hblw).trans j6, ((HB7.out).cell (p := ⟨b, off + 7, none⟩) hblw).trans j7, ((HB7.out).cell (p := ⟨b, off + 8, none⟩) hblw).trans j8, ((HB7.out).cell (p := ⟨b, off + 9, none⟩) hblw).trans j9, ((HB7.out).cell (p := ⟨b, off + 10, none⟩) hblw).trans j10, ((HB7.out).cell (p := ⟨b, off + 11, none⟩) hblw).trans j11, ((HB7.out).cell (p := ⟨b, off + 12, none⟩) hblw).trans j12⟩) (fun hHeld => ?_)
    clear hK K hg4
    (try simp only [Act.put, List.setIfInBounds_toArray, List.set_cons_zero, List.set_cons_succ])
    have x1 := BX17.out.cell 0
    refine wpAnyH_ready (rs := [0]) (by kernel_rfl) (by simp) ?_
    refine AllReadyH.cons (o := ?_) ?_ (fun K hK => ?_) AllReadyH.nil
    rotate_left 1
    · (simp only [List.getElem?_toArray, List.getElem?_cons_zero, List.getElem?_cons_succ]; try rfl)
    go_simp
    refine hK.out _ _ (by exact ⟨((HB7.out).cell (p := ⟨b, off, none⟩) hblw).trans j0, ((HB7.out).cell (p := ⟨b, off + 1, none⟩) hblw).trans j1, ((HB7.out).cell (p := ⟨b, off + 2, none⟩) hblw).trans j2, ((HB7.out).cell (p := ⟨b, off + 3, none⟩) hblw).trans j3, ((HB7.out).cell (p := ⟨b, off + 4, none⟩) hblw).trans j4, ((HB7.out).cell (p := ⟨b, off + 5, none⟩) hblw).trans j5, ((HB7.out).cell (p := ⟨b, off + 6, none⟩) hblw).trans j6, ((HB7.out).cell (p := ⟨b, off + 7, none⟩) hblw).trans j7, ((HB7.out).cell (p := ⟨b, off + 8, none⟩) hblw).trans j8, ((HB7.out).cell (p := ⟨b, off + 9, none⟩) hblw).trans j9, ((HB7.out).cell (p := ⟨b, off + 10, none⟩) hblw).trans j10, ((HB7.out).cell (p := ⟨b, off + 11, none⟩) hblw).trans j11, ((HB7.out).cell (p := ⟨b, off + 12, none⟩) hblw).trans j12⟩) (fun hHeld => ?_)
    clear hK K
    (try simp only [Act.put, List.setIfInBounds_toArray, List.set_cons_zero, List.set_cons_succ])
    refine wpAnyH_ready (rs := [6]) (by kernel_rfl) (by simp) ?_
    refine AllReadyH.cons (o := ?_) ?_ (fun K hK => ?_) AllReadyH.nil
    rotate_left 1
    · (simp only [List.getElem?_toArray, List.getElem?_cons_zero, List.getElem?_cons_succ]; try rfl)
    refine step_app_act rfl (.tmp 46) (.tmp 51) 49 rfl 31 Lay.actL (.agg #[.int .i64 0, .int .i64 0, .int .i64 0, .int .i64 0, .int .i64 0, .int .i64 0, .int .i64 0, .int .i64 0, .slice none 0 0]) 9 88 Tryd.underlying49 Tryd.infoAct rfl rfl (by decide) (by decide) (.slice AL L.length cL) L fp [.int .i64 1, .int .i64 0, .int .i64 f, .int .i64 x, .int .i64 s, .int .i64 p, .int .i64 q, .int .i64 r, .slice B2 l.length d2] (1, 0, f, x, s, p, q, r, l) _ ⟨g4, 0, none⟩ 1 rfl rfl (by exact HOW7.out) HND.out (by exact own_act I1.out I0.out I7.out I2.out I3.out I4.out I5.out I6.out HO7.out) HO7.out.fp.1 W5.heap.size (fun z hz => by have h1 := (HFP.out z hz).2; have h2 := HSZ5.out; omega) (fun z hz => (HR6.out z hz).1) (cellsA HG.out) (by omega) ?_
    intro v8 w8 fp8 how8 hn8 hf8 hg8
    have hin8 : ∀ z, ((.slice AL L.length cL) : Value).ownBlock = some z → w.heap.size + 2 ≤ z := fun z hz => (HFP.out z (by obtain ⟨es8, _, _, _, e9⟩ := ow_one HOW7.out; rw [e9, hz]; simp)).1
    have hb8 : Below w.heap.size w w8 := HB7.out.grown hg8 HB7.out.size (fun z hz => by have := hin8 z hz; omega)
    have hk8 := Keeps.of_grown hg8
    have bx18 := BX17.out.of_block (hk8.block _ BX17.out.lt (fun h => by have := hin8 _ (by simpa using h); omega))
    have bx28 := BX27.out.of_block (hk8.block _ BX27.out.lt (fun h => by have := hin8 _ (by simpa using h); omega))
    have hf8' : ∀ z ∈ fp8, w.heap.size + 2 ≤ z ∧ z < w8.heap.size := fun z hz => by
      refine ⟨?_, Lay.acts.lt how8 z hz⟩
      rcases hf8 z hz with h | h | h
      · exact (HFP.out z h).1
      · have h1 := (HR6.out z (by simpa using h)).1; have h2 := HSZ5.out; have h3 := HSZW.out; omega
      · have h1 := HSZ7.out; have h2 := HSZ6.out; have h3 := HSZ5.out; have h4 := HSZW.out; omega
    obtain ⟨A8, c8, hv8, _, _, _⟩ := Lay.acts_rd (Lay.acts.read how8)
    obtain rfl : v8 = .slice A8 (L ++ [(1, 0, f, x, s, p, q, r, l)]).length c8 := by simpa using hv8
    obtain ⟨L2, hL2⟩ : ∃ L2, L ++ [(1, 0, f, x, s, p, q, r, l)] = L2 := ⟨_, rfl⟩
    have hLl2 : L2.length ≤ 301 * (k + 1) := by rw [← hL2]; simp; omega
    rw [hL2] at how8 HNL ⊢
    clear hL2
    have HOW8 := Lib.hid how8
    have HN8 := Lib.hid hn8
    have HF8 := Lib.hid hf8'
    have HB8 := Lib.hid hb8
    have BX18 := Lib.hid bx18
    have BX28 := Lib.hid bx28
    clear how8 hn8 hf8 hf8' hb8 hg8 hv8 bx18 bx28 hk8 hin8
    refine hK.out _ _ (by exact ⟨((HB8.out).cell (p := ⟨b, off, none⟩) hblw).trans j0, ((HB8.out).cell (p := ⟨b, off + 1, none⟩) hblw).trans j1, ((HB8.out).cell (p := ⟨b, off + 2, none⟩) hblw).trans j2, ((HB8.out).cell (p := ⟨b, off + 3, none⟩) hblw).trans j3, ((HB8.out).cell (p := ⟨b, off + 4, none⟩) hblw).trans j4, ((HB8.out).cell (p := ⟨b, off + 5, none⟩) hblw).trans j5, ((HB8.out).cell (p := ⟨b, off + 6, none⟩) hblw).trans j6, ((HB8.out).cell (p := ⟨b, off + 7, none⟩) hblw).trans j7, ((HB8.out).cell (p := ⟨b, off + 8, none⟩) hblw).trans j8, ((HB8.out).cell (p := ⟨b, off + 9, none⟩) hblw).trans j9, ((HB8.out).cell (p := ⟨b, off + 10, none⟩) hblw).trans j10, ((HB8.out).cell (p := ⟨b, off + 11, none⟩) hblw).trans j11, ((HB8.out).cell (p := ⟨b, off + 12, none⟩) hblw).trans j12⟩) (fun hHeld => ?_)
    clear hK K
    (try simp only [Act.put, List.setIfInBounds_toArray, List.set_cons_zero, List.set_cons_succ])
    refine wpAnyH_ready (rs := [7]) (by kernel_rfl) (by simp) ?_
    refine AllReadyH.cons (o := ?_) ?_ (fun K hK => ?_) AllReadyH.nil
    rotate_left 1
    · (simp only [List.getElem?_toArray, List.getElem?_cons_zero, List.getElem?_cons_succ]; try rfl)
    have x1 := BX18.out.cell 0
    have g1 := BX18.out.frozen 0
    have hkp9 := (Keeps.refl [w.heap.size] w8).put1 (List.mem_singleton.2 rfl) 0 (.slice A8 (L2).length c8)
    have HOW9 := Lib.hid (Lay.acts.keeps HOW8.out hkp9 (fun z hz => by have h1 := (HF8.out z hz).1; simp; omega))
    have HB9 := Lib.hid (HB8.out.setCell (p := ⟨w.heap.size, 0, none⟩) (by simp) (.slice A8 (L2).length c8))
    have BX19 := Lib.hid (show Blk (w8.setCell ⟨w.heap.size, 0, none⟩ (.slice A8 (L2).length c8)) w.heap.size #[.slice A8 (L2).length c8] 49 from BX18.out.set 0 (.slice A8 (L2).length c8))
    have BX29 := Lib.hid (BX28.out.of_block (hkp9.block _ BX28.out.lt (by simp)))
    have HF9 := Lib.hid (show ∀ z ∈ fp8, w.heap.size + 2 ≤ z ∧ z < (w8.setCell ⟨w.heap.size, 0, none⟩ (.slice A8 (L2).length c8)).heap.size from fun z hz => by have h1 := HF8.out z hz; simp; exact h1)
    clear hkp9
    go_simp
    refine hK.out _ _ (by exact ⟨((HB9.out).cell (p := ⟨b, off, none⟩) hblw).trans j0, ((HB9.out).cell (p := ⟨b, off + 1, none⟩) hblw).trans j1, ((HB9.out).cell (p := ⟨b, off + 2, none⟩) hblw).trans j2, ((HB9.out).cell (p := ⟨b, off + 3, none⟩) hblw).trans j3, ((HB9.out).cell (p := ⟨b, off + 4, none⟩) hblw).trans j4, ((HB9.out).cell (p := ⟨b, off + 5, none⟩) hblw).trans j5, ((HB9.out).cell (p := ⟨b, off + 6, none⟩) hblw).trans j6, ((HB9.out).cell (p := ⟨b, off + 7, none⟩) hblw).trans j7, ((HB9.out).cell (p := ⟨b, off + 8, none⟩) hblw).trans j8, ((HB9.out).cell (p := ⟨b, off + 9, none⟩) hblw).trans j9, ((HB9.out).cell (p := ⟨b, off + 10, none⟩) hblw).trans j10, ((HB9.out).cell (p := ⟨b, off + 11, none⟩) hblw).trans j11, ((HB9.out).cell (p := ⟨b, off + 12, none⟩) hblw).trans j12⟩) (fun hHeld => ?_)
    clear hK K
    (try simp only [Act.put, List.setIfInBounds_toArray, List.set_cons_zero, List.set_cons_succ])
    refine wpAnyH_done (by kernel_rfl) ?_ _
    refine NoPanic.normal ?_
    clear hHeld
    go_wp2
    go_roundw
    case rel => exact ⟨k + 1, m + 1, A8, c8, L2, fp8, TN, cT - 1, n - 1, by omega, by go_num, rfl, HN9.out, hn8, hn7, HOT1.out, HCM.out.1, HNL.out, hLl2, HNB.out, BX19.out, BX29.out, HOW9.out, HN8.out, HF9.out, HB9.out⟩
    case measure => simp [intOf]; omega

end Go.Proofs.YtgpjjolgpppeeaaDoor
