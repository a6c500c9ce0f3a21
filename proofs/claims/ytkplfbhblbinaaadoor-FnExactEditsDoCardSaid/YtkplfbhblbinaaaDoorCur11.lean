/-
  Chapter 5, EditsDo of the model and of the program: contracts. Own work.
  Chapter 5's draws: a list of edits that fit one behind the other. Own work.
-/
import Derived.Test.YtkplfbhblbinaaaDoorI08
import Derived.Test.YtkplfbhblbinaaaDoorC05
import Derived.Test.YtkplfbhblbinaaaDoorCur10
import Derived.Test.YtkplfbhblbinaaaDoorCur6
import Derived.Test.YtkplfbhblbinaaaDoorEs
namespace Go.Proofs.YtkplfbhblbinaaaDoor
open Go.RowKit P
set_option linter.unusedVariables false
set_option linter.unusedSimpArgs false
set_option maxRecDepth 100000

/-- What a call ends in that makes bytes of its own, and counts. -/
def MakesN (l : List UInt8) (n : Int) (w : World) (e : Ending) (w' : World) : Prop := ∃ v, e = .returned (.tuple #[v, .int .i64 n]) ∧ Own w' w.heap.size v l ∧ Below w.heap.size w w'

theorem edsRun_step {t : List UInt8} {es : List Ed} {k : Nat} (hk : k < es.length) {a m : Int} {p : List UInt8} (he : es[k] = (a, m, p)) (hok : edOk t a m p = true) :
    edsRun t (es.drop k) = ((edsRun (edText t a m p) (es.drop (k + 1))).1, (edsRun (edText t a m p) (es.drop (k + 1))).2 + 1) := by
  rw [List.drop_eq_getElem_cons hk, he]
  show (if edOk t a m p = true then _ else _) = _
  rw [if_pos hok]
theorem edsRun_stop {t : List UInt8} {es : List Ed} {k : Nat} (hk : k < es.length) {a m : Int} {p : List UInt8} (he : es[k] = (a, m, p)) (hok : edOk t a m p = false) : edsRun t (es.drop k) = (t, 0) := by
  rw [List.drop_eq_getElem_cons hk, he]
  show (if edOk t a m p = true then _ else _) = _
  rw [if_neg (by rw [hok]; decide)]

/-- How far the edits have got: now is the text behind the first k of them. -/
structure EdRun (l : List UInt8) (es : List Ed) (k : Nat) (now : List UInt8) : Prop where
  t : (edsRun now (es.drop k)).1 = (edsRun l es).1
  n : (edsRun now (es.drop k)).2 + k = (edsRun l es).2
  x : isText now = true
theorem EdRun.start {l : List UInt8} (es : List Ed) (h : isText l = true) : EdRun l es 0 l := ⟨rfl, rfl, h⟩
theorem EdRun.step {l : List UInt8} {es : List Ed} {k : Nat} {now : List UInt8} (h : EdRun l es k now) (hk : k < es.length) {a m : Int} {p : List UInt8} (he : es[k] = (a, m, p)) (hok : edOk now a m p = true) : EdRun l es (k + 1) (edText now a m p) := by
  have h1 := h.t
  have h2 := h.n
  rw [edsRun_step hk he hok] at h1 h2
  exact ⟨h1, by simp only at h2; omega, edText_ok hok⟩
theorem EdRun.stop {l : List UInt8} {es : List Ed} {k : Nat} {now : List UInt8} (h : EdRun l es k now) (hk : k < es.length) {a m : Int} {p : List UInt8} (he : es[k] = (a, m, p)) (hok : edOk now a m p = false) : (edsRun l es).1 = now ∧ (edsRun l es).2 = k := by
  have h1 := h.t
  have h2 := h.n
  rw [edsRun_stop hk he hok] at h1 h2
  exact ⟨h1.symm, by simp only at h2; omega⟩
theorem EdRun.done {l : List UInt8} {es : List Ed} {k : Nat} {now : List UInt8} (h : EdRun l es k now) (hk : k = es.length) : (edsRun l es).1 = now ∧ (edsRun l es).2 = es.length := by
  have h1 := h.t
  have h2 := h.n
  rw [hk, List.drop_length] at h1 h2
  exact ⟨h1.symm, by simp only [edsRun] at h2; omega⟩

set_option maxHeartbeats 8000000 in
theorem specEditsDo_any (A : Option Addr) (l : List UInt8) (c : Nat) (B : Option Addr) (es : List Ed) (d : Nat) (w : World) (hl : l.length ≤ c) (hc9 : c ≤ 9223372036854775807) (hn9 : es.length ≤ 9223372036854775807) (hA : Bs w A l) (hE : Es w B es) :
    Calls Tryd.prog 31 #[.slice A l.length c, .slice B es.length d] w (MakesN (edsText l es) (edsN l es) w) := by
  obtain ⟨q, hq⟩ : ∃ q, isText l = q := ⟨_, rfl⟩
  have HQ := Lib.hid hq
  cases q
  · have e1 : edsText l es = [] := by unfold edsText; rw [hq]; rfl
    have e2 : edsN l es = -1 := by unfold edsN; rw [hq]; rfl
    rw [e1, e2]
    clear hq e1 e2
    go_enter Tryd.func31, Tryd.ntmps31
    go_wp2_with fail
    refine (specTextOk_any A l c _ hl hc9 (by exact hA)).mono ?_
    rintro e w1 ⟨rfl, hb1⟩
    rw [HQ.out]
    go_wp2
    go_ret2
    exact ⟨.slice none 0 0, rfl, Own.nil _ _, hb1⟩
  have e1 : edsText l es = (edsRun l es).1 := by unfold edsText; rw [hq]; rfl
  have e2 : edsN l es = ((edsRun l es).2 : Int) := by unfold edsN; rw [hq]; rfl
  have hl4 := isText_len hq
  have hst := Lib.hid (EdRun.start es hq)
  rw [e1, e2]
  clear hq e1 e2
  go_enter Tryd.func31, Tryd.ntmps31
  go_wp2_with fail
  refine (specTextOk_any A l c _ hl hc9 (by exact hA)).mono ?_
  rintro e w1 ⟨rfl, hb1⟩
  rw [HQ.out]
  have hown0 : Own (w1.alloc (.cells #[] 5)) w1.heap.size (.slice (some ⟨w1.heap.size, 0, none⟩) 0 0) [] := World.ownsRow_made w1 #[] 0 (Nat.le_refl _) (by unfold maxLen; omega) rfl
  have hal := (Below.refl w1.heap.size w1).alloc (Nat.le_refl _) (.cells #[] 5)
  have hA1 := (hA.below hb1).below hal
  have HAL := Lib.hid hal
  have HO0 := Lib.hid hown0
  clear hal hown0
  go_wp2_with (at_builtin; go_must (refine wpList_app_bytes rfl _ _ rfl w1.heap.size _ [] l A l.length c rfl rfl rfl HO0.out hA1 ?c1 ?c2 ?_))
  case c1 => simp; omega
  case c2 => simp
  intro v4 w4 hown4 hg4 _
  have hb4 := HAL.out.grown hg4 (by simp) (fun x hx => (World.ownsRow.lt HO0.out x hx).1)
  have hb4 := below_then hb1 hb4
  have hown4 := hown4.mono (base' := w.heap.size) hb1.size
  obtain ⟨A4, c4, rfl, hc4, hc49, hB4, hp4, hq4⟩ := own_plain9 hown4
  clear hA1 HAL HO0 hg4 hb1
  go_wp2
  go_loopw [6, 7] (fun at_ i wr => ∃ (k : Nat) (now : List UInt8) (A' : Option Addr) (c' : Nat), i = .int .i64 k ∧ k ≤ es.length ∧ at_ = .slice A' now.length c' ∧ Own wr w.heap.size (.slice A' now.length c') now ∧ Hid (EdRun l es k now) ∧ Below w.heap.size w wr) (fun _ i _ => es.length - (intOf i).toNat)
  case atStart => exact ⟨0, l, A4, c4, rfl, Nat.zero_le _, rfl, hown4, hst, hb4⟩
  case round =>
    obtain ⟨k, now, A', c', rfl, hk, rfl, hown, HR, hb⟩ := hrel
    by_cases hlt : k < es.length
    · obtain ⟨b, off, a, m, Bp, p, dp, rfl, hbl, hek, k0, k1, k2, ha, hm, hpd, hdm, hBp⟩ := (hE.below hb).at_ k hlt
      have hd9 : dp ≤ 9223372036854775807 := by unfold maxLen at hdm; omega
      obtain ⟨A5, c5, e5, hc5, hc59, hB5, hp5, hq5⟩ := own_plain9 hown
      simp only [Value.slice.injEq, true_and] at e5
      obtain ⟨rfl, rfl⟩ := e5
      have hPl : Pl A' c' := by unfold Pl; exact ⟨hp5, hq5⟩
      obtain ⟨z, hz⟩ : ∃ z, edOk now a m p = z := ⟨_, rfl⟩
      have HZ := Lib.hid hz
      have HEK := Lib.hid hek
      have hnl := isText_len HR.out.x
      clear hz hek
      go_wp2_with fail
      refine (specEditDo_any A' now c' a m Bp p dp _ hc5 hc59 hpd hd9 hPl (by exact hB5) (by exact hBp)).mono ?_
      rintro e w5 ⟨v5, rfl, hown5, hb5⟩
      rw [HZ.out]
      have hown' := hown.below hb5
      have hs5 := hb.size
      have hb := below_then hb hb5
      cases z
      · have hst := HR.out.stop hlt HEK.out HZ.out
        have HS := Lib.hid hst
        clear hst k0 k1 k2
        obtain ⟨A6, c6, rfl, _, _, _⟩ := hown5.form
        go_wp2
        go_ret2
        exact ⟨.slice A' now.length c', by rw [HS.out.2]; rfl, by rw [HS.out.1]; exact hown', hb⟩
      · have hst := HR.out.step hlt HEK.out HZ.out
        have hD : edDo now a m p = edText now a m p := by unfold edDo; rw [HZ.out, if_pos rfl]
        rw [hD] at hown5
        obtain ⟨nx, hnx⟩ : ∃ nx, edText now a m p = nx := ⟨_, rfl⟩
        rw [hnx] at hown5 hst
        have hown5 := hown5.mono (base' := w.heap.size) hs5
        have HS := Lib.hid hst
        obtain ⟨A6, c6, rfl, _, _, _⟩ := hown5.form
        clear hst hD hnx k0 k1 k2
        go_wp2
        go_roundw
        case rel => exact ⟨k + 1, nx, A6, c6, by go_num, by omega, rfl, hown5, HS, hb⟩
        case measure => simp [intOf]; omega
    · have e : k = es.length := by omega
      have hst := HR.out.done e
      have HS := Lib.hid hst
      clear hst e
      go_wp2
      go_ret2
      exact ⟨.slice A' now.length c', by rw [HS.out.2]; rfl, by rw [HS.out.1]; exact hown, hb⟩

set_option maxHeartbeats 8000000 in
theorem implEditsDo_any (A : Option Addr) (l : List UInt8) (c : Nat) (B : Option Addr) (es : List Ed) (d : Nat) (w : World) (hl : l.length ≤ c) (hc9 : c ≤ 9223372036854775807) (hn9 : es.length ≤ 9223372036854775807) (hT : Tab w) (hA : Bs w A l) (hE : Es w B es) :
    Calls Tryd.prog 32 #[.slice A l.length c, .slice B es.length d] w (MakesN (edsText l es) (edsN l es) w) := by
  obtain ⟨q, hq⟩ : ∃ q, isText l = q := ⟨_, rfl⟩
  have HQ := Lib.hid hq
  cases q
  · have e1 : edsText l es = [] := by unfold edsText; rw [hq]; rfl
    have e2 : edsN l es = -1 := by unfold edsN; rw [hq]; rfl
    rw [e1, e2]
    clear hq e1 e2
    go_enter Tryd.func32, Tryd.ntmps32
    go_wp2_with fail
    refine (textOk_any A l c _ hl hc9 (by exact hT) (by exact hA)).mono ?_
    rintro e w1 ⟨rfl, n1, rfl⟩
    rw [HQ.out]
    go_wp2
    go_ret2
    exact ⟨.slice none 0 0, rfl, Own.nil _ _, below_of_drewN w n1⟩
  have e1 : edsText l es = (edsRun l es).1 := by unfold edsText; rw [hq]; rfl
  have e2 : edsN l es = ((edsRun l es).2 : Int) := by unfold edsN; rw [hq]; rfl
  have hl4 := isText_len hq
  have hst := Lib.hid (EdRun.start es hq)
  rw [e1, e2]
  clear hq e1 e2
  go_enter Tryd.func32, Tryd.ntmps32
  go_wp2_with fail
  refine (textOk_any A l c _ hl hc9 (by exact hT) (by exact hA)).mono ?_
  rintro e w1 ⟨rfl, n1, rfl⟩
  rw [HQ.out]
  have hb1 := below_of_drewN w n1
  generalize w.drewN n1 = w1 at *
  go_wp2_with fail
  refine (bytesClone_opt A l l.length c _ rfl (by omega) (by exact hA.below hb1)).mono ?_
  rintro e w4 ⟨v4, rfl, hown4, hb4⟩
  have hb4 := below_then hb1 hb4
  have hown4 := hown4.mono (base' := w.heap.size) hb1.size
  obtain ⟨A4, c4, rfl, hc4, hc49, hB4, hp4, hq4⟩ := own_plain9 hown4
  clear hb1
  go_wp2
  go_loopw [6, 18] (fun at_ i wr => ∃ (k : Nat) (now : List UInt8) (A' : Option Addr) (c' : Nat), i = .int .i64 k ∧ k ≤ es.length ∧ at_ = .slice A' now.length c' ∧ Own wr w.heap.size (.slice A' now.length c') now ∧ Hid (EdRun l es k now) ∧ Below w.heap.size w wr) (fun _ i _ => es.length - (intOf i).toNat)
  case atStart => exact ⟨0, l, A4, c4, rfl, Nat.zero_le _, rfl, hown4, hst, hb4⟩
  case round =>
    obtain ⟨k, now, A', c', rfl, hk, rfl, hown, HR, hb⟩ := hrel
    by_cases hlt : k < es.length
    · obtain ⟨b, off, a, m, Bp, p, dp, rfl, hbl, hek, k0, k1, k2, ha, hm, hpd, hdm, hBp⟩ := (hE.below hb).at_ k hlt
      have hd9 : dp ≤ 9223372036854775807 := by unfold maxLen at hdm; omega
      obtain ⟨A5, c5, e5, hc5, hc59, hB5, hp5, hq5⟩ := own_plain9 hown
      simp only [Value.slice.injEq, true_and] at e5
      obtain ⟨rfl, rfl⟩ := e5
      have hPl : Pl A' c' := by unfold Pl; exact ⟨hp5, hq5⟩
      obtain ⟨z, hz⟩ : ∃ z, edOk now a m p = z := ⟨_, rfl⟩
      have HZ := Lib.hid hz
      have HEK := Lib.hid hek
      have hnl := isText_len HR.out.x
      clear hz hek
      have hal := (Below.refl wr.heap.size wr).alloc (Nat.le_refl _) (.cells #[.int .i64 a, .int .i64 m, .slice Bp p.length dp] 25)
      have bX := EBox.new wr a m Bp p.length dp
      have x0 := bX.c0
      have x1 := bX.c1
      have x2 := bX.c2
      have hB5 := hB5.below hal
      have hBp := hBp.below hal
      have hown := hown.below hal
      have hs4 := hal.size
      have hb' := below_then hb hal
      have hTb := hT.below hb'
      go_wp2_with fail
      refine (implEditDo_any A' now c' a m Bp p dp _ hc5 hc59 hpd hd9 hm.2 hPl (by exact hTb) (by exact hB5) (by exact hBp)).mono ?_
      rintro e w5 ⟨v5, rfl, hown5, hb5⟩
      rw [HZ.out]
      have hown' := hown.below hb5
      have hs5 := hb'.size
      have hb := below_then hb' hb5
      clear x0 x1 x2 hTb
      cases z
      · have hst := HR.out.stop hlt HEK.out HZ.out
        have HS := Lib.hid hst
        clear hst k0 k1 k2
        obtain ⟨A6, c6, rfl, _, _, _⟩ := hown5.form
        go_wp2
        go_ret2
        exact ⟨.slice A' now.length c', by rw [HS.out.2]; rfl, by rw [HS.out.1]; exact hown', hb⟩
      · have hst := HR.out.step hlt HEK.out HZ.out
        have hD : edDo now a m p = edText now a m p := by unfold edDo; rw [HZ.out, if_pos rfl]
        rw [hD] at hown5
        obtain ⟨nx, hnx⟩ : ∃ nx, edText now a m p = nx := ⟨_, rfl⟩
        rw [hnx] at hown5 hst
        have hown5 := hown5.mono (base' := w.heap.size) hs5
        have HS := Lib.hid hst
        obtain ⟨A6, c6, rfl, _, _, _⟩ := hown5.form
        clear hst hD hnx k0 k1 k2
        go_wp2
        go_roundw
        case rel => exact ⟨k + 1, nx, A6, c6, by go_num, by omega, rfl, hown5, HS, hb⟩
        case measure => simp [intOf]; omega
    · have e : k = es.length := by omega
      have hst := HR.out.done e
      have HS := Lib.hid hst
      clear hst e
      go_wp2
      go_ret2
      exact ⟨.slice A' now.length c', by rw [HS.out.2]; rfl, by rw [HS.out.1]; exact hown, hb⟩
end Go.Proofs.YtkplfbhblbinaaaDoor

namespace Go.Proofs.YtkplfbhblbinaaaDoor
open Go.RowKit P
set_option linter.unusedVariables false
set_option linter.unusedSimpArgs false
set_option maxRecDepth 100000

set_option maxHeartbeats 8000000 in
theorem edits_any (g N n : Nat) (A : Option Addr) (l : List UInt8) (c : Nat) (w : World) (hn : n ≤ 9) (hN : N ≤ 5000) (hl : l.length ≤ c) (hc9 : c ≤ 9223372036854775807) (hPl : Pl A c) (h : Cur w g N) (hA : Bs w A l) (hne : ∀ b off, A = some ⟨b, off, none⟩ → 0 < l.length → b ≠ g) :
    Calls Tryd.prog 61 #[.pointer (some ⟨g, 0, none⟩), .slice A l.length c, .int .i64 n] w (DrawsEs g (N + 1 + 60 * n) n w) := by
  have hglt := h.lt
  have how0 := Lay.slice_empty 25 Lay.edit w
  have hc0 := h.alloc (.cells #[] 25)
  have hA0 := hA.below ((Below.refl w.heap.size w).alloc (Nat.le_refl _) (.cells #[] 25))
  go_enter Tryd.func61, Tryd.ntmps61
  go_wp2_with fail
  refine (size_any g N _ _ (by omega) (by omega) (by omega) (by exact hc0)).mono ?_
  rintro e w1 ⟨x, rfl, hx0, hx1, hc1, ho1⟩
  obtain ⟨j0, rfl⟩ := Int.eq_ofNat_of_zero_le hx0
  have hj0 : j0 ≤ n := by omega
  have how1 := Lay.only Lay.edits how0 ho1 (by intro k hk; simp at hk; omega)
  have hA1 := ho1.bs hA0 hne
  have ho1' := ho1.of_alloc
  have hs1 := ho1'.size
  clear how0 ho1 hx0 hx1 hc0 hA hA0
  go_wp2
  go_loopw [1, 7, 8] (fun txt out kk wr => ∃ (j : Nat) (A' : Option Addr) (t : List UInt8) (c' : Nat) (L : List Ed) (v : Value) (fp : List Nat), kk = .int .i64 j ∧ out = v ∧ txt = .slice A' t.length c' ∧ t.length ≤ c' ∧ c' ≤ 9223372036854775807 ∧ Pl A' c' ∧ Bs wr A' t ∧ (∀ b off, A' = some ⟨b, off, none⟩ → 0 < t.length → b ≠ g) ∧ j ≤ n ∧ Lay.edits.ow wr [v] L fp ∧ fp.Nodup ∧ (∀ k ∈ fp, w.heap.size ≤ k) ∧ L.length ≤ n - j ∧ Cur wr g (N + 1 + 60 * (n - j)) ∧ Only g w wr) (fun _ _ kk _ => (intOf kk).toNat)
  case atStart => exact ⟨j0, A, l, c, [], _, _, rfl, rfl, rfl, hl, hc9, hPl, hA1, hne, hj0, how1, by simp, by simp, by simp, hc1.mono (by omega), ho1'⟩
  case round =>
    obtain ⟨j, A', t, c', L, v, fp, rfl, rfl, rfl, hl', hc9', hPl', hB, hne', hjn, how, hnd, hfp, hL, hcur, honly⟩ := hrel
    by_cases hj : 0 < j
    · go_wp2_with fail
      refine (edit_any g (N + 1 + 60 * (n - j)) A' t c' _ (by omega) hl' hc9' (by exact hcur) (by exact hB)).mono ?_
      rintro e w2 ⟨a, m, v2, p, rfl, ha, hm, hown2, hp5, hc2, ho2⟩
      obtain ⟨A2, c2, rfl, hp2, hc29, hP2, _, _⟩ := own_plain9 hown2
      have hB2 := ho2.bs hB hne'
      have how2 := Lay.only Lay.edits how ho2 (by intro k hk; have := hfp k hk; omega)
      have hlt2 := Lay.edits.lt how
      have hsz := honly.size
      have hsa := ho2.size
      have ho2 := honly.trans ho2
      have hs2 := ho2.size
      clear how honly hcur hB
      have hal := (Below.refl w2.heap.size w2).alloc (Nat.le_refl _) (.cells #[.int .i64 a, .int .i64 m, .slice A2 p.length c2] 25)
      have bE := EBox.new w2 a m A2 p.length c2
      have hsb := hal.size
      have hB2 := hB2.below hal
      have hP2 := hP2.below hal
      have e0 := bE.c0
      have e1 := bE.c1
      have e2 := bE.c2
      have how2 := Lay.edits.owBelow how2 hal
      have hown2 := hown2.below hal
      have hc2 := hc2.only_new hal
      have ho2 := ho2.trans (Only.of_below hal)
      obtain ⟨z, hz⟩ : ∃ z, edOk t a m p = z := ⟨_, rfl⟩
      have HZ := Lib.hid hz
      clear hz hal
      go_wp2_with fail
      generalize w2.alloc (.cells #[.int .i64 a, .int .i64 m, .slice A2 p.length c2] 25) = W2 at *
      refine (specEditDo_any A' t c' a m A2 p c2 _ hl' hc9' hp2 hc29 hPl' (by exact hB2) (by exact hP2)).mono ?_
      rintro e w3 ⟨v3, rfl, hown3, hb3⟩
      rw [HZ.out]
      obtain ⟨nx, hnx⟩ : ∃ nx, edDo t a m p = nx := ⟨_, rfl⟩
      rw [hnx] at hown3
      obtain ⟨A3, c3, rfl, hl3, hc39, hB3, hp3, hq3⟩ := own_plain9 hown3
      have hr3 := hown3.range
      have hgW := hc2.lt
      have hB2 := hB2.below hb3
      have hown2 := hown2.below hb3
      have how2 := Lay.edits.owBelow how2 hb3
      have hc3' := hc2.only_new hb3
      have ho3 := ho2.trans (Only.of_below hb3)
      have bE := bE.below hb3
      have hs3 := ho3.size
      clear hnx e0 e1 e2 hc2 ho2 hP2
      cases z
      · go_wp2
        go_roundw
        case rel => exact ⟨j - 1, A', t, c', L, _, fp, by go_num, rfl, rfl, hl', hc9', hPl', hB2, hne', by omega, how2, hnd, hfp, by omega, hc3'.mono (by omega), ho3⟩
        case measure => simp [intOf]; omega
      · have e0 := bE.c0
        have e1 := bE.c1
        have e2 := bE.c2
        have hal := (Below.refl w3.heap.size w3).alloc (Nat.le_refl _) (.cells #[.int .i64 a, .int .i64 m, .slice A2 p.length c2] 25)
        have how3 := Lay.edits.owBelow how2 hal
        have hown3e := own_edit ha hm (hown2.below hal)
        have hc4 := hc3'.only_new hal
        have ho4 := ho3.trans (Only.of_below hal)
        have hfp2 := hown2.fp
        have hL6 : L.length ≤ 1000000 := by omega
        have HO3 := Lib.hid (hown3.below hal)
        have HOW := Lib.hid how3
        have HOE := Lib.hid hown3e
        have HC4 := Lib.hid hc4
        have HO4 := Lib.hid ho4
        have hsA := World.size_alloc w3 (.cells #[.int .i64 a, .int .i64 m, .slice A2 p.length c2] 25)
        have HSA := Lib.hid hsA
        clear how3 hown3e hc4 ho4 hal hB3 hsA
        go_wp2_with (at_builtin; go_must (refine wpList_app_one rfl _ _ 43 rfl 25 Lay.edit (.agg #[.int .i64 0, .int .i64 0, .slice none 0 0]) 3 40 Tryd.underlying43 Tryd.infoEd rfl rfl (by decide) (by decide) _ L fp [.int .i64 a, .int .i64 m, .slice A2 p.length c2] (a, m, p) _ ⟨w3.heap.size, 0, none⟩ 1 rfl rfl HOW.out hnd HOE.out hfp2.1 wr.heap.size ?d1 ?d2 ?d3 hL6 ?_))
        case d1 => exact fun k hk => hlt2 k hk
        case d2 => exact fun k hk => hfp2.2 k hk
        case d3 => exact cell_new3
        intro v6 w6 fp6 how6 hn6 hf6 hg6
        have hc6 := HC4.out.grownE HOW.out hg6 (fun k hk => by have := hfp k hk; omega)
        have ho6 := HO4.out.grownE HOW.out hg6 hfp
        have hown6 := HO3.out.heap (w' := w6) (fun k hk => hg6.block k (by have h9 := (HO3.out.range k hk).2; exact h9) (fun e => by
          obtain ⟨es9, _, _, _, e9⟩ := ow_one HOW.out
          have h1 := hlt2 k (by rw [e9, ← e]; simp)
          have h2 := (HO3.out.range k hk).1
          omega))
        have hB6 := own_bs9 hown6
        have hne6 : ∀ b off, A3 = some ⟨b, off, none⟩ → 0 < nx.length → b ≠ g := fun b off e _ => by
          have h2 := (HO3.out.range b (by rw [e]; simp [Value.ownBlock])).1
          omega
        have hf6' : ∀ x ∈ fp6, w.heap.size ≤ x := fun x hx => by
          rcases hf6 x hx with h | h | h
          · exact hfp x h
          · have := hfp2.2 x (by simpa using h); omega
          · have := HSA.out; omega
        have hPl3 : Pl A3 c3 := by unfold Pl; exact ⟨hp3, hq3⟩
        clear hg6 hf6 hfp HOW HOE HO3 HC4 HO4 hown6 e0 e1 e2
        go_wp2
        go_roundw
        case rel => exact ⟨j - 1, A3, nx, c3, L ++ [(a, m, p)], _, fp6, by go_num, rfl, rfl, hl3, hc39, hPl3, hB6, hne6, by omega, how6, hn6, hf6', by rw [List.length_append, List.length_singleton]; omega, hc6.mono (by omega), ho6⟩
        case measure => simp [intOf]; omega
    · go_wp2
      go_ret
      exact ⟨_, L, fp, rfl, how, hnd, hfp, by omega, hcur.mono (by omega), honly⟩

/-- What a draw of two rows of bytes ends in. -/
def DrawsBB (w : World) (e : Ending) (w' : World) : Prop :=
  ∃ A l c B r d, e = .returned (.tuple #[.slice A l.length c, .slice B r.length d]) ∧ l.length ≤ 401 ∧ l.length ≤ c ∧ c ≤ 9223372036854775807 ∧ Pl A c ∧ Bs w' A l ∧ r.length ≤ 401 ∧ r.length ≤ d ∧ d ≤ 9223372036854775807 ∧ Pl B d ∧ Bs w' B r ∧ Below w.heap.size w w'

theorem edsText_len (t : List UInt8) (es : List Ed) : (edsText t es).length ≤ 400 := by
  unfold edsText
  split
  · rename_i h; exact isText_len (edsRun_text es t h)
  · simp

set_option maxHeartbeats 8000000 in
theorem drawEditOf_any (A : Option Addr) (l : List UInt8) (c : Nat) (w : World) (hl : l.length ≤ 1048576) (hA : Bs w A l) :
    Calls Tryd.prog 21 #[.slice A l.length c] w (DrawsBB w) := by
  go_enter Tryd.func21, Tryd.ntmps21
  go_wp2_with fail
  refine (l01Open_any A l c _ hl (by exact hA)).mono ?_
  rintro e w1 ⟨rfl, hc0, hb0⟩
  obtain ⟨g, hg⟩ : ∃ g, w.heap.size = g := ⟨_, rfl⟩
  have hwg : w.heap.size ≤ g := by omega
  have hs0 := hb0.size
  rw [hg] at hc0 ⊢
  clear hg
  have hgl := hc0.lt
  go_wp2_with fail
  refine (badText_any g 0 40 _ (by omega) (by omega) (by exact hc0)).mono ?_
  rintro e w2 ⟨v2, t, rfl, hown2, ht, hc2, ho2⟩
  obtain ⟨A2, c2, rfl, hlc2, hcm2, hB2, hp1, hp2⟩ := own_plain9 hown2
  have hPl2 : Pl A2 c2 := by unfold Pl; exact ⟨hp1, hp2⟩
  have hne2 : ∀ b off, A2 = some ⟨b, off, none⟩ → 0 < t.length → b ≠ g := fun b off e _ => by
    have h2 := (hown2.range b (by rw [e]; simp [Value.ownBlock])).1
    omega
  have hb2 := hb0.trans (ho2.below w.heap.size hwg hs0)
  have hs2 := ho2.size
  clear hc0 hb0
  go_wp2_with fail
  refine (edits_any g (0 + 5 + 3 * 40) 2 A2 t c2 _ (by omega) (by omega) hlc2 hcm2 hPl2 (by exact hc2) (by exact hB2) hne2).mono ?_
  rintro e w3 ⟨v3, es, fp, rfl, how3, hnd3, hfp3, hes3, hc3, ho3⟩
  obtain ⟨A3, c3, e3, hlc3, hcm3, hE3⟩ := Lay.edits.read how3
  cases e3
  have hown3 := hown2.only ho3 (by omega)
  have hB3 := ho3.bs hB2 hne2
  have hb3 := hb2.trans (ho3.below w.heap.size hwg (by omega))
  have hs3 := ho3.size
  clear hc2 hB2 hb2 how3
  go_wp2_with fail
  refine (specEditsDo_any A2 t c2 A3 es c3 _ hlc2 hcm2 (by omega) (by exact hB3) (by exact hE3)).mono ?_
  rintro e w4 ⟨v4, rfl, hown4, hb4⟩
  obtain ⟨u, hu⟩ : ∃ u, edsText t es = u := ⟨_, rfl⟩
  have hul : u.length ≤ 400 := by rw [← hu]; exact edsText_len t es
  rw [hu] at hown4
  obtain ⟨A4, c4, rfl, hlc4, hcm4, hB4, hp41, hp42⟩ := own_plain9 hown4
  have hPl4 : Pl A4 c4 := by unfold Pl; exact ⟨hp41, hp42⟩
  have hne4 : ∀ b off, A4 = some ⟨b, off, none⟩ → 0 < u.length → b ≠ g := fun b off e _ => by
    have h2 := (hown4.range b (by rw [e]; simp [Value.ownBlock])).1
    omega
  have hc4 := hc3.only_new hb4
  have hB3 := hB3.below hb4
  have hs4 := hb4.size
  have hb4 := hb3.trans (hb4.mono (by omega))
  clear hc3 hb3 hu
  go_wp2_with fail
  refine (once_any g (0 + 5 + 3 * 40 + 1 + 60 * 2) 5 _ (by omega) (by omega) (by omega) (by exact hc4)).mono ?_
  rintro e w5 ⟨q, rfl, hc5, ho5⟩
  have hB5 := ho5.bs hB3 hne2
  have hB54 := ho5.bs hB4 hne4
  have hb5 := hb4.trans (ho5.below w.heap.size hwg (by omega))
  have hs5 := ho5.size
  clear hc4 hb4
  cases q
  · go_wp2
    go_ret2
    exact ⟨A2, t, c2, A4, u, c4, rfl, by omega, hlc2, hcm2, hPl2, hB5, by omega, hlc4, hcm4, hPl4, hB54, hb5⟩
  · go_wp2_with fail
    refine (badText_any g (0 + 5 + 3 * 40 + 1 + 60 * 2 + 1) 30 _ (by omega) (by omega) (by exact hc5)).mono ?_
    rintro e w6 ⟨v6, u6, rfl, hown6, hu6, hc6, ho6⟩
    obtain ⟨A6, c6, rfl, hlc6, hcm6, hB6, hp61, hp62⟩ := own_plain9 hown6
    have hPl6 : Pl A6 c6 := by unfold Pl; exact ⟨hp61, hp62⟩
    have hB56 := ho6.bs hB5 hne2
    have hb6 := hb5.trans (ho6.below w.heap.size hwg (by omega))
    go_wp2
    go_ret2
    exact ⟨A2, t, c2, A6, u6, c6, rfl, by omega, hlc2, hcm2, hPl2, hB56, by omega, hlc6, hcm6, hPl6, hB6, hb6⟩
end Go.Proofs.YtkplfbhblbinaaaDoor
