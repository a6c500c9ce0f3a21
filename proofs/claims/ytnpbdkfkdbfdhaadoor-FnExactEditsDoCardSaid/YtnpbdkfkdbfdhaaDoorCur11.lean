/-
  Chapter 5, EditsDo of the model and of the program: contracts. Own work.
  Chapter 5's draws: a list of edits that fit one behind the other. Own work.
-/
import Derived.Test.YtnpbdkfkdbfdhaaDoorI08
import Derived.Test.YtnpbdkfkdbfdhaaDoorC05
import Derived.Test.YtnpbdkfkdbfdhaaDoorCur10
import Derived.Test.YtnpbdkfkdbfdhaaDoorCur6
import Derived.Test.YtnpbdkfkdbfdhaaDoorEs
namespace Go.Proofs.YtnpbdkfkdbfdhaaDoor
open Go.RowKit P
set_option linter.unusedVariables false
set_option linter.unusedSimpArgs false
set_option maxRecDepth 100000

/-- What a call ends in that makes bytes of its own, and counts. -/
def MakesN (l : List UInt8) (n : Int) (w : World) (e : Ending) (w' : World) : Prop := ∃ v, e = .returned (.tuple #[v, .int .i64 n]) ∧ Own w' w.heap.size v l ∧ Below w.heap.size w w'

theorem edsRun_step {t : List UInt8} {es : List Ed} {k : Nat} (hk : k < es.length) {a m : Int} {p : List UInt8} (he : es[k] = (a, m, p)) (hok : edOk t a m p = true) :
    edsRun t (es.drop k) = ((edsRun (edText t a m p) (es.drop (k + 1))).1, (edsRun (edText t a m p) (es.drop (k + 1))).2 + 1) := by
  rw [List.drop_eq_getElem_cons hk, he]
  show (if edOk t a m p = true then _ else _) = _
  rw [if_pos hok]
theorem edsRun_stop {t : List UInt8} {es : List Ed} {k : Nat} (hk : k < es.length) {a m : Int} {p : List UInt8} (he : es[k] = (a, m, p)) (hok : edOk t a m p = false) : edsRun t (es.drop k) = (t, 0) := by
  rw [List.drop_eq_getElem_cons hk, he]
  show (if edOk t a m p = true then _ else _) = _
  rw [if_neg (by rw [hok]; decide)]

/-- How far the edits have got: now is the text behind the first k of them. -/
structure EdRun (l : List UInt8) (es : List Ed) (k : Nat) (now : List UInt8) : Prop where
  t : (edsRun now (es.drop k)).1 = (edsRun l es).1
  n : (edsRun now (es.drop k)).2 + k = (edsRun l es).2
  x : isText now = true
theorem EdRun.start {l : List UInt8} (es : List Ed) (h : isText l = true) : EdRun l es 0 l := ⟨rfl, rfl, h⟩
theorem EdRun.step {l : List UInt8} {es : List Ed} {k : Nat} {now : List UInt8} (h : EdRun l es k now) (hk : k < es.length) {a m : Int} {p : List UInt8} (he : es[k] = (a, m, p)) (hok : edOk now a m p = true) : EdRun l es (k + 1) (edText now a m p) := by
  have h1 := h.t
  have h2 := h.n
  rw [edsRun_step hk he hok] at h1 h2
  exact ⟨h1, by simp only at h2; omega, edText_ok hok⟩
theorem EdRun.stop {l : List UInt8} {es : List Ed} {k : Nat} {now : List UInt8} (h : EdRun l es k now) (hk : k < es.length) {a m : Int} {p : List UInt8} (he : es[k] = (a, m, p)) (hok : edOk now a m p = false) : (edsRun l es).1 = now ∧ (edsRun l es).2 = k := by
  have h1 := h.t
  have h2 := h.n
  rw [edsRun_stop hk he hok] at h1 h2
  exact ⟨h1.symm, by simp only at h2; omega⟩
theorem EdRun.done {l : List UInt8} {es : List Ed} {k : Nat} {now : List UInt8} (h : EdRun l es k now) (hk : k = es.length) : (edsRun l es).1 = now ∧ (edsRun l es).2 = es.length := by
  have h1 := h.t
  have h2 := h.n
  rw [hk, List.drop_length] at h1 h2
  exact ⟨h1.symm, by simp only [edsRun] at h2; omega⟩

set_option maxHeartbeats 8000000 in
theorem specEditsDo_any (A : Option Addr) (l : List UInt8) (c : Nat) (B : Option Addr) (es : List Ed) (d : Nat) (w : World) (hl : l.length ≤ c) (hc9 : c ≤ 9223372036854775807) (hn9 : es.length ≤ 9223372036854775807) (hA : Bs w A l) (hE : Es w B es) :
    Calls Tryd.prog 7 #[.slice A l.length c, .slice B es.length d] w (MakesN (edsText l es) (edsN l es) w) := by
  obtain ⟨q, hq⟩ : ∃ q, isText l = q := ⟨_, rfl⟩
  have HQ := Lib.hid hq
  cases q
  · have e1 : edsText l es = [] := by unfold edsText; rw [hq]; rfl
    have e2 : edsN l es = -1 := by unfold edsN; rw [hq]; rfl
    rw [e1, e2]
    clear hq e1 e2
    go_enter Tryd.func7, Tryd.ntmps7
    go_wp2_with fail
    refine (specTextOk_any A l c _ hl hc9 (by exact hA)).mono ?_
    rintro e w1 ⟨rfl, hb1⟩
    rw [HQ.out]
    go_wp2
    go_ret2
    exact ⟨.slice none 0 0, rfl, Own.nil _ _, hb1⟩
  have e1 : edsText l es = (edsRun l es).1 := by unfold edsText; rw [hq]; rfl
  have e2 : edsN l es = ((edsRun l es).2 : Int) := by unfold edsN; rw [hq]; rfl
  have hl4 := isText_len hq
  have hst := Lib.hid (EdRun.start es hq)
  rw [e1, e2]
  clear hq e1 e2
  go_enter Tryd.func7, Tryd.ntmps7
  go_wp2_with fail
  refine (specTextOk_any A l c _ hl hc9 (by exact hA)).mono ?_
  rintro e w1 ⟨rfl, hb1⟩
  rw [HQ.out]
  have hown0 : Own (w1.alloc (.cells #[] 5)) w1.heap.size (.slice (some ⟨w1.heap.size, 0, none⟩) 0 0) [] := World.ownsRow_made w1 #[] 0 (Nat.le_refl _) (by unfold maxLen; omega) rfl
  have hal := (Below.refl w1.heap.size w1).alloc (Nat.le_refl _) (.cells #[] 5)
  have hA1 := (hA.below hb1).below hal
  have HAL := Lib.hid hal
  have HO0 := Lib.hid hown0
  clear hal hown0
  go_wp2_with (at_builtin; go_must (refine wpList_app_bytes rfl _ _ rfl w1.heap.size _ [] l A l.length c rfl rfl rfl HO0.out hA1 ?c1 ?c2 ?_))
  case c1 => simp; omega
  case c2 => simp
  intro v4 w4 hown4 hg4 _
  have hb4 := HAL.out.grown hg4 (by simp) (fun x hx => (World.ownsRow.lt HO0.out x hx).1)
  have hb4 := below_then hb1 hb4
  have hown4 := hown4.mono (base' := w.heap.size) hb1.size
  obtain ⟨A4, c4, rfl, hc4, hc49, hB4, hp4, hq4⟩ := own_plain9 hown4
  clear hA1 HAL HO0 hg4 hb1
  go_wp2
  go_loopw [6, 7] (fun at_ i wr => ∃ (k : Nat) (now : List UInt8) (A' : Option Addr) (c' : Nat), i = .int .i64 k ∧ k ≤ es.length ∧ at_ = .slice A' now.length c' ∧ Own wr w.heap.size (.slice A' now.length c') now ∧ Hid (EdRun l es k now) ∧ Below w.heap.size w wr) (fun _ i _ => es.length - (intOf i).toNat)
  case atStart => exact ⟨0, l, A4, c4, rfl, Nat.zero_le _, rfl, hown4, hst, hb4⟩
  case round =>
    obtain ⟨k, now, A', c', rfl, hk, rfl, hown, HR, hb⟩ := hrel
    by_cases hlt : k < es.length
    · obtain ⟨b, off, a, m, Bp, p, dp, rfl, hbl, hek, k0, k1, k2, ha, hm, hpd, hdm, hBp⟩ := (hE.below hb).at_ k hlt
      have hd9 : dp ≤ 9223372036854775807 := by unfold maxLen at hdm; omega
      obtain ⟨A5, c5, e5, hc5, hc59, hB5, hp5, hq5⟩ := own_plain9 hown
      simp only [Value.slice.injEq, true_and] at e5
      obtain ⟨rfl, rfl⟩ := e5
      have hPl : Pl A' c' := by unfold Pl; exact ⟨hp5, hq5⟩
      obtain ⟨z, hz⟩ : ∃ z, edOk now a m p = z := ⟨_, rfl⟩
      have HZ := Lib.hid hz
      have HEK := Lib.hid hek
      have hnl := isText_len HR.out.x
      clear hz hek
      go_wp2_with fail
      refine (specEditDo_any A' now c' a m Bp p dp _ hc5 hc59 hpd hd9 hPl (by exact hB5) (by exact hBp)).mono ?_
      rintro e w5 ⟨v5, rfl, hown5, hb5⟩
      rw [HZ.out]
      have hown' := hown.below hb5
      have hs5 := hb.size
      have hb := below_then hb hb5
      cases z
      · have hst := HR.out.stop hlt HEK.out HZ.out
        have HS := Lib.hid hst
        clear hst k0 k1 k2
        obtain ⟨A6, c6, rfl, _, _, _⟩ := hown5.form
        go_wp2
        go_ret2
        exact ⟨.slice A' now.length c', by rw [HS.out.2]; rfl, by rw [HS.out.1]; exact hown', hb⟩
      · have hst := HR.out.step hlt HEK.out HZ.out
        have hD : edDo now a m p = edText now a m p := by unfold edDo; rw [HZ.out, if_pos rfl]
        rw [hD] at hown5
        obtain ⟨nx, hnx⟩ : ∃ nx, edText now a m p = nx := ⟨_, rfl⟩
        rw [hnx] at hown5 hst
        have hown5 := hown5.mono (base' := w.heap.size) hs5
        have HS := Lib.hid hst
        obtain ⟨A6, c6, rfl, _, _, _⟩ := hown5.form
        clear hst hD hnx k0 k1 k2
        go_wp2
        go_roundw
        case rel => exact ⟨k + 1, nx, A6, c6, by go_num, by omega, rfl, hown5, HS, hb⟩
        case measure => simp [intOf]; omega
    · have e : k = es.length := by omega
      have hst := HR.out.done e
      have HS := Lib.hid hst
      clear hst e
      go_wp2
      go_ret2
      exact ⟨.slice A' now.length c', by rw [HS.out.2]; rfl, by rw [HS.out.1]; exact hown, hb⟩

set_option maxHeartbeats 8000000 in
theorem implEditsDo_any (A : Option Addr) (l : List UInt8) (c : Nat) (B : Option Addr) (es : List Ed) (d : Nat) (w : World) (hl : l.length ≤ c) (hc9 : c ≤ 9223372036854775807) (hn9 : es.length ≤ 9223372036854775807) (hT : Tab w) (hA : Bs w A l) (hE : Es w B es) :
    Calls Tryd.prog 10 #[.slice A l.length c, .slice B es.length d] w (MakesN (edsText l es) (edsN l es) w) := by
  obtain ⟨q, hq⟩ : ∃ q, isText l = q := ⟨_, rfl⟩
  have HQ := Lib.hid hq
  cases q
  · have e1 : edsText l es = [] := by unfold edsText; rw [hq]; rfl
    have e2 : edsN l es = -1 := by unfold edsN; rw [hq]; rfl
    rw [e1, e2]
    clear hq e1 e2
    go_enter Tryd.func10, Tryd.ntmps10
    go_wp2_with fail
    refine (textOk_any A l c _ hl hc9 (by exact hT) (by exact hA)).mono ?_
    rintro e w1 ⟨rfl, n1, rfl⟩
    rw [HQ.out]
    go_wp2
    go_ret2
    exact ⟨.slice none 0 0, rfl, Own.nil _ _, below_of_drewN w n1⟩
  have e1 : edsText l es = (edsRun l es).1 := by unfold edsText; rw [hq]; rfl
  have e2 : edsN l es = ((edsRun l es).2 : Int) := by unfold edsN; rw [hq]; rfl
  have hl4 := isText_len hq
  have hst := Lib.hid (EdRun.start es hq)
  rw [e1, e2]
  clear hq e1 e2
  go_enter Tryd.func10, Tryd.ntmps10
  go_wp2_with fail
  refine (textOk_any A l c _ hl hc9 (by exact hT) (by exact hA)).mono ?_
  rintro e w1 ⟨rfl, n1, rfl⟩
  rw [HQ.out]
  have hb1 := below_of_drewN w n1
  generalize w.drewN n1 = w1 at *
  go_wp2_with fail
  refine (bytesClone_opt A l l.length c _ rfl (by omega) (by exact hA.below hb1)).mono ?_
  rintro e w4 ⟨v4, rfl, hown4, hb4⟩
  have hb4 := below_then hb1 hb4
  have hown4 := hown4.mono (base' := w.heap.size) hb1.size
  obtain ⟨A4, c4, rfl, hc4, hc49, hB4, hp4, hq4⟩ := own_plain9 hown4
  clear hb1
  go_wp2
  go_loopw [6, 18] (fun at_ i wr => ∃ (k : Nat) (now : List UInt8) (A' : Option Addr) (c' : Nat), i = .int .i64 k ∧ k ≤ es.length ∧ at_ = .slice A' now.length c' ∧ Own wr w.heap.size (.slice A' now.length c') now ∧ Hid (EdRun l es k now) ∧ Below w.heap.size w wr) (fun _ i _ => es.length - (intOf i).toNat)
  case atStart => exact ⟨0, l, A4, c4, rfl, Nat.zero_le _, rfl, hown4, hst, hb4⟩
  case round =>
    obtain ⟨k, now, A', c', rfl, hk, rfl, hown, HR, hb⟩ := hrel
    by_cases hlt : k < es.length
    · obtain ⟨b, off, a, m, Bp, p, dp, rfl, hbl, hek, k0, k1, k2, ha, hm, hpd, hdm, hBp⟩ := (hE.below hb).at_ k hlt
      have hd9 : dp ≤ 9223372036854775807 := by unfold maxLen at hdm; omega
      obtain ⟨A5, c5, e5, hc5, hc59, hB5, hp5, hq5⟩ := own_plain9 hown
      simp only [Value.slice.injEq, true_and] at e5
      obtain ⟨rfl, rfl⟩ := e5
      have hPl : Pl A' c' := by unfold Pl; exact ⟨hp5, hq5⟩
      obtain ⟨z, hz⟩ : ∃ z, edOk now a m p = z := ⟨_, rfl⟩
      have HZ := Lib.hid hz
      have HEK := Lib.hid hek
      have hnl := isText_len HR.out.x
      clear hz hek
      have hal := (Below.refl wr.heap.size wr).alloc (Nat.le_refl _) (.cells #[.int .i64 a, .int .i64 m, .slice Bp p.length dp] 63)
      have bX := EBox.new wr a m Bp p.length dp
      have x0 := bX.c0
      have x1 := bX.c1
      have x2 := bX.c2
      have hB5 := hB5.below hal
      have hBp := hBp.below hal
      have hown := hown.below hal
      have hs4 := hal.size
      have hb' := below_then hb hal
      have hTb := hT.below hb'
      go_wp2_with fail
      refine (implEditDo_any A' now c' a m Bp p dp _ hc5 hc59 hpd hd9 hm.2 hPl (by exact hTb) (by exact hB5) (by exact hBp)).mono ?_
      rintro e w5 ⟨v5, rfl, hown5, hb5⟩
      rw [HZ.out]
      have hown' := hown.below hb5
      have hs5 := hb'.size
      have hb := below_then hb' hb5
      clear x0 x1 x2 hTb
      cases z
      · have hst := HR.out.stop hlt HEK.out HZ.out
        have HS := Lib.hid hst
        clear hst k0 k1 k2
        obtain ⟨A6, c6, rfl, _, _, _⟩ := hown5.form
        go_wp2
        go_ret2
        exact ⟨.slice A' now.length c', by rw [HS.out.2]; rfl, by rw [HS.out.1]; exact hown', hb⟩
      · have hst := HR.out.step hlt HEK.out HZ.out
        have hD : edDo now a m p = edText now a m p := by unfold edDo; rw [HZ.out, if_pos rfl]
        rw [hD] at hown5
        obtain ⟨nx, hnx⟩ : ∃ nx, edText now a m p = nx := ⟨_, rfl⟩
        rw [hnx] at hown5 hst
        have hown5 := hown5.mono (base' := w.heap.size) hs5
        have HS := Lib.hid hst
        obtain ⟨A6, c6, rfl, _, _, _⟩ := hown5.form
        clear hst hD hnx k0 k1 k2
        go_wp2
        go_roundw
        case rel => exact ⟨k + 1, nx, A6, c6, by go_num, by omega, rfl, hown5, HS, hb⟩
        case measure => simp [intOf]; omega
    · have e : k = es.length := by omega
      have hst := HR.out.done e
      have HS := Lib.hid hst
      clear hst e
      go_wp2
      go_ret2
      exact ⟨.slice A' now.length c', by rw [HS.out.2]; rfl, by rw [HS.out.1]; exact hown, hb⟩
end Go.Proofs.YtnpbdkfkdbfdhaaDoor

namespace Go.Proofs.YtnpbdkfkdbfdhaaDoor
open Go.RowKit P
set_option linter.unusedVariables false
set_option linter.unusedSimpArgs false
set_option maxRecDepth 100000

/-- What a draw of two rows of bytes ends in. -/
def DrawsBB (w : World) (e : Ending) (w' : World) : Prop :=
  ∃ A l c B r d, e = .returned (.tuple #[.slice A l.length c, .slice B r.length d]) ∧ l.length ≤ 401 ∧ l.length ≤ c ∧ c ≤ 9223372036854775807 ∧ Pl A c ∧ Bs w' A l ∧ r.length ≤ 401 ∧ r.length ≤ d ∧ d ≤ 9223372036854775807 ∧ Pl B d ∧ Bs w' B r ∧ Below w.heap.size w w'

theorem edsText_len (t : List UInt8) (es : List Ed) : (edsText t es).length ≤ 400 := by
  unfold edsText
  split
  · rename_i h; exact isText_len (edsRun_text es t h)
  · simp

end Go.Proofs.YtnpbdkfkdbfdhaaDoor
