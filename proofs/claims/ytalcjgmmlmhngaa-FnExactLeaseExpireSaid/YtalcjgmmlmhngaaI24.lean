/-
  Chapter 7, putLease: contract. Own work.
-/
import Derived.Test.YtalcjgmmlmhngaaI23
import Derived.Test.YtalcjgmmlmhngaaP13
namespace Go.Proofs.Ytalcjgmmlmhngaa
open Go.RowKit P
set_option linter.unusedVariables false
set_option linter.unusedSimpArgs false
set_option maxRecDepth 100000

/-- One lease of a list of one's own is written anew. -/
theorem OwR.set4 {w : World} {base g cap : Nat} {es : List Le} (h : OwR w base (.slice (some ⟨g, 0, none⟩) es.length cap) es) (i : Nat) (hi : i < es.length) (a b c d : Int) (hin : leIn (a, b, c, d)) :
    OwR ((((w.setCell ⟨g, i * 4, none⟩ (.int .i64 a)).setCell ⟨g, i * 4 + 1, none⟩ (.int .i64 b)).setCell ⟨g, i * 4 + 2, none⟩ (.int .i64 c)).setCell ⟨g, i * 4 + 3, none⟩ (.int .i64 d)) base (.slice (some ⟨g, 0, none⟩) es.length cap) (es.set i (a, b, c, d)) := by
  obtain ⟨A, c9, e9, hOL⟩ := h.owL
  cases e9
  rcases rowL_of hOL with e | ⟨g', e, _, hrow, hall⟩
  · subst e; simp at hi
  cases e
  rcases h.row.2 with ⟨e, _⟩ | ⟨g', cap', cur, e, hbg, hh, hnc, hcm, hcs, htk⟩
  · cases e
  cases e
  have hsz : SzB w g (cap * 4) := ⟨cur, hh, hcs⟩
  have hr := hrow.set4 i hi a b c d
  have hs := (((hsz.set (i * 4) (.int .i64 a)).set (i * 4 + 1) (.int .i64 b)).set (i * 4 + 2) (.int .i64 c)).set (i * 4 + 3) (.int .i64 d)
  have hl : (es.set i (a, b, c, d)).length = es.length := List.length_set
  have h9 := own_of_row (base := base) (i := (es.set i (a, b, c, d)).length) hr hs hbg (Nat.le_refl _) List.take_length (fun l hm => by
    rcases List.mem_or_eq_of_mem_set hm with h | h
    · exact hall _ h
    · subst h; exact hin) (by rw [hl]; exact hnc) hcm
  rw [hl] at h9
  exact h9

theorem grown_set4 {w w1 : World} {g : Nat} (h : w.grownBy w1 (some g)) (i : Nat) (a b c d : Value) : w.grownBy ((((w1.setCell ⟨g, i * 4, none⟩ a).setCell ⟨g, i * 4 + 1, none⟩ b).setCell ⟨g, i * 4 + 2, none⟩ c).setCell ⟨g, i * 4 + 3, none⟩ d) (some g) :=
  ⟨h.os, h.tape, h.output, by simpa using h.size, fun k hk hne => by
    have hkg : k ≠ g := fun e => hne (by rw [e])
    rw [Below.heap_setCell _ _ _ _ hkg, Below.heap_setCell _ _ _ _ hkg, Below.heap_setCell _ _ _ _ hkg, Below.heap_setCell _ _ _ _ hkg]
    exact h.block k hk hne⟩
theorem grown_of_below {w w1 : World} {row : Option Nat} (h : Below w.heap.size w w1) : w.grownBy w1 row := ⟨h.os, h.tape, h.output, h.size, fun k hk _ => h.block k hk⟩

/-- What putLease gives. -/
def PutsL (es : List Le) (l : Le) (base : Nat) (v : Value) (w : World) (e : Ending) (w' : World) : Prop := ∃ v', e = .returned v' ∧ OwR w' base v' (putL es l) ∧ w.grownBy w' v.ownBlock

set_option maxHeartbeats 8000000 in
theorem putLease_any (v : Value) (es : List Le) (x y s t : Int) (base : Nat) (w : World) (hok : leOk es = true) (hO : OwR w base v es) (hin : leIn (x, y, s, t)) (hbase : base ≤ w.heap.size) :
    Calls Try.prog 75 #[v, .agg #[.int .i64 x, .int .i64 y, .int .i64 s, .int .i64 t]] w (PutsL es (x, y, s, t) base v w) := by
  have hal := (Below.refl w.heap.size w).alloc (Nat.le_refl _) (.cells #[.int .i64 x, .int .i64 y, .int .i64 s, .int .i64 t] 34)
  have hbx := Blk.new w #[.int .i64 x, .int .i64 y, .int .i64 s, .int .i64 t] 34
  have p0 := hbx.cell 0
  have p1 := hbx.cell 1
  have p2 := hbx.cell 2
  have p3 := hbx.cell 3
  have hlen := leOk_len hok
  have hO1 := hO.below hal
  obtain ⟨A, c, rfl, _, _, hA1⟩ := hO1.ll
  have HO1 := Lib.hid hO1
  have HA1 := Lib.hid hA1
  have HOK := Lib.hid hok
  have HIN := Lib.hid hin
  have hgr0 : w.grownBy (w.alloc (.cells #[.int .i64 x, .int .i64 y, .int .i64 s, .int .i64 t] 34)) (Value.slice A es.length c).ownBlock := grown_of_below hal
  have HG0 := Lib.hid hgr0
  clear hok hO hO1 hA1 hin hal hgr0
  unfold PutsL
  go_enter Try.func75, Try.ntmps75
  go_wp2_with fail
  refine (placeOfKey_any A es c x y s t _ HOK.out (by exact HA1.out)).mono ?_
  rintro e w1 ⟨i, f, rfl, hf, hfi, hh, hb1⟩
  have hbx1 := hbx.below hb1
  clear p0 p1 p2 p3
  have p0 := hbx1.cell 0
  have p1 := hbx1.cell 1
  have p2 := hbx1.cell 2
  have p3 := hbx1.cell 3
  have hO2 := HO1.out.below hb1
  have hgr1 := World.grownBy.trans HG0.out (grown_of_below (row := (Value.slice A es.length c).ownBlock) hb1)
  have hz1 := hb1.size
  have hbs1 : base ≤ w1.heap.size := by simp at hz1; omega
  cases f
  · have hno := Lib.hid (show ¬ keyIx es (x, y, s, t) < es.length from of_decide_eq_false hf.symm)
    have HH := Lib.hid hh
    have HO2 := Lib.hid hO2
    have HG1 := Lib.hid hgr1
    have HBX1 := Lib.hid hbx1
    have hil := hh.hi
    have hal2 := (Below.refl w1.heap.size w1).alloc (Nat.le_refl _) (.cells #[.int .i64 x, .int .i64 y, .int .i64 s, .int .i64 t] 34)
    have HO3 := Lib.hid (HO2.out.below hal2)
    have HG3 := Lib.hid (World.grownBy.trans HG1.out (grown_of_below (row := (Value.slice A es.length c).ownBlock) hal2))
    have hbn2 : ∀ k ∈ (Value.slice A es.length c).ownBlock.toList, w1.heap.size ≠ k := fun k hk e => by
      have h9 := (World.ownsRow.lt HO2.out.row k (by simpa using hk)).2
      omega
    have HN2 := Lib.hid hbn2
    clear hf hfi hh hO2 hgr1 hbx1 hbn2 hal2 hb1
    go_wp2_with fail
    refine (insert_any _ es i (x, y, s, t) base w1.heap.size _ (by omega) hil HO3.out HIN.out (Blk.new w1 _ _) (ll_new w1 HIN.out) HN2.out (by simp; omega)).mono ?_
    rintro e w2 ⟨v', rfl, hO4, hg4⟩
    rw [← putL_at HOK.out HH.out hno.out] at hO4
    have HO4 := Lib.hid hO4
    have HG4 := Lib.hid (World.grownBy.trans HG3.out hg4)
    clear hO4 hg4 p0 p1 p2 p3
    go_wp2
    go_ret
    exact ⟨_, rfl, HO4.out, HG4.out⟩
  · have hyes := show keyIx es (x, y, s, t) < es.length from of_decide_eq_true hf.symm
    have hi9 := hfi rfl
    subst hi9
    obtain ⟨g, rfl⟩ : ∃ g, A = some ⟨g, 0, none⟩ := by
      rcases hO2.row.2 with ⟨e, h0⟩ | ⟨g, cap, cur, e, _⟩
      · omega
      · cases e; exact ⟨g, rfl⟩
    have hse := keyIx_yes hyes
    have hput := Lib.hid (putL_set HOK.out hh hyes hse)
    obtain ⟨i, hi⟩ : ∃ i, keyIx es (x, y, s, t) = i := ⟨_, rfl⟩
    rw [hi] at hput hyes ⊢
    have hset := hO2.set4 i hyes x y s t HIN.out
    have hgs := grown_set4 (g := g) hgr1 i (.int .i64 x) (.int .i64 y) (.int .i64 s) (.int .i64 t)
    obtain ⟨A9, c9, e9, _, _, hA9⟩ := hO2.ll
    cases e9
    obtain ⟨b9, off9, x9, y9, s9, t9, e9, hbl9, _, k0, k1, k2, k3, _⟩ := hA9.at_ i hyes
    cases e9
    simp only [Nat.zero_add] at k0 k1 k2 k3
    obtain ⟨cur9, hB9⟩ : ∃ cur, Blk w1 g cur 34 := by
      rcases hO2.row.2 with ⟨e, h0⟩ | ⟨g', cap, cur, e, _, hh9, _⟩
      · omega
      · cases e; exact ⟨cur, hh9⟩
    have f0 := hB9.frozen (i * 4)
    have f1 := hB9.frozen (i * 4 + 1)
    have f2 := hB9.frozen (i * 4 + 2)
    have f3 := hB9.frozen (i * 4 + 3)
    have hil : (i : Int) < (es.length : Int) := by omega
    have HSE := Lib.hid hset
    have HGS := Lib.hid hgs
    clear hf hfi hh hO2 hgr1 hbx1 hb1 hse hset hgs hi hA9 hB9 hbx
    go_wp2
    go_ret
    exact ⟨_, rfl, by rw [hput.out]; exact HSE.out, HGS.out⟩
end Go.Proofs.Ytalcjgmmlmhngaa
