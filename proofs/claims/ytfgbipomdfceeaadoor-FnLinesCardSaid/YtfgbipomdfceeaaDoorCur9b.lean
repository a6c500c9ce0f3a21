/-
  The draws of RopeLine, of RopeFind: contracts. Own work.
-/
import Derived.Test.YtfgbipomdfceeaaDoorCur9
import Derived.Test.YtfgbipomdfceeaaDoorI06
import Derived.Deep.RegionHeld3
namespace Go.Proofs.YtfgbipomdfceeaaDoor
open Go.RowKit P
set_option linter.unusedVariables false

/-- What a draw of a rope and a place ends in. -/
def DrawsRA (w : World) (e : Ending) (w' : World) : Prop :=
  ∃ A c L a, e = .returned (.tuple #[.agg #[.slice A L.length c], .int .i64 a]) ∧ L.length ≤ c ∧ c ≤ maxLen ∧ Cs w' A L ∧ L.length ≤ 400 ∧ (∀ x ∈ L, x.length ≤ 401) ∧ (-9223372036854775808 ≤ a ∧ a ≤ 9223372036854775807) ∧ Below w.heap.size w w'

set_option maxRecDepth 100000 in
set_option maxHeartbeats 4000000 in
theorem drawRopeLine_any (A : Option Addr) (l : List UInt8) (c : Nat) (w : World) (hl : l.length ≤ 1048576) (hA : Bs w A l) :
    Calls Tryd.prog 30 #[.slice A l.length c] w (DrawsRA w) := by
  have hal := (Below.refl w.heap.size w).alloc (Nat.le_refl _) (.cells #[.slice none 0 0] 26)
  have bR := Blk.new w #[.slice none 0 0] 26
  have hA0 := hA.below hal
  have hz0 : (w.alloc (.cells #[.slice none 0 0] 26)).heap.size = w.heap.size + 1 := by simp
  go_enter Tryd.func30, Tryd.ntmps30
  go_wp2_with fail
  generalize w.alloc (.cells #[.slice none 0 0] 26) = W0 at *
  refine (l01Open_any A l c _ hl (by exact hA0)).mono ?_
  rintro e w1 ⟨rfl, hc0, hb0⟩
  obtain ⟨g, hg⟩ : ∃ g, W0.heap.size = g := ⟨_, rfl⟩
  rw [hg] at hc0 hz0 ⊢
  have hwg : w.heap.size < g := by omega
  have bR1 := bR.below hb0
  have hb1 := hal.trans (hb0.mono (by omega))
  have hs0 := hb0.size
  have hgl := hc0.lt
  have hs1 : w.heap.size + 1 ≤ w1.heap.size := by omega
  clear hA0 hal bR hz0 hg
  go_wp2_with fail
  refine (rope_any g 0 _ (by omega) (by exact hc0)).mono ?_
  rintro e w2 ⟨A2, c2, L, rfl, hF2, hL, hLe, hc2, ho2⟩
  have bR2 := bR1.only ho2 (by omega)
  have hb2 := hb1.trans (ho2.below w.heap.size (by omega) (by omega))
  have hal2 := (Below.refl w2.heap.size w2).alloc (Nat.le_refl _) (.cells #[.slice A2 L.length c2] 26)
  have bV := Blk.new w2 #[.slice A2 L.length c2] 26
  have hF3 := hF2.below hal2
  have hc3 := hc2.only_new hal2
  have bR3 := bR2.below hal2
  have hb3 := hb2.trans (hal2.mono hb2.size)
  have hs2 := ho2.size
  have kV := bV.cell 0
  have kR := bR3.cell 0
  have kG := bR3.frozen 0
  have BV := Lib.hid bV
  have BR := Lib.hid bR3
  have hbv := bV.lt
  clear hc0 hb0 bR1 hb1 bR2 hb2 hc2 ho2 hF2 hal2 bV bR3
  go_wp2_with fail
  generalize w2.alloc (.cells #[.slice A2 L.length c2] 26) = W3 at *
  go_region_held3 (fun V => V.cell? ⟨w2.heap.size, 0, none⟩ = some (.slice A2 L.length c2)) (first | exact kV | exact kV4 | (refine (World.cell?_setCell_far _ _ _ _ (by simp; omega)).trans ?_; exact kV4)) (first
    | (go_at_call 69; refine (cutOf_any g (0 + 1000) w1.heap.size A2 L c2 _ (by omega) (by exact hc3) (by omega) (by exact hF3) hL).mono ?_; rintro e w4 ⟨x, rfl, hx0, hx1, hc4, ho4⟩; have ho4 : Only g W3 w4 := ⟨ho4.os, ho4.tape, ho4.output, ho4.size, ho4.block⟩; have bV4 := BV.out.only ho4 (by omega); have bR4 := BR.out.only ho4 (by omega); have kV4 := bV4.cell 0; have kR4 := bR4.cell 0; have kG4 := bR4.frozen 0; have hF4 := hF3.only (by omega) ho4; have HO4 := Lib.hid ho4; have hs4 := ho4.size; clear bV4 bR4 ho4 hc4))
  all_goals
    go_wp2
    refine bodyPost_ret (v := .tuple #[.agg #[.slice A2 L.length c2], .int .i64 x]) (by simp [results, Tryd.results30, go_sem, kR4]) rfl ?_
    have hF5 := hF4.setNew (b := w.heap.size) (by omega) 0 (.slice A2 L.length c2)
    exact ⟨_, _, L, x, rfl, hF5.1, hF5.2.1, hF5.cs, hL, hLe, ⟨hx0, hx1⟩, (hb3.trans (HO4.out.below w.heap.size (by omega) hb3.size)).setCell (Nat.le_refl _) _⟩

theorem specRopeSlice_some (A : Option Addr) (ls : List (List UInt8)) (c : Nat) (i j : Int) (w : World) (hn : ls.length ≤ 9223372036854775807) (hC : Cs w A ls) :
    Calls Tryd.prog 42 #[.agg #[.slice A ls.length c], .int .i64 i, .int .i64 j] w fun e w' => ∃ v R z, e = .returned (.tuple #[v, .bool z]) ∧ Own w' w.heap.size v R ∧ R.length ≤ 400 ∧ Below w.heap.size w w' :=
  (specRopeSlice_any A ls c i j w hn hC).mono fun e w' ⟨v, he, h1, h2⟩ => ⟨v, _, _, he, h1, sliceV_len _ _ _, h2⟩

set_option maxRecDepth 100000 in
set_option maxHeartbeats 4000000 in
theorem needle_any (g N base : Nat) (A : Option Addr) (L : List (List UInt8)) (c : Nat) (w : World) (hN : N ≤ 5000) (h : Cur w g N) (hg : g < base) (hF : Far base w A L c) (hL9 : L.length ≤ 400) :
    Calls Tryd.prog 73 #[.pointer (some ⟨g, 0, none⟩), .agg #[.slice A L.length c]] w (DrawsB g (N + 50) 401 w) := by
  have hglt := h.lt
  have hal := (Below.refl w.heap.size w).alloc (Nat.le_refl _) (.cells #[.slice A L.length c] 26)
  have bA := Blk.new w #[.slice A L.length c] 26
  have hc0 := h.only_new hal
  have hF0 := hF.below hal
  have ho0 : Only g w _ := Only.of_below hal
  clear h
  go_enter Tryd.func73, Tryd.ntmps73
  go_wp2_with fail
  refine (span_any g N base A L c _ (by omega) (by exact hc0) hg (by exact hF0) hL9).mono ?_
  rintro e w1 ⟨x, y, rfl, ⟨hx0, hx1⟩, ⟨hy0, hy1⟩, hc1, ho1⟩
  have bA1 := bA.only ho1 (by omega)
  have hF1 := hF0.only hg ho1
  have ho1 := ho0.trans ho1
  have hs1 := ho1.size
  have kA1 : w1.cell? ⟨w.heap.size, 0, none⟩ = some (.slice A L.length c) := bA1.cell 0
  have hC1 := hF1.cs
  clear bA hc0 hF0 ho0 hal
  obtain ⟨s4, hs4⟩ : ∃ s4, IntKind.i64.wrap (x + 4) = s4 := ⟨_, rfl⟩
  by_cases hmn : y ≤ s4
  all_goals
    go_wp2_with fail
    refine (specRopeSlice_some A L c x _ _ (by omega) (by exact hC1)).mono ?_
    rintro e w2 ⟨v2, R, z, rfl, hown2, hR, hb2⟩
    have hc2 := hc1.only_new hb2
    have ho2 := ho1.trans (Only.of_below hb2)
    have hown3 := hown2.mono (base' := w.heap.size) hs1
    have hgs : g < w1.heap.size := by omega
    have hs2 := hb2.size
    obtain ⟨B, d, rfl, _, _, _⟩ := hown3.form
    have hRz : z = true ∧ (0 : Int) < (R.length : Int) ∨ z = false ∨ (z = true ∧ ¬ (0 : Int) < (R.length : Int)) := by
      cases z
      · exact .inr (.inl rfl)
      · by_cases h : (0 : Int) < (R.length : Int)
        · exact .inl ⟨rfl, h⟩
        · exact .inr (.inr ⟨rfl, h⟩)
    have HO3 := Lib.hid hown2
    clear hown3 hown2 hb2 bA1 kA1 hF1 hC1 hc1 ho1
    rcases hRz with ⟨rfl, hpos⟩ | hno
    · go_wp2_with fail
      refine (once_any g (N + 20) _ _ (by omega) (by omega) (by omega) (by exact hc2)).mono ?_
      rintro e w3 ⟨p, rfl, hc3, ho3⟩
      have hown3 := HO3.out.only ho3 hgs
      have ho3 := ho2.trans ho3
      have HO4 := Lib.hid (hown3.mono (base' := w.heap.size) hs1)
      clear hown3 hc2 ho2 HO3
      cases p
      · go_wp2
        go_ret
        exact ⟨_, R, rfl, HO4.out, by omega, hc3.mono (by omega), ho3⟩
      · have hs3 := ho3.size
        clear HO4
        go_wp2_with fail
        refine (badText_any g (N + 20 + 1) 4 _ (by omega) (by omega) (by exact hc3)).mono ?_
        rintro e w4 ⟨v4, X, rfl, hown4, hX, hc4, ho4⟩
        have HO4 := Lib.hid (hown4.mono (base' := w.heap.size) hs3)
        have ho4 := ho3.trans ho4
        clear hown4 hc3 ho3
        go_wp2
        go_ret
        exact ⟨_, X, rfl, HO4.out, hX, hc4.mono (by omega), ho4⟩
    · have hs3 := ho2.size
      clear HO3
      have hbad := badText_any g (N + 20) 4 w2 (by omega) (by omega) hc2
      have HBAD := Lib.hid hbad
      clear hbad
      rcases hno with rfl | ⟨rfl, hnp⟩
      all_goals
        go_wp2_with fail
        refine (HBAD.out).mono ?_
        rintro e w4 ⟨v4, X, rfl, hown4, hX, hc4, ho4⟩
        have HO4 := Lib.hid (hown4.mono (base' := w.heap.size) hs3)
        have ho4 := ho2.trans ho4
        clear hown4 hc2 ho2 HBAD
        go_wp2
        go_ret
        exact ⟨_, X, rfl, HO4.out, hX, hc4.mono (by omega), ho4⟩

/-- What a draw of a rope, a pattern and a place ends in. -/
def DrawsRPA (w : World) (e : Ending) (w' : World) : Prop :=
  ∃ A c L B p d a, e = .returned (.tuple #[.agg #[.slice A L.length c], .slice B p.length d, .int .i64 a]) ∧ L.length ≤ c ∧ c ≤ maxLen ∧ Cs w' A L ∧ L.length ≤ 400 ∧ (∀ x ∈ L, x.length ≤ 401) ∧ p.length ≤ d ∧ d ≤ maxLen ∧ Bs w' B p ∧ p.length ≤ 401 ∧ (-9223372036854775808 ≤ a ∧ a ≤ 9223372036854775807) ∧ Below w.heap.size w w'

set_option maxRecDepth 100000 in
set_option maxHeartbeats 4000000 in
theorem drawRopeFind_any (A : Option Addr) (l : List UInt8) (c : Nat) (w : World) (hl : l.length ≤ 1048576) (hA : Bs w A l) :
    Calls Tryd.prog 25 #[.slice A l.length c] w (DrawsRPA w) := by
  have hal := (Below.refl w.heap.size w).alloc (Nat.le_refl _) (.cells #[.slice none 0 0] 26)
  have bR := Blk.new w #[.slice none 0 0] 26
  have hA0 := hA.below hal
  have hz0 : (w.alloc (.cells #[.slice none 0 0] 26)).heap.size = w.heap.size + 1 := by simp
  go_enter Tryd.func25, Tryd.ntmps25
  go_wp2_with fail
  generalize w.alloc (.cells #[.slice none 0 0] 26) = W0 at *
  refine (l01Open_any A l c _ hl (by exact hA0)).mono ?_
  rintro e w1 ⟨rfl, hc0, hb0⟩
  obtain ⟨g, hg⟩ : ∃ g, W0.heap.size = g := ⟨_, rfl⟩
  rw [hg] at hc0 hz0 ⊢
  have hwg : w.heap.size < g := by omega
  have bR1 := bR.below hb0
  have hb1 := hal.trans (hb0.mono (by omega))
  have hs0 := hb0.size
  have hgl := hc0.lt
  have hs1 : w.heap.size + 1 ≤ w1.heap.size := by omega
  clear hA0 hal bR hz0 hg
  go_wp2_with fail
  refine (rope_any g 0 _ (by omega) (by exact hc0)).mono ?_
  rintro e w2 ⟨A2, c2, L, rfl, hF2, hL, hLe, hc2, ho2⟩
  have bR2 := bR1.only ho2 (by omega)
  have hb2 := hb1.trans (ho2.below w.heap.size (by omega) (by omega))
  have hal2 := (Below.refl w2.heap.size w2).alloc (Nat.le_refl _) (.cells #[.slice A2 L.length c2] 26)
  have bV := Blk.new w2 #[.slice A2 L.length c2] 26
  have hF3 := hF2.below hal2
  have hc3 := hc2.only_new hal2
  have bR3 := bR2.below hal2
  have hb3 := hb2.trans (hal2.mono hb2.size)
  have hs2 := ho2.size
  have kV := bV.cell 0
  have kR := bR3.cell 0
  have kG := bR3.frozen 0
  have BV := Lib.hid bV
  have BR := Lib.hid bR3
  have hbv := bV.lt
  clear hc0 hb0 bR1 hb1 bR2 hb2 hc2 ho2 hF2 hal2 bV bR3
  go_wp2_with fail
  generalize w2.alloc (.cells #[.slice A2 L.length c2] 26) = W3 at *
  go_region_held3 (fun V => V.cell? ⟨w2.heap.size, 0, none⟩ = some (.slice A2 L.length c2)) (first | exact kV | exact kV4 | exact kV5 | (refine (World.cell?_setCell_far _ _ _ _ (by simp; omega)).trans ?_; first | exact kV4 | exact kV5)) (first
    | (go_at_call 73; refine (needle_any g (0 + 1000) w1.heap.size A2 L c2 _ (by omega) (by exact hc3) (by omega) (by exact hF3) hL).mono ?_; rintro e w4 ⟨v4, X, rfl, hown4, hX, hc4, ho4⟩; obtain ⟨B4, d4, rfl, _, _, _⟩ := hown4.form; have ho4 : Only g W3 w4 := ⟨ho4.os, ho4.tape, ho4.output, ho4.size, ho4.block⟩; have bV4 := BV.out.only ho4 (by omega); have bR4 := BR.out.only ho4 (by omega); have kV4 := bV4.cell 0; have kR4 := bR4.cell 0; have kG4 := bR4.frozen 0; have hF4 := hF3.only (by omega) ho4; have HO4 := Lib.hid ho4; have hs4 := ho4.size; have HW4 := Lib.hid hown4; have BV4 := Lib.hid bV4; have BR4 := Lib.hid bR4; have hzW : (W3.drew).heap.size = W3.heap.size := rfl; clear bV4 bR4 ho4 hown4)
    | (go_at_call 69; refine (cutOf_any g (0 + 1000 + 50) w1.heap.size A2 L c2 _ (by omega) (by exact hc4) (by omega) (by exact hF4) hL).mono ?_; rintro e w5 ⟨x, rfl, hx0, hx1, hc5, ho5⟩; have ho5 : Only g w4 w5 := ⟨ho5.os, ho5.tape, ho5.output, ho5.size, ho5.block⟩; have bV5 := BV4.out.only ho5 (by omega); have bR5 := BR4.out.only ho5 (by omega); have kV5 := bV5.cell 0; have kR5 := bR5.cell 0; have kG5 := bR5.frozen 0; have hF5 := hF4.only (by omega) ho5; have HO5 := Lib.hid ho5; have HW5 := Lib.hid (Own.only (base := W3.heap.size) HW4.out ho5 (by omega)); clear bV5 bR5 ho5 hc5))
  all_goals
    go_wp2
    refine bodyPost_ret (v := .tuple #[.agg #[.slice A2 L.length c2], .slice B4 X.length d4, .int .i64 x]) (by simp [results, Tryd.results25, go_sem, kR5]) rfl ?_
    have hF6 := hF5.setNew (b := w.heap.size) (by omega) 0 (.slice A2 L.length c2)
    have hO6 := Own.only (g := w.heap.size) HW5.out ((Only.refl w.heap.size w5).setCell 0 (.slice A2 L.length c2)) (by have := hb3.size; omega)
    obtain ⟨B', d', e', hd1, hd2, hB6⟩ := hO6.form
    cases e'
    exact ⟨_, _, L, _, X, _, x, rfl, hF6.1, hF6.2.1, hF6.cs, hL, hLe, hd1, hd2, hB6, hX, ⟨hx0, hx1⟩, ((hb3.trans (HO4.out.below w.heap.size (by omega) hb3.size)).trans (HO5.out.below w.heap.size (by omega) (by have := hb3.size; omega))).setCell (Nat.le_refl _) _⟩
end Go.Proofs.YtfgbipomdfceeaaDoor
