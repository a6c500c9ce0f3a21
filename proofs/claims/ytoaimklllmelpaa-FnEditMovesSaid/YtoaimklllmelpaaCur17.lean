/-
  Slices of lists of edits. Own work.
  Chapter 6's draw of an edit and a list: contract. Own work.
-/
import Derived.Test.YtoaimklllmelpaaEs
import Derived.Test.YtoaimklllmelpaaEB
import Derived.Test.YtoaimklllmelpaaCur13
namespace Go.Proofs.Ytoaimklllmelpaa
open Go.RowKit P
set_option linter.unusedVariables false
set_option maxRecDepth 100000

theorem slE_head (A : Option Addr) (n c k : Nat) (hA : A = none → c = 0) (hp : ∀ x, A = some x → ∃ g o, x = ⟨g, o, none⟩) (hk : k ≤ c) :
    ∀ W, (Instr.slice 41 (.slice A n c) none (some (.int .i64 (k : Int))) none).run Try.prog W = .ok (.slice A k c) W := by
  intro W
  have hz : ∀ W, (Go.sizeOf 27).run Try.prog W = .ok 3 W := fun W => by kernel_rfl
  have ht' : Try.prog.underlying 41 = some (.slice (Try.prog.elem 41)) := by simp [Program.elem, Try.underlying41]
  have he : Try.prog.elem 41 = 27 := by simp [Program.elem, Try.underlying41]
  rw [run_slice_h W 41 _ _ _ ht' .i64 _ (by omega) (by omega), he, hz]
  cases A with
  | none =>
    have h0 := hA rfl
    subst h0
    have : k = 0 := by omega
    subst this
    simp [Result.andThen, sliced]
  | some x =>
    obtain ⟨g, o, rfl⟩ := hp x rfl
    simp [Result.andThen, sliced, Addr.add]

theorem Es.take {w : World} {A : Option Addr} {es : List Ed} (h : Es w A es) (k : Nat) : Es w A (es.take k) := by
  intro j hj
  rw [List.length_take] at hj
  obtain ⟨b, off, us, hA, hlt, hus, hc, hr⟩ := h j (by omega)
  refine ⟨b, off, us, hA, hlt, hus, hc, ?_⟩
  rw [List.getElem_take]
  exact hr

theorem slE_tail (A : Option Addr) (n c i : Nat) (w : World) (es : List Ed) (hA : A = none → c = 0) (hp : ∀ a, A = some a → ∃ g o, a = ⟨g, o, none⟩) (hn : es.length = n) (hi : i ≤ n) (hc : n ≤ c) (hc9 : c ≤ 9223372036854775807) (hE : Es w A es) :
    ∃ A', (∀ W, (Instr.slice 41 (.slice A n c) (some (.int .i64 (i : Int))) none none).run Try.prog W = .ok (.slice A' (n - i) (c - i)) W) ∧ Es w A' (es.drop i) := by
  have hz : ∀ W, (Go.sizeOf 27).run Try.prog W = .ok 3 W := fun W => by kernel_rfl
  have ht' : Try.prog.underlying 41 = some (.slice (Try.prog.elem 41)) := by simp [Program.elem, Try.underlying41]
  have he : Try.prog.elem 41 = 27 := by simp [Program.elem, Try.underlying41]
  cases A with
  | none =>
    have h0 := hA rfl
    subst h0
    refine ⟨none, fun W => ?_, fun k hk => by rw [List.length_drop] at hk; omega⟩
    rw [run_slice_l W 41 _ _ _ ht' .i64 _ (by omega) (by omega), he, hz]
    simp [Result.andThen, sliced]
  | some x =>
    obtain ⟨g, o, rfl⟩ := hp x rfl
    refine ⟨some (if c = i then ⟨g, o, none⟩ else ⟨g, o + i * 3, none⟩), fun W => ?_, ?_⟩
    · rw [run_slice_l W 41 _ _ _ ht' .i64 _ (by omega) (by omega), he, hz]
      by_cases h0 : c = i
      · simp [Result.andThen, sliced, h0]
      · by_cases h1 : i = 0
        · subst h1; simp [Result.andThen, sliced, add_plain, h0]
        · simp [Result.andThen, sliced, add_plain, h0]
    · by_cases h0 : c = i
      · intro k hk
        rw [List.length_drop] at hk
        omega
      · rw [if_neg h0]
        intro j hj
        rw [List.length_drop] at hj
        obtain ⟨b, off, us, hA', hlt, hus, hcc, hr⟩ := hE (i + j) (by omega)
        cases hA'
        refine ⟨g, o + i * 3, us, rfl, hlt, hus, fun q hq => ?_, ?_⟩
        · have h9 := hcc q hq
          rw [show o + i * 3 + (j * 3 + q) = o + ((i + j) * 3 + q) by omega]
          exact h9
        · rw [List.getElem_drop]; exact hr
end Go.Proofs.Ytoaimklllmelpaa

namespace Go.Proofs.Ytoaimklllmelpaa
open Go.RowKit P
set_option linter.unusedVariables false
set_option linter.unusedSimpArgs false
set_option maxRecDepth 100000

theorem edits_plain9 {w : World} {A : Option Addr} {n c : Nat} {es : List Ed} {fp : List Nat} (h : Lay.edits.ow w [.slice A n c] es fp) : Pl A c := by
  obtain ⟨xs, _, hrow, _, _⟩ := ow_one h
  rcases hrow.2 with ⟨e, _⟩ | ⟨g, cap, cur, e, _⟩
  · simp only [Value.slice.injEq] at e
    obtain ⟨rfl, rfl, rfl⟩ := e
    unfold Pl
    exact ⟨fun _ => rfl, fun a h => (by cases h)⟩
  · simp only [Value.slice.injEq] at e
    obtain ⟨rfl, rfl, rfl⟩ := e
    exact Pl.some_ _ _ _

/-- What a draw of an edit and a list of edits ends in. -/
def DrawsEEs (w : World) (e : Ending) (w' : World) : Prop :=
  ∃ a m A p c B es d, e = .returned (.tuple #[.agg #[.int .i64 a, .int .i64 m, .slice A p.length c], .slice B es.length d]) ∧
    (-9223372036854775808 ≤ a ∧ a ≤ 9223372036854775807) ∧ (-9223372036854775808 ≤ m ∧ m ≤ 9223372036854775807) ∧ p.length ≤ 500 ∧ p.length ≤ c ∧ c ≤ 9223372036854775807 ∧ Bs w' A p ∧
    es.length ≤ 9 ∧ es.length ≤ d ∧ d ≤ 9223372036854775807 ∧ Pl B d ∧ Es w' B es ∧ Below w.heap.size w w'

set_option maxHeartbeats 16000000 in
theorem drawEditMoves_any (A : Option Addr) (l : List UInt8) (c : Nat) (w : World) (hl : l.length ≤ 1048576) (hA : Bs w A l) :
    Calls Try.prog 48 #[.slice A l.length c] w (DrawsEEs w) := by
  have hal := (Below.refl w.heap.size w).alloc (Nat.le_refl _) (.cells #[.int .i64 0, .int .i64 0, .slice none 0 0] 27)
  have bR := EBox.new w 0 0 none 0 0
  have hA0 := hA.below hal
  have hz0 : (w.alloc (.cells #[.int .i64 0, .int .i64 0, .slice none 0 0] 27)).heap.size = w.heap.size + 1 := by simp
  go_enter Try.func48, Try.ntmps48
  go_wp2_with fail
  generalize w.alloc (.cells #[.int .i64 0, .int .i64 0, .slice none 0 0] 27) = W0 at *
  refine (l01Open_any A l c _ hl (by exact hA0)).mono ?_
  rintro e w1 ⟨rfl, hc0, hb0⟩
  obtain ⟨g, hg⟩ : ∃ g, W0.heap.size = g := ⟨_, rfl⟩
  rw [hg] at hc0 hz0 ⊢
  have hwg : w.heap.size < g := by omega
  have bR1 := bR.below hb0
  have hb1 := hal.trans (hb0.mono (by omega))
  have hgl := hc0.lt
  clear hA0 hal bR hz0 hg hb0
  go_wp2_with fail
  refine (small_any g 0 _ (by omega) (by exact hc0)).mono ?_
  rintro e w2 ⟨a, m, v2, p, rfl, ha, hm, hown, hp5, hc2, ho2⟩
  have HRG := Lib.hid hown.range
  obtain ⟨A2, c2, rfl, _, _, _⟩ := hown.form
  have hs2 := ho2.size
  have hal := (Below.refl w2.heap.size w2).alloc (Nat.le_refl _) (.cells #[.int .i64 a, .int .i64 m, .slice A2 p.length c2] 27)
  have hal2 := hal.alloc (by simp) (.cells #[] 27)
  have bE := (EBox.new w2 a m A2 p.length c2).below ((Below.refl _ _).alloc (Nat.le_refl _) (.cells #[] 27))
  have how0 := Lay.slice_empty 27 Lay.edit (w2.alloc (.cells #[.int .i64 a, .int .i64 m, .slice A2 p.length c2] 27))
  have bR := (bR1.only ho2 (by omega)).below hal2
  have hown := hown.below hal2
  have hc := hc2.only_new hal2
  have ho := ho2.trans (Only.of_below hal2)
  have hs3 := hal2.size
  simp only [World.size_alloc] at how0
  clear hc0 hc2 ho2 bR1 hal hal2
  go_wp2_with fail
  generalize (w2.alloc (.cells #[.int .i64 a, .int .i64 m, .slice A2 p.length c2] 27)).alloc (.cells #[] 27) = W1 at *
  refine (size_any g 50 _ _ (by omega) (by omega) (by omega) (by exact hc.mono (by omega))).mono ?_
  rintro e w3 ⟨x, rfl, hx0, hx1, hc3, ho3⟩
  obtain ⟨j0, rfl⟩ := Int.eq_ofNat_of_zero_le hx0
  have hj0 : j0 ≤ 9 := by omega
  obtain ⟨eb, heb⟩ : ∃ k, w2.heap.size = k := ⟨_, rfl⟩
  have hebl := bE.lt
  rw [heb] at bE how0 HRG hs2 hebl ⊢
  have how3 := Lay.only Lay.edits how0 ho3 (by intro k hk; simp at hk; omega)
  have bE := bE.only ho3 (by omega)
  have bR := bR.only ho3 (by omega)
  have hown := hown.only ho3 (by have h9 := HRG.out; omega)
  have ho := ho.trans ho3
  have hs9 := ho.size
  have hEB : g < eb := by omega
  clear hc how0 ho3 hx0 hx1 heb
  go_wp2
  go_loopw [6, 7] (fun out kk wr => ∃ (j : Nat) (L : List Ed) (v : Value) (fp : List Nat), kk = .int .i64 j ∧ v = out ∧ j ≤ 9 ∧ Lay.edits.ow wr [v] L fp ∧ fp.Nodup ∧ (∀ k ∈ fp, eb + 1 ≤ k) ∧ L.length ≤ 9 - j ∧ EBox wr eb a m A2 p.length c2 ∧ EBox wr w.heap.size 0 0 none 0 0 ∧ Own wr w1.heap.size (.slice A2 p.length c2) p ∧ Cur wr g (51 + 60 * (9 - j)) ∧ Only g w1 wr) (fun _ kk _ => (intOf kk).toNat)
  case atStart => exact ⟨j0, [], _, _, rfl, rfl, hj0, how3, by simp, by simp, by simp, bE, bR, hown, hc3.mono (by omega), ho⟩
  case round =>
    obtain ⟨j, L, v, fp, rfl, rfl, hjn, how, hnd, hfp, hL, bE, bR, hP, hcur, honly⟩ := hrel
    by_cases hj : 0 < j
    · go_wp2_with fail
      refine (small_any g (51 + 60 * (9 - j)) _ (by omega) (by exact hcur)).mono ?_
      rintro e w4 ⟨b, n, v4, q, rfl, hb, hn, hown4, hq5, hc4, ho4⟩
      obtain ⟨A4, c4, rfl, _, _, _⟩ := hown4.form
      have how2 := Lay.only Lay.edits how ho4 (by intro k hk; have := hfp k hk; omega)
      have hlt2 := Lay.edits.lt how
      have hsz := honly.size
      have hsa := ho4.size
      have hebl := bE.lt
      have hwl := bR.lt
      have bE := bE.only ho4 (by omega)
      have bR := bR.only ho4 (by omega)
      have hP := hP.only ho4 (by omega)
      have ho4 := honly.trans ho4
      have hs4 := ho4.size
      have hfp2 := hown4.fp
      have hal := (Below.refl w4.heap.size w4).alloc (Nat.le_refl _) (.cells #[.int .i64 b, .int .i64 n, .slice A4 q.length c4] 27)
      have how3 := Lay.edits.owBelow how2 hal
      have hown4e := own_edit hb hn (hown4.below hal)
      have hc5 := hc4.only_new hal
      have ho5 := ho4.trans (Only.of_below hal)
      have hL6 : L.length ≤ 1000000 := by omega
      have HP := Lib.hid (hP.below hal)
      have HE := Lib.hid (bE.below hal)
      have HR := Lib.hid (bR.below hal)
      have HOW := Lib.hid how3
      have HOE := Lib.hid hown4e
      have HC4 := Lib.hid hc5
      have HO4 := Lib.hid ho5
      have hsA := World.size_alloc w4 (.cells #[.int .i64 b, .int .i64 n, .slice A4 q.length c4] 27)
      have HSA := Lib.hid hsA
      have hg0 := hcur.lt
      clear how how2 how3 hown4e hc5 hc4 ho5 ho4 hal hsA hP bE bR honly hcur
      go_wp2_with (at_builtin; go_must (refine wpList_app_one rfl _ _ 41 rfl 27 Lay.edit (.agg #[.int .i64 0, .int .i64 0, .slice none 0 0]) 3 40 Try.underlying41 Try.infoEd rfl rfl (by decide) (by decide) _ L fp [.int .i64 b, .int .i64 n, .slice A4 q.length c4] (b, n, q) _ ⟨w4.heap.size, 0, none⟩ 1 rfl rfl HOW.out hnd HOE.out hfp2.1 wr.heap.size ?d1 ?d2 ?d3 hL6 ?_))
      case d1 => exact fun k hk => hlt2 k hk
      case d2 => exact fun k hk => hfp2.2 k hk
      case d3 => exact cell_new3
      intro v6 w6 fp6 how6 hn6 hf6 hg6
      have hc6 := HC4.out.grownE HOW.out hg6 (fun k hk => by have := hfp k hk; omega)
      have ho6 := HO4.out.grownE HOW.out hg6 (fun k hk => by have := hfp k hk; omega)
      have hno : ∀ k, k ≤ eb → ¬ some k = v.ownBlock := fun k hk e => by
        obtain ⟨es9, _, _, _, e9⟩ := ow_one HOW.out
        have h1 := hfp k (by rw [e9, ← e]; simp)
        omega
      have hP6 := HP.out.heap (w' := w6) (fun k hk => hg6.block k ((HP.out.range k hk).2) (hno k (by have h9 := HRG.out k hk; omega)))
      have hE6 : EBox w6 eb a m A2 p.length c2 := ⟨HE.out.blk.of_block (hg6.block eb HE.out.lt (hno eb (Nat.le_refl _)))⟩
      have hR6 : EBox w6 w.heap.size 0 0 none 0 0 := ⟨HR.out.blk.of_block (hg6.block w.heap.size HR.out.lt (hno w.heap.size (by omega)))⟩
      have hf6' : ∀ x ∈ fp6, eb + 1 ≤ x := fun x hx => by
        rcases hf6 x hx with h | h | h
        · exact hfp x h
        · have := hfp2.2 x (by simpa using h); omega
        · have := HSA.out; omega
      clear hg6 hf6 hfp HOW HOE HC4 HO4 HP HE HR
      go_wp2
      go_roundw
      case rel => exact ⟨j - 1, L ++ [(b, n, q)], _, fp6, by go_num, rfl, by omega, how6, hn6, hf6', by rw [List.length_append, List.length_singleton]; omega, hE6, hR6, hP6, hc6.mono (by omega), ho6⟩
      case measure => simp [intOf]; omega
    · obtain ⟨B3, d3, e3, hl3, hm3, hE3⟩ := Lay.edits.read how
      cases e3
      have hpl := edits_plain9 how
      have e0 := bE.c0
      have e1 := bE.c1
      have e2 := bE.c2
      have r0 := bR.c0
      have r1 := bR.c1
      have r2 := bR.c2
      have f0 := bR.f 0
      have f1 := bR.f 1
      have f2 := bR.f 2
      have hlt := bR.lt
      have hA9 : ∀ k ∈ (Value.slice A2 p.length c2).ownBlock.toList, w.heap.size ≠ k := fun k hk => by have h1 := HRG.out k hk; omega
      have ho9 := ownSet9 (ownSet9 (ownSet9 hP hA9 0 (.int .i64 a)) hA9 1 (.int .i64 m)) hA9 2 (.slice A2 p.length c2)
      have hfpw : ∀ k ∈ fp, w.heap.size ≠ k := fun k hk => by have := hfp k hk; omega
      have how9 := Lay.set Lay.edits (Lay.set Lay.edits (Lay.set Lay.edits how (b := w.heap.size) (fun h => hfpw _ h rfl) 0 (.int .i64 a)) (b := w.heap.size) (fun h => hfpw _ h rfl) 1 (.int .i64 m)) (b := w.heap.size) (fun h => hfpw _ h rfl) 2 (.slice A2 p.length c2)
      have hB9 := ((((hb1.trans (honly.below w.heap.size (by omega) (by omega))).setCell (p := ⟨w.heap.size, 0, none⟩) (Nat.le_refl _) (.int .i64 a)).setCell (p := ⟨w.heap.size, 1, none⟩) (Nat.le_refl _) (.int .i64 m)).setCell (p := ⟨w.heap.size, 2, none⟩) (Nat.le_refl _) (.slice A2 p.length c2))
      obtain ⟨_, _, e8, hl8, hm8, hB8, _, _⟩ := own_plain9 ho9
      cases e8
      obtain ⟨_, _, e7, hl7, hm7, hE7⟩ := Lay.edits.read how9
      cases e7
      have hm79 : d3 ≤ 9223372036854775807 := by unfold maxLen at hm3; omega
      have HPL := Lib.hid hpl
      have HB8 := Lib.hid hB8
      have HE7 := Lib.hid hE7
      have HB9 := Lib.hid hB9
      clear how how9 hE3 hP ho9 hB8 hE7 hB9 hnd hfp hfpw honly hcur hpl
      go_wp2
      refine bodyPost_ret (v := .tuple #[.agg #[.int .i64 a, .int .i64 m, .slice A2 p.length c2], .slice B3 L.length d3]) (by simp [results, Try.results48, go_sem, r0, r1, r2]) rfl ?_
      exact ⟨a, m, A2, p, c2, B3, L, d3, rfl, ha, hm, hp5, hl8, hm8, HB8.out, by omega, hl3, hm79, HPL.out, HE7.out, HB9.out⟩
end Go.Proofs.Ytoaimklllmelpaa
