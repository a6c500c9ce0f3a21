/-
  The draws' cursor: texts, texts with faults, and the draws of chapter 1: contracts. Own work.
-/
import Derived.Test.YtpgeanombiociaaDoorCur3
import Derived.Test.YtpgeanombiociaaDoorApp
namespace Go.Proofs.YtpgeanombiociaaDoor
open Go.RowKit P
set_option linter.unusedVariables false

/-- What a draw of bytes ends in: a new slice of at most n bytes. -/
def DrawsB (g N : Nat) (n : Nat) (w : World) (e : Ending) (w' : World) : Prop :=
  ∃ v l, e = .returned v ∧ Own w' w.heap.size v l ∧ l.length ≤ n ∧ Cur w' g N ∧ Only g w w'

theorem Own.only {w w' : World} {g base : Nat} {v : Value} {l : List UInt8} (h : Own w base v l) (ho : Only g w w') (hb : g < base) : Own w' base v l := by
  refine World.ownsRow.kept (w' := w') (row := some g) h ho ?_
  cases hv : v.ownBlock with
  | none => exact .inl rfl
  | some k =>
    have := (World.ownsRow.lt h k hv).1
    right
    intro e
    injection e with e
    omega

/-- A row of the call's own has grown: of what was there before nothing has turned. -/
theorem Only.grown {g base : Nat} {a w w' : World} {v : Value} {l : List UInt8} (h : Only g a w) (hown : Own w base v l) (hg : w.grownBy w' v.ownBlock) (hb : a.heap.size ≤ base) : Only g a w' :=
  ⟨hg.os.trans h.os, hg.tape.trans h.tape, hg.output.trans h.output, Nat.le_trans h.size hg.size, fun k hk hne =>
    (hg.block k (Nat.lt_of_lt_of_le hk h.size) (fun e => by have := (World.ownsRow.lt hown k e.symm).1; omega)).trans (h.block k hk hne)⟩

theorem Cur.grown {g N base : Nat} {w w' : World} {v : Value} {l : List UInt8} (h : Cur w g N) (hown : Own w base v l) (hg : w.grownBy w' v.ownBlock) (hb : g < base) : Cur w' g N :=
  h.keep (fun k hk => hg.block k (by have := h.lt; omega) (fun e => by have := (World.ownsRow.lt hown k e.symm).1; omega)) hg.size

theorem enc_le (x : Int) : (enc x).length ≤ 4 := by rw [enc_length]; exact codeSz_le x

set_option maxHeartbeats 2000000 in
theorem text_any (g N n : Nat) (w : World) (hn : n ≤ 1000) (hN : N ≤ 100000) (h : Cur w g N) :
    Calls Tryd.prog 74 #[.pointer (some ⟨g, 0, none⟩), .int .i64 n] w (DrawsB g (N + 1 + 3 * n) n w) := by
  have hglt := h.lt
  go_enter Tryd.func74, Tryd.ntmps74
  go_wp2_with fail
  refine (size_any g N _ _ (by omega) (by omega) (by omega) (by exact h.alloc _)).mono ?_
  rintro e w1 ⟨x, rfl, hx0, hx1, hc1, ho1⟩
  obtain ⟨j0, rfl⟩ := Int.eq_ofNat_of_zero_le hx0
  have hj0 : j0 ≤ n := by omega
  have hown0 : Own (w.alloc (.cells #[] 5)) w.heap.size (.slice (some ⟨w.heap.size, 0, none⟩) 0 0) [] := World.ownsRow_made w #[] 0 (Nat.le_refl _) (by unfold maxLen; omega) rfl
  have hown1 := hown0.only ho1 hglt
  have ho1' := ho1.of_alloc
  clear hown0 ho1 hx0 hx1
  go_wp2
  go_loopw [5, 6] (fun out kk wr => ∃ (j : Nat) (L : List UInt8), kk = .int .i64 j ∧ j ≤ n ∧ Own wr w.heap.size out L ∧ L.length ≤ 4 * (n - j) ∧ Cur wr g (N + 1 + 3 * (n - j)) ∧ Only g w wr) (fun _ kk _ => (intOf kk).toNat)
  case atStart => exact ⟨j0, [], rfl, hj0, hown1, by simp, hc1.mono (by omega), ho1'⟩
  case round =>
    obtain ⟨j, L, rfl, hjn, hown, hL, hcur, honly⟩ := hrel
    by_cases hj : 0 < j
    · go_wp2_with fail
      refine (rune_any g (N + 1 + 3 * (n - j)) _ (by omega) (by exact hcur)).mono ?_
      rintro e w2 ⟨x, rfl, hx0, hx1, hc2, ho2⟩
      have hown2 := hown.only ho2 hglt
      have ho2 := honly.trans ho2
      go_wp2_with fail
      refine (specRuneBytes_any x _).mono ?_
      rintro e w3 ⟨v3, rfl, hown3, hb3⟩
      have hown23 := hown2.below hb3
      have hc3 := hc2.only_new hb3
      have ho3 := ho2.trans (Only.of_below hb3)
      have hle := enc_le x
      obtain ⟨A3, c3, rfl, _, _, hB3⟩ := hown3.form
      generalize enc x = E at *
      have hs3 := ho3.size
      clear hown hown2 hown3 hb3 ho2 honly hc2 hcur hc1 ho1' hown1
      go_wp2_with (at_builtin; go_must (refine wpList_app_bytes rfl _ _ rfl w.heap.size _ L E A3 _ c3 rfl rfl rfl hown23 hB3 ?c1 ?c2 ?_))
      case c1 => omega
      case c2 => exact hs3
      intro v4 w4 hown4 hg4 _
      have hc4 := hc3.grown hown23 hg4 hglt
      have ho4 := ho3.grown hown23 hg4 (Nat.le_refl _)
      go_wp2
      go_roundw
      case rel => exact ⟨j - 1, L ++ E, by go_num, by omega, hown4, by rw [List.length_append]; omega, hc4.mono (by omega), ho4⟩
      case measure => simp [intOf]; omega
    · have hj0 : j = 0 := by omega
      subst hj0
      have hfin := hcur.mono (M := N + 1 + 3 * n) (by omega)
      by_cases hbig : (n : Int) < (L.length : Int)
      · rcases hown.2 with ⟨_, h0⟩ | ⟨gb, cap, cur, rfl, hb, hh, hnc, hcm, hcs, htk⟩
        · omega
        · have hcap : ¬ cap = 0 := by omega
          have hempty : Own wr w.heap.size (.slice (some ⟨gb, 0, none⟩) 0 cap) [] := ⟨rfl, .inr ⟨gb, cap, cur, rfl, hb, hh, Nat.zero_le _, hcm, hcs, by simp⟩⟩
          have hcz : (0 : Int) ≤ (cap : Int) := by omega
          clear htk hh hcs
          go_wp2
          go_ret
          exact ⟨_, [], rfl, hempty, by simp, hfin, honly⟩
      · obtain ⟨A, c, rfl, _, _, _⟩ := hown.form
        go_wp2
        go_ret
        exact ⟨_, L, rfl, hown, by omega, hfin, honly⟩
end Go.Proofs.YtpgeanombiociaaDoor
