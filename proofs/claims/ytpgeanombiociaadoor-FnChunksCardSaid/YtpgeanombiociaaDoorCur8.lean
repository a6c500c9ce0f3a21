/-
  The draws of FnChunkFor and FnChunks: contracts. Own work.
-/
import Derived.Test.YtpgeanombiociaaDoorCur7
namespace Go.Proofs.YtpgeanombiociaaDoor
open Go.RowKit P
set_option linter.unusedVariables false

/-- What a draw of chunks and an offset ends in. -/
def DrawsL (w : World) (e : Ending) (w' : World) : Prop :=
  ∃ A c L a, e = .returned (.tuple #[.slice A L.length c, .int .i64 a]) ∧ L.length ≤ c ∧ c ≤ maxLen ∧ Cs w' A L ∧ L.length ≤ 40 ∧ (∀ x ∈ L, x.length ≤ 401) ∧ -9223372036854775808 ≤ a ∧ a ≤ 9223372036854775807 ∧ Below w.heap.size w w'

theorem chunksText_len (L : List (List UInt8)) : (chunksText L).length ≤ 400 := by
  unfold chunksText
  split
  · rename_i h; exact chunksOk_tot h
  · simp

set_option maxHeartbeats 1000000 in
theorem drawChunkFor_any (A : Option Addr) (l : List UInt8) (c : Nat) (w : World) (hl : l.length ≤ 1048576) (hA : Bs w A l) :
    Calls Tryd.prog 29 #[.slice A l.length c] w (DrawsL w) := by
  go_enter Tryd.func29, Tryd.ntmps29
  go_wp2_with fail
  refine (l01Open_any A l c _ hl (by exact hA)).mono ?_
  rintro e w1 ⟨rfl, hc0, hb0⟩
  go_wp2_with fail
  refine (badChunks_any w.heap.size 0 8 _ (by omega) (by omega) (by exact hc0)).mono ?_
  rintro e w2 ⟨v, L, fp, rfl, how, hnd, hfp, hL, hLe, hc1, ho1⟩
  have hs := hb0.size
  have hb2 : Below w.heap.size w w2 := hb0.trans (ho1.below _ (Nat.le_refl _) hs)
  have hglt := hc0.lt
  obtain ⟨A2, c2, e2, hlc, hcm, hD⟩ := Lay.chunksS.read how
  cases e2
  go_wp2_with fail
  refine (specChunksText_any A2 L c2 _ (by omega) (by exact hD)).mono ?_
  rintro e w3 ⟨v3, rfl, hown3, hb3⟩
  have hc2 := hc1.only_new hb3
  have how3 := Lay.chunksS.owBelow how hb3
  have hb3 := below_then hb2 hb3
  have hT := chunksText_len L
  obtain ⟨A3, c3, rfl, _, _, _⟩ := hown3.form
  generalize chunksText L = T' at *
  clear hown3 how hD hc1 ho1 hc0 hb0 hb2
  by_cases hm : (200 : Int) ≤ (T'.length : Int)
  all_goals
    go_wp2_with fail
    refine (place_any w.heap.size (0 + 1 + 40 * 8 + 130) _ _ (by omega) (by omega) (by omega) (by exact hc2)).mono ?_
    rintro e w4 ⟨x, rfl, hx0, hx1, hc4, ho4⟩
    have how4 := Lay.only Lay.chunksS how3 ho4 (by intro k hk; have := hfp k hk; omega)
    have hb4 : Below w.heap.size w w4 := hb3.trans (ho4.below _ (Nat.le_refl _) hb3.size)
    obtain ⟨A4, c4, e4, hlc4, hcm4, hD4⟩ := Lay.chunksS.read how4
    cases e4
    go_wp2
    go_ret2
    exact ⟨_, _, L, x, rfl, hlc4, hcm4, hD4, by omega, hLe, hx0, hx1, hb4⟩

set_option maxHeartbeats 1000000 in
theorem drawChunksOf_any (A : Option Addr) (l : List UInt8) (c : Nat) (w : World) (hl : l.length ≤ 1048576) (hA : Bs w A l) :
    Calls Tryd.prog 21 #[.slice A l.length c] w fun e w' => ∃ v L, e = .returned v ∧ Own w' w.heap.size v L ∧ L.length ≤ 401 ∧ Below w.heap.size w w' := by
  go_enter Tryd.func21, Tryd.ntmps21
  go_wp2_with fail
  refine (l01Open_any A l c _ hl (by exact hA)).mono ?_
  rintro e w1 ⟨rfl, hc0, hb0⟩
  go_wp2_with fail
  refine (badText_any w.heap.size 0 100 _ (by omega) (by omega) (by exact hc0)).mono ?_
  rintro e w2 ⟨v, L, rfl, hown, hL, hc1, ho1⟩
  have hs := hb0.size
  have hb2 : Below w.heap.size w w2 := hb0.trans (ho1.below _ (Nat.le_refl _) hs)
  have hown' := hown.mono (base' := w.heap.size) hs
  go_wp2
  go_ret
  exact ⟨_, L, rfl, hown', hL, hb2⟩
end Go.Proofs.YtpgeanombiociaaDoor
