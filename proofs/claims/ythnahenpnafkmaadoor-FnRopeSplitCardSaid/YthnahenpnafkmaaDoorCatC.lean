/-
  slices.Grow and slices.Concat at chunks. Own work, over the library's laws.
-/
import Derived.Test.YthnahenpnafkmaaDoorCat3
import Derived.Test.YthnahenpnafkmaaDoorShelf
import Derived.Test.YthnahenpnafkmaaDoorC02
namespace Go.Proofs.YthnahenpnafkmaaDoor
open Go.RowKit P
set_option linter.unusedVariables false
set_option maxRecDepth 100000

theorem ch_growNil_any (n : Nat) (w : World) (hn : n ≤ 1000000000) :
    Calls Tryd.prog 46 #[.slice none 0 0, .int .i64 (n : Int)] w fun e w' => ∃ v, e = .returned v ∧ OwnV w' w.heap.size 46 v [] ∧ Below w.heap.size w w' := by
  by_cases h0 : n = 0
  · subst h0
    refine (Any8.slices_Grow_room Tryd.growC none 0 0 0 w (by omega) (by omega) (by omega) (by omega)).mono ?_
    rintro e w' ⟨rfl, rfl⟩
    exact ⟨_, rfl, ⟨World.ownsRow_nil _ _ _ _, by simp⟩, Below.refl _ _⟩
  · obtain ⟨i, hi, hz, hs, hb⟩ := info_parts Tryd.infoCh
    refine (Any8.slices_Grow_grow Tryd.growC i (.agg #[.slice none 0 0]) hi hz (by omega) none 0 0 n [] w (by omega) (by omega) (by rw [hb]; omega) (by omega) (by simp) (fun _ => rfl) (fun a ha => by cases ha)).mono ?_
    rintro e w' ⟨rfl, rfl⟩
    refine ⟨_, rfl, ⟨⟨rfl, .inr ⟨w.heap.size, _, _, rfl, Nat.le_refl _, heap_alloc_new w.drew _, Nat.zero_le _, ?_, ?_, ?_⟩⟩, by simp⟩, (below_of_drewN w 1).alloc (by simp) _⟩
    · exact grownCap_le_maxLen _ _ _ _ (by unfold maxLen; omega)
    · have := grownCap_ge w n 0 46
      rw [show (Tryd.growC_ren.t 25) = 46 from rfl]
      have e1 : ((.agg #[.slice none 0 0]) : Value).cells.size = 1 := rfl
      simp [Builtin.zeroCells, e1]
      omega
    · simp

set_option maxHeartbeats 1000000 in
theorem ch_concat_any (A : Option Addr) (ls : List (List Value)) (c : Nat) (w : World) (hl : ls.length ≤ 1000000) (hs : vsums ls ≤ 1000000000) (hone : ∀ l ∈ ls, ∀ u ∈ l, u.oneCell' = true) (h : VVs w A ls) :
    Calls Tryd.prog 19 #[.slice A ls.length c] w fun e w' => ∃ v, e = .returned v ∧ OwnV w' w.heap.size 46 v ls.flatten ∧ Below w.heap.size w w' := by
  go_enter Tryd.func19, Tryd.ntmps19
  go_wp2
  go_loop [3, 11] (fun z i => ∃ k : Nat, k ≤ ls.length ∧ i = .int .i64 k ∧ z = .int .i64 ((vsums (ls.take k) : Nat) : Int)) (fun _ i => ls.length - (intOf i).toNat)
  case atStart => exact ⟨0, Nat.zero_le _, rfl, rfl⟩
  case round =>
    obtain ⟨k, hk, rfl, rfl⟩ := hrel
    by_cases hlt : k < ls.length
    · obtain ⟨b, off, B, d, rfl, hbl, hc, hld, hB⟩ := h k hlt
      have h1 := vsums_take ls k hlt
      have h2 := vsums_le ls k hlt
      have H1 := Lib.hid h1
      clear h1
      generalize hL : ls[k] = L at *
      have HL := Lib.hid hL
      clear hL
      obtain ⟨q, hq⟩ : ∃ q, vsums (ls.take k) = q := ⟨_, rfl⟩
      rw [hq] at h2 H1 ⊢
      clear hq
      have hk0 : (k : Int) < (ls.length : Int) := by omega
      have hn : ¬ (q : Int) + (L.length : Int) < 0 := by omega
      go_wp2
      go_round
      case rel => exact ⟨k + 1, by omega, by go_num, by rw [H1.out]; go_num⟩
      case measure => simp [intOf]; omega
    · have e : k = ls.length := by omega
      subst e
      rw [List.take_length]
      go_wp2_with fail
      refine (ch_growNil_any (vsums ls) _ hs).mono ?_
      rintro e w1 ⟨v1, rfl, hown1, hb1⟩
      go_wp2
      go_loopw [6, 27] (fun v i wr => ∃ k : Nat, k ≤ ls.length ∧ i = .int .i64 k ∧ OwnV wr w.heap.size 46 v (ls.take k).flatten ∧ Below w.heap.size w wr) (fun _ i _ => ls.length - (intOf i).toNat)
      case atStart => exact ⟨0, Nat.zero_le _, rfl, by simpa using hown1, hb1⟩
      case round =>
        obtain ⟨k, hk2, rfl, hown, hb⟩ := hrel
        by_cases hlt2 : k < ls.length
        · obtain ⟨b, off, B, d, rfl, hbl, hc, hld, hB⟩ := (h.below hb) k hlt2
          have h2 := vsums_le ls k hlt2
          have h1 : (ls.take (k + 1)).flatten = (ls.take k).flatten ++ ls[k] := by rw [List.take_succ_eq_append_getElem hlt2, List.flatten_append]; simp
          have hML : (ls.take k).flatten.length + (ls[k]).length ≤ 1000000000 := Nat.le_trans h2 hs
          have hu := hone ls[k] (List.getElem_mem hlt2)
          generalize hL : ls[k] = L at *
          generalize hM : (ls.take k).flatten = M at *
          have H1 := Lib.hid h1
          have HL := Lib.hid hL
          have HM := Lib.hid hM
          have HU := Lib.hid hu
          clear hL hM h1 hu
          have hk0 : (k : Int) < (ls.length : Int) := by omega
          have hbs := hb.size
          go_wp2_with (at_builtin; go_must (refine wpList_app_vals Tryd.underlying24 Tryd.infoCh rfl (by decide) rfl _ _ rfl w.heap.size _ M L B L.length d rfl rfl rfl hown hB HU.out hML hbs ?_))
          intro v4 w4 hown4 hg4 _
          have hb4 := hb.grown hg4 hbs (fun x hx => (World.ownsRow.lt hown.row x hx).1)
          go_wp2
          go_roundw
          case rel => exact ⟨k + 1, by omega, by go_num, by rw [H1.out]; exact hown4, hb4⟩
          case measure => simp [intOf]; omega
        · have e : k = ls.length := by omega
          subst e
          rw [List.take_length] at hown
          go_wp2
          go_ret
          exact ⟨_, rfl, hown, hb⟩
end Go.Proofs.YthnahenpnafkmaaDoor
