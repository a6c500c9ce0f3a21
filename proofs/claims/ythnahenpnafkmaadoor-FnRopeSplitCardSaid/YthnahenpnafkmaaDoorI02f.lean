/-
  Chapter 2, ChunksText of the program and of the model: contracts. Own work.
-/
import Derived.Test.YthnahenpnafkmaaDoorI02d
import Derived.Test.YthnahenpnafkmaaDoorI01f
namespace Go.Proofs.YthnahenpnafkmaaDoor
open Go.RowKit P
set_option linter.unusedVariables false
set_option maxRecDepth 100000

theorem tot_take_le (ls : List (List UInt8)) (k : Nat) : tot (ls.take k) ≤ tot ls := by
  have h2 : ls.flatten = (ls.take k).flatten ++ (ls.drop k).flatten := by rw [← List.flatten_append, List.take_append_drop]
  unfold tot
  rw [h2, List.length_append]
  omega
theorem chunksOk_tot {ls : List (List UInt8)} (h : chunksOk ls = true) : tot ls ≤ 400 := (chunksOk_all h).2
theorem chunksText_len (L : List (List UInt8)) : (chunksText L).length ≤ 400 := by
  unfold chunksText
  split
  · rename_i h; exact chunksOk_tot h
  · simp

set_option maxHeartbeats 2000000 in
theorem specChunksText_any (A : Option Addr) (ls : List (List UInt8)) (c : Nat) (w : World) (hn : ls.length ≤ 9223372036854775807) (hC : Cs w A ls) :
    Calls Tryd.prog 22 #[.slice A ls.length c] w (Makes w (chunksText ls)) := by
  generalize hq : chunksOk ls = q
  have HQ := Lib.hid hq
  have hown0 : Own (w.alloc (.cells #[] 5)) w.heap.size (.slice (some ⟨w.heap.size, 0, none⟩) 0 0) [] := World.ownsRow_made w #[] 0 (Nat.le_refl _) (by unfold maxLen; omega) rfl
  have hal := (Below.refl w.heap.size w).alloc (Nat.le_refl _) (.cells #[] 5)
  cases q
  · have hr : chunksText ls = [] := by unfold chunksText; rw [hq]; rfl
    have HR := Lib.hid hr
    clear hq hr
    have hC0 := hC.below hal
    go_enter Tryd.func22, Tryd.ntmps22
    go_wp2
    go_loopw [3, 4] (fun out i wr => out = .slice (some ⟨w.heap.size, 0, none⟩) 0 0 ∧ i = .int .i64 0 ∧ wr = w.alloc (.cells #[] 5)) (fun _ _ _ => 0)
    case atStart => exact ⟨rfl, rfl, rfl⟩
    case round =>
      obtain ⟨rfl, rfl, rfl⟩ := hrel
      go_wp2_with fail
      refine (specChunksOk_any A ls c _ hn (by exact hC0)).mono ?_
      rintro e w1 ⟨rfl, hb1⟩
      rw [HQ.out]
      have hown1 := hown0.below hb1
      have hb2 := below_then hal hb1
      go_wp2
      go_ret
      rw [HR.out]
      exact ⟨_, rfl, hown1, hb2⟩
  · have hr : chunksText ls = ls.flatten := by unfold chunksText; rw [hq]; rfl
    have HR := Lib.hid hr
    have ht := chunksOk_tot hq
    clear hq hr
    go_enter Tryd.func22, Tryd.ntmps22
    go_wp2
    go_loopw [3, 4] (fun out i wr => ∃ k : Nat, k ≤ ls.length ∧ i = .int .i64 k ∧ Own wr w.heap.size out (ls.take k).flatten ∧ Below w.heap.size w wr) (fun _ i _ => ls.length - (intOf i).toNat)
    case atStart => exact ⟨0, Nat.zero_le _, rfl, hown0, hal⟩
    case round =>
      obtain ⟨k, hk, rfl, hown, hb⟩ := hrel
      have hCr := hC.below hb
      go_wp2_with fail
      refine (specChunksOk_any A ls c _ hn (by exact hCr)).mono ?_
      rintro e w1 ⟨rfl, hb1⟩
      rw [HQ.out]
      have hown1 := hown.below hb1
      have hb1 := below_then hb hb1
      have hs1 := hb1.size
      clear hown hCr hb
      by_cases hlt : k < ls.length
      · obtain ⟨b, off, B, d, rfl, hbl, hc, hld, hdm, hB⟩ := (hC.below hb1).at_ k hlt
        have hfl := flat_snoc ls k hlt
        have htk := tot_take_le ls k
        have htm := tot_mem (ls := ls) k hlt
        generalize hL : ls[k] = L at *
        have HF := Lib.hid hfl
        have HL := Lib.hid hL
        clear hfl hL
        have hlen : (ls.take k).flatten.length + L.length ≤ 1000000000 := by unfold tot at htk ht htm; omega
        obtain ⟨T', hT'⟩ : ∃ T', (ls.take k).flatten = T' := ⟨_, rfl⟩
        rw [hT'] at hown1 hlen
        have HT := Lib.hid hT'
        clear hT'
        go_wp2_with (at_builtin; go_must (refine wpList_app_bytes rfl _ _ rfl w.heap.size _ T' L B _ d rfl rfl rfl hown1 hB ?c1 ?c2 ?_))
        case c1 => exact hlen
        case c2 => exact hs1
        intro v4 w4 hown4 hg4 _
        have hb4 := hb1.grown hg4 hs1 (fun x hx => (World.ownsRow.lt hown1 x hx).1)
        go_wp2
        go_roundw
        case rel => exact ⟨k + 1, by omega, by go_num, by rw [HF.out, HT.out]; exact hown4, hb4⟩
        case measure => simp [intOf]; omega
      · have e : k = ls.length := by omega
        subst e
        rw [List.take_length] at hown1
        go_wp2
        go_ret
        rw [HR.out]
        exact ⟨_, rfl, hown1, hb1⟩

set_option maxHeartbeats 2000000 in
theorem implChunksText_any (A : Option Addr) (ls : List (List UInt8)) (c : Nat) (w : World) (hn : ls.length ≤ 1048576) (hT : Tab w) (hC : Cs w A ls) :
    Calls Tryd.prog 23 #[.slice A ls.length c] w (Makes w (chunksText ls)) := by
  generalize hq : chunksOk ls = q
  have HQ := Lib.hid hq
  cases q
  · have hr : chunksText ls = [] := by unfold chunksText; rw [hq]; rfl
    have HR := Lib.hid hr
    clear hq hr
    go_enter Tryd.func23, Tryd.ntmps23
    go_wp2_with fail
    refine (implChunksOk_any A ls c _ hn (by exact hT) (by exact hC)).mono ?_
    rintro e w1 ⟨rfl, hb1⟩
    rw [HQ.out]
    go_wp2
    go_ret
    rw [HR.out]
    exact ⟨_, rfl, Own.nil _ _, hb1⟩
  · have hr : chunksText ls = ls.flatten := by unfold chunksText; rw [hq]; rfl
    have HR := Lib.hid hr
    have ht := chunksOk_tot hq
    clear hq hr
    go_enter Tryd.func23, Tryd.ntmps23
    go_wp2_with fail
    refine (implChunksOk_any A ls c _ hn (by exact hT) (by exact hC)).mono ?_
    rintro e w1 ⟨rfl, hb1⟩
    rw [HQ.out]
    go_wp2
    go_loopw [3, 5, 11] (fun out _ i wr => ∃ k : Nat, k ≤ ls.length ∧ i = .int .i64 k ∧ Own wr w.heap.size out (ls.take k).flatten ∧ Below w.heap.size w wr) (fun _ _ i _ => ls.length - (intOf i).toNat)
    case atStart => exact ⟨0, Nat.zero_le _, rfl, Own.nil _ _, hb1⟩
    case round =>
      obtain ⟨k, hk, rfl, hown, hb⟩ := hrel
      have hs := hb.size
      by_cases hlt : k < ls.length
      · obtain ⟨b, off, B, d, rfl, hbl, hc, hld, hdm, hB⟩ := (hC.below hb).at_ k hlt
        have hfl := flat_snoc ls k hlt
        have htk := tot_take_le ls k
        have htm := tot_mem (ls := ls) k hlt
        generalize hL : ls[k] = L at *
        have HF := Lib.hid hfl
        have HL := Lib.hid hL
        clear hfl hL
        have hlen : (ls.take k).flatten.length + L.length ≤ 1000000000 := by unfold tot at htk ht htm; omega
        obtain ⟨T', hT'⟩ : ∃ T', (ls.take k).flatten = T' := ⟨_, rfl⟩
        rw [hT'] at hown hlen
        have HT := Lib.hid hT'
        clear hT'
        have hal := (Below.refl wr.heap.size wr).alloc (Nat.le_refl _) (.cells #[.slice B L.length d] 46)
        have hown1 := hown.below hal
        have hB1 := hB.below hal
        have hb1 := below_then hb hal
        have hs1 := hb1.size
        clear hown hB
        go_wp2_with (at_builtin; go_must (refine wpList_app_bytes rfl _ _ rfl w.heap.size _ T' L B _ d rfl rfl rfl hown1 hB1 ?c1 ?c2 ?_))
        case c1 => exact hlen
        case c2 => exact hs1
        intro v4 w4 hown4 hg4 _
        have hb4 := hb1.grown hg4 hs1 (fun x hx => (World.ownsRow.lt hown1 x hx).1)
        go_wp2
        go_roundw
        case rel => exact ⟨k + 1, by omega, by go_num, by rw [HF.out, HT.out]; exact hown4, hb4⟩
        case measure => simp [intOf]; omega
      · have e : k = ls.length := by omega
        subst e
        rw [List.take_length] at hown
        go_wp2
        go_ret
        rw [HR.out]
        exact ⟨_, rfl, hown, hb⟩
end Go.Proofs.YthnahenpnafkmaaDoor
