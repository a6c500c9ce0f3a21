/-
  Chapter 7, LeaseAll in the model: contract. Own work.
-/
import Derived.Test.YtdmmdbapkogdhaaC10
import Derived.Test.YtdmmdbapkogdhaaS10
namespace Go.Proofs.Ytdmmdbapkogdhaa
open Go.RowKit P
set_option linter.unusedVariables false
set_option linter.unusedSimpArgs false
set_option maxRecDepth 100000

/-- The leases of a session. -/
def leAll (es : List Le) (a : Int) : List Le := if leOk es = true then es.filter (fun l => decide (l.2.2.1 = a)) else []

theorem leAll_len (es : List Le) (a : Int) : (leAll es a).length ≤ 1000000 := by
  unfold leAll
  split
  · rename_i h
    have h1 := leOk_len h
    have h2 := List.length_filter_le (fun l : Le => decide (l.2.2.1 = a)) es
    omega
  · simp
theorem filter_step {p : Le → Bool} {es : List Le} {k : Nat} (hk : k < es.length) : (es.take (k + 1)).filter p = (es.take k).filter p ++ (if p es[k] = true then [es[k]] else []) := by
  rw [List.take_succ_eq_append_getElem hk, List.filter_append]
  congr 1
  by_cases h : p es[k] = true
  · rw [if_pos h, List.filter_cons_of_pos h]; rfl
  · rw [if_neg h, List.filter_cons_of_neg h]; rfl
theorem ll_new (w : World) {l : Le} (h : leIn l) : Ll (w.alloc (.cells (leC l) 26)) (some ⟨w.heap.size, 0, none⟩) [l] := by
  intro k hk
  have hk0 : k = 0 := by simpa using hk
  subst hk0
  have hB := Blk.new w (leC l) 26
  refine ⟨w.heap.size, 0, (leC l).toList, rfl, hB.lt, rfl, fun j hj => ?_, Lay.lease.read (own_lease _ h)⟩
  rw [show 0 + (0 * 4 + j) = j by omega, hB.cell j]
  simp only [List.getElem_cons, Array.getElem_toList]
  rw [Array.getElem?_eq_getElem]

set_option maxHeartbeats 4000000 in
theorem specLeaseAll_any (A : Option Addr) (es : List Le) (c : Nat) (a : Int) (w : World) (hl : es.length ≤ 1048576) (hA : Ll w A es) :
    Calls Try.prog 68 #[.slice A es.length c, .int .i64 a] w fun e w' => ∃ v, e = .returned v ∧ OwR w' w.heap.size v (leAll es a) ∧ Below w.heap.size w w' := by
  have hn9 : es.length ≤ 9223372036854775807 := by omega
  obtain ⟨z, hz⟩ : ∃ z, leOk es = z := ⟨_, rfl⟩
  have HZ := Lib.hid hz
  have hAe : leAll es a = if z = true then es.filter (fun l => decide (l.2.2.1 = a)) else [] := by unfold leAll; rw [hz]
  rw [hAe]
  clear hz hAe
  have hown0 := OwR.empty w
  have hal := (Below.refl w.heap.size w).alloc (Nat.le_refl _) (.cells #[] 26)
  go_enter Try.func68, Try.ntmps68
  go_wp2
  go_loopw [5, 6] (fun out i wr => ∃ (k : Nat) (v : Value), k ≤ es.length ∧ i = .int .i64 k ∧ out = v ∧ (z = false → k = 0) ∧ OwR wr w.heap.size v ((es.take k).filter (fun l => decide (l.2.2.1 = a))) ∧ Below w.heap.size w wr)
    (fun _ i _ => es.length - (intOf i).toNat)
  case atStart => exact ⟨0, _, Nat.zero_le _, rfl, rfl, fun _ => rfl, by simpa using hown0, hal⟩
  case round =>
    obtain ⟨k, v, hk, rfl, rfl, hz0, how, hb⟩ := hrel
    have HZ0 := Lib.hid hz0
    have HOW := Lib.hid how
    have HA := Lib.hid (hA.below hb)
    clear hz0 how
    go_wp2_with fail
    refine (specLeasesOk_any A es c _ hn9 (by exact HA.out)).mono ?_
    rintro e w1 ⟨rfl, hb1⟩
    rw [HZ.out]
    have hb9 := below_then hb hb1
    have HOW1 := Lib.hid (HOW.out.below hb1)
    cases z
    · have hk0 := Lib.hid (HZ0.out rfl)
      go_wp2
      go_ret
      refine ⟨_, rfl, ?_, hb9⟩
      have h9 := HOW1.out
      rw [hk0.out] at h9
      simpa using h9
    by_cases hlt : k < es.length
    · have hki : (k : Int) < (es.length : Int) := by omega
      obtain ⟨b, off, x, y, s, t, rfl, hbl, hek, k0, k1, k2, k3, hin⟩ := (hA.below hb9).at_ k hlt
      have hst := filter_step (p := fun l => decide (l.2.2.1 = a)) hlt
      rw [hek] at hst
      simp only [decide_eq_true_eq] at hst
      by_cases hs : s = a
      · rw [if_pos hs] at hst
        have HST := Lib.hid hst
        have hse : (s == a) = true := by simp [hs]
        have hnew := ll_new w1 hin
        have how2 := HOW1.out.below ((Below.refl w1.heap.size w1).alloc (Nat.le_refl _) (.cells (leC (x, y, s, t)) 26))
        have hlen : ((es.take k).filter (fun l => decide (l.2.2.1 = a))).length ≤ 999999 := by
          have h1 := List.length_filter_le (fun l : Le => decide (l.2.2.1 = a)) (es.take k)
          have h2 := leOk_len HZ.out
          rw [List.length_take] at h1
          omega
        have HS := Lib.hid hs
        have hz1 := hb9.size
        clear hst hek hs
        generalize (es.take k).filter (fun l => decide (l.2.2.1 = a)) = L at *
        go_wp2_with (at_builtin; go_must (refine wpList_app_le rfl _ _ rfl w.heap.size _ L [(x, y, s, t)] _ 1 1 rfl rfl rfl how2 hnew ?c1 ?c2 ?_))
        case c1 => simp; omega
        case c2 => simp; omega
        intro v4 w4 hown4 hg4 _
        have hb4 := (hb9.alloc hz1 (.cells (leC (x, y, s, t)) 26)).grown hg4 (by simp; omega) (fun x hx => (World.ownsRow.lt how2.row x hx).1)
        have H4 := Lib.hid hown4
        have HB4 := Lib.hid hb4
        clear hown4 hg4 hb4 hnew how2 k0 k1 k2 k3 hb hb1 hb9
        go_wp2
        go_roundw
        case rel => exact ⟨k + 1, _, by omega, by go_num, rfl, by simp, by rw [HST.out]; exact H4.out, HB4.out⟩
        case measure => simp [intOf]; omega
      · rw [if_neg hs, List.append_nil] at hst
        have HST := Lib.hid hst
        have hse : (s == a) = false := by simp [hs]
        clear hst hek hs
        go_wp2
        go_roundw
        case rel => exact ⟨k + 1, _, by omega, by go_num, rfl, by simp, by rw [HST.out]; exact HOW1.out, hb9⟩
        case measure => simp [intOf]; omega
    · have e : k = es.length := by omega
      subst e
      go_wp2
      go_ret
      refine ⟨_, rfl, ?_, hb9⟩
      have h9 := HOW1.out
      rw [List.take_length] at h9
      simpa using h9
end Go.Proofs.Ytdmmdbapkogdhaa
