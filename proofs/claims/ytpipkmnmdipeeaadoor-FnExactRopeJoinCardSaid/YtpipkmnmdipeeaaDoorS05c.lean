/-
  Chapter 4, the model's RopeJoin where a rope is not valid, and whole: contracts. Own work.
-/
import Derived.Test.YtpipkmnmdipeeaaDoorS05b
namespace Go.Proofs.YtpipkmnmdipeeaaDoor
open Go.RowKit P
set_option linter.unusedVariables false
set_option linter.unusedSimpArgs false
set_option maxRecDepth 100000

set_option maxHeartbeats 8000000 in
theorem specRopeJoin_no1 (A B : Option Addr) (ls rs : List (List UInt8)) (c d : Nat) (w : World) (hn : ls.length ≤ 9223372036854775807) (hC : Cs w A ls) (hD : Cs w B rs) (hq : chunksOk ls = false) :
    Calls Tryd.prog 39 #[.agg #[.slice A ls.length c], .agg #[.slice B rs.length d]] w (GivesRB [] false w) := by
  have J0 := Lib.hid (JIn.start w A B ls rs c d hC hD)
  have HQ := Lib.hid hq
  clear hq hC hD
  go_enter Tryd.func39, Tryd.ntmps39
  go_wp2_with fail
  generalize ((w.alloc (.cells #[.slice A ls.length c] 29)).alloc (.cells #[.slice B rs.length d] 29)).alloc (.cells #[.slice none 0 0] 29) = W0 at *
  have a0 := J0.out.k0
  go_region_with (first
    | (go_at_call 16; refine (specRopeOk_any A ls c _ (by omega) (by exact J0.out.l)).mono ?_; rintro e w1 ⟨rfl, hb1⟩; rw [HQ.out]; have J1 := Lib.hid (J0.out.below ⟨hb1.os, hb1.tape, hb1.output, hb1.size, hb1.block⟩); clear hb1))
  all_goals
    have r4 : w1.cell? ⟨w.heap.size + 1 + 1, 0, none⟩ = some (.slice none 0 0) := J1.out.res.cell 0
    have f4 : w1.frozen? ⟨w.heap.size + 1 + 1, 0, none⟩ = false := J1.out.res.frozen 0
    have hfin := givesRB_no (w := w) (b := w.heap.size + 1 + 1) J1.out.bel (by omega)
    go_wp2
    refine bodyPost_ret (v := .tuple #[.agg #[.slice none 0 0], .bool false]) (by simp [results, Tryd.results39, go_sem, r4]) rfl hfin

set_option maxHeartbeats 8000000 in
theorem specRopeJoin_no2 (A B : Option Addr) (ls rs : List (List UInt8)) (c d : Nat) (w : World) (hn : ls.length ≤ 9223372036854775807) (hm : rs.length ≤ 9223372036854775807) (hC : Cs w A ls) (hD : Cs w B rs) (hq : chunksOk ls = true) (hq2 : chunksOk rs = false) :
    Calls Tryd.prog 39 #[.agg #[.slice A ls.length c], .agg #[.slice B rs.length d]] w (GivesRB [] false w) := by
  have J0 := Lib.hid (JIn.start w A B ls rs c d hC hD)
  have HQ := Lib.hid hq
  have HQ2 := Lib.hid hq2
  clear hq hC hD hq2
  go_enter Tryd.func39, Tryd.ntmps39
  go_wp2_with fail
  generalize ((w.alloc (.cells #[.slice A ls.length c] 29)).alloc (.cells #[.slice B rs.length d] 29)).alloc (.cells #[.slice none 0 0] 29) = W0 at *
  have a0 := J0.out.k0
  go_region_with (first
    | (go_at_call_of 16 (Value.agg #[Value.slice A ls.length c]); refine (specRopeOk_any A ls c _ (by omega) (by exact J0.out.l)).mono ?_; rintro e w1 ⟨rfl, hb1⟩; rw [HQ.out]; have J1 := Lib.hid (J0.out.below ⟨hb1.os, hb1.tape, hb1.output, hb1.size, hb1.block⟩); have b1 := J1.out.k1; clear hb1)
    | (go_at_call_of 16 (Value.agg #[Value.slice B rs.length d]); refine (specRopeOk_any B rs d _ (by omega) (by exact J1.out.r)).mono ?_; rintro e w2 ⟨rfl, hb2⟩; rw [HQ2.out]; have J2 := Lib.hid (J1.out.below ⟨hb2.os, hb2.tape, hb2.output, hb2.size, hb2.block⟩); clear hb2))
  all_goals
    have r4 : w2.cell? ⟨w.heap.size + 1 + 1, 0, none⟩ = some (.slice none 0 0) := J2.out.res.cell 0
    have f4 : w2.frozen? ⟨w.heap.size + 1 + 1, 0, none⟩ = false := J2.out.res.frozen 0
    have hfin := givesRB_no (w := w) (b := w.heap.size + 1 + 1) J2.out.bel (by omega)
    go_wp2
    refine bodyPost_ret (v := .tuple #[.agg #[.slice none 0 0], .bool false]) (by simp [results, Tryd.results39, go_sem, r4]) rfl hfin

theorem specRopeJoin_any (A B : Option Addr) (ls rs : List (List UInt8)) (c d : Nat) (w : World) (hn : ls.length ≤ 9223372036854775807) (hm : rs.length ≤ 9223372036854775807) (hC : Cs w A ls) (hD : Cs w B rs) :
    Calls Tryd.prog 39 #[.agg #[.slice A ls.length c], .agg #[.slice B rs.length d]] w (GivesRB (joinR ls rs) (joinOk ls rs) w) := by
  cases h1 : chunksOk ls
  · have e : joinOk ls rs = false := by unfold joinOk; rw [h1]; rfl
    rw [joinR_no e, e]
    exact specRopeJoin_no1 A B ls rs c d w hn hC hD h1
  · cases h2 : chunksOk rs
    · have e : joinOk ls rs = false := by unfold joinOk; rw [h1, h2]; rfl
      rw [joinR_no e, e]
      exact specRopeJoin_no2 A B ls rs c d w hn hm hC hD h1 h2
    · exact specRopeJoin_yes A B ls rs c d w hC hD h1 h2
end Go.Proofs.YtpipkmnmdipeeaaDoor
