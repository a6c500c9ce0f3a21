/-
  Chapter 7, LeaseExpire in the program: contract. Own work.
-/
import Derived.Test.YtalcjgmmlmhngaaI25
import Derived.Test.YtalcjgmmlmhngaaS14
namespace Go.Proofs.Ytalcjgmmlmhngaa
open Go.RowKit P
set_option linter.unusedVariables false
set_option linter.unusedSimpArgs false
set_option maxRecDepth 100000

set_option maxHeartbeats 1000000 in
theorem isActive_any (x y s t a : Int) (w : World) :
    Calls Try.prog 62 #[.agg #[.int .i64 x, .int .i64 y, .int .i64 s, .int .i64 t], .int .i64 a] w fun e w' => e = .returned (.bool (decide (a < t))) ∧ Below w.heap.size w w' := by
  have hal := (Below.refl w.heap.size w).alloc (Nat.le_refl _) (.cells #[.int .i64 x, .int .i64 y, .int .i64 s, .int .i64 t] 34)
  have bx := Blk.new w #[.int .i64 x, .int .i64 y, .int .i64 s, .int .i64 t] 34
  have p3 := bx.cell 3
  go_enter Try.func62, Try.ntmps62
  go_wp2
  go_ret
  exact ⟨rfl, hal⟩

/-- While the leases that have ended are taken off: D has been, G is still on the heap. -/
structure Pops (es : List Le) (a : Int) (B hb : Nat) (w : World) (D G : List Le) (vh : Value) (wr : World) : Prop where
  pm : (D ++ G).Perm es
  td : ∀ d ∈ D, d.2.2.2 ≤ a
  hp : IsHeap G G.length
  hq : Hq wr B hb vh G
  bl : Below B w wr
theorem Hq.below {w w' : World} {B hb : Nat} {v : Value} {H : List Le} (h : Hq w B hb v H) (b : Below w.heap.size w w') : Hq w' B hb v H := ⟨h.hd.below b, h.own.below b, h.ne, h.hB⟩
theorem Pops.below {es : List Le} {a : Int} {B hb : Nat} {w : World} {D G : List Le} {vh : Value} {wr w' : World} (h : Pops es a B hb w D G vh wr) (hB : B ≤ wr.heap.size) (b : Below wr.heap.size wr w') : Pops es a B hb w D G vh w' := ⟨h.pm, h.td, h.hp, h.hq.below b, h.bl.trans (b.mono hB)⟩
theorem Pops.done {es : List Le} {a : Int} {B hb : Nat} {w : World} {D G : List Le} {vh : Value} {wr : World} (h : Pops es a B hb w D G vh wr) (hok : leOk es = true) (hs : ∀ h0 : 0 < G.length, a < (G[0]'h0).2.2.2) {E : List Le} (hE : Book G E) : E = leExp es a := by
  unfold leExp
  rw [if_pos hok]
  refine hE.unique (Book.self ((leOk_srt hok).filter _)) (fun x => ?_)
  rw [List.mem_filter, decide_eq_true_eq, ← h.pm.mem_iff, List.mem_append]
  constructor
  · intro hx
    refine ⟨.inr hx, ?_⟩
    have h0 : 0 < G.length := List.length_pos_of_mem hx
    have h1 := h.hp.least x hx
    have h2 := hs h0
    rw [tl_at h0] at h1
    omega
  · rintro ⟨hx | hx, h2⟩
    · have := h.td x hx; omega
    · exact hx

set_option maxHeartbeats 8000000 in
theorem implLeaseExpire_any (A : Option Addr) (es : List Le) (c : Nat) (a : Int) (w : World) (hl : es.length ≤ 1048576) (hA : Ll w A es) :
    Calls Try.prog 18 #[.slice A es.length c, .int .i64 a] w fun e w' => ∃ v, e = .returned v ∧ OwR w' w.heap.size v (leExp es a) ∧ Below w.heap.size w w' := by
  have hn9 : es.length ≤ 9223372036854775807 := by omega
  obtain ⟨z, hz⟩ : ∃ z, leOk es = z := ⟨_, rfl⟩
  have HZ := Lib.hid hz
  have HA := Lib.hid hA
  clear hz hA
  cases z
  · have hAe : leExp es a = [] := by unfold leExp; rw [HZ.out]; rfl
    rw [hAe]
    clear hAe
    go_enter Try.func18, Try.ntmps18
    go_wp2_with fail
    refine (implLeasesOk_any A es c _ hn9 HA.out).mono ?_
    rintro e w1 ⟨rfl, hb1⟩
    rw [HZ.out]
    go_wp2
    go_ret
    exact ⟨_, rfl, OwR.nil _ _, hb1⟩
  have hlen := leOk_len HZ.out
  obtain ⟨R, hR⟩ : ∃ R, leExp es a = R := ⟨_, rfl⟩
  rw [hR]
  have HR := Lib.hid hR
  clear hR
  go_enter Try.func18, Try.ntmps18
  go_wp2_with fail
  refine (implLeasesOk_any A es c _ hn9 HA.out).mono ?_
  rintro e w1 ⟨rfl, hb1⟩
  rw [HZ.out]
  have HA1 := Lib.hid (HA.out.below hb1)
  go_wp2_with fail
  refine (endingHeap_any A es c _ (by omega) (by exact HA1.out)).mono ?_
  rintro e w2 ⟨hb, v2, G2, rfl, hp2, hi2, hq2, hb2⟩
  have hbB := hq2.hB
  have hbw := hq2.hd.lt
  have H0 := Lib.hid (show Pops es a w1.heap.size hb w1 [] G2 v2 w2 from ⟨hp2, (fun _ h => nomatch h), hi2, hq2, hb2⟩)
  have hz1 := hb1.size
  clear hp2 hi2 hq2
  go_wp2
  go_loopw [] (fun wr => ∃ (D G : List Le) (vh : Value), Hid (Pops es a w1.heap.size hb w1 D G vh wr)) (fun wr => lenAt hb wr)
  case atStart => exact ⟨_, _, _, H0⟩
  case round =>
    obtain ⟨D, G, vh, HP⟩ := hrel
    have hlen9 := heapLenQ_any w1.heap.size hb vh G wr HP.out.hq
    have HM := Lib.hid HP.out.hq.form
    have hGl : G.length ≤ 12 := by
      have h1 := HP.out.pm.length_eq
      rw [List.length_append] at h1
      omega
    have HRT := Lib.hid (show ∀ l ∈ G, leRight l = true from fun l hl => leOk_right HZ.out l (HP.out.pm.mem_iff.1 (List.mem_append.2 (.inr hl))))
    by_cases h0 : 0 < G.length
    · have hgl : (0 : Int) < (G.length : Int) := by omega
      obtain ⟨g, cap, hvh, hbg, hp⟩ := hp_of_hq HP.out.hq h0
      obtain ⟨x, y, s, t, hx, k0, k1, k2, k3, _⟩ := hp.at_ 0 h0
      simp only [Nat.zero_mul, Nat.zero_add] at k0 k1 k2 k3
      have hc0 : wr.cell? ⟨hb, 0, none⟩ = some (.slice (some ⟨g, 0, none⟩) G.length cap) := hp.hd.cell 0
      have HX := Lib.hid hx
      have hpop := Lib.hid (heapPop_any hb g cap G wr hp h0 HP.out.hp (by omega))
      have HVH := Lib.hid hvh
      have HHP := Lib.hid hp
      clear hx hvh hp
      by_cases hact : a < t
      · have hE := Lib.hid (fun w9 (h : Pops es a w1.heap.size hb w1 D G vh w9) E (hE : Book G E) => h.done HZ.out (fun h0 => by rw [HX.out]; exact hact) hE)
        have hbB3 := HP.out.hq.hB
        have hbw3 := HP.out.hq.hd.lt
        go_wp2_with fail
        refine hlen9.mono ?_
        rintro e w3 ⟨rfl, rfl⟩
        clear hlen9
        go_wp2_with fail
        refine (isActive_any x y s t a _).mono ?_
        rintro e w4 ⟨rfl, hb4⟩
        rw [decide_eq_true hact]
        have HP4 := Lib.hid (HP.out.below (by omega) hb4)
        have hem := Lib.hid (emptied_any w1.heap.size hb vh G w4 HP4.out.hq HP4.out.hp hGl HRT.out)
        clear k0 k1 k2 k3 hc0 hpop
        go_wp2_with fail
        refine hem.out.mono ?_
        rintro e w5 ⟨v5, E, rfl, hbk, _, hO5, hb5⟩
        have hEe := (hE.out w4 HP4.out E hbk).trans HR.out
        have hz4 := HP4.out.bl.size
        have HO5 := Lib.hid (hO5.mono (base' := w.heap.size) (by omega))
        have HB5 := Lib.hid (below_then hb1 (HP4.out.bl.trans hb5))
        rw [hEe] at HO5
        clear hO5 hb5 hbk hEe hb4
        go_wp2
        go_ret
        exact ⟨_, rfl, HO5.out, HB5.out⟩
      · have hbB3 := HP.out.hq.hB
        have hbw3 := HP.out.hq.hd.lt
        have HLO := Lib.hid hbg
        go_wp2_with fail
        refine hlen9.mono ?_
        rintro e w3 ⟨rfl, rfl⟩
        clear hlen9
        go_wp2_with fail
        refine (isActive_any x y s t a _).mono ?_
        rintro e w4 ⟨rfl, hb4⟩
        rw [decide_eq_false (show ¬ a < t by omega)]
        have hb4 := Lib.hid hb4
        have hpop4 := Lib.hid (heapPop_any hb g cap G w4 (HHP.out.below hb4.out) h0 HP.out.hp (by omega))
        clear k0 k1 k2 k3 hc0 hpop
        go_wp2_with fail
        refine hpop4.out.mono ?_
        rintro e w5 ⟨x5, y5, s5, t5, G5, rfl, hpm, hx5, hle, hih, hp5, hk5⟩
        have hP5 : Pops es a w1.heap.size hb w1 (D ++ [(x5, y5, s5, t5)]) G5 (.slice (some ⟨g, 0, none⟩) G5.length cap) w5 := by
          refine ⟨?_, fun d hd => ?_, hih, hq_of_hp hp5 hbB3 HLO.out, ?_⟩
          · rw [List.append_assoc, List.singleton_append]
            exact (hpm.append_left D).trans HP.out.pm
          · rcases List.mem_append.1 hd with h9 | h9
            · exact HP.out.td d h9
            · rw [List.mem_singleton] at h9
              subst h9
              rw [HX.out] at hx5
              cases hx5
              show t ≤ a
              omega
          · have hz4 := hb4.out.size
            exact (HP.out.below (by omega) hb4.out).bl.trans (hk5.below (B := w1.heap.size) (by omega) (fun k hk => by
              have h8 : k = hb ∨ k = g := by simpa using hk
              have := HLO.out
              omega))
        have HP5 := Lib.hid hP5
        have hm1 := HM.out
        obtain ⟨_, _, _, _, hm1⟩ := hm1
        have hm2 := (show Hq _ _ _ _ _ from HP5.out.hq).form
        obtain ⟨_, _, _, _, hm2⟩ := hm2
        have hGG : G5.length < G.length := by
          have h9 := hpm.length_eq
          rw [List.length_cons] at h9
          omega
        clear hP5 hpm hx5 hle hih hp5 hk5
        go_wp2
        go_roundw
        case rel => exact ⟨_, _, _, HP5⟩
        case measure => rw [hm1, hm2]; exact hGG
    · have hgl : ¬ (0 : Int) < (G.length : Int) := by omega
      have hbB3 := HP.out.hq.hB
      have hE := Lib.hid (fun w9 (h : Pops es a w1.heap.size hb w1 D G vh w9) E (hE : Book G E) => h.done HZ.out (fun h9 => absurd h9 h0) hE)
      have hem := Lib.hid (emptied_any w1.heap.size hb vh G wr HP.out.hq HP.out.hp hGl HRT.out)
      go_wp2_with fail
      refine hlen9.mono ?_
      rintro e w3 ⟨rfl, rfl⟩
      clear hlen9
      go_wp2_with fail
      refine hem.out.mono ?_
      rintro e w5 ⟨v5, E, rfl, hbk, _, hO5, hb5⟩
      have hEe := (hE.out _ HP.out E hbk).trans HR.out
      have hz4 := HP.out.bl.size
      have HO5 := Lib.hid (hO5.mono (base' := w.heap.size) (by omega))
      have HB5 := Lib.hid (below_then hb1 (HP.out.bl.trans hb5))
      rw [hEe] at HO5
      clear hO5 hb5 hbk hEe
      go_wp2
      go_ret
      exact ⟨_, rfl, HO5.out, HB5.out⟩
end Go.Proofs.Ytalcjgmmlmhngaa
