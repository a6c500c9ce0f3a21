/-
  Chapter 4, the program's canFind, RopeFind: contracts. Own work.
  Chapter 4, the model's RopeFind, RopeFindBack: contracts. Own work.
-/
import Derived.Test.YtfgbipomdfceeaaDoorR04
import Derived.Test.YtfgbipomdfceeaaDoorShelf
namespace Go.Proofs.YtfgbipomdfceeaaDoor
open Go.RowKit P
set_option linter.unusedVariables false
set_option maxRecDepth 100000

theorem canFindR_meas (ls : List (List UInt8)) (p : List UInt8) (a : Int) : canFindR ls p a = (decide (0 < mB p) && rCut ls a) := by
  have h := m_zero p
  have hbd := m_bd p
  unfold canFindR
  rw [Bool.and_comm]
  congr 1
  rw [Bool.eq_iff_iff]
  simp only [Bool.and_eq_true, decide_eq_true_eq]
  constructor
  · rintro ⟨h1, h2⟩
    have : mB p ≠ 0 := fun e => by
      rcases h.1 e with x | x
      · rw [h1] at x; cases x
      · subst x; simp at h2
    omega
  · intro h1
    refine ⟨?_, ?_⟩
    · cases hx : isText p
      · have := h.2 (.inl hx); omega
      · rfl
    · rcases Nat.eq_zero_or_pos p.length with x | x
      · have := h.2 (.inr (List.eq_nil_of_length_eq_zero x)); omega
      · exact x

theorem cutsOk_one (A : Option Addr) (ls : List (List UInt8)) (c : Nat) (a : Int) (w : World) (hn : ls.length ≤ 1048576) (hT : Tab w) (hC : Cs w A ls) :
    Calls Tryd.prog 57 #[.agg #[.slice A ls.length c], .slice (some ⟨w.heap.size, 0, none⟩) 1 1] (w.alloc (.cells #[.int .i64 a] 3)) fun e w' => e = .returned (.bool (rCut ls a)) ∧ Below w.heap.size w w' := by
  have hal := (Below.refl w.heap.size w).alloc (Nat.le_refl _) (.cells #[.int .i64 a] 3)
  refine (cutsOk_any A ls c w.heap.size [a] 1 _ hn (hT.below hal) (hC.below hal) (by simp) ?_ (by simp)).mono ?_
  · intro i h
    have : i = 0 := by simpa using h
    subst this
    have := Blk.cell (Blk.new w #[.int .i64 a] 3) 0
    exact this
  · rintro e w' ⟨he, hb⟩
    refine ⟨?_, below_then hal hb⟩
    rw [he]
    simp [rCut]

set_option maxHeartbeats 1000000 in
theorem canFind_any (A B : Option Addr) (ls : List (List UInt8)) (c : Nat) (p : List UInt8) (d : Nat) (a : Int) (w : World) (hn : ls.length ≤ 1048576) (hp : p.length ≤ d) (hd9 : d ≤ 9223372036854775807) (hT : Tab w) (hC : Cs w A ls) (hB : Bs w B p) :
    Calls Tryd.prog 74 #[.agg #[.slice A ls.length c], .slice B p.length d, .int .i64 a] w fun e w' => e = .returned (.bool (canFindR ls p a)) ∧ Below w.heap.size w w' := by
  rw [canFindR_meas]
  have hb0 := (Below.refl w.heap.size w).alloc (Nat.le_refl _) (.cells #[.slice A ls.length c] 26)
  have bA0 := Blk.new w #[.slice A ls.length c] 26
  have hC0 := hC.below hb0
  have hB0 := hB.below hb0
  have hT0 := hT.below hb0
  obtain ⟨x, hx⟩ : ∃ x, mB p = x := ⟨_, rfl⟩
  obtain ⟨y, hy⟩ : ∃ y, mR p = y := ⟨_, rfl⟩
  obtain ⟨z, hz⟩ : ∃ z, mL p = z := ⟨_, rfl⟩
  rw [hx]
  have HX := Lib.hid hx
  have HY := Lib.hid hy
  have HZ := Lib.hid hz
  have hfd : ∀ W, (Instr.field 35 (.agg #[.int .i64 x, .int .i64 y, .int .i64 z]) 0).run Tryd.prog W = .ok (.int .i64 x) W := fun W => by kernel_rfl
  clear hx hy hz
  by_cases h0 : 0 < x
  · have hd : decide (0 < x) = true := decide_eq_true h0
    rw [hd, Bool.true_and]
    go_enter Tryd.func74, Tryd.ntmps74
    go_wp2_with fail
    refine (measOf_any B p d _ hp hd9 (by exact hT0) (by exact hB0)).mono ?_
    rintro e w1 ⟨rfl, hb1⟩
    rw [HX.out, HY.out, HZ.out]
    unfold meas
    have kA : w1.cell? ⟨w.heap.size, 0, none⟩ = some (.slice A ls.length c) := by rw [(bA0.below hb1).cell]; rfl
    have hC1 := hC0.below hb1
    have hT1 := hT0.below hb1
    have hb1 := below_then hb0 hb1
    clear hb0 hC0 hB0 hT0 bA0
    go_wp2_with fail
    refine (cutsOk_one A ls c a w1 hn (by exact hT1) (by exact hC1)).mono ?_
    rintro e w2 ⟨rfl, hb2⟩
    have hb3 := below_then hb1 hb2
    go_wp2
    go_ret
    exact ⟨rfl, hb3⟩
  · have hd : decide (0 < x) = false := decide_eq_false h0
    rw [hd, Bool.false_and]
    go_enter Tryd.func74, Tryd.ntmps74
    go_wp2_with (go_at_call 67; refine (measOf_any B p d _ hp hd9 (by exact hT0) (by exact hB0)).mono ?_; rintro e w1 ⟨rfl, hb1⟩; rw [HX.out, HY.out, HZ.out]; unfold meas; have hb1 := below_then hb0 hb1)
    go_ret
    exact ⟨rfl, hb1⟩

theorem add_plainB (b o i : Nat) : (⟨b, o, none⟩ : Addr).add i = ⟨b, o + i, none⟩ := by unfold Addr.add; split <;> simp_all

theorem bytesIndex_any (A B : Option Addr) (t p : List UInt8) (c d : Nat) (m : Int) (w : World) (hm : w.cell? ⟨0, 0, none⟩ = some (.int .i64 m)) (hA1 : A = none → c = 0) (hA2 : ∀ a, A = some a → ∃ g o, a = ⟨g, o, none⟩) (ht : t.length ≤ c) (ht4 : t.length ≤ 400) (hp0 : 0 < p.length) (hp9 : p.length ≤ 1100000) (hA : Bs w A t) (hB : Bs w B p) :
    Calls Tryd.prog 75 #[.slice A t.length c, .slice B p.length d] w fun e w' => e = .returned (.int .i64 (Go.Lib.index t p)) ∧ ∃ q, w' = w.drewN q := by
  obtain ⟨b2, o2, rfl, _, hc20⟩ := hB 0 hp0
  have hnum : ∀ (l : List UInt8), Go.Lib.bytesOf (l.map fun b => (b.toNat : Int)) = l := fun l => by
    unfold Go.Lib.bytesOf
    rw [List.map_map]
    conv => rhs; rw [← List.map_id l]
    refine List.map_congr_left fun b _ => ?_
    simp
  have hc2 : ∀ i, i < p.length → w.cell? ((⟨b2, o2, none⟩ : Addr).add i) = some (.int .u8 ((p.map fun b => (b.toNat : Int)).getD i 0)) := by
    intro i hi
    obtain ⟨b, o, e, _, hc⟩ := hB i hi
    cases e
    rw [add_plainB, hc]
    simp [hi]
  cases A with
  | none =>
    have hc0 := hA1 rfl
    subst hc0
    have ht0 : t = [] := List.eq_nil_of_length_eq_zero (by omega)
    subst ht0
    refine (Tryd.bytes_Index_nil (some ⟨b2, o2, none⟩) p.length d w (by omega) (fun _ => ⟨b2, o2, _, rfl, by simpa using hc20⟩)).mono ?_
    rintro e w' ⟨rfl, rfl⟩
    refine ⟨?_, 0, rfl⟩
    rw [if_neg (by omega)]
    have : Go.Lib.index [] p = -1 := by
      unfold Go.Lib.index
      rw [if_neg]
      intro h
      rw [List.isEmpty_iff] at h
      subst h
      simp at hp0
    rw [this]
  | some x =>
    obtain ⟨g, o, rfl⟩ := hA2 x rfl
    have hc1 : ∀ i, i < t.length → w.cell? ((⟨g, o, none⟩ : Addr).add i) = some (.int .u8 ((t.map fun b => (b.toNat : Int)).getD i 0)) := by
      intro i hi
      obtain ⟨b, o', e, _, hc⟩ := hA i hi
      cases e
      rw [add_plainB, hc]
      simp [hi]
    have hrg : ∀ (l : List UInt8), ∀ x ∈ l.map (fun b => (b.toNat : Int)), 0 ≤ x ∧ x < 256 := by
      intro l x hx
      obtain ⟨b, _, rfl⟩ := List.mem_map.1 hx
      have := b.toNat_lt
      omega
    have key := Tryd.bytes_Index_at ⟨g, o, none⟩ ⟨b2, o2, none⟩ t.length c p.length d (t.map fun b => (b.toNat : Int)) (p.map fun b => (b.toNat : Int)) m w (by simp) (by simp) (hrg t) (hrg p) hc1 hc2 ht (by omega) (by omega) hm
    rw [hnum, hnum] at key
    exact key

set_option maxHeartbeats 2000000 in
theorem implRopeFind_any (A B : Option Addr) (ls : List (List UInt8)) (c : Nat) (p : List UInt8) (d : Nat) (a m : Int) (w : World) (hm : w.cell? ⟨0, 0, none⟩ = some (.int .i64 m)) (hmz : 0 < w.heap.size) (hn : ls.length ≤ 1048576) (hp : p.length ≤ d) (hd9 : d ≤ 9223372036854775807) (hp9 : p.length ≤ 1100000) (hT : Tab w) (hC : Cs w A ls) (hB : Bs w B p) :
    Calls Tryd.prog 26 #[.agg #[.slice A ls.length c], .slice B p.length d, .int .i64 a] w fun e w' => ∃ r : Int, e = .returned (.int .i64 r) ∧ FindsR ls p a r ∧ Below w.heap.size w w' := by
  have hb0 := (Below.refl w.heap.size w).alloc (Nat.le_refl _) (.cells #[.slice A ls.length c] 26)
  have bA0 := Blk.new w #[.slice A ls.length c] 26
  have hC0 := hC.below hb0
  have hB0 := hB.below hb0
  have hT0 := hT.below hb0
  by_cases hcan : canFindR ls p a = true
  · have hcut : rCut ls a = true := by unfold canFindR at hcan; rw [Bool.and_eq_true] at hcan; exact hcan.1
    have hp0 : 0 < p.length := by unfold canFindR at hcan; simp only [Bool.and_eq_true, decide_eq_true_eq] at hcan; exact hcan.2.2
    obtain ⟨hok, k, rfl, hk, hbd⟩ := rCut_true hcut
    have hlen := chunksText_len ls
    have hres : ∀ r, IsFind (chunksText ls) p k r → FindsR ls p (k : Int) r := fun r h => .inl ⟨hcan, by rw [Int.toNat_natCast]; exact h⟩
    obtain ⟨T, hTe⟩ : ∃ T, chunksText ls = T := ⟨_, rfl⟩
    rw [hTe] at hlen hk hres
    have hfi := find_of_index T p k hk hp0
    have HT := Lib.hid hTe
    have HCAN := Lib.hid hcan
    have HRES := Lib.hid hres
    have HFI := Lib.hid hfi
    have hk9 : (k : Int) ≤ 400 := by omega
    clear hTe hcut hok hbd hres hcan hfi
    go_enter Tryd.func26, Tryd.ntmps26
    go_wp2_with fail
    refine (canFind_any A B ls c p d k _ hn hp hd9 (by exact hT0) (by exact hC0) (by exact hB0)).mono ?_
    rintro e w1 ⟨rfl, hb1⟩
    rw [HCAN.out]
    have kA : w1.cell? ⟨w.heap.size, 0, none⟩ = some (.slice A ls.length c) := by rw [(bA0.below hb1).cell]; rfl
    have hC1 := hC0.below hb1
    have hB1 := hB0.below hb1
    have hT1 := hT0.below hb1
    have hb1 := below_then hb0 hb1
    clear hb0 hC0 hB0 hT0 bA0
    go_wp2_with fail
    refine (implRopeText_any A ls c _ hn (by exact hT1) (by exact hC1)).mono ?_
    rintro e w2 ⟨v, rfl, hown, hb2⟩
    rw [HT.out] at hown
    have hB2 := hB1.below hb2
    have hb2 := below_then hb1 hb2
    have hm2 := (hb2.cell (p := ⟨0, 0, none⟩) hmz).trans hm
    obtain ⟨D, g, rfl, h1, hg9, hD, hn1, hn2⟩ := hown.form2
    obtain ⟨D', hsl, hD', hn1', hn2'⟩ := slice_part2 D T.length g k w2 T hn1 hn2 rfl hk h1 hg9 hD
    have hdl : (T.drop k).length = T.length - k := List.length_drop
    obtain ⟨X, hX⟩ : ∃ X, T.drop k = X := ⟨_, rfl⟩
    rw [hX] at hdl hD'
    have HXe := Lib.hid hX
    have hXc : X.length ≤ g - k := by omega
    have hX4 : X.length ≤ 400 := by omega
    have hcall := fun W hm hA hB => bytesIndex_any D' B X p (g - k) d m W hm hn1' hn2' hXc hX4 hp0 hp9 hA hB
    simp only [hdl] at hcall
    obtain ⟨r, hr⟩ : ∃ r, Go.Lib.index X p = r := ⟨_, rfl⟩
    rw [hr] at hcall
    have hfr := HFI.out r (by rw [HXe.out]; exact hr)
    have hr9 := hfr.2.2
    have HFR := Lib.hid hfr
    clear hfr hr hX hdl hn1' hn2' hn1 hn2 hown hC1 hB1 hT1 kA hD
    go_wp2_with fail
    refine (hcall _ (by exact hm2) (by exact hD') (by exact hB2)).mono ?_
    rintro e w3 ⟨rfl, n3, rfl⟩
    have hb3 := below_drewN hb2 n3
    by_cases hneg : r < 0
    · have hf := HRES.out _ (HFR.out.1 hneg)
      have HF := Lib.hid hf
      clear hf hcall hsl
      go_wp2
      go_ret
      exact ⟨_, rfl, HF.out, hb3⟩
    · have hf := HRES.out _ (HFR.out.2.1 (by omega))
      have HF := Lib.hid hf
      clear hf hcall hsl
      go_wp2
      go_ret
      exact ⟨_, rfl, HF.out, hb3⟩
  · have hcf : canFindR ls p a = false := by simpa using hcan
    have hres : FindsR ls p a (-1) := .inr ⟨hcf, rfl⟩
    have HRES := Lib.hid hres
    have HCAN := Lib.hid hcf
    clear hcf hcan hres
    go_enter Tryd.func26, Tryd.ntmps26
    go_wp2_with fail
    refine (canFind_any A B ls c p d a _ hn hp hd9 (by exact hT0) (by exact hC0) (by exact hB0)).mono ?_
    rintro e w1 ⟨rfl, hb1⟩
    rw [HCAN.out]
    have hb1 := below_then hb0 hb1
    go_wp2
    go_ret
    exact ⟨_, rfl, HRES.out, hb1⟩
end Go.Proofs.YtfgbipomdfceeaaDoor

namespace Go.Proofs.YtfgbipomdfceeaaDoor
open Go.RowKit P
set_option linter.unusedVariables false
set_option maxRecDepth 100000

set_option maxHeartbeats 2000000 in
theorem specRopeFind_any (A B : Option Addr) (ls : List (List UInt8)) (c : Nat) (p : List UInt8) (d : Nat) (a : Int) (w : World) (hn : ls.length ≤ 9223372036854775807) (hp : p.length ≤ d) (hd9 : d ≤ 9223372036854775807) (hp9 : p.length ≤ 1100000) (hC : Cs w A ls) (hB : Bs w B p) :
    Calls Tryd.prog 27 #[.agg #[.slice A ls.length c], .slice B p.length d, .int .i64 a] w fun e w' => ∃ r : Int, e = .returned (.int .i64 r) ∧ FindsR ls p a r ∧ Below w.heap.size w w' := by
  have hb0 := (Below.refl w.heap.size w).alloc (Nat.le_refl _) (.cells #[.slice A ls.length c] 26)
  have bA0 := Blk.new w #[.slice A ls.length c] 26
  have hC0 := hC.below hb0
  have hB0 := hB.below hb0
  by_cases hcut : rCut ls a = true
  · by_cases htx : isText p = true
    · by_cases hp0 : 0 < p.length
      · obtain ⟨hok, k, rfl, hk, hbd⟩ := rCut_true hcut
        have hlen := chunksText_len ls
        have hcan : canFindR ls p (k : Int) = true := by unfold canFindR; simp [hcut, htx, hp0]
        have hres : ∀ r, IsFind (chunksText ls) p k r → FindsR ls p (k : Int) r := fun r h => .inl ⟨hcan, by rw [Int.toNat_natCast]; exact h⟩
        obtain ⟨T, hT⟩ : ∃ T, chunksText ls = T := ⟨_, rfl⟩
        rw [hT] at hlen hk hres
        have HT := Lib.hid hT
        have HCUT := Lib.hid hcut
        have HTX := Lib.hid htx
        have HRES := Lib.hid hres
        have hne : ((p.length : Int) == 0) = false := by rw [beq_eq_false_iff_ne]; omega
        have hk9 : (k : Int) ≤ 400 := by omega
        clear hT hcut hok hbd htx hres hcan hp0
        go_enter Tryd.func27, Tryd.ntmps27
        go_wp2_with fail
        refine (l04Cut_any A ls c k _ hn (by exact hC0)).mono ?_
        rintro e w1 ⟨rfl, hb1⟩
        rw [HCUT.out]
        have bA1 := bA0.below hb1
        have hC1 := hC0.below hb1
        have hB1 := hB0.below hb1
        have hb1 := below_then hb0 hb1
        clear hb0 hC0 hB0 bA0
        go_wp2_with fail
        refine (specTextOk_any B p d _ hp hd9 (by exact hB1)).mono ?_
        rintro e w2 ⟨rfl, hb2⟩
        rw [HTX.out]
        have kA : w2.cell? ⟨w.heap.size, 0, none⟩ = some (.slice A ls.length c) := by rw [(bA1.below hb2).cell]; rfl
        have hC2 := hC1.below hb2
        have hB2 := hB1.below hb2
        have hb2 := below_then hb1 hb2
        clear hb1 hC1 hB1 bA1
        go_wp2_with fail
        refine (specRopeText_any A ls c _ hn (by exact hC2)).mono ?_
        rintro e w3 ⟨v, rfl, hown, hb3⟩
        rw [HT.out] at hown
        have hB3 := hB2.below hb3
        have hb3 := below_then hb2 hb3
        obtain ⟨D, g, rfl, h1, hg9, hD, hn1, hn2⟩ := hown.form2
        clear hown hC2 hB2 hb2 kA
        go_wp2
        go_loopw [8] (fun i wr => ∃ j n : Nat, k ≤ j ∧ j ≤ T.length ∧ i = .int .i64 j ∧ wr = w3.drewN n ∧ Hid (∀ q, k ≤ q → q < j → ¬ standsAt T p q)) (fun i _ => T.length - (intOf i).toNat)
        case atStart => exact ⟨k, 0, Nat.le_refl _, hk, rfl, rfl, Lib.hid (fun q h1 h2 => by omega)⟩
        case round =>
          obtain ⟨j, n, hkj, hjl, rfl, rfl, HN⟩ := hrel
          by_cases hlt : j < T.length
          · have hlt' : (j : Int) < (T.length : Int) := by omega
            have hDn : Bs (w3.drewN n) D T := hD
            have hBn : Bs (w3.drewN n) B p := hB3
            go_wp2_with fail
            refine (l04Stands_any D B T p g d j _ hn1 hn2 h1 hg9 hlen hp9 hjl (by exact hDn) (by exact hBn)).mono ?_
            rintro e w4 ⟨rfl, m, rfl⟩
            obtain ⟨z, hz⟩ : ∃ z, decide (standsAt T p j) = z := ⟨_, rfl⟩
            rw [hz]
            have HZ := Lib.hid hz
            clear hz hDn hBn
            cases z
            · go_wp2
              go_roundw
              case rel => exact ⟨j + 1, n + m, by omega, by omega, by go_num, by first | rfl | (rw [World.drewN_drewN]), Lib.hid (fun q h1 h2 => by
                by_cases e : q = j
                · subst e; exact of_decide_eq_false HZ.out
                · exact HN.out q h1 (by omega))⟩
              case measure => simp [intOf]; omega
            · have hf := HRES.out (j : Int) (.inl ⟨j, rfl, hkj, hlt, of_decide_eq_true HZ.out, HN.out⟩)
              have HF := Lib.hid hf
              clear hf
              go_wp2
              go_ret
              exact ⟨_, rfl, HF.out, below_drewN hb3 (n + m)⟩
          · have hge : decide ((j : Int) < (T.length : Int)) = false := decide_eq_false (by omega)
            have hf := HRES.out (-1) (.inr ⟨rfl, fun q h1 h2 => HN.out q h1 (by omega)⟩)
            have HF := Lib.hid hf
            clear hf
            go_wp2
            go_ret
            exact ⟨_, rfl, HF.out, below_drewN hb3 n⟩
      · have hcan : canFindR ls p a = false := by unfold canFindR; simp [hp0]
        have hres : FindsR ls p a (-1) := .inr ⟨hcan, rfl⟩
        have HRES := Lib.hid hres
        have HCUT := Lib.hid hcut
        have HTX := Lib.hid htx
        have hne : ((p.length : Int) == 0) = true := by rw [beq_iff_eq]; omega
        clear hcut htx hcan hres hp0
        go_enter Tryd.func27, Tryd.ntmps27
        go_wp2_with fail
        refine (l04Cut_any A ls c a _ hn (by exact hC0)).mono ?_
        rintro e w1 ⟨rfl, hb1⟩
        rw [HCUT.out]
        have hB1 := hB0.below hb1
        have hb1 := below_then hb0 hb1
        go_wp2_with fail
        refine (specTextOk_any B p d _ hp hd9 (by exact hB1)).mono ?_
        rintro e w2 ⟨rfl, hb2⟩
        rw [HTX.out]
        have hb2 := below_then hb1 hb2
        go_wp2
        go_ret
        exact ⟨_, rfl, HRES.out, hb2⟩
    · have htf : isText p = false := by simpa using htx
      have hcan : canFindR ls p a = false := by unfold canFindR; simp [htf]
      have hres : FindsR ls p a (-1) := .inr ⟨hcan, rfl⟩
      have HRES := Lib.hid hres
      have HCUT := Lib.hid hcut
      have HTX := Lib.hid htf
      clear hcut htx hcan hres htf
      go_enter Tryd.func27, Tryd.ntmps27
      go_wp2_with fail
      refine (l04Cut_any A ls c a _ hn (by exact hC0)).mono ?_
      rintro e w1 ⟨rfl, hb1⟩
      rw [HCUT.out]
      have hB1 := hB0.below hb1
      have hb1 := below_then hb0 hb1
      go_wp2_with fail
      refine (specTextOk_any B p d _ hp hd9 (by exact hB1)).mono ?_
      rintro e w2 ⟨rfl, hb2⟩
      rw [HTX.out]
      have hb2 := below_then hb1 hb2
      go_wp2
      go_ret
      exact ⟨_, rfl, HRES.out, hb2⟩
  · have hcf : rCut ls a = false := by simpa using hcut
    have hcan : canFindR ls p a = false := by unfold canFindR; simp [hcf]
    have hres : FindsR ls p a (-1) := .inr ⟨hcan, rfl⟩
    have HRES := Lib.hid hres
    have HCUT := Lib.hid hcf
    clear hcut hcf hcan hres
    go_enter Tryd.func27, Tryd.ntmps27
    go_wp2_with fail
    refine (l04Cut_any A ls c a _ hn (by exact hC0)).mono ?_
    rintro e w1 ⟨rfl, hb1⟩
    rw [HCUT.out]
    have hb1 := below_then hb0 hb1
    go_wp2
    go_ret
    exact ⟨_, rfl, HRES.out, hb1⟩
end Go.Proofs.YtfgbipomdfceeaaDoor
