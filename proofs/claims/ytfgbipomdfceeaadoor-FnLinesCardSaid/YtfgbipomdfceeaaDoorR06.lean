/-
  Chapter 4, the model's RopePlace: contract. Own work.
  Chapter 4: bytes.Split at newlines, the program's RopePlace: contracts. Own work.
  Chapter 4, the program's RopePlace: contract. Own work.
-/
import Derived.Test.YtfgbipomdfceeaaDoorR04
import Derived.Test.YtfgbipomdfceeaaDoorP05
import Derived.Deep.RegionHeld3
import Derived.Test.YtfgbipomdfceeaaDoorR04b
import Derived.Test.YtfgbipomdfceeaaDoorShelfS
import Derived.Lib.SplitLaws
namespace Go.Proofs.YtfgbipomdfceeaaDoor
open Go.RowKit P
set_option linter.unusedVariables false
set_option linter.unusedSimpArgs false
set_option maxRecDepth 100000

theorem cutsOr_mem {T : List UInt8} (ht : isText T = true) (k : Nat) : k ∈ cutsOr T ↔ k ≤ T.length ∧ isBound T (k : Int) = true := by
  unfold cutsOr cuts
  rw [if_pos ht, List.mem_filter, List.mem_range]
  constructor
  · rintro ⟨h1, h2⟩; exact ⟨by omega, h2⟩
  · rintro ⟨h1, h2⟩; exact ⟨by omega, h2⟩

end Go.Proofs.YtfgbipomdfceeaaDoor

namespace Go.Proofs.YtfgbipomdfceeaaDoor
open Go.RowKit P
set_option linter.unusedVariables false
set_option linter.unusedSimpArgs false
set_option maxRecDepth 100000

/-- Slices of bytes in a row, one a line. -/
def LineRow (w : World) (A : Option Addr) (L : List (List UInt8)) : Prop := ∀ j (h : j < L.length), ∃ g a' cp, A = some ⟨g, 0, none⟩ ∧ g < w.heap.size ∧ w.cell? ⟨g, j, none⟩ = some (.slice a' (L[j]).length cp) ∧ (L[j]).length ≤ cp ∧ cp ≤ 9223372036854775807 ∧ Bs w a' L[j]

theorem nums_bytes (l : List UInt8) : Go.Lib.bytesOf (l.map fun b => (b.toNat : Int)) = l := by
  unfold Go.Lib.bytesOf
  rw [List.map_map]
  conv => rhs; rw [← List.map_id l]
  refine List.map_congr_left fun b _ => ?_
  simp

theorem count_ten (T : List UInt8) : Go.Lib.count T [10] = lines T := Go.Lib.count_one 10 T

theorem splitCap (sep : List UInt8) (save : Nat) (hs : save ≤ sep.length) : ∀ (k : Nat) (a : Addr) (cap : Nat) (l : List UInt8) (v : Value), l.length ≤ cap → v ∈ Go.Lib.splitV sep save k a cap l → ∃ x len cp, v = .slice x len cp ∧ cp ≤ cap := by
  intro k
  induction k with
  | zero =>
    intro a cap l v hl hv
    simp [Go.Lib.splitV] at hv
    subst hv
    exact ⟨_, _, _, rfl, Nat.le_refl _⟩
  | succ k ih =>
    intro a cap l v hl hv
    by_cases hi : Go.Lib.index l sep = -1
    · rw [Go.Lib.splitV_miss sep save (k + 1) a cap l hi] at hv
      simp at hv
      subst hv
      exact ⟨_, _, _, rfl, Nat.le_refl _⟩
    · obtain ⟨i, hi2⟩ : ∃ i : Nat, Go.Lib.index l sep = i := by
        have := Go.Lib.index_ge l sep
        exact ⟨(Go.Lib.index l sep).toNat, by omega⟩
      have hroom := Go.Lib.index_room l sep (by omega)
      rw [Go.Lib.splitV_hit sep save k a cap l i hi2] at hv
      rcases List.mem_cons.1 hv with rfl | hv
      · exact ⟨_, _, _, rfl, by omega⟩
      · obtain ⟨x, len, cp, e, h⟩ := ih _ _ _ v (by rw [List.length_drop]; omega) hv
        exact ⟨x, len, cp, e, by omega⟩

theorem linesOf_length : ∀ (n : Nat) (T : List UInt8), T.length ≤ n → (linesOf T).length = lines T + 1 := by
  intro n
  induction n with
  | zero =>
    intro T hT
    have : T = [] := List.eq_nil_of_length_eq_zero (by omega)
    subst this
    rfl
  | succ n ih =>
    intro T hT
    rcases line_cases T with h | ⟨a, t, rfl, h⟩
    · rw [linesOf_no T h, count_no h]; rfl
    · have hl : (a ++ 10 :: t).length = a.length + 1 + t.length := by simp; omega
      rw [linesOf_app a t h, count_nl, count_no h, List.length_cons, ih t (by omega)]
      omega

theorem plain_add0 {a : Addr} {g x : Nat} (h : a.add 0 = ⟨g, x, none⟩) : a = ⟨g, x, none⟩ := by
  obtain ⟨b, f, sp⟩ := a
  unfold Addr.add at h
  split at h <;> simp_all

theorem bytesSplit_any (A : Option Addr) (T : List UInt8) (c g2 : Nat) (m : Int) (w : World) (hm : w.cell? ⟨0, 0, none⟩ = some (.int .i64 m)) (hA1 : A = none → c = 0) (hA2 : ∀ a, A = some a → ∃ g o, a = ⟨g, o, none⟩) (ht : T.length ≤ c) (hc9 : c ≤ 9223372036854775807) (ht4 : T.length ≤ 400) (hg2 : w.cell? ⟨g2, 0, none⟩ = some (.int .u8 10)) (hA : Bs w A T) :
    Calls Tryd.prog 80 #[.slice A T.length c, .slice (some ⟨g2, 0, none⟩) 1 1] w fun e w' => e = .returned (.slice (some ⟨w.heap.size, 0, none⟩) (linesOf T).length (linesOf T).length) ∧ LineRow w' (some ⟨w.heap.size, 0, none⟩) (linesOf T) ∧ Below w.heap.size w w' := by
  have hlen := linesOf_length T.length T (Nat.le_refl _)
  cases A with
  | none =>
    have h0 := hA1 rfl
    subst h0
    have hT : T = [] := List.eq_nil_of_length_eq_zero (by omega)
    subst hT
    refine (Tryd.bytes_Split_nil (some ⟨g2, 0, none⟩) 1 1 w (by omega) (by omega) (fun _ => ⟨g2, 0, _, rfl, hg2⟩)).mono ?_
    rintro e w' ⟨rfl, rfl⟩
    refine ⟨rfl, fun j hj => ?_, (Below.refl _ _).alloc (Nat.le_refl _) _⟩
    have : j = 0 := by simpa [linesOf] using hj
    subst this
    have bk := Blk.new w #[.slice none 0 0] 22
    exact ⟨_, none, 0, rfl, bk.lt, by rw [bk.cell]; rfl, Nat.le_refl _, by omega, fun k hk => by simp [linesOf] at hk⟩
  | some x =>
    obtain ⟨g, o, rfl⟩ := hA2 x rfl
    have hc1 : ∀ i, i < T.length → w.cell? ((⟨g, o, none⟩ : Addr).add i) = some (.int .u8 ((T.map fun b => (b.toNat : Int)).getD i 0)) := by
      intro i hi
      obtain ⟨b, o', e, _, hc⟩ := hA i hi
      cases e
      rw [add_plainB, hc]
      simp [hi]
    have hrg : ∀ (l : List UInt8), ∀ x ∈ l.map (fun b => (b.toNat : Int)), 0 ≤ x ∧ x < 256 := by
      intro l x hx
      obtain ⟨b, _, rfl⟩ := List.mem_map.1 hx
      have := b.toNat_lt
      omega
    have hc2 : ∀ i, i < 1 → w.cell? ((⟨g2, 0, none⟩ : Addr).add i) = some (.int .u8 ((([10] : List UInt8).map fun b => (b.toNat : Int)).getD i 0)) := by
      intro i hi
      have : i = 0 := by omega
      subst this
      rw [add_plainB]
      exact hg2
    have key := Tryd.bytes_Split ⟨g, o, none⟩ ⟨g2, 0, none⟩ T.length c 1 1 (T.map fun b => (b.toNat : Int)) (([10] : List UInt8).map fun b => (b.toNat : Int)) m w (by simp) (by simp) (hrg T) (hrg [10]) hc1 hc2 ht (by omega) (by omega) hc9 (by omega) hm
    rw [nums_bytes, nums_bytes, count_ten, ← hlen] at key
    refine key.mono ?_
    rintro e w' ⟨rfl, q, rfl⟩
    have bk : Blk ((w.alloc (.cells (Go.Lib.splitV [10] 0 (lines T) ⟨g, o, none⟩ c T).toArray 22)).drewN q) w.heap.size (Go.Lib.splitV [10] 0 (lines T) ⟨g, o, none⟩ c T).toArray 22 := Blk.new w _ _
    have hbel : Below w.heap.size w ((w.alloc (.cells (Go.Lib.splitV [10] 0 (lines T) ⟨g, o, none⟩ c T).toArray 22)).drewN q) := below_drewN ((Below.refl _ _).alloc (Nat.le_refl _) _) q
    refine ⟨rfl, fun j hj => ?_, hbel⟩
    have hvl : (Go.Lib.splitV [10] 0 (lines T) ⟨g, o, none⟩ c T).length = (linesOf T).length := by
      rw [Go.Lib.splitV_length, split_lines _ _ (Nat.le_refl _)]
    have hjv : j < (Go.Lib.splitV [10] 0 (lines T) ⟨g, o, none⟩ c T).length := by omega
    obtain ⟨a', off, len, cp, hv, hlc, hoff, hpiece, hadd⟩ := Go.Lib.splitV_spec [10] 0 (by simp) (by simp) (lines T) ⟨g, o, none⟩ c T ht j _ (List.getElem?_eq_getElem hjv)
    obtain ⟨x', len', cp', hv', hcp'⟩ := splitCap [10] 0 (by simp) (lines T) ⟨g, o, none⟩ c T _ ht (List.getElem_mem hjv)
    rw [hv] at hv'
    simp only [Value.slice.injEq] at hv'
    rw [split_lines _ _ (Nat.le_refl _), List.getElem?_eq_getElem hj, Option.some.injEq] at hpiece
    have hL : (linesOf T)[j].length = len := by rw [hpiece, List.length_take, List.length_drop]; omega
    refine ⟨_, some a', cp, rfl, bk.lt, ?_, by omega, by omega, fun i hi => ?_⟩
    · rw [bk.cell, hL, ← hv, List.getElem?_toArray, List.getElem?_eq_getElem hjv]
    · have hi' : i < len := by omega
      have h0 := hadd 0 (by omega)
      rw [add_plainB, Nat.add_zero] at h0
      have ha := plain_add0 h0
      subst ha
      obtain ⟨b, o', e, hlt, hc⟩ := (hA.below hbel) (off + i) (by omega)
      cases e
      refine ⟨g, o + off, rfl, hlt, ?_⟩
      rw [show o + off + i = o + (off + i) by omega, hc]
      simp only [hpiece, List.getElem_take, List.getElem_drop]
end Go.Proofs.YtfgbipomdfceeaaDoor

namespace Go.Proofs.YtfgbipomdfceeaaDoor
open Go.RowKit P
set_option linter.unusedVariables false
set_option linter.unusedSimpArgs false
set_option maxRecDepth 100000

theorem LineRow.below {w w' : World} {A : Option Addr} {L : List (List UInt8)} (h : LineRow w A L) (hb : Below w.heap.size w w') : LineRow w' A L := by
  intro j hj
  obtain ⟨g, a', cp, h1, h2, h3, h4, h5, h6⟩ := h j hj
  exact ⟨g, a', cp, h1, Nat.lt_of_lt_of_le h2 hb.size, (hb.cell (p := ⟨g, j, none⟩) h2).trans h3, h4, h5, h6.below hb⟩

set_option maxHeartbeats 2000000 in
theorem implRopePlace_any (A : Option Addr) (ls : List (List UInt8)) (c : Nat) (line col m : Int) (w : World) (hm : w.cell? ⟨0, 0, none⟩ = some (.int .i64 m)) (hmz : 0 < w.heap.size) (hn : ls.length ≤ 1048576) (hcol : col ≤ 9223372036854775807) (hT : Tab w) (hC : Cs w A ls) :
    Calls Tryd.prog 33 #[.agg #[.slice A ls.length c], .int .i64 line, .int .i64 col] w fun e w' => ∃ r : Int, e = .returned (.int .i64 r) ∧ IsPlace ls line col r ∧ Below w.heap.size w w' := by
  have hb0 := (Below.refl w.heap.size w).alloc (Nat.le_refl _) (.cells #[.slice A ls.length c] 26)
  have bA0 := Blk.new w #[.slice A ls.length c] 26
  have hC0 := hC.below hb0
  have hT0 := hT.below hb0
  have hlen := chunksText_len ls
  obtain ⟨q, hq⟩ : ∃ q, chunksOk ls = q := ⟨_, rfl⟩
  have hbad : q = false → IsPlace ls line col (-1) := fun h => place_bad (hq.trans h)
  have hsome : q = true → ∀ (mm : Nat) (L : List UInt8), (linesOf (chunksText ls))[mm]? = some L → 0 ≤ placeOf L col → IsPlace ls (mm : Int) col ((startOf (linesOf (chunksText ls)) mm : Int) + placeOf L col) := fun h mm L h1 h2 => place_some (hq.trans h) h1 h2
  have hnone : (∀ (mm : Nat) (L : List UInt8), line = (mm : Int) → (linesOf (chunksText ls))[mm]? = some L → placeOf L col < 0) → IsPlace ls line col (-1) := place_none
  have hoff := ofLine _ (chunksText ls) (Nat.le_refl _)
  obtain ⟨T, hTe⟩ : ∃ T, chunksText ls = T := ⟨_, rfl⟩
  rw [hTe] at hlen hsome hnone hoff
  obtain ⟨LL, hLL⟩ : ∃ LL, linesOf T = LL := ⟨_, rfl⟩
  rw [hLL] at hsome hnone hoff
  have HT := Lib.hid hTe
  have HLL := Lib.hid hLL
  have HQ := Lib.hid hq
  have HBAD := Lib.hid hbad
  have HSOME := Lib.hid hsome
  have HNONE := Lib.hid hnone
  have HOFF := Lib.hid hoff
  clear hTe hLL hq hbad hsome hnone hoff
  go_enter Tryd.func33, Tryd.ntmps33
  go_wp2_with fail
  refine (implRopeText_any A ls c _ hn (by exact hT0) (by exact hC0)).mono ?_
  rintro e w1 ⟨v, rfl, hown, hb1⟩
  rw [HT.out] at hown
  have bA1 := bA0.below hb1
  have hC1 := hC0.below hb1
  have hT1 := hT0.below hb1
  have hb1 := below_then hb0 hb1
  obtain ⟨D, g, rfl, h1, hg9, hD, hn1, hn2⟩ := hown.form2
  have hal := (Below.refl w1.heap.size w1).alloc (Nat.le_refl _) (.cells #[.int .u8 10] 5)
  have k10 : (w1.alloc (.cells #[.int .u8 10] 5)).cell? ⟨w1.heap.size, 0, none⟩ = some (.int .u8 10) := (Blk.new w1 _ _).cell 0
  have bA1 := bA1.below hal
  have hC1 := hC1.below hal
  have hT1 := hT1.below hal
  have hD1 := hD.below hal
  have hb1 := below_then hb1 hal
  have hm1 := (hb1.cell (p := ⟨0, 0, none⟩) hmz).trans hm
  clear hown hb0 hC0 hT0 bA0 hal hD
  go_wp2_with fail
  generalize w1.alloc (.cells #[.int .u8 10] 5) = W1 at *
  refine (bytesSplit_any D T g w1.heap.size m _ (by exact hm1) hn1 hn2 h1 hg9 hlen (by exact k10) (by exact hD1)).mono ?_
  rintro e w2 ⟨rfl, hrow, hb2⟩
  rw [HLL.out] at hrow ⊢
  have bA2 := bA1.below hb2
  have hC2 := hC1.below hb2
  have hT2 := hT1.below hb2
  have hb2 := below_then hb1 hb2
  have kA : w2.cell? ⟨w.heap.size, 0, none⟩ = some (.slice A ls.length c) := bA2.cell 0
  have hLn : LL.length ≤ 401 := by
    rw [← HLL.out, linesOf_length _ T (Nat.le_refl _)]
    have := lines_le T
    omega
  obtain ⟨g3, hg3⟩ : ∃ g3, W1.heap.size = g3 := ⟨_, rfl⟩
  rw [hg3] at hrow ⊢
  clear hb1 bA1 hC1 hT1 hD1 hm1 k10 hg3
  go_wp2_with fail
  refine (implRopeOk_any A ls c _ hn (by exact hT2) (by exact hC2)).mono ?_
  rintro e w3 ⟨rfl, hb3⟩
  rw [HQ.out]
  have hrow := hrow.below hb3
  have hT3 := hT2.below hb3
  have hb3 := below_then hb2 hb3
  clear hb2 bA2 hC2 hT2 kA
  cases q
  · have hf := HBAD.out (by first | rfl | trivial)
    have HF := Lib.hid hf
    clear hf hrow
    go_wp2
    go_ret
    exact ⟨_, rfl, HF.out, hb3⟩
  · by_cases hl0 : line < 0
    · have hf := HNONE.out (fun mm L h _ => by omega)
      have HF := Lib.hid hf
      clear hf hrow
      go_wp2
      go_ret
      exact ⟨_, rfl, HF.out, hb3⟩
    · obtain ⟨mm, rfl⟩ : ∃ mm : Nat, line = (mm : Int) := ⟨line.toNat, by omega⟩
      by_cases hlm : LL.length ≤ mm
      · have hf := HNONE.out (fun m' L h hL => by
          have : m' = mm := by omega
          subst this
          rw [List.getElem?_eq_none hlm] at hL
          cases hL)
        have HF := Lib.hid hf
        have hd : decide ((mm : Int) ≥ (LL.length : Int)) = true := decide_eq_true (by omega)
        clear hf hrow hl0
        go_wp2
        go_ret
        exact ⟨_, rfl, HF.out, hb3⟩
      · have hmm : mm < LL.length := by omega
        have hget : LL[mm]? = some LL[mm] := List.getElem?_eq_getElem hmm
        have hs1 := HSOME.out (by first | rfl | trivial) mm LL[mm] hget
        have hs2 : placeOf LL[mm] col < 0 → IsPlace ls (mm : Int) col (-1) := fun hneg => HNONE.out (fun m' L h hL => by
          have : m' = mm := by omega
          subst this
          rw [hget] at hL
          cases hL
          exact hneg)
        have hpb : 0 ≤ placeOf LL[mm] col → placeOf LL[mm] col ≤ LL[mm].length := fun h => by
          obtain ⟨qq, e1, e2, _⟩ := placeOf_pos h
          omega
        have hob := (HOFF.out mm LL[mm] hget LL[mm].length (Nat.le_refl _)).1
        obtain ⟨g4, a', cp, e4, hg4, hcell, hlcp, hcp9, hBs⟩ := hrow mm hmm
        simp only [Option.some.injEq, Addr.mk.injEq, and_true] at e4
        subst e4
        have hd : decide ((mm : Int) ≥ (LL.length : Int)) = false := decide_eq_false (by omega)
        have hmi : (mm : Int) < (LL.length : Int) := by omega
        have hstart := Lib.hid (fun j (h : j < LL.length) => startOf_succ LL j h)
        have hbound : Hid (∀ j (h : j < LL.length), startOf LL j + LL[j].length ≤ T.length) := Lib.hid (fun j h => (HOFF.out j LL[j] (List.getElem?_eq_getElem h) LL[j].length (Nat.le_refl _)).1)
        generalize LL[mm] = L at *
        have HS1 := Lib.hid hs1
        have HS2 := Lib.hid hs2
        have HPB := Lib.hid hpb
        have HROW := Lib.hid hrow
        obtain ⟨p, hp⟩ : ∃ p, placeOf L col = p := ⟨_, rfl⟩
        have HP := Lib.hid hp
        clear hs1 hs2 hpb hrow hget hp hl0 hlm
        go_wp2_with fail
        refine (placeOf_any a' L cp col _ hcol hlcp hcp9 (by exact hT3) (by exact hBs)).mono ?_
        rintro e w4 ⟨rfl, n4, rfl⟩
        rw [HP.out]
        have hb4 := below_drewN hb3 n4
        by_cases hneg : p < 0
        · have hf := HS2.out (by rw [HP.out]; exact hneg)
          have HF := Lib.hid hf
          clear hf
          go_wp2
          go_ret
          exact ⟨_, rfl, HF.out, hb4⟩
        · have hp0 : 0 ≤ p := by omega
          have hf := HS1.out (by rw [HP.out]; exact hp0)
          have hpl := HPB.out (by rw [HP.out]; exact hp0)
          rw [HP.out] at hf hpl
          have HF := Lib.hid hf
          have hpl4 : p ≤ 400 := by omega
          clear hf hpl
          go_wp2
          go_loop [8, 10, 40] (fun pl _ i => ∃ j : Nat, j ≤ mm ∧ i = .int .i64 j ∧ pl = .int .i64 (p + (startOf LL j : Int))) (fun _ _ i => mm - (intOf i).toNat)
          case atStart => exact ⟨0, Nat.zero_le _, rfl, by rw [startOf_zero]; go_num⟩
          case round =>
            obtain ⟨j, hj, rfl, rfl⟩ := hrel
            by_cases hjm : j < mm
            · have hjL : j < LL.length := by omega
              obtain ⟨g5, a5, cp5, e5, hg5, hcell5, _, _, _⟩ := HROW.out j hjL
              simp only [Option.some.injEq, Addr.mk.injEq, and_true] at e5
              subst e5
              have hsu := hstart.out j hjL
              have hbj := hbound.out j hjL
              have HSU := Lib.hid hsu
              have hcell6 : (w3.drewN n4).cell? ⟨g3, j, none⟩ = some (.slice a5 (LL[j]).length cp5) := hcell5
              clear hsu hcell5
              generalize LL[j].length = len at *
              have hji : (j : Int) < (mm : Int) := by omega
              go_wp2
              go_round
              case rel => exact ⟨j + 1, by omega, by go_num, by rw [HSU.out]; go_num⟩
              case measure => simp [intOf]; omega
            · have e : j = mm := by omega
              subst e
              have hf := HF.out
              rw [Int.add_comm] at hf
              have HF2 := Lib.hid hf
              clear hf
              go_wp2
              go_ret
              exact ⟨_, rfl, HF2.out, hb4⟩
end Go.Proofs.YtfgbipomdfceeaaDoor
