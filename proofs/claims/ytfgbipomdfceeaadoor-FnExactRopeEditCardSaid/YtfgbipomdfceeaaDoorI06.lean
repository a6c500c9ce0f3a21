/-
  Chapter 4, the program's chunkStarts: the iterator's contract (every chunk in its order, with the offset of its first byte). Own work.
  Chapter 4, the program's cutOut: what the function that it returns gives: contract. Own work.
  Chapter 4, toward the program's RopeSlice: what an append into a variable keeps; what the loop gathers. Own work.
  Chapter 4: a drawn region inside a round of a range over a function, by the laws of a region outside of one; an append there; what the loop has gathered in the end. Own work.
  Chapter 4, the program's RopeSlice at a valid cut: contract. Own work.
  Chapter 4, RopeSlice of the program and of the model: contracts. Own work.
-/
import Derived.RangeFuncNested
import Derived.RangeFuncBound
import Derived.RangeFuncCalls
import Derived.RangeFuncLeaves
import Derived.Shelf.Abstract
import Derived.WalkKit
import Derived.OwnWalkIn
import Derived.TacticsInMore
import Derived.LoopNIn
import Derived.LoopIn
import Derived.Test.YtfgbipomdfceeaaDoorI05b
import Derived.Test.YtfgbipomdfceeaaDoorR04
import Derived.Deep.RegionHeld3
import Derived.Deep.RegionWith
import Derived.RangeFuncBox
import Derived.Maps.AppendAt
import Derived.Stop.RegionWithIn
import Derived.OrdersHeld
import Derived.Deep.RegionHeld
namespace Go.Proofs.YtfgbipomdfceeaaDoor
open Go.RowKit Go.Shelf P
set_option linter.unusedVariables false
set_option linter.unusedSimpArgs false

attribute [local go_sem] Oper.semAt_some

/-- What a round over the chunks keeps: all that lay below n₀, and every lone variable that holds a chunk. -/
def KeepsCh (n₀ : Nat) (W W' : World) : Prop := Below n₀ W W' ∧ ∀ b v, Boxed W b 75 v → Boxed W' b 75 v
theorem keepsCh_t {n₀ : Nat} {A B C : World} (h : KeepsCh n₀ A B) (k : KeepsCh n₀ B C) : KeepsCh n₀ A C := ⟨h.1.trans k.1, fun b v hb => k.2 b v (h.2 b v hb)⟩
theorem keepsCh_b {n₀ : Nat} {w : World} (hn : n₀ ≤ w.heap.size) (W : World) (l : Nat) (o o' : Obj) (hl : w.heap.size ≤ l) (h : W.heap[l]? = some o) (ho : o.isCells = false) (hw : o.isWalk = false) : KeepsCh n₀ W (W.putObj l o') := by
  refine ⟨belowK_b hn W l o o' hl h ho hw, fun b v hb => ?_⟩
  by_cases e : l = b
  · subst e
    have hb' : W.heap[l]? = some (.cells #[v] 75 (0, 0)) := hb
    rw [hb'] at h; cases h; simp [Obj.isCells] at ho
  · exact (World.putObj_heap_other (by omega)).trans hb

/-- The first k places of n. -/
def ks (n k : Nat) : List { j : Nat // j < n } := (List.range k).filterMap fun j => if h : j < n then some ⟨j, h⟩ else none
theorem ks_succ {n k : Nat} (h : k < n) : ks n (k + 1) = ks n k ++ [⟨k, h⟩] := by
  simp [ks, List.range_succ, List.filterMap_append, h]
theorem ks_length (n k : Nat) : (ks n k).length ≤ k := by
  have := List.length_filterMap_le (fun j => if h : j < n then some (⟨j, h⟩ : { j : Nat // j < n }) else none) (List.range k)
  simpa [ks] using this

/-- What a round is handed: the offset of the chunk's first byte, and the chunk. -/
def chEnc (xs : List Value) (ls : List (List UInt8)) (x : { j : Nat // j < ls.length }) : Array Value := #[.int .i64 (tot (ls.take x.1) : Nat), .agg #[xs.getD x.1 undef]]

set_option maxRecDepth 100000 in
set_option maxHeartbeats 2000000 in
theorem chunkStarts1_in (F : Fence) (n : Nat) (hF : F.fn 102) (hro : F.round = none) (hn : 1 ≤ n) (l Br : Nat) (w0 : World) (A : Option Addr) (ls : List (List UInt8)) (c : Nat) (xs : List Value) (hlen : ls.length ≤ 1048576) (htot : tot ls ≤ 1099511627776)
    (hV : Vs w0 A xs) (hR : RdAll w0 xs ls) (W : World) (J Jx : List { j : Nat // j < ls.length } → World → Prop) (hW : Below w0.heap.size w0 W) (hJ : AbidesFrom W.heap.size J)
    (hY : ∀ pre x W1, J pre W1 → pre.length < ls.length → YieldAt F (n - 1) Tryd.prog l (chEnc xs ls x) W1 fun e W' =>
      (e = .returned (.bool true) ∧ J (pre ++ [x]) W' ∧ KeepsCh w0.heap.size W1 W') ∨ (e = .returned (.bool false) ∧ Jx (pre ++ [x]) W'))
    (hBr : W.cell? ⟨Br, 0, none⟩ = some (.slice A ls.length c)) (h0 : J [] W) :
    CallsIn F n Tryd.prog 102 #[.func (.yield l) #[] #[], .pointer (some ⟨Br, 0, none⟩)] W fun e W' => (∃ v, e = .returned v) ∧
      ((∃ ys, ys = ks ls.length ls.length ∧ J ys W') ∨ (∃ pre, True ∧ Jx pre W')) := by
  refine callsIn_of_wp Tryd.func102 rfl hF ?_ hro
  simp only [Tryd.ntmps102, List.size_toArray, List.length_cons, List.length_nil, Nat.reduceAdd, Nat.reduceSub, Array.replicate_succ, Array.replicate_zero, List.push_toArray, List.append_toArray, List.nil_append, List.cons_append]
  gi_wp2
  gi_loopw [3, 9] (fun s i wr => ∃ k : Nat, k ≤ ls.length ∧ i = .int .i64 k ∧ s = .int .i64 (tot (ls.take k) : Nat) ∧ J (ks ls.length k) wr ∧ Below w0.heap.size w0 wr)
    (fun _ i _ => ls.length - (intOf i).toNat)
  case atStart => exact ⟨0, Nat.zero_le _, rfl, by simp [tot], h0, hW⟩
  case round =>
    obtain ⟨k, hk, rfl, rfl, hJs, hnx⟩ := hrel
    by_cases hlt : k < ls.length
    · have hkx : k < xs.length := by rw [hR.1]; exact hlt
      obtain ⟨b, off, rfl, hb, hc⟩ := hV k hkx
      obtain ⟨B, d, hxk, hd1, hd2, hB⟩ := bRd_slice (hR.2 k hkx hlt)
      have hcx : wr.cell? ⟨b, off + k, none⟩ = some (.slice B (ls[k]).length d) := ((hnx.cell (p := ⟨b, off + k, none⟩) hb).trans hc).trans (by rw [hxk])
      have ht1 := tot_take ls k hlt
      have ht2 : tot (ls.take (k + 1)) ≤ tot ls := by
        have h := congrArg (fun x => x.flatten.length) (List.take_append_drop (k + 1) ls)
        rw [List.flatten_append] at h
        unfold tot
        simp only [List.length_append] at h
        omega
      have hJa : J (ks ls.length k) (wr.alloc (.cells #[.slice B (ls[k]).length d] 75)) := hJ _ _ _ none hJs (World.grownBy_alloc _ _ _) (fun r e => by cases e)
      obtain ⟨fn, tmps, assign, body, hy, hRd⟩ := hY _ ⟨k, hlt⟩ _ hJa (Nat.lt_of_le_of_lt (ks_length _ _) hlt)
      have hxe : xs.getD k undef = .slice B (ls[k]).length d := by rw [List.getD_eq_getElem?_getD, List.getElem?_eq_getElem hkx]; exact hxk
      dsimp only [chEnc] at hy
      rw [hxe] at hy
      have hk0 : (k : Int) < (ls.length : Int) := by omega
      generalize hL : (ls[k]).length = L at *
      gi_wp2
      refine hRd.mono ?_
      rintro e W3 (⟨rfl, hJ3, hk3⟩ | ⟨rfl, hJx3⟩)
      · have hbx : Boxed W3 wr.heap.size 75 (.slice B L d) := hk3.2 _ _ (Boxed.new wr 75 _)
        have hq3 := hbx.cell
        gi_wp2
        go_roundw
        case rel => exact ⟨k + 1, by omega, by go_num, by rw [ht1]; go_num, by rw [ks_succ hlt]; exact hJ3, hnx.trans (((Below.refl _ wr).alloc hnx.size _).trans hk3.1)⟩
        case measure => simp [intOf]; omega
      · gi_wp2
        refine bodyPost_ret (results_none rfl _ _ _) rfl ?_
        exact ⟨⟨_, rfl⟩, .inr ⟨_, trivial, hJx3⟩⟩
    · obtain rfl : k = ls.length := by omega
      gi_wp2
      go_end0
      exact ⟨⟨_, rfl⟩, .inl ⟨_, rfl, hJs⟩⟩

/-- The value of chunkStarts, at whatever later world. -/
theorem chunkStarts_stops (F : Fence) (n : Nat) (hF : F.fn 102) (hro : F.round = none) (hn : 1 ≤ n) (Br n₀ : Nat) (w0 : World) (hn₀ : n₀ = w0.heap.size) (A : Option Addr) (ls : List (List UInt8)) (c : Nat) (xs : List Value) (hlen : ls.length ≤ 1048576) (htot : tot ls ≤ 1099511627776)
    (hV : Vs w0 A xs) (hR : RdAll w0 xs ls) (w : World) (hw : Below w0.heap.size w0 w) (hBl : Br < w.heap.size) (hBr : w.cell? ⟨Br, 0, none⟩ = some (.slice A ls.length c)) :
    SeqStopsK F n Tryd.prog 102 #[.pointer (some ⟨Br, 0, none⟩)] (chEnc xs ls) (KeepsCh n₀) (fun ys => ys = ks ls.length ls.length) (fun _ => True) ls.length w := fun l J Jx W hW hJ _ hY h0 => by
  subst hn₀
  exact chunkStarts1_in F n hF hro hn l Br w0 A ls c xs hlen htot hV hR W J Jx (hw.trans (hW.mono hw.size)) hJ hY ((hW.cell (p := ⟨Br, 0, none⟩) hBl).trans hBr) h0

theorem chunkStarts_any (A : Option Addr) (n c : Nat) (w : World) :
    Calls Tryd.prog 59 #[.agg #[.slice A n c]] w fun e w' => e = .returned (.func (.func 102) #[] #[.pointer (some ⟨w.heap.size, 0, none⟩)]) ∧ w' = w.alloc (.cells #[.slice A n c] 26) := by
  go_enter Tryd.func59, Tryd.ntmps59
  go_wp2
  go_ret
  exact ⟨rfl, rfl⟩

/-- The offset in a chunk of n bytes that is nearest to a. -/
def insideV (n : Nat) (a : Int) : Nat := (min (max a 0) (n : Int)).toNat
theorem insideV_le (n : Nat) (a : Int) : insideV n a ≤ n := by unfold insideV; omega
theorem insideV_cast (n : Nat) (a : Int) : min (max a 0) (n : Int) = (insideV n a : Int) := by unfold insideV; omega

theorem inside_any (A : Option Addr) (n c : Nat) (a : Int) (w : World) (hn : n ≤ 9223372036854775807) :
    Calls Tryd.prog 101 #[.agg #[.slice A n c], .int .i64 a] w fun e w' => e = .returned (.int .i64 (insideV n a : Nat)) ∧ w' = w.alloc (.cells #[.slice A n c] 75) := by
  have he := insideV_cast n a
  go_enter Tryd.func101, Tryd.ntmps101
  go_wp2
  go_ret
  exact ⟨rfl, rfl⟩

theorem cutOut_any (i j : Int) (w : World) :
    Calls Tryd.prog 58 #[.int .i64 i, .int .i64 j] w fun e w' => e = .returned (.func (.func 100) #[] #[.pointer (some ⟨w.heap.size, 0, none⟩), .pointer (some ⟨w.heap.size + 1, 0, none⟩)]) ∧ w' = (w.alloc (.cells #[.int .i64 i] 3)).alloc (.cells #[.int .i64 j] 3) := by
  go_enter Tryd.func58, Tryd.ntmps58
  go_wp2
  go_ret
  exact ⟨rfl, rfl⟩
end Go.Proofs.YtfgbipomdfceeaaDoor

namespace Go.Proofs.YtfgbipomdfceeaaDoor
open Go.RowKit P
set_option linter.unusedVariables false
set_option linter.unusedSimpArgs false
set_option maxRecDepth 100000

/-- What lies of l between the offsets a and b, as far as there is any. -/
def cutV (l : List UInt8) (a b : Int) : List UInt8 := (l.drop (insideV l.length a)).take (insideV l.length b - insideV l.length a)
theorem cutV_len (l : List UInt8) (a b : Int) : (cutV l a b).length ≤ l.length := by unfold cutV; rw [List.length_take, List.length_drop]; omega
theorem insideV_mono (n : Nat) {a b : Int} (h : a ≤ b) : insideV n a ≤ insideV n b := by unfold insideV; omega

set_option maxHeartbeats 2000000 in
theorem cutOut1_any (A : Option Addr) (l : List UInt8) (c : Nat) (s i j : Int) (Bi Bj : Nat) (w : World) (hl : 0 < l.length) (hlc : l.length ≤ c) (hcm : c ≤ maxLen) (hs : 0 ≤ s ∧ s ≤ 1099511627776) (hi : 0 ≤ i ∧ i ≤ 1099511627776) (hj : 0 ≤ j ∧ j ≤ 1099511627776) (hij : i ≤ j)
    (hci : w.cell? ⟨Bi, 0, none⟩ = some (.int .i64 i)) (hcj : w.cell? ⟨Bj, 0, none⟩ = some (.int .i64 j)) (hbi : Bi < w.heap.size) (hbj : Bj < w.heap.size) (hB : Bs w A l) :
    Calls Tryd.prog 100 #[.int .i64 s, .agg #[.slice A l.length c], .pointer (some ⟨Bi, 0, none⟩), .pointer (some ⟨Bj, 0, none⟩)] w fun e w' => (∃ ad c', e = .returned (.slice (some ad) (cutV l (i - s) (j - s)).length c') ∧ Bs w (some ad) (cutV l (i - s) (j - s))) ∧ Below w.heap.size w w' := by
  have hc9 : c ≤ 9223372036854775807 := by unfold maxLen at hcm; omega
  obtain ⟨b0, o0, rfl, _, _⟩ := hB 0 hl
  obtain ⟨a, ha⟩ : ∃ a, insideV l.length (i - s) = a := ⟨_, rfl⟩
  obtain ⟨m, hm⟩ : ∃ m, insideV l.length (j - s) = a + m := ⟨insideV l.length (j - s) - a, by have := insideV_mono l.length (show i - s ≤ j - s by omega); omega⟩
  have hle : a + m ≤ l.length := by rw [← hm]; exact insideV_le _ _
  have hcv : cutV l (i - s) (j - s) = (l.drop a).take m := by unfold cutV; rw [ha, hm, Nat.add_sub_cancel_left]
  have hcl : ((l.drop a).take m).length = m := by rw [List.length_take, List.length_drop]; omega
  obtain ⟨A1, hsl, hB'⟩ := slice_mid (some ⟨b0, o0, none⟩) l.length c a m w l (by simp) (by rintro x ⟨⟩; exact ⟨_, _, rfl⟩) rfl hle hlc hc9 hB
  obtain ⟨ad, rfl⟩ : ∃ ad, A1 = some ad := by
    have h1 := hsl w
    have hz : (Go.sizeOf 5).run Tryd.prog w = .ok 1 w := by kernel_rfl
    have ht' : Tryd.prog.underlying 22 = some (.slice (Tryd.prog.elem 22)) := by simp [Program.elem, Tryd.underlying22]
    have he : Tryd.prog.elem 22 = 5 := by simp [Program.elem, Tryd.underlying22]
    rw [run_slice_lh w 22 _ _ _ ht' .i64 .i64 _ _ (by omega) (by omega) (by omega), he, hz] at h1
    cases A1 with
    | some ad => exact ⟨ad, rfl⟩
    | none =>
      exfalso
      by_cases h2 : c = a
      · simp [Result.andThen, sliced, h2] at h1
      · by_cases h3 : a = 0
        · subst h3; simp [Result.andThen, sliced, h2] at h1
        · simp [Result.andThen, sliced, h2, h3] at h1
  rw [hcv, hcl]
  have H1 : Hid (∀ V : World, Calls Tryd.prog 101 #[.agg #[.slice (some ⟨b0, o0, none⟩) l.length c], .int .i64 (i - s)] V fun e w' => e = .returned (.int .i64 (a : Int)) ∧ Below V.heap.size V w') := Lib.hid (fun V => by
    refine (inside_any _ _ _ _ _ (by omega)).mono ?_
    rintro e w' ⟨rfl, rfl⟩
    exact ⟨by rw [ha], (Below.refl _ _).alloc (Nat.le_refl _) _⟩)
  have H2 : Hid (∀ V : World, Calls Tryd.prog 101 #[.agg #[.slice (some ⟨b0, o0, none⟩) l.length c], .int .i64 (j - s)] V fun e w' => e = .returned (.int .i64 ((a : Int) + (m : Int))) ∧ Below V.heap.size V w') := Lib.hid (fun V => by
    refine (inside_any _ _ _ _ _ (by omega)).mono ?_
    rintro e w' ⟨rfl, rfl⟩
    exact ⟨by rw [hm, Int.natCast_add], (Below.refl _ _).alloc (Nat.le_refl _) _⟩)
  have HB' := Lib.hid hB'
  have hal := (Below.refl w.heap.size w).alloc (Nat.le_refl _) (.cells #[.slice (some ⟨b0, o0, none⟩) l.length c] 75)
  have q0 : (w.alloc (.cells #[.slice (some ⟨b0, o0, none⟩) l.length c] 75)).cell? ⟨w.heap.size, 0, none⟩ = some (.slice (some ⟨b0, o0, none⟩) l.length c) := (Blk.new w _ _).cell 0
  have qi := (hal.cell (p := ⟨Bi, 0, none⟩) hbi).trans hci
  have qj := (hal.cell (p := ⟨Bj, 0, none⟩) hbj).trans hcj
  have hz0 : w.heap.size < (w.alloc (.cells #[.slice (some ⟨b0, o0, none⟩) l.length c] 75)).heap.size := by simp
  have hzi : Bi < (w.alloc (.cells #[.slice (some ⟨b0, o0, none⟩) l.length c] 75)).heap.size := by simp; omega
  have hzj : Bj < (w.alloc (.cells #[.slice (some ⟨b0, o0, none⟩) l.length c] 75)).heap.size := by simp; omega
  clear hm ha hcv hcl hB' hB hci hcj
  have hwi : IntKind.i64.wrap (i - s) = i - s := IntWalk.i64_in _ ⟨by omega, by omega⟩
  have hwj : IntKind.i64.wrap (j - s) = j - s := IntWalk.i64_in _ ⟨by omega, by omega⟩
  go_enter Tryd.func100, Tryd.ntmps100
  go_wp2_with fail
  generalize w.alloc (.cells #[.slice (some ⟨b0, o0, none⟩) l.length c] 75) = W at *
  go_region_held3 (fun V => V.cell? ⟨w.heap.size, 0, none⟩ = some (.slice (some ⟨b0, o0, none⟩) l.length c) ∧ V.cell? ⟨Bi, 0, none⟩ = some (.int .i64 i) ∧ V.cell? ⟨Bj, 0, none⟩ = some (.int .i64 j)) (exact ⟨(by first | exact q0 | exact r0 | exact t0), (by first | exact qi | exact ri | exact ti), (by first | exact qj | exact rj | exact tj)⟩) (first
    | (go_at_call_of 101 (Value.int .i64 (i - s)); refine (H1.out _).mono ?_; rintro e w5 ⟨rfl, hb5⟩; have hb5 : Below W.heap.size W w5 := ⟨hb5.os, hb5.tape, hb5.output, hb5.size, hb5.block⟩; have r0 := (hb5.cell (p := ⟨w.heap.size, 0, none⟩) hz0).trans q0; have ri := (hb5.cell (p := ⟨Bi, 0, none⟩) hzi).trans qi; have rj := (hb5.cell (p := ⟨Bj, 0, none⟩) hzj).trans qj; have hz5 := hb5.size; have HB5 := Lib.hid (below_then hal hb5); clear hb5)
    | (go_at_call_of 101 (Value.int .i64 (j - s)); refine (H2.out _).mono ?_; rintro e w6 ⟨rfl, hb6⟩; have hb6 : Below w5.heap.size w5 w6 := ⟨hb6.os, hb6.tape, hb6.output, hb6.size, hb6.block⟩; have t0 := (hb6.cell (p := ⟨w.heap.size, 0, none⟩) (Nat.lt_of_lt_of_le hz0 hz5)).trans r0; have ti := (hb6.cell (p := ⟨Bi, 0, none⟩) (Nat.lt_of_lt_of_le hzi hz5)).trans ri; have tj := (hb6.cell (p := ⟨Bj, 0, none⟩) (Nat.lt_of_lt_of_le hzj hz5)).trans rj; have HB6 := Lib.hid (below_then HB5.out hb6); clear hb6))
  go_wp2
  go_ret
  exact ⟨⟨_, _, rfl, HB'.out⟩, ⟨HB6.out.os, HB6.out.tape, HB6.out.output, HB6.out.size, HB6.out.block⟩⟩

/-- .. in the words of an append: there is an address, and the cells lie there. -/
theorem cutOut1_cells (A : Option Addr) (l : List UInt8) (c : Nat) (s i j : Int) (Bi Bj : Nat) (w : World) (hl : 0 < l.length) (hlc : l.length ≤ c) (hcm : c ≤ maxLen) (hs : 0 ≤ s ∧ s ≤ 1099511627776) (hi : 0 ≤ i ∧ i ≤ 1099511627776) (hj : 0 ≤ j ∧ j ≤ 1099511627776) (hij : i ≤ j)
    (hci : w.cell? ⟨Bi, 0, none⟩ = some (.int .i64 i)) (hcj : w.cell? ⟨Bj, 0, none⟩ = some (.int .i64 j)) (hbi : Bi < w.heap.size) (hbj : Bj < w.heap.size) (hB : Bs w A l) :
    Calls Tryd.prog 100 #[.int .i64 s, .agg #[.slice A l.length c], .pointer (some ⟨Bi, 0, none⟩), .pointer (some ⟨Bj, 0, none⟩)] w fun e w' => (∃ ad c', e = .returned (.slice (some ad) (cutV l (i - s) (j - s)).length c') ∧ ∀ k u, ((cutV l (i - s) (j - s)).map bV)[k]? = some u → w'.cell? (ad.add k) = some u) ∧ Below w.heap.size w w' := by
  refine (cutOut1_any A l c s i j Bi Bj w hl hlc hcm hs hi hj hij hci hcj hbi hbj hB).mono ?_
  rintro e w' ⟨⟨ad, c', rfl, hX⟩, hb⟩
  refine ⟨⟨ad, c', rfl, fun k u hk => ?_⟩, hb⟩
  obtain ⟨hk1, hk2⟩ := List.getElem?_eq_some_iff.1 hk
  rw [List.length_map] at hk1
  obtain ⟨b, off, e, hlt, hc⟩ := hX k hk1
  cases e
  rw [List.getElem_map] at hk2
  rw [← hk2]
  have h := (hb.cell (p := ⟨b, off + k, none⟩) hlt).trans hc
  by_cases h0 : k = 0
  · subst h0; simpa [Addr.add, bV] using h
  · simpa [Addr.add, bV, h0] using h
end Go.Proofs.YtfgbipomdfceeaaDoor

namespace Go.Proofs.YtfgbipomdfceeaaDoor
open Go.RowKit Go.Shelf P
set_option linter.unusedVariables false
set_option linter.unusedSimpArgs false
set_option maxRecDepth 100000

/-- A function value is stored in one cell. -/
theorem run_store_func {P : Program} (w : World) (a : Addr) (m : Mode) (f : Fn) (x y : Array Value) : (store a (.func f x y) m).run P w = stored P w a (.func f x y) m := run_store P w a _ m rfl
theorem run_store_nilFunc {P : Program} (w : World) (a : Addr) (m : Mode) : (store a .nilFunc m).run P w = stored P w a .nilFunc m := run_store P w a _ m rfl
attribute [local go_sem] Oper.semAt_some run_store_func run_store_nilFunc

/-- An append to a row of the call's own, stored into its variable: what lies where. -/
theorem appended_into {W w1 : World} {n₀ B : Nat} {t e : TypeId} {v v' : Value} {k m : Nat} {xs ys : List Value}
    (hv : Boxed W B t v) (hte : t ≠ e) (hrow : W.ownsRow n₀ e 1 v k xs) (hn₀ : n₀ ≤ W.heap.size) (hB : n₀ ≤ B)
    (hown' : w1.ownsRow n₀ e 1 v' m ys) (hgrow : W.grownBy w1 v.ownBlock) :
    Boxed w1 B t v ∧ Boxed (w1.setCell ⟨B, 0, none⟩ v') B t v' ∧ (w1.setCell ⟨B, 0, none⟩ v').ownsRow n₀ e 1 v' m ys ∧ KeepsOthers W (w1.setCell ⟨B, 0, none⟩ v') ∧ Below n₀ W (w1.setCell ⟨B, 0, none⟩ v') ∧
      ∀ b T' u, T' ≠ e → b ≠ B → Boxed W b T' u → Boxed (w1.setCell ⟨B, 0, none⟩ v') b T' u := by
  have hv1 : Boxed w1 B t v := hv.kept hgrow (hv.not_row hte hrow)
  refine ⟨hv1, hv1.set v', hown'.kept (grownBy_setCell' w1 B v') (.inr (hv1.not_row hte hown').symm), ?_, ?_, fun b T' u hT hb hu => (hu.kept hgrow (hu.not_row hT hrow)).other hb _⟩
  · refine (KeepsOthers.of_grownBy hgrow fun j o ej hj => ?_).trans (KeepsOthers.setCell _ _ _)
    rcases hrow.2 with ⟨rfl, _⟩ | ⟨g, cap, cur, rfl, _, hgb, _⟩
    · simp [Value.ownBlock] at ej
    · obtain rfl : g = j := by simpa [Value.ownBlock] using ej
      rw [hgb] at hj; cases hj; rfl
  · refine ((Below.refl n₀ W).grown hgrow hn₀ fun j ej => ?_).setCell (p := ⟨B, 0, none⟩) hB v'
    rcases hrow.2 with ⟨rfl, _⟩ | ⟨g, cap, cur, rfl, hb, _, _⟩
    · simp [Value.ownBlock] at ej
    · obtain rfl : g = j := by simpa [Value.ownBlock] using ej
      exact hb

/-- Whatever lies in a lone variable lies on where all that lay, lies. -/
theorem boxed_belowAll {W W' : World} {b : Nat} {t : TypeId} {v : Value} (h : Boxed W b t v) (hb : Below W.heap.size W W') : Boxed W' b t v := (hb.block b h.lt).trans h
theorem keepsFrom_below {W W' : World} (B : Nat) (hb : Below W.heap.size W W') : KeepsFrom B W W' := ⟨hb.size, fun k o _ hk ho => (hb.block k (Array.getElem?_eq_some_iff.1 hk).1).trans hk⟩

/-- What a loop over the places pre has gathered. -/
def gath (ls : List (List UInt8)) (i j : Int) (pre : List { k : Nat // k < ls.length }) : List UInt8 :=
  (pre.map fun x => cutV (ls[x.1]'x.2) (i - (tot (ls.take x.1) : Nat)) (j - (tot (ls.take x.1) : Nat))).flatten
theorem gath_snoc (ls : List (List UInt8)) (i j : Int) (pre : List { k : Nat // k < ls.length }) (x : { k : Nat // k < ls.length }) :
    gath ls i j (pre ++ [x]) = gath ls i j pre ++ cutV (ls[x.1]'x.2) (i - (tot (ls.take x.1) : Nat)) (j - (tot (ls.take x.1) : Nat)) := by
  simp [gath]
theorem gath_len (ls : List (List UInt8)) (i j : Int) (M : Nat) (hM : ∀ k (h : k < ls.length), (ls[k]).length ≤ M) : ∀ pre : List { k : Nat // k < ls.length }, (gath ls i j pre).length ≤ pre.length * M := by
  intro pre
  induction pre with
  | nil => simp [gath]
  | cons x t ih =>
    have h1 := cutV_len (ls[x.1]'x.2) (i - (tot (ls.take x.1) : Nat)) (j - (tot (ls.take x.1) : Nat))
    have h2 := hM x.1 x.2
    have e : gath ls i j (x :: t) = cutV (ls[x.1]'x.2) (i - (tot (ls.take x.1) : Nat)) (j - (tot (ls.take x.1) : Nat)) ++ gath ls i j t := by simp [gath]
    rw [e, List.length_append, List.length_cons, Nat.succ_mul]
    omega

end Go.Proofs.YtfgbipomdfceeaaDoor

namespace Go.Proofs.YtfgbipomdfceeaaDoor
open Go Go.RowKit Go.Shelf P
set_option linter.unusedVariables false

/-- Q, and the way out is none that lets out. -/
def NoOut (Q : Exit → Act → World → Prop) : Exit → Act → World → Prop := fun e a w => e ≠ .outgrown ∧ Q e a w

theorem upon_round {l n : Nat} {P : Program} {o : Oper} {a : Act} {K K' : Act → World → Prop} {Q : Exit → Act → World → Prop} {r : Result Next} (hk : ∀ a w, K a w → K' a w)
    (h : o.upon P a K (NoOut Q) r) : o.uponIn (Fence.wide.inRound l) n P a K' Q r := by
  cases r with
  | ok x w' =>
    cases x <;> simp only [Oper.upon, Oper.uponIn] at h ⊢
    case value u => exact hk _ _ h
    case skip => exact hk _ _ h
    case defer d => exact hk _ _ h
    case enter f args =>
      refine ⟨fun h => by simp [Fence.wide] at h, CallsIn.inRound l (callsIn_wide.2 (Calls.mono h fun e w'' he => ?_))⟩
      cases e with
      | returned u => exact hk _ _ he
      | panicked c => exact he.2
      | outgrown => obtain ⟨_, _, h, _⟩ := he; exact absurd rfl h
    case row row args =>
      refine ⟨fun h => by simp [Fence.wide] at h, fun c cs _ => ?_⟩
      obtain ⟨v, w2, h1, h2⟩ := h c cs
      exact ⟨v, w2, hk _ _ h1, stepsIn_wide.2 h2⟩
  | halt x w' =>
    cases x <;> simp only [Oper.upon, Oper.uponIn] at h ⊢
    case panic u => exact h.2

/-- No defer statement among them. -/
def noDefer (ops : Array Oper) : Bool := ops.all fun o => match o.op with | .defer _ => false | _ => true

theorem wpOp_round {l n : Nat} {P : Program} {ops : Array Oper} {Q : Exit → Act → World → Prop} {i : Nat} {a : Act} {w : World} {K K' : Act → World → Prop} (hd : noDefer ops = true) (hk : ∀ a w, K a w → K' a w)
    (h : wpOp P ops (NoOut Q) i K a w) : wpOpIn (Fence.wide.inRound l) n P ops Q i K' a w := by
  unfold wpOp at h
  unfold wpOpIn
  cases ho : ops[i]? with
  | none => simp only [ho] at h ⊢; exact hk _ _ h
  | some o =>
    simp only [ho] at h ⊢
    have hdo : ∀ c, o.op ≠ .defer c := by
      intro c hc
      obtain ⟨hi, he⟩ := Array.getElem?_eq_some_iff.1 ho
      have := (Array.all_eq_true.1 hd) i hi
      rw [he, hc] at this
      simp at this
    split
    · rename_i hw
      simp only [hw, if_true] at h
      rcases h with h | ⟨_, _, _, h, _⟩
      · refine ⟨fun _ _ => trivial, ?_⟩
        rw [show (Fence.wide.inRound l).round = some l from rfl, Oper.semAt_some l _ _ hdo]
        exact upon_round hk h
      · exact absurd rfl h
    · rename_i hw
      simp only [hw] at h
      exact ⟨fun _ _ => trivial, hk _ _ h⟩

theorem wpAny_round {l n : Nat} {P : Program} {ops : Array Oper} {Q : Exit → Act → World → Prop} {md : Region.Mode} (hd : noDefer ops = true) :
    ∀ (fuel : Nat) (listed : Array Bool) (a : Act) (w : World), wpAny P md ops (NoOut Q) fuel listed a w → wpAnyIn (Fence.wide.inRound l) n P md ops Q fuel listed a w
  | 0, _, _, _, h => ⟨h.1, h.2.2⟩
  | fuel + 1, _, _, _, h => ⟨fun hr => (h.1 hr).2, fun i hi => wpOp_round hd (fun a' w' h' => wpAny_round hd fuel _ a' w' h') (h.2 i hi)⟩

/-- A drawn region inside a round, by the laws of a region outside of one. -/
theorem wpIn_region_round {l n id : Nat} {P : Program} {ops : Array Oper} {Q : Exit → Act → World → Prop} {S : World → Prop} {a : Act} {w : World} (hm : P.follows .mixedOrders = true) (hd : noDefer ops = true) (hS : S w.drew)
    (h : S w.drew → wpAnyH P .any ops (NoOut Q) S ops.size (Array.replicate ops.size false) a w.drew) : (Code.region id ops true).wpIn (Fence.wide.inRound l) n P Q a w :=
  wpIn_region_any hm (wpAny_round hd _ _ _ _ (wpAny_of_held _ _ _ _ (h hS)))

/-- append onto a row of the call's own inside a region that draws its order. -/
theorem step_app_cells {P : Program} {ops : Array Oper} {o : Oper} {a : Act} {w : World} {K : Act → World → Prop} {Q : Exit → Act → World → Prop} {X : Prop} (hgd : o.guard = none) (s x : Operand) (t : TypeId)
    (ho : o.op = .call { callee := .builtin .append, args := #[s, x], argTypes := #[t, t] })
    (base : Nat) (e : TypeId) (i : TypeInfo) (z : Value) (size bytes : Nat) (h1 : P.underlying t = some (.slice e)) (h2 : P.info? e = some i) (h3 : i.zero = some z) (h4 : i.size = size) (h5 : i.bytes = bytes) (h6 : z.cells.size = size) (h7 : 0 < size)
    (v : Value) (k : Nat) (xs : List Value) (hs : a.eval s = v) (hown : w.ownsRow base e size v k xs) (ad : Addr) (m c : Nat) (news : List Value) (hx : a.eval x = .slice (some ad) m c) (hn : news.length = m * size)
    (hc : ∀ j u, news[j]? = some u → w.cell? (ad.add j) = some u) (h1c : ∀ u ∈ news, u.oneCell' = true) (b1 : k + m ≤ maxLen) (b2 : (k + m) * bytes ≤ 140737488355328) (b3 : base ≤ w.heap.size)
    (h : ∀ v' w', w'.ownsRow base e size v' (k + m) (xs ++ news) → w.grownBy w' v.ownBlock → K (a.put o.dst v') w') :
    if Region.wanted o (yielded ops a.tmps) = true then Oper.wp P o a w K Q else X := by
  obtain ⟨v', w', hrun, r1, r2, r3⟩ := run_append_own (P := P) w base t o.type e i z size bytes h1 h2 h3 h4 h5 h6 h7 v k xs hown ad m c news hn hc h1c b1 b2 b3
  have hw : Region.wanted o (yielded ops a.tmps) = true := by simp [Region.wanted, hgd]
  rw [if_pos hw]
  unfold Oper.wp
  simp [execOp, ho, resolve, invoke, builtin, hs, hx, hrun, Result.andThen]
  exact h v' w' r1 r2

theorem insideV_app (n m : Nat) (a : Int) : insideV (n + m) a = insideV n a + insideV m (a - n) := by unfold insideV; omega

theorem cutV_app (l r : List UInt8) (a b : Int) (h : a ≤ b) : cutV (l ++ r) a b = cutV l a b ++ cutV r (a - l.length) (b - l.length) := by
  unfold cutV
  have hm1 := insideV_mono l.length h
  have hm2 := insideV_mono r.length (show a - (l.length : Int) ≤ b - l.length by omega)
  have h1 := insideV_le l.length a
  have h2 := insideV_le l.length b
  have h3 := insideV_le r.length (a - l.length)
  have h4 := insideV_le r.length (b - l.length)
  have c1 : insideV r.length (a - l.length) = 0 ∨ insideV l.length a = l.length := by unfold insideV; omega
  have c2 : insideV r.length (b - l.length) = 0 ∨ insideV l.length b = l.length := by unfold insideV; omega
  rw [List.length_append, insideV_app, insideV_app]
  generalize insideV l.length a = x at *
  generalize insideV l.length b = x' at *
  generalize insideV r.length (a - l.length) = y at *
  generalize insideV r.length (b - l.length) = y' at *
  have e1 : l.drop (x + y) = l.drop x := by
    rcases c1 with c | c
    · rw [c, Nat.add_zero]
    · rw [List.drop_eq_nil_of_le (by omega), List.drop_eq_nil_of_le (by omega)]
  have e2 : x + y - l.length = y := by omega
  rw [List.drop_append, e1, e2, List.take_append, List.length_drop]
  congr 1
  · rcases c2 with c | c
    · congr 1; omega
    · rw [List.take_of_length_le (by rw [List.length_drop]; omega), List.take_of_length_le (by rw [List.length_drop]; omega)]
  · congr 1; omega

theorem gath_all (ls : List (List UInt8)) (i j : Int) (h : i ≤ j) : ∀ k, k ≤ ls.length → gath ls i j (ks ls.length k) = cutV (ls.take k).flatten i j := by
  intro k
  induction k with
  | zero => intro _; simp [ks, gath, cutV]
  | succ k ih =>
    intro hk
    rw [ks_succ (show k < ls.length by omega), gath_snoc, ih (by omega), flat_snoc ls k (by omega), cutV_app _ _ _ _ h]
    rfl

theorem gath_whole (ls : List (List UInt8)) (i j : Nat) (h : i ≤ j) (hj : j ≤ ls.flatten.length) : gath ls i j (ks ls.length ls.length) = (ls.flatten.drop i).take (j - i) := by
  rw [gath_all ls i j (by omega) _ (Nat.le_refl _), List.take_length]
  unfold cutV
  have e1 : insideV ls.flatten.length i = i := by unfold insideV; omega
  have e2 : insideV ls.flatten.length j = j := by unfold insideV; omega
  rw [e1, e2]
end Go.Proofs.YtfgbipomdfceeaaDoor

namespace Go.Proofs.YtfgbipomdfceeaaDoor
open Go.RowKit Go.Shelf P
set_option linter.unusedVariables false
set_option linter.unusedSimpArgs false
set_option maxRecDepth 100000
attribute [local go_sem] Oper.semAt_some run_store_func run_store_nilFunc

set_option maxHeartbeats 4000000 in
theorem implRopeSlice_ok (A : Option Addr) (ls : List (List UInt8)) (c : Nat) (i j : Int) (w : World) (hn : ls.length ≤ 1048576) (hT : Tab w) (hC : Cs w A ls) (h0 : 0 ≤ i) (hij : i ≤ j) (hj : j ≤ 1048576)
    (hok : (chunksOk ls && [i, j].all (fun a => isBound (chunksText ls) a)) = true) :
    Calls Tryd.prog 28 #[.agg #[.slice A ls.length c], .int .i64 i, .int .i64 j] w fun e w' => ∃ v, e = .returned (.tuple #[v, .bool true]) ∧ Own w' w.heap.size v (gath ls i j (ks ls.length ls.length)) ∧ Below w.heap.size w w' := by
  have hb0 := ((Below.refl w.heap.size w).alloc (Nat.le_refl _) (.cells #[.slice A ls.length c] 26)).alloc (by simp) (.cells #[.int .i64 i, .int .i64 j] 3)
  have hC0 := hC.below hb0
  have hT0 := hT.below hb0
  have hO0 : ∀ k (h : k < ([i, j] : List Int).length), ((w.alloc (.cells #[.slice A ls.length c] 26)).alloc (.cells #[.int .i64 i, .int .i64 j] 3)).cell? ⟨w.heap.size + 1, k, none⟩ = some (.int .i64 ([i, j] : List Int)[k]) := by
    intro k h
    have hB := Blk.new (w.alloc (.cells #[.slice A ls.length c] 26)) #[.int .i64 i, .int .i64 j] 3
    simp only [World.size_alloc] at hB
    match k, h with
    | 0, _ => exact hB.cell 0
    | 1, _ => exact hB.cell 1
  have hcall : Hid (Calls Tryd.prog 57 #[.agg #[.slice A ls.length c], .slice (some ⟨w.heap.size + 1, 0, none⟩) 2 2] ((w.alloc (.cells #[.slice A ls.length c] 26)).alloc (.cells #[.int .i64 i, .int .i64 j] 3)) fun e w' => e = .returned (.bool true) ∧ Below ((w.alloc (.cells #[.slice A ls.length c] 26)).alloc (.cells #[.int .i64 i, .int .i64 j] 3)).heap.size ((w.alloc (.cells #[.slice A ls.length c] 26)).alloc (.cells #[.int .i64 i, .int .i64 j] 3)) w') := Lib.hid (by
    have := cutsOk_any A ls c (w.heap.size + 1) [i, j] 2 _ hn hT0 hC0 (by simp) hO0 (by simp)
    rw [hok] at this
    exact this)
  have hji : ¬ j < i := by omega
  have hji1 : decide (j < i) = false := decide_eq_false hji
  have hck : chunksOk ls = true := (Bool.and_eq_true _ _ ▸ hok).1
  have htot := chunksOk_tot hck
  have hl4 := chunksOk_len hck
  have hne : ∀ k (h : k < ls.length), 0 < (ls[k]).length ∧ (ls[k]).length ≤ 400 := fun k h => ⟨by have := (chunksOk_all hck).1 _ (List.getElem_mem h); exact ((chunkOk_iff _).1 this).1, Nat.le_trans (tot_mem k h) htot⟩
  clear hO0 hok
  refine (callsIn_wide (n := 6)).1 ?_
  refine callsIn_of_wp_marks Tryd.func28 rfl trivial ?_ rfl
  simp only [Tryd.ntmps28, List.size_toArray, List.length_cons, List.length_nil, Nat.reduceAdd, Nat.reduceSub, Array.replicate_succ, Array.replicate_zero, List.push_toArray, List.append_toArray, List.nil_append, List.cons_append]
  gi_wp2_with (refine ⟨trivial, ?_⟩; gi_at_call 57; refine (callsIn_wide.2 hcall.out).mono ?_; rintro e w2 ⟨rfl, hb2⟩)
  have bA2 := ((Blk.new w #[.slice A ls.length c] 26).alloc (.cells #[.int .i64 i, .int .i64 j] 3)).below hb2
  have kA4 : ∀ o, ((((w2.alloc (.cells #[.slice none 0 0] 22)).alloc (.cells #[.int .i64 i] 3)).alloc (.cells #[.int .i64 j] 3)).alloc o).cell? ⟨w.heap.size, 0, none⟩ = some (.slice A ls.length c) := fun o => ((((bA2.alloc _).alloc _).alloc _).alloc o).cell 0
  have hb3 := below_then hb0 hb2
  clear hb2 hcall hb0 hC0 hT0
  gi_wp2_with (refine ⟨trivial, ?_⟩; gi_at_call 58; refine (callsIn_wide.2 (cutOut_any i j _)).mono ?_; rintro e w3 ⟨rfl, rfl⟩)
  gi_wp2_with (refine ⟨trivial, ?_⟩; gi_at_call 59; refine (callsIn_wide.2 (chunkStarts_any A ls.length c _)).mono ?_; rintro e w4 ⟨rfl, rfl⟩)
  obtain ⟨xs, hV, hR, _⟩ := hC.vals
  obtain ⟨i0, hi, hz0, hz1, hz2⟩ := info_parts Tryd.infoB
  have bO := (((Boxed.new w2 22 (.slice none 0 0)).alloc (.cells #[.int .i64 i] 3)).alloc (.cells #[.int .i64 j] 3)).alloc (.cells #[(.func (.func 100) #[] #[.pointer (some ⟨w2.heap.size + 1, 0, none⟩), .pointer (some ⟨w2.heap.size + 1 + 1, 0, none⟩)])] 79) |>.alloc (.cells #[.slice A ls.length c] 26)
  have bI := ((Boxed.new (w2.alloc (.cells #[.slice none 0 0] 22)) 3 (.int .i64 i)).alloc (.cells #[.int .i64 j] 3)).alloc (.cells #[(.func (.func 100) #[] #[.pointer (some ⟨w2.heap.size + 1, 0, none⟩), .pointer (some ⟨w2.heap.size + 1 + 1, 0, none⟩)])] 79) |>.alloc (.cells #[.slice A ls.length c] 26)
  have bJ := (Boxed.new ((w2.alloc (.cells #[.slice none 0 0] 22)).alloc (.cells #[.int .i64 i] 3)) 3 (.int .i64 j)).alloc (.cells #[(.func (.func 100) #[] #[.pointer (some ⟨w2.heap.size + 1, 0, none⟩), .pointer (some ⟨w2.heap.size + 1 + 1, 0, none⟩)])] 79) |>.alloc (.cells #[.slice A ls.length c] 26)
  have bF := (Boxed.new (((w2.alloc (.cells #[.slice none 0 0] 22)).alloc (.cells #[.int .i64 i] 3)).alloc (.cells #[.int .i64 j] 3)) 79 (.func (.func 100) #[] #[.pointer (some ⟨w2.heap.size + 1, 0, none⟩), .pointer (some ⟨w2.heap.size + 1 + 1, 0, none⟩)])).alloc (.cells #[.slice A ls.length c] 26)
  have bR := Boxed.new ((((w2.alloc (.cells #[.slice none 0 0] 22)).alloc (.cells #[.int .i64 i] 3)).alloc (.cells #[.int .i64 j] 3)).alloc (.cells #[(.func (.func 100) #[] #[.pointer (some ⟨w2.heap.size + 1, 0, none⟩), .pointer (some ⟨w2.heap.size + 1 + 1, 0, none⟩)])] 79)) 26 (.slice A ls.length c)
  simp only [World.size_alloc] at bI bJ bF bR
  have hB0 : Below w.heap.size w (((((w2.alloc (.cells #[.slice none 0 0] 22)).alloc (.cells #[.int .i64 i] 3)).alloc (.cells #[.int .i64 j] 3)).alloc (.cells #[(.func (.func 100) #[] #[.pointer (some ⟨w2.heap.size + 1, 0, none⟩), .pointer (some ⟨w2.heap.size + 1 + 1, 0, none⟩)])] 79)).alloc (.cells #[.slice A ls.length c] 26)) :=
    ((((hb3.alloc hb3.size _).alloc (by have := hb3.size; simp; omega) _).alloc (by have := hb3.size; simp; omega) _).alloc (by have := hb3.size; simp; omega) _).alloc (by have := hb3.size; simp; omega) _
  have hsz : (((((w2.alloc (.cells #[.slice none 0 0] 22)).alloc (.cells #[.int .i64 i] 3)).alloc (.cells #[.int .i64 j] 3)).alloc (.cells #[(.func (.func 100) #[] #[.pointer (some ⟨w2.heap.size + 1, 0, none⟩), .pointer (some ⟨w2.heap.size + 1 + 1, 0, none⟩)])] 79)).alloc (.cells #[.slice A ls.length c] 26)).heap.size = w2.heap.size + 5 := by simp
  have hw2 := hb3.size
  obtain ⟨W0, hW0⟩ : ∃ W0, ((((w2.alloc (.cells #[.slice none 0 0] 22)).alloc (.cells #[.int .i64 i] 3)).alloc (.cells #[.int .i64 j] 3)).alloc (.cells #[(.func (.func 100) #[] #[.pointer (some ⟨w2.heap.size + 1, 0, none⟩), .pointer (some ⟨w2.heap.size + 1 + 1, 0, none⟩)])] 79)).alloc (.cells #[.slice A ls.length c] 26) = W0 := ⟨_, rfl⟩
  rw [hW0] at bO bI bJ bF bR hB0 hsz ⊢
  clear hW0 bA2 kA4 hb3
  refine wpIn_rangeFunc_ownH (F := Fence.wide) (n := 6) rfl (by omega) (gf := 102) (lb := #[.pointer (some ⟨w2.heap.size + 1 + 1 + 1 + 1, 0, none⟩)]) rfl trivial (enters_of Tryd.func102 (by kernel_rfl) rfl)
    (chunkStarts_stops Fence.wide (6 - 1) trivial rfl (by omega) (w2.heap.size + 1 + 1 + 1 + 1) w.heap.size w rfl A ls c xs hn (by omega) hV hR W0 hB0 (by omega) bR.cell) keepsCh_t (keepsCh_b (by omega)) (Below.refl _ _) (fun _ => rfl)
    (fun pre W => ((∃ v, Boxed W w2.heap.size 22 v ∧ W.ownsRow w.heap.size 5 1 v (gath ls i j pre).length ((gath ls i j pre).map bV) ∧ True) ∧ Boxed W (w2.heap.size + 1) 3 (.int .i64 i) ∧ Boxed W (w2.heap.size + 1 + 1) 3 (.int .i64 j) ∧ Boxed W (w2.heap.size + 1 + 1 + 1) 79 (.func (.func 100) #[] #[.pointer (some ⟨w2.heap.size + 1, 0, none⟩), .pointer (some ⟨w2.heap.size + 1 + 1, 0, none⟩)])) ∧ Below w.heap.size w W)
    (fun _ _ _ => False)
    (OwnFrom.and (OwnFrom.and (Go.Own.from (holdsRow_own w.heap.size w2.heap.size 22 5 1 (fun pre => (gath ls i j pre).length) (fun pre => (gath ls i j pre).map bV) (fun _ _ => True)) _) (OwnFrom.and (Go.Own.from (boxed_own _ _ _) _) (OwnFrom.and (Go.Own.from (boxed_own _ _ _) _) (Go.Own.from (boxed_own _ _ _) _)))) (ownFrom_below (Nat.le_refl _) (by omega)))
    (fun _ _ _ _ _ hs _ _ => hs)
    ⟨⟨⟨_, bO, World.ownsRow_nil _ _ _ _, trivial⟩, bI, bJ, bF⟩, hB0⟩
    (fun x a' W => ∃ Bx, w2.heap.size + 1 + 1 + 1 < Bx ∧ Boxed W Bx 75 (xs.getD x.1 undef) ∧ a' = { tmps := #[.agg #[.slice A ls.length c], .int .i64 i, .int .i64 j, .pointer (some ⟨w.heap.size, 0, none⟩), undef, undef, .slice none 0 0, .bool false, .pointer (some ⟨w2.heap.size, 0, none⟩), .pointer (some ⟨w2.heap.size + 1 + 1 + 1, 0, none⟩), .int .i64 (tot (ls.take x.1) : Nat), .pointer (some ⟨Bx, 0, none⟩), .int .i64 j, .int .i64 i, .bool false, .bool false, .agg #[.slice A ls.length c], .int .i64 i, .int .i64 j, .slice (some ⟨w.heap.size + 1, 0, none⟩) 2 2, .bool true, .bool false, .bool false, .int .i64 i, .int .i64 j, (.func (.func 100) #[] #[.pointer (some ⟨w2.heap.size + 1, 0, none⟩), .pointer (some ⟨w2.heap.size + 1 + 1, 0, none⟩)]), .agg #[.slice A ls.length c], .func (.func 102) #[] #[.pointer (some ⟨w2.heap.size + 1 + 1 + 1 + 1, 0, none⟩)], .int .i64 (tot (ls.take x.1) : Nat), .agg #[xs.getD x.1 undef], undef, undef, undef, undef, undef, undef, undef], defers := [] })
    (fun x a' _ X Y row hs hg hr => by obtain ⟨Bx, h1, h2, h3⟩ := hs; exact ⟨Bx, h1, boxed_own Bx 75 (fun (_ : Unit) => xs.getD x.1 undef) () X Y row h2 hg (fun r e => (hr r e).2), h3⟩)
    ?assign ?body ?done ?stop
  case assign =>
    rintro l pre x W K ⟨⟨⟨v, hv, hrow, _⟩, bI1, bJ1, bF1⟩, hB1⟩ hK
    obtain ⟨B, d, hxk, hd1, hd2, hBs⟩ := bRd_slice (hR.2 x.1 (by rw [hR.1]; exact x.2) x.2)
    have hxe : xs.getD x.1 undef = .slice B (ls[x.1]'x.2).length d := by rw [List.getD_eq_getElem?_getD, List.getElem?_eq_getElem (by rw [hR.1]; exact x.2)]; exact hxk
    dsimp only [chEnc]
    rw [hxe] at hK ⊢
    have hlt := hv.lt
    gi_wp2
    exact hK _ _ ((KeepsOthers.alloc _ _).from _) ⟨(Below.refl _ W).alloc hB1.size _, fun b u hb => hb.alloc _⟩ ⟨⟨⟨v, hv.alloc _, hrow.alloc _, trivial⟩, bI1.alloc _, bJ1.alloc _, bF1.alloc _⟩, hB1.alloc hB1.size _⟩ ⟨W.heap.size, bF1.lt, Boxed.new W _ _, rfl⟩
  case body =>
    rintro l pre x a' W hl ⟨r, hr⟩ ⟨⟨⟨v, hv, hrow, _⟩, bI1, bJ1, bF1⟩, hB1⟩ ⟨Bx, hBx, bX, rfl⟩ hlt
    obtain ⟨B, d, hxk, hd1, hd2, hBs⟩ := bRd_slice (hR.2 x.1 (by rw [hR.1]; exact x.2) x.2)
    have hxe : xs.getD x.1 undef = .slice B (ls[x.1]'x.2).length d := by rw [List.getD_eq_getElem?_getD, List.getElem?_eq_getElem (by rw [hR.1]; exact x.2)]; exact hxk
    rw [hxe] at bX ⊢
    have hsn := gath_snoc ls i j pre x
    have hgl := gath_len ls i j 400 (fun k h => (hne k h).2) pre
    have hxl := hne x.1 x.2
    have hst : tot (ls.take x.1) ≤ 400 := Nat.le_trans (tot_take_le ls x.1) htot
    have hcl := cutV_len (ls[x.1]'x.2) (i - (tot (ls.take x.1) : Nat)) (j - (tot (ls.take x.1) : Nat))
    obtain ⟨g, hg⟩ : ∃ g, gath ls i j pre = g := ⟨_, rfl⟩
    obtain ⟨L, hL⟩ : ∃ L, ls[x.1]'x.2 = L := ⟨_, rfl⟩
    obtain ⟨s, hs⟩ : ∃ s, tot (ls.take x.1) = s := ⟨_, rfl⟩
    rw [hL, hs] at hsn hcl
    rw [hg] at hsn hrow hgl
    rw [hL] at hxl bX hd1 hBs ⊢
    rw [hs] at hst ⊢
    obtain ⟨C, hC2⟩ : ∃ C, cutV L (i - (s : Nat)) (j - (s : Nat)) = C := ⟨_, rfl⟩
    rw [hC2] at hsn hcl
    have hpl : pre.length * 400 ≤ 160000 := by omega
    have hBW : Bs W B L := hBs.below hB1
    have HCUT : Hid (∀ V : World, (∀ a, V.cell? a = W.cell? a) → V.heap.size = W.heap.size → Bs V B L → Calls Tryd.prog 100 #[.int .i64 (s : Nat), .agg #[.slice B L.length d], .pointer (some ⟨w2.heap.size + 1, 0, none⟩), .pointer (some ⟨w2.heap.size + 1 + 1, 0, none⟩)] V fun e w' => (∃ ad c', e = .returned (.slice (some ad) C.length c') ∧ ∀ k u, (C.map bV)[k]? = some u → w'.cell? (ad.add k) = some u) ∧ Below V.heap.size V w') := Lib.hid (fun V hV hz hBV => by
      have := cutOut1_cells B L d (s : Nat) i j (w2.heap.size + 1) (w2.heap.size + 1 + 1) V hxl.1 hd1 hd2 ⟨by omega, by omega⟩ ⟨by omega, by omega⟩ ⟨by omega, by omega⟩ hij (by rw [hV]; exact bI1.cell) (by rw [hV]; exact bJ1.cell) (by rw [hz]; exact bI1.lt) (by rw [hz]; exact bJ1.lt) hBV
      rw [hC2] at this
      exact this)
    have HBW := Lib.hid hBW
    have HROW : Hid (Own W w.heap.size v g) := Lib.hid hrow
    have HV := Lib.hid hv
    have HSN := Lib.hid hsn
    have HI1 := Lib.hid bI1
    have HJ1 := Lib.hid bJ1
    have HF1 := Lib.hid bF1
    have hcv := hv.cell
    have hcf := bF1.cell
    have hcx := bX.cell
    have hnv : ∀ b u, Boxed W b 75 u → b ≠ w2.heap.size := fun b u hb e => by
      subst e
      have h := (show W.heap[_]? = _ from hb).symm.trans hv
      simp at h
    have HNV := Lib.hid hnv
    clear hxk hxe hsn hg hL hs hC2 hBs hBW hrow hv bI1 bJ1 bF1 hnv hr hne
    have HX1 := Lib.hid bX
    have hw2v : w.heap.size ≤ w2.heap.size := hw2
    gi_wp2_with fail
    refine wpIn_region_round (S := (fun V => V.cell? ⟨w2.heap.size + 1 + 1 + 1, 0, none⟩ = some (.func (.func 100) #[] #[.pointer (some ⟨w2.heap.size + 1, 0, none⟩), .pointer (some ⟨w2.heap.size + 1 + 1, 0, none⟩)]) ∧ V.cell? ⟨Bx, 0, none⟩ = some (.slice B L.length d))) (by kernel_rfl) (by kernel_rfl) ⟨hcf, hcx⟩ (fun hHeld => ?_)
    refine wpAnyH_take (i := 1) (oi := ?_) (v := ?_) ?_ ?_ ?_ ?_ ?_ ?_ (by exact hHeld) ?_
    rotate_left 2
    · (simp only [List.getElem?_toArray, List.getElem?_cons_zero, List.getElem?_cons_succ]; try rfl)
    · kernel_rfl
    · kernel_rfl
    · kernel_rfl
    · exact fun _ _ _ h => h
    · refine Or.inl ⟨by rfl, ?_⟩
      (intro w hSw; (try dsimp only at hSw); go_simp; try with_reducible rfl)
    (try simp only [Act.put, List.setIfInBounds_toArray, List.set_cons_zero, List.set_cons_succ])
    refine wpAnyH_take (i := 2) (oi := ?_) (v := ?_) ?_ ?_ ?_ ?_ ?_ ?_ (by exact hHeld) ?_
    rotate_left 2
    · (simp only [List.getElem?_toArray, List.getElem?_cons_zero, List.getElem?_cons_succ]; try rfl)
    · kernel_rfl
    · kernel_rfl
    · kernel_rfl
    · exact fun _ _ _ h => h
    · refine Or.inl ⟨by rfl, ?_⟩
      (intro w hSw; (try dsimp only at hSw); go_simp; try with_reducible rfl)
    (try simp only [Act.put, List.setIfInBounds_toArray, List.set_cons_zero, List.set_cons_succ])
    refine wpAnyH_take (i := 3) (oi := ?_) (v := ?_) ?_ ?_ ?_ ?_ ?_ ?_ (by exact hHeld) ?_
    rotate_left 2
    · (simp only [List.getElem?_toArray, List.getElem?_cons_zero, List.getElem?_cons_succ]; try rfl)
    · kernel_rfl
    · kernel_rfl
    · kernel_rfl
    · exact fun _ _ _ h => h
    · refine Or.inl ⟨by rfl, ?_⟩
      (intro w hSw; (try dsimp only at hSw); go_simp; try with_reducible rfl)
    (try simp only [Act.put, List.setIfInBounds_toArray, List.set_cons_zero, List.set_cons_succ])
    refine wpAnyH_ready (rs := [0, 4]) (by kernel_rfl) (by simp) ?_
    refine AllReadyH.cons (o := ?_) ?_ (fun K hK => ?_) ?_
    rotate_left 1
    · (simp only [List.getElem?_toArray, List.getElem?_cons_zero]; try rfl)
    · go_simp
      refine hK.out _ _ hHeld (fun hHeld => ?_)
      clear hK K
      (try simp only [Act.put, List.setIfInBounds_toArray, List.set_cons_zero, List.set_cons_succ])
      refine wpAnyH_ready (rs := [4]) (by kernel_rfl) (by simp) ?_
      refine AllReadyH.cons (o := ?_) ?_ (fun K hK => ?_) AllReadyH.nil
      rotate_left 1
      · (simp only [List.getElem?_toArray, List.getElem?_cons_zero, List.getElem?_cons_succ]; try rfl)
      go_simp
      refine (HCUT.out _ (by exact fun _ => rfl) (by exact rfl) (by exact HBW.out)).mono ?_
      rintro e w5 ⟨⟨ad, c5, rfl, hcells⟩, hb5⟩
      have hb5 : Below W.heap.size W w5 := ⟨hb5.os, hb5.tape, hb5.output, hb5.size, hb5.block⟩
      have HB5 := Lib.hid hb5
      have HCE := Lib.hid hcells
      have hv5 := boxed_belowAll HV.out hb5
      have hcv5 := hv5.cell
      have HV5 := Lib.hid hv5
      have f5 := boxed_belowAll HF1.out hb5
      have x5 := boxed_belowAll HX1.out hb5
      have qf5 := f5.cell
      have qx5 := x5.cell
      have HF5 := Lib.hid f5
      have HX5 := Lib.hid x5
      clear hb5 hcells hv5 f5 x5
      go_wp2_with fail
      refine hK.out _ _ ⟨qf5, qx5⟩ (fun hHeld => ?_)
      clear hK K
      (try simp only [Act.put, List.setIfInBounds_toArray, List.set_cons_zero, List.set_cons_succ])
      refine wpAnyH_ready (rs := [5]) (by kernel_rfl) (by simp) ?_
      refine AllReadyH.cons (o := ?_) ?_ (fun K hK => ?_) AllReadyH.nil
      rotate_left 1
      · (simp only [List.getElem?_toArray, List.getElem?_cons_zero, List.getElem?_cons_succ]; try rfl)
      refine step_app_cells rfl (.tmp 30) (.tmp 34) 22 rfl w.heap.size 5 i0 (.int .u8 0) 1 1 Tryd.underlying22 hi hz0 hz1 hz2 rfl (by decide) v g.length (g.map bV) rfl (by exact HROW.out.below HB5.out) ad C.length c5 (C.map bV) rfl (by simp) (by exact HCE.out) (by simp [bV, Value.oneCell']) (by unfold maxLen; omega) (by omega) (by have h1 := HB5.out.size; have h2 := hB1.size; omega) ?_
      intro v6 w6 hown6 hgrow
      have hr5 : w5.ownsRow w.heap.size 5 1 v g.length (g.map bV) := HROW.out.below HB5.out
      have hap := appended_into HV5.out (by decide) hr5 (by have h1 := HB5.out.size; have h2 := hB1.size; omega) hw2v hown6 hgrow
      have f6 := HF5.out.kept hgrow (HF5.out.not_row (by decide) hr5)
      have x6 := HX5.out.kept hgrow (HX5.out.not_row (by decide) hr5)
      have qf6 := f6.cell
      have qx6 := x6.cell
      have hcv6 := hap.1.cell
      have hfz6 := hap.1.frozen
      have hown6' : Own w6 w.heap.size v6 (g ++ C) := by
        unfold _root_.Go.Proofs.YtfgbipomdfceeaaDoor.Own
        rw [List.length_append, List.map_append]
        exact hown6
      obtain ⟨A6, c6, e6, _, _, _⟩ := hown6'.form
      rw [List.length_append] at e6
      subst e6
      have HAP := Lib.hid hap
      have HR5 := Lib.hid hr5
      have HGR := Lib.hid hgrow
      clear hr5 hap f6 x6 hown6 hown6' hgrow
      refine hK.out _ _ ⟨qf6, qx6⟩ (fun hHeld => ?_)
      clear hK K
      (try simp only [Act.put, List.setIfInBounds_toArray, List.set_cons_zero, List.set_cons_succ])
      refine wpAnyH_ready (rs := [6]) (by kernel_rfl) (by simp) ?_
      refine AllReadyH.cons (o := ?_) ?_ (fun K hK => ?_) AllReadyH.nil
      rotate_left 1
      · (simp only [List.getElem?_toArray, List.getElem?_cons_zero, List.getElem?_cons_succ]; try rfl)
      go_simp
      refine hK.out _ _ ⟨(HAP.out.2.2.2.2.2 _ _ _ (by decide) (by omega) HF5.out).cell, (HAP.out.2.2.2.2.2 _ _ _ (by decide) (by omega) HX5.out).cell⟩ (fun hHeld => ?_)
      clear hK K
      (try simp only [Act.put, List.setIfInBounds_toArray, List.set_cons_zero, List.set_cons_succ])
      refine wpAnyH_done (by kernel_rfl) ?_ _
      refine ⟨by simp, ?_⟩
      clear hcv hcf hcx
      refine ⟨(keepsFrom_below _ HB5.out).trans (HAP.out.2.2.2.1.from _), ⟨(HB5.out.mono hB1.size).trans HAP.out.2.2.2.2.1, fun b u hb => HAP.out.2.2.2.2.2 b 75 u (by decide) (HNV.out b u hb) (boxed_belowAll hb HB5.out)⟩, ⟨⟨_, HAP.out.2.1, by rw [HSN.out, List.length_append, List.map_append]; exact HAP.out.2.2.1, trivial⟩, HAP.out.2.2.2.2.2 _ _ _ (by decide) (by omega) (boxed_belowAll HI1.out HB5.out), HAP.out.2.2.2.2.2 _ _ _ (by decide) (by omega) (boxed_belowAll HJ1.out HB5.out), HAP.out.2.2.2.2.2 _ _ _ (by decide) (by omega) HF5.out⟩, hB1.trans ((HB5.out.mono hB1.size).trans HAP.out.2.2.2.2.1)⟩
    refine AllReadyH.cons (o := ?_) ?_ (fun K hK => ?_) AllReadyH.nil
    rotate_left 1
    · (simp only [List.getElem?_toArray, List.getElem?_cons_zero, List.getElem?_cons_succ]; try rfl)
    go_simp
    refine (HCUT.out _ (by exact fun _ => rfl) (by exact rfl) (by exact HBW.out)).mono ?_
    rintro e w5 ⟨⟨ad, c5, rfl, hcells⟩, hb5⟩
    have hb5 : Below W.heap.size W w5 := ⟨hb5.os, hb5.tape, hb5.output, hb5.size, hb5.block⟩
    have HB5 := Lib.hid hb5
    have HCE := Lib.hid hcells
    have hv5 := boxed_belowAll HV.out hb5
    have hcv5 := hv5.cell
    have HV5 := Lib.hid hv5
    have f5 := boxed_belowAll HF1.out hb5
    have x5 := boxed_belowAll HX1.out hb5
    have qf5 := f5.cell
    have qx5 := x5.cell
    have HF5 := Lib.hid f5
    have HX5 := Lib.hid x5
    clear hb5 hcells hv5 f5 x5
    go_wp2_with fail
    refine hK.out _ _ ⟨qf5, qx5⟩ (fun hHeld => ?_)
    clear hK K
    (try simp only [Act.put, List.setIfInBounds_toArray, List.set_cons_zero, List.set_cons_succ])
    refine wpAnyH_ready (rs := [0]) (by kernel_rfl) (by simp) ?_
    refine AllReadyH.cons (o := ?_) ?_ (fun K hK => ?_) AllReadyH.nil
    rotate_left 1
    · (simp only [List.getElem?_toArray, List.getElem?_cons_zero]; try rfl)
    go_simp
    refine hK.out _ _ hHeld (fun hHeld => ?_)
    clear hK K
    (try simp only [Act.put, List.setIfInBounds_toArray, List.set_cons_zero, List.set_cons_succ])
    refine wpAnyH_ready (rs := [5]) (by kernel_rfl) (by simp) ?_
    refine AllReadyH.cons (o := ?_) ?_ (fun K hK => ?_) AllReadyH.nil
    rotate_left 1
    · (simp only [List.getElem?_toArray, List.getElem?_cons_zero, List.getElem?_cons_succ]; try rfl)
    refine step_app_cells rfl (.tmp 30) (.tmp 34) 22 rfl w.heap.size 5 i0 (.int .u8 0) 1 1 Tryd.underlying22 hi hz0 hz1 hz2 rfl (by decide) v g.length (g.map bV) rfl (by exact HROW.out.below HB5.out) ad C.length c5 (C.map bV) rfl (by simp) (by exact HCE.out) (by simp [bV, Value.oneCell']) (by unfold maxLen; omega) (by omega) (by have h1 := HB5.out.size; have h2 := hB1.size; omega) ?_
    intro v6 w6 hown6 hgrow
    have hr5 : w5.ownsRow w.heap.size 5 1 v g.length (g.map bV) := HROW.out.below HB5.out
    have hap := appended_into HV5.out (by decide) hr5 (by have h1 := HB5.out.size; have h2 := hB1.size; omega) hw2v hown6 hgrow
    have f6 := HF5.out.kept hgrow (HF5.out.not_row (by decide) hr5)
    have x6 := HX5.out.kept hgrow (HX5.out.not_row (by decide) hr5)
    have qf6 := f6.cell
    have qx6 := x6.cell
    have hcv6 := hap.1.cell
    have hfz6 := hap.1.frozen
    have hown6' : Own w6 w.heap.size v6 (g ++ C) := by
      unfold _root_.Go.Proofs.YtfgbipomdfceeaaDoor.Own
      rw [List.length_append, List.map_append]
      exact hown6
    obtain ⟨A6, c6, e6, _, _, _⟩ := hown6'.form
    rw [List.length_append] at e6
    subst e6
    have HAP := Lib.hid hap
    have HR5 := Lib.hid hr5
    have HGR := Lib.hid hgrow
    clear hr5 hap f6 x6 hown6 hown6' hgrow
    refine hK.out _ _ ⟨qf6, qx6⟩ (fun hHeld => ?_)
    clear hK K
    (try simp only [Act.put, List.setIfInBounds_toArray, List.set_cons_zero, List.set_cons_succ])
    refine wpAnyH_ready (rs := [6]) (by kernel_rfl) (by simp) ?_
    refine AllReadyH.cons (o := ?_) ?_ (fun K hK => ?_) AllReadyH.nil
    rotate_left 1
    · (simp only [List.getElem?_toArray, List.getElem?_cons_zero, List.getElem?_cons_succ]; try rfl)
    go_simp
    refine hK.out _ _ ⟨(HAP.out.2.2.2.2.2 _ _ _ (by decide) (by omega) HF5.out).cell, (HAP.out.2.2.2.2.2 _ _ _ (by decide) (by omega) HX5.out).cell⟩ (fun hHeld => ?_)
    clear hK K
    (try simp only [Act.put, List.setIfInBounds_toArray, List.set_cons_zero, List.set_cons_succ])
    refine wpAnyH_done (by kernel_rfl) ?_ _
    refine ⟨by simp, ?_⟩
    clear hcv hcf hcx
    refine ⟨(keepsFrom_below _ HB5.out).trans (HAP.out.2.2.2.1.from _), ⟨(HB5.out.mono hB1.size).trans HAP.out.2.2.2.2.1, fun b u hb => HAP.out.2.2.2.2.2 b 75 u (by decide) (HNV.out b u hb) (boxed_belowAll hb HB5.out)⟩, ⟨⟨_, HAP.out.2.1, by rw [HSN.out, List.length_append, List.map_append]; exact HAP.out.2.2.1, trivial⟩, HAP.out.2.2.2.2.2 _ _ _ (by decide) (by omega) (boxed_belowAll HI1.out HB5.out), HAP.out.2.2.2.2.2 _ _ _ (by decide) (by omega) (boxed_belowAll HJ1.out HB5.out), HAP.out.2.2.2.2.2 _ _ _ (by decide) (by omega) HF5.out⟩, hB1.trans ((HB5.out.mono hB1.size).trans HAP.out.2.2.2.2.1)⟩
  case done =>
    rintro D ys W hD rfl ⟨⟨⟨v, hv, hrow, _⟩, _, _, _⟩, hB⟩ hK
    have hcv := hv.cell
    gi_wp2
    refine ⟨by simp, .inl ⟨_, _, rfl, run_takeDeferred hK, ?_⟩⟩
    refine ⟨.tuple #[v, .bool true], by simp [results, Tryd.results28, go_sem], v, rfl, ownsRow_putObj hrow _ hK rfl, hB.trans (belowK_b (w := w) (Nat.le_refl _) W D _ _ (by omega) hK rfl rfl)⟩
  case stop =>
    rintro D c pre W _ _ h _
    exact h.elim
end Go.Proofs.YtfgbipomdfceeaaDoor

namespace Go.Proofs.YtfgbipomdfceeaaDoor
open Go.RowKit Go.Shelf P
set_option linter.unusedVariables false
set_option linter.unusedSimpArgs false
set_option maxRecDepth 100000

/-- May the bytes i..j - 1 be taken? -/
def sliceOk (ls : List (List UInt8)) (i j : Int) : Bool := decide (i ≤ j) && (chunksOk ls && [i, j].all (fun a => isBound (chunksText ls) a))
/-- The bytes i..j - 1, where they may be taken. -/
def sliceV (ls : List (List UInt8)) (i j : Int) : List UInt8 := if sliceOk ls i j then (ls.flatten.drop i.toNat).take (j - i).toNat else []

theorem sliceOk_iff (ls : List (List UInt8)) (i j : Int) : sliceOk ls i j = true ↔ i ≤ j ∧ rCut ls i = true ∧ rCut ls j = true := by
  unfold sliceOk rCut
  simp only [Bool.and_eq_true, decide_eq_true_eq, List.all_cons, List.all_nil, and_true]
  constructor
  · rintro ⟨h1, h2, h3, h4⟩; exact ⟨h1, ⟨h2, h3⟩, h2, h4⟩
  · rintro ⟨h1, ⟨h2, h3⟩, _, h4⟩; exact ⟨h1, h2, h3, h4⟩

theorem isBound_range {l : List UInt8} {a : Int} (h : isBound l a = true) : 0 ≤ a ∧ a ≤ l.length := by
  by_cases h1 : a < 0 ∨ (l.length : Int) < a
  · rw [isBound_out l a h1] at h; cases h
  · omega

theorem rCut_range {ls : List (List UInt8)} {a : Int} (h : rCut ls a = true) : chunksOk ls = true ∧ 0 ≤ a ∧ a ≤ ls.flatten.length := by
  unfold rCut at h
  rw [Bool.and_eq_true] at h
  have := isBound_range h.2
  rw [chunksText_ok h.1] at this
  exact ⟨h.1, this⟩

theorem sliceV_len (ls : List (List UInt8)) (i j : Int) : (sliceV ls i j).length ≤ 400 := by
  unfold sliceV
  split
  · rename_i h
    have h1 := ((sliceOk_iff ls i j).1 h).2.1
    have h2 := chunksOk_tot (rCut_range h1).1
    unfold tot at h2
    rw [List.length_take, List.length_drop]
    omega
  · simp

/-- What a call ends in that makes bytes of its own and says whether there are any. -/
def MakesB (w : World) (l : List UInt8) (b : Bool) (e : Ending) (w' : World) : Prop := ∃ v, e = .returned (.tuple #[v, .bool b]) ∧ Own w' w.heap.size v l ∧ Below w.heap.size w w'

set_option maxHeartbeats 1000000 in
theorem implRopeSlice_any (A : Option Addr) (ls : List (List UInt8)) (c : Nat) (i j : Int) (w : World) (hn : ls.length ≤ 1048576) (hT : Tab w) (hC : Cs w A ls) :
    Calls Tryd.prog 28 #[.agg #[.slice A ls.length c], .int .i64 i, .int .i64 j] w (MakesB w (sliceV ls i j) (sliceOk ls i j)) := by
  by_cases hok : sliceOk ls i j = true
  · have h := (sliceOk_iff ls i j).1 hok
    have hi := rCut_range h.2.1
    have hj := rCut_range h.2.2
    have htot := chunksOk_tot hi.1
    unfold tot at htot
    have hok' := hok
    unfold sliceOk at hok'
    rw [Bool.and_eq_true] at hok'
    refine (implRopeSlice_ok A ls c i j w hn hT hC hi.2.1 h.1 (by omega) hok'.2).mono ?_
    rintro e w' ⟨v, rfl, hown, hb⟩
    refine ⟨v, by rw [hok], ?_, hb⟩
    have e1 : sliceV ls i j = gath ls i j (ks ls.length ls.length) := by
      unfold sliceV
      rw [if_pos hok]
      have h1 := gath_whole ls i.toNat j.toNat (by omega) (by omega)
      rw [show ((i.toNat : Nat) : Int) = i by omega, show ((j.toNat : Nat) : Int) = j by omega] at h1
      rw [h1, show j.toNat - i.toNat = (j - i).toNat by omega]
    rw [e1]
    exact hown
  · have hok0 : sliceOk ls i j = false := by simpa using hok
    have hv : sliceV ls i j = [] := by unfold sliceV; rw [if_neg hok]
    rw [hv, hok0]
    by_cases hji : j < i
    · clear hok hv hok0
      have hal := (Below.refl w.heap.size w).alloc (Nat.le_refl _) (.cells #[.slice A ls.length c] 26)
      go_enter Tryd.func28, Tryd.ntmps28
      go_wp2
      go_ret2
      exact ⟨_, rfl, Own.nil _ _, hal⟩
    · have hb0 := ((Below.refl w.heap.size w).alloc (Nat.le_refl _) (.cells #[.slice A ls.length c] 26)).alloc (by simp) (.cells #[.int .i64 i, .int .i64 j] 3)
      have hC0 := hC.below hb0
      have hT0 := hT.below hb0
      have hO0 : ∀ k (h : k < ([i, j] : List Int).length), ((w.alloc (.cells #[.slice A ls.length c] 26)).alloc (.cells #[.int .i64 i, .int .i64 j] 3)).cell? ⟨w.heap.size + 1, k, none⟩ = some (.int .i64 ([i, j] : List Int)[k]) := by
        intro k h
        have hB := Blk.new (w.alloc (.cells #[.slice A ls.length c] 26)) #[.int .i64 i, .int .i64 j] 3
        simp only [World.size_alloc] at hB
        match k, h with
        | 0, _ => exact hB.cell 0
        | 1, _ => exact hB.cell 1
      have hf : (chunksOk ls && [i, j].all (fun a => isBound (chunksText ls) a)) = false := by
        unfold sliceOk at hok0
        rw [decide_eq_true (show i ≤ j by omega), Bool.true_and] at hok0
        exact hok0
      have hcall : Hid (Calls Tryd.prog 57 #[.agg #[.slice A ls.length c], .slice (some ⟨w.heap.size + 1, 0, none⟩) 2 2] ((w.alloc (.cells #[.slice A ls.length c] 26)).alloc (.cells #[.int .i64 i, .int .i64 j] 3)) fun e w' => e = .returned (.bool false) ∧ Below ((w.alloc (.cells #[.slice A ls.length c] 26)).alloc (.cells #[.int .i64 i, .int .i64 j] 3)).heap.size ((w.alloc (.cells #[.slice A ls.length c] 26)).alloc (.cells #[.int .i64 i, .int .i64 j] 3)) w') := Lib.hid (by
        have := cutsOk_any A ls c (w.heap.size + 1) [i, j] 2 _ hn hT0 hC0 (by simp) hO0 (by simp)
        rw [hf] at this
        exact this)
      clear hok hv hok0 hf hO0 hC0 hT0
      go_enter Tryd.func28, Tryd.ntmps28
      go_wp2_with fail
      refine hcall.out.mono ?_
      rintro e w2 ⟨rfl, hb2⟩
      have hb2 := below_then hb0 hb2
      go_wp2
      go_ret2
      exact ⟨_, rfl, Own.nil _ _, hb2⟩

set_option maxHeartbeats 2000000 in
theorem specRopeSlice_any (A : Option Addr) (ls : List (List UInt8)) (c : Nat) (i j : Int) (w : World) (hn : ls.length ≤ 9223372036854775807) (hC : Cs w A ls) :
    Calls Tryd.prog 42 #[.agg #[.slice A ls.length c], .int .i64 i, .int .i64 j] w (MakesB w (sliceV ls i j) (sliceOk ls i j)) := by
  have hb0 := (Below.refl w.heap.size w).alloc (Nat.le_refl _) (.cells #[.slice A ls.length c] 26)
  have bA0 := Blk.new w #[.slice A ls.length c] 26
  have hC0 := hC.below hb0
  obtain ⟨p, hp⟩ : ∃ p, rCut ls i = p := ⟨_, rfl⟩
  obtain ⟨q, hq⟩ : ∃ q, rCut ls j = q := ⟨_, rfl⟩
  have HP := Lib.hid hp
  have HQ := Lib.hid hq
  have hno : ¬ (i ≤ j ∧ p = true ∧ q = true) → sliceV ls i j = [] ∧ sliceOk ls i j = false := fun h => by
    have h1 : ¬ sliceOk ls i j = true := fun e => h (by have := (sliceOk_iff ls i j).1 e; rw [hp, hq] at this; exact this)
    exact ⟨by unfold sliceV; rw [if_neg h1], by simpa using h1⟩
  obtain ⟨R, hR⟩ : ∃ R, sliceV ls i j = R := ⟨_, rfl⟩
  obtain ⟨z, hz⟩ : ∃ z, sliceOk ls i j = z := ⟨_, rfl⟩
  have HR := Lib.hid hR
  have HZ := Lib.hid hz
  rw [hR, hz]
  rw [hR, hz] at hno
  have HNO := Lib.hid hno
  clear hno hR hz
  go_enter Tryd.func42, Tryd.ntmps42
  go_wp2_with fail
  refine (l04Cut_any A ls c i _ hn (by exact hC0)).mono ?_
  rintro e w1 ⟨rfl, hb1⟩
  rw [HP.out]
  have bA1 := bA0.below hb1
  have hb1 := below_then hb0 hb1
  have hC1 := hC.below hb1
  have kA1 : w1.cell? ⟨w.heap.size, 0, none⟩ = some (.slice A ls.length c) := bA1.cell 0
  clear bA0 hb0 hC0
  cases p
  · obtain ⟨rfl, rfl⟩ := HNO.out (by simp)
    clear HR HZ HP HQ HNO hp hq
    go_wp2
    go_ret2
    exact ⟨_, rfl, Own.nil _ _, hb1⟩
  · go_wp2_with fail
    refine (l04Cut_any A ls c j _ hn (by exact hC1)).mono ?_
    rintro e w2 ⟨rfl, hb2⟩
    rw [HQ.out]
    have bA2 := bA1.below hb2
    have hb2 := below_then hb1 hb2
    have hC2 := hC.below hb2
    have kA2 : w2.cell? ⟨w.heap.size, 0, none⟩ = some (.slice A ls.length c) := bA2.cell 0
    clear bA1 hb1 hC1 kA1
    cases q
    · obtain ⟨rfl, rfl⟩ := HNO.out (by simp)
      clear HR HZ HP HQ HNO hp hq
      go_wp2
      go_ret2
      exact ⟨_, rfl, Own.nil _ _, hb2⟩
    · by_cases hji : j < i
      · obtain ⟨rfl, rfl⟩ := HNO.out (by omega)
        clear HR HZ HP HQ HNO hp hq
        go_wp2
        go_ret2
        exact ⟨_, rfl, Own.nil _ _, hb2⟩
      · have hok := (sliceOk_iff ls i j).2 ⟨by omega, hp, hq⟩
        have hi := rCut_range hp
        have hj := rCut_range hq
        have htx := chunksText_ok hi.1
        have hsv : sliceV ls i j = (ls.flatten.drop i.toNat).take (j - i).toNat := by unfold sliceV; rw [if_pos hok]
        have hRC : R = (ls.flatten.drop i.toNat).take (j - i).toNat := HR.out.symm.trans hsv
        obtain rfl : z = true := HZ.out.symm.trans hok
        clear HR HZ
        obtain ⟨a, rfl⟩ := Int.eq_ofNat_of_zero_le hi.2.1
        obtain ⟨m, hm⟩ : ∃ m : Nat, j = (a : Int) + (m : Int) := ⟨(j - a).toNat, by omega⟩
        subst hm
        have htot := chunksOk_tot hi.1
        unfold tot at htot
        obtain ⟨T', hT'⟩ : ∃ T', ls.flatten = T' := ⟨_, rfl⟩
        rw [hT'] at htx hi hj htot
        have hbuild : ∀ W : World, W.alloc (.cells #[] 5) = W.alloc (.cells #[] 5) := fun _ => rfl
        have hown0 : Own (w2.alloc (.cells #[] 5)) w2.heap.size (.slice (some ⟨w2.heap.size, 0, none⟩) 0 0) [] := World.ownsRow_made w2 #[] 0 (Nat.le_refl _) (by unfold maxLen; omega) rfl
        have hal := (Below.refl w2.heap.size w2).alloc (Nat.le_refl _) (.cells #[] 5)
        have hC3 := hC2.below hal
        have bA3 := bA2.alloc (.cells #[] 5)
        have kA3 : (w2.alloc (.cells #[] 5)).cell? ⟨w.heap.size, 0, none⟩ = some (.slice A ls.length c) := bA3.cell 0
        have HTX := Lib.hid htx
        have hm1 : a + m ≤ T'.length := by omega
        have hml : ((T'.drop a).take m).length = m := by rw [List.length_take, List.length_drop]; omega
        have HML := Lib.hid hml
        have hji' : ¬ ((a : Int) + (m : Int) < (a : Int)) := by omega
        rw [hT', show ((a : Int)).toNat = a by omega, show ((a : Int) + (m : Int) - (a : Int)).toNat = m by omega] at hRC
        have HRC := Lib.hid hRC
        have hs2 := hb2.size
        have HO0 := Lib.hid hown0
        clear hRC hok hsv hp hq HP HQ HNO htx hbuild hT' hi hj hml hown0 hC2 hji
        go_wp2_with fail
        refine (specRopeText_any A ls c _ hn (by exact hC3)).mono ?_
        rintro e w4 ⟨v4, rfl, hown4, hb4⟩
        rw [HTX.out] at hown4
        obtain ⟨B, d, rfl, hld, hd9, hB, hn1, hn2⟩ := hown4.form2
        obtain ⟨B', hsl, hB'⟩ := slice_mid B T'.length d a m w4 T' hn1 hn2 rfl hm1 hld hd9 hB
        have hown5 := HO0.out.below hb4
        have hb5 := hal.trans (hb4.mono (by simp))
        have hs5 := hb5.size
        have hml := HML.out
        rw [← HRC.out] at hB' hml
        have HOW5 := Lib.hid hown5
        clear hB hown4 hown5 hb4 HML HO0 HRC
        go_wp2_with (at_builtin; go_must (refine wpList_app_bytes rfl _ _ rfl w2.heap.size _ [] R B' m (d - a) rfl rfl hml.symm HOW5.out hB' ?c1 ?c2 ?_))
        case c1 => simp; omega
        case c2 => exact hs5
        intro v6 w6 hown6 hgr6 _
        have hown6 := hown6.mono (base' := w.heap.size) hs2
        have hb6 := hb2.trans ((hb5.grown hgr6 hs5 (fun x hx => (World.ownsRow.lt HOW5.out x hx).1)).mono hs2)
        go_wp2
        go_ret2
        exact ⟨_, rfl, hown6, hb6⟩
end Go.Proofs.YtfgbipomdfceeaaDoor
