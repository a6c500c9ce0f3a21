/-
  Chapter 4, the program's chunkStarts: the iterator's contract (every chunk in its order, with the offset of its first byte). Own work.
  Chapter 4, the program's cutOut: what the function that it returns gives: contract. Own work.
  Chapter 4, toward the program's RopeSlice: what an append into a variable keeps; what the loop gathers. Own work.
  Chapter 4: a drawn region inside a round of a range over a function, by the laws of a region outside of one; an append there; what the loop has gathered in the end. Own work.
  Chapter 4, the program's RopeSlice at a valid cut: contract. Own work.
  Chapter 4, RopeSlice of the program and of the model: contracts. Own work.
-/
import Derived.RangeFuncNested
import Derived.RangeFuncBound
import Derived.RangeFuncCalls
import Derived.RangeFuncLeaves
import Derived.Shelf.Abstract
import Derived.WalkKit
import Derived.OwnWalkIn
import Derived.TacticsInMore
import Derived.LoopNIn
import Derived.LoopIn
import Derived.Test.YthnahenpnafkmaaDoorI05b
import Derived.Test.YthnahenpnafkmaaDoorR04
import Derived.Deep.RegionHeld3
import Derived.Deep.RegionWith
import Derived.RangeFuncBox
import Derived.Maps.AppendAt
import Derived.Stop.RegionWithIn
import Derived.OrdersHeld
import Derived.Deep.RegionHeld
namespace Go.Proofs.YthnahenpnafkmaaDoor
open Go.RowKit Go.Shelf P
set_option linter.unusedVariables false
set_option linter.unusedSimpArgs false

attribute [local go_sem] Oper.semAt_some

/-- What a round over the chunks keeps: all that lay below n₀, and every lone variable that holds a chunk. -/
def KeepsCh (n₀ : Nat) (W W' : World) : Prop := Below n₀ W W' ∧ ∀ b v, Boxed W b 46 v → Boxed W' b 46 v
theorem keepsCh_t {n₀ : Nat} {A B C : World} (h : KeepsCh n₀ A B) (k : KeepsCh n₀ B C) : KeepsCh n₀ A C := ⟨h.1.trans k.1, fun b v hb => k.2 b v (h.2 b v hb)⟩
theorem keepsCh_b {n₀ : Nat} {w : World} (hn : n₀ ≤ w.heap.size) (W : World) (l : Nat) (o o' : Obj) (hl : w.heap.size ≤ l) (h : W.heap[l]? = some o) (ho : o.isCells = false) (hw : o.isWalk = false) : KeepsCh n₀ W (W.putObj l o') := by
  refine ⟨belowK_b hn W l o o' hl h ho hw, fun b v hb => ?_⟩
  by_cases e : l = b
  · subst e
    have hb' : W.heap[l]? = some (.cells #[v] 46 (0, 0)) := hb
    rw [hb'] at h; cases h; simp [Obj.isCells] at ho
  · exact (World.putObj_heap_other (by omega)).trans hb

/-- The first k places of n. -/
def ks (n k : Nat) : List { j : Nat // j < n } := (List.range k).filterMap fun j => if h : j < n then some ⟨j, h⟩ else none
theorem ks_succ {n k : Nat} (h : k < n) : ks n (k + 1) = ks n k ++ [⟨k, h⟩] := by
  simp [ks, List.range_succ, List.filterMap_append, h]
theorem ks_length (n k : Nat) : (ks n k).length ≤ k := by
  have := List.length_filterMap_le (fun j => if h : j < n then some (⟨j, h⟩ : { j : Nat // j < n }) else none) (List.range k)
  simpa [ks] using this

/-- What a round is handed: the offset of the chunk's first byte, and the chunk. -/
def chEnc (xs : List Value) (ls : List (List UInt8)) (x : { j : Nat // j < ls.length }) : Array Value := #[.int .i64 (tot (ls.take x.1) : Nat), .agg #[xs.getD x.1 undef]]

set_option maxRecDepth 100000 in
set_option maxHeartbeats 2000000 in
theorem chunkStarts1_in (F : Fence) (n : Nat) (hF : F.fn 65) (hro : F.round = none) (hn : 1 ≤ n) (l Br : Nat) (w0 : World) (A : Option Addr) (ls : List (List UInt8)) (c : Nat) (xs : List Value) (hlen : ls.length ≤ 1048576) (htot : tot ls ≤ 1099511627776)
    (hV : Vs w0 A xs) (hR : RdAll w0 xs ls) (W : World) (J Jx : List { j : Nat // j < ls.length } → World → Prop) (hW : Below w0.heap.size w0 W) (hJ : AbidesFrom W.heap.size J)
    (hY : ∀ pre x W1, J pre W1 → pre.length < ls.length → YieldAt F (n - 1) Tryd.prog l (chEnc xs ls x) W1 fun e W' =>
      (e = .returned (.bool true) ∧ J (pre ++ [x]) W' ∧ KeepsCh w0.heap.size W1 W') ∨ (e = .returned (.bool false) ∧ Jx (pre ++ [x]) W'))
    (hBr : W.cell? ⟨Br, 0, none⟩ = some (.slice A ls.length c)) (h0 : J [] W) :
    CallsIn F n Tryd.prog 65 #[.func (.yield l) #[] #[], .pointer (some ⟨Br, 0, none⟩)] W fun e W' => (∃ v, e = .returned v) ∧
      ((∃ ys, ys = ks ls.length ls.length ∧ J ys W') ∨ (∃ pre, True ∧ Jx pre W')) := by
  refine callsIn_of_wp Tryd.func65 rfl hF ?_ hro
  simp only [Tryd.ntmps65, List.size_toArray, List.length_cons, List.length_nil, Nat.reduceAdd, Nat.reduceSub, Array.replicate_succ, Array.replicate_zero, List.push_toArray, List.append_toArray, List.nil_append, List.cons_append]
  gi_wp2
  gi_loopw [3, 9] (fun s i wr => ∃ k : Nat, k ≤ ls.length ∧ i = .int .i64 k ∧ s = .int .i64 (tot (ls.take k) : Nat) ∧ J (ks ls.length k) wr ∧ Below w0.heap.size w0 wr)
    (fun _ i _ => ls.length - (intOf i).toNat)
  case atStart => exact ⟨0, Nat.zero_le _, rfl, by simp [tot], h0, hW⟩
  case round =>
    obtain ⟨k, hk, rfl, rfl, hJs, hnx⟩ := hrel
    by_cases hlt : k < ls.length
    · have hkx : k < xs.length := by rw [hR.1]; exact hlt
      obtain ⟨b, off, rfl, hb, hc⟩ := hV k hkx
      obtain ⟨B, d, hxk, hd1, hd2, hB⟩ := bRd_slice (hR.2 k hkx hlt)
      have hcx : wr.cell? ⟨b, off + k, none⟩ = some (.slice B (ls[k]).length d) := ((hnx.cell (p := ⟨b, off + k, none⟩) hb).trans hc).trans (by rw [hxk])
      have ht1 := tot_take ls k hlt
      have ht2 : tot (ls.take (k + 1)) ≤ tot ls := by
        have h := congrArg (fun x => x.flatten.length) (List.take_append_drop (k + 1) ls)
        rw [List.flatten_append] at h
        unfold tot
        simp only [List.length_append] at h
        omega
      have hJa : J (ks ls.length k) (wr.alloc (.cells #[.slice B (ls[k]).length d] 46)) := hJ _ _ _ none hJs (World.grownBy_alloc _ _ _) (fun r e => by cases e)
      obtain ⟨fn, tmps, assign, body, hy, hRd⟩ := hY _ ⟨k, hlt⟩ _ hJa (Nat.lt_of_le_of_lt (ks_length _ _) hlt)
      have hxe : xs.getD k undef = .slice B (ls[k]).length d := by rw [List.getD_eq_getElem?_getD, List.getElem?_eq_getElem hkx]; exact hxk
      dsimp only [chEnc] at hy
      rw [hxe] at hy
      have hk0 : (k : Int) < (ls.length : Int) := by omega
      generalize hL : (ls[k]).length = L at *
      gi_wp2
      refine hRd.mono ?_
      rintro e W3 (⟨rfl, hJ3, hk3⟩ | ⟨rfl, hJx3⟩)
      · have hbx : Boxed W3 wr.heap.size 46 (.slice B L d) := hk3.2 _ _ (Boxed.new wr 46 _)
        have hq3 := hbx.cell
        gi_wp2
        go_roundw
        case rel => exact ⟨k + 1, by omega, by go_num, by rw [ht1]; go_num, by rw [ks_succ hlt]; exact hJ3, hnx.trans (((Below.refl _ wr).alloc hnx.size _).trans hk3.1)⟩
        case measure => simp [intOf]; omega
      · gi_wp2
        refine bodyPost_ret (results_none rfl _ _ _) rfl ?_
        exact ⟨⟨_, rfl⟩, .inr ⟨_, trivial, hJx3⟩⟩
    · obtain rfl : k = ls.length := by omega
      gi_wp2
      go_end0
      exact ⟨⟨_, rfl⟩, .inl ⟨_, rfl, hJs⟩⟩

/-- The value of chunkStarts, at whatever later world. -/
theorem chunkStarts_stops (F : Fence) (n : Nat) (hF : F.fn 65) (hro : F.round = none) (hn : 1 ≤ n) (Br n₀ : Nat) (w0 : World) (hn₀ : n₀ = w0.heap.size) (A : Option Addr) (ls : List (List UInt8)) (c : Nat) (xs : List Value) (hlen : ls.length ≤ 1048576) (htot : tot ls ≤ 1099511627776)
    (hV : Vs w0 A xs) (hR : RdAll w0 xs ls) (w : World) (hw : Below w0.heap.size w0 w) (hBl : Br < w.heap.size) (hBr : w.cell? ⟨Br, 0, none⟩ = some (.slice A ls.length c)) :
    SeqStopsK F n Tryd.prog 65 #[.pointer (some ⟨Br, 0, none⟩)] (chEnc xs ls) (KeepsCh n₀) (fun ys => ys = ks ls.length ls.length) (fun _ => True) ls.length w := fun l J Jx W hW hJ _ hY h0 => by
  subst hn₀
  exact chunkStarts1_in F n hF hro hn l Br w0 A ls c xs hlen htot hV hR W J Jx (hw.trans (hW.mono hw.size)) hJ hY ((hW.cell (p := ⟨Br, 0, none⟩) hBl).trans hBr) h0

theorem chunkStarts_any (A : Option Addr) (n c : Nat) (w : World) :
    Calls Tryd.prog 43 #[.agg #[.slice A n c]] w fun e w' => e = .returned (.func (.func 65) #[] #[.pointer (some ⟨w.heap.size, 0, none⟩)]) ∧ w' = w.alloc (.cells #[.slice A n c] 26) := by
  go_enter Tryd.func43, Tryd.ntmps43
  go_wp2
  go_ret
  exact ⟨rfl, rfl⟩

/-- The offset in a chunk of n bytes that is nearest to a. -/
def insideV (n : Nat) (a : Int) : Nat := (min (max a 0) (n : Int)).toNat
theorem insideV_le (n : Nat) (a : Int) : insideV n a ≤ n := by unfold insideV; omega
theorem insideV_cast (n : Nat) (a : Int) : min (max a 0) (n : Int) = (insideV n a : Int) := by unfold insideV; omega

theorem inside_any (A : Option Addr) (n c : Nat) (a : Int) (w : World) (hn : n ≤ 9223372036854775807) :
    Calls Tryd.prog 64 #[.agg #[.slice A n c], .int .i64 a] w fun e w' => e = .returned (.int .i64 (insideV n a : Nat)) ∧ w' = w.alloc (.cells #[.slice A n c] 46) := by
  have he := insideV_cast n a
  go_enter Tryd.func64, Tryd.ntmps64
  go_wp2
  go_ret
  exact ⟨rfl, rfl⟩

theorem cutOut_any (i j : Int) (w : World) :
    Calls Tryd.prog 42 #[.int .i64 i, .int .i64 j] w fun e w' => e = .returned (.func (.func 63) #[] #[.pointer (some ⟨w.heap.size, 0, none⟩), .pointer (some ⟨w.heap.size + 1, 0, none⟩)]) ∧ w' = (w.alloc (.cells #[.int .i64 i] 3)).alloc (.cells #[.int .i64 j] 3) := by
  go_enter Tryd.func42, Tryd.ntmps42
  go_wp2
  go_ret
  exact ⟨rfl, rfl⟩
end Go.Proofs.YthnahenpnafkmaaDoor

namespace Go.Proofs.YthnahenpnafkmaaDoor
open Go.RowKit P
set_option linter.unusedVariables false
set_option linter.unusedSimpArgs false
set_option maxRecDepth 100000

/-- What lies of l between the offsets a and b, as far as there is any. -/
def cutV (l : List UInt8) (a b : Int) : List UInt8 := (l.drop (insideV l.length a)).take (insideV l.length b - insideV l.length a)
theorem cutV_len (l : List UInt8) (a b : Int) : (cutV l a b).length ≤ l.length := by unfold cutV; rw [List.length_take, List.length_drop]; omega
theorem insideV_mono (n : Nat) {a b : Int} (h : a ≤ b) : insideV n a ≤ insideV n b := by unfold insideV; omega

set_option maxHeartbeats 2000000 in
theorem cutOut1_any (A : Option Addr) (l : List UInt8) (c : Nat) (s i j : Int) (Bi Bj : Nat) (w : World) (hl : 0 < l.length) (hlc : l.length ≤ c) (hcm : c ≤ maxLen) (hs : 0 ≤ s ∧ s ≤ 1099511627776) (hi : 0 ≤ i ∧ i ≤ 1099511627776) (hj : 0 ≤ j ∧ j ≤ 1099511627776) (hij : i ≤ j)
    (hci : w.cell? ⟨Bi, 0, none⟩ = some (.int .i64 i)) (hcj : w.cell? ⟨Bj, 0, none⟩ = some (.int .i64 j)) (hbi : Bi < w.heap.size) (hbj : Bj < w.heap.size) (hB : Bs w A l) :
    Calls Tryd.prog 63 #[.int .i64 s, .agg #[.slice A l.length c], .pointer (some ⟨Bi, 0, none⟩), .pointer (some ⟨Bj, 0, none⟩)] w fun e w' => (∃ ad c', e = .returned (.slice (some ad) (cutV l (i - s) (j - s)).length c') ∧ Bs w (some ad) (cutV l (i - s) (j - s))) ∧ Below w.heap.size w w' := by
  have hc9 : c ≤ 9223372036854775807 := by unfold maxLen at hcm; omega
  obtain ⟨b0, o0, rfl, _, _⟩ := hB 0 hl
  obtain ⟨a, ha⟩ : ∃ a, insideV l.length (i - s) = a := ⟨_, rfl⟩
  obtain ⟨m, hm⟩ : ∃ m, insideV l.length (j - s) = a + m := ⟨insideV l.length (j - s) - a, by have := insideV_mono l.length (show i - s ≤ j - s by omega); omega⟩
  have hle : a + m ≤ l.length := by rw [← hm]; exact insideV_le _ _
  have hcv : cutV l (i - s) (j - s) = (l.drop a).take m := by unfold cutV; rw [ha, hm, Nat.add_sub_cancel_left]
  have hcl : ((l.drop a).take m).length = m := by rw [List.length_take, List.length_drop]; omega
  obtain ⟨A1, hsl, hB'⟩ := slice_mid (some ⟨b0, o0, none⟩) l.length c a m w l (by simp) (by rintro x ⟨⟩; exact ⟨_, _, rfl⟩) rfl hle hlc hc9 hB
  obtain ⟨ad, rfl⟩ : ∃ ad, A1 = some ad := by
    have h1 := hsl w
    have hz : (Go.sizeOf 5).run Tryd.prog w = .ok 1 w := by kernel_rfl
    have ht' : Tryd.prog.underlying 22 = some (.slice (Tryd.prog.elem 22)) := by simp [Program.elem, Tryd.underlying22]
    have he : Tryd.prog.elem 22 = 5 := by simp [Program.elem, Tryd.underlying22]
    rw [run_slice_lh w 22 _ _ _ ht' .i64 .i64 _ _ (by omega) (by omega) (by omega), he, hz] at h1
    cases A1 with
    | some ad => exact ⟨ad, rfl⟩
    | none =>
      exfalso
      by_cases h2 : c = a
      · simp [Result.andThen, sliced, h2] at h1
      · by_cases h3 : a = 0
        · subst h3; simp [Result.andThen, sliced, h2] at h1
        · simp [Result.andThen, sliced, h2, h3] at h1
  rw [hcv, hcl]
  have H1 : Hid (∀ V : World, Calls Tryd.prog 64 #[.agg #[.slice (some ⟨b0, o0, none⟩) l.length c], .int .i64 (i - s)] V fun e w' => e = .returned (.int .i64 (a : Int)) ∧ Below V.heap.size V w') := Lib.hid (fun V => by
    refine (inside_any _ _ _ _ _ (by omega)).mono ?_
    rintro e w' ⟨rfl, rfl⟩
    exact ⟨by rw [ha], (Below.refl _ _).alloc (Nat.le_refl _) _⟩)
  have H2 : Hid (∀ V : World, Calls Tryd.prog 64 #[.agg #[.slice (some ⟨b0, o0, none⟩) l.length c], .int .i64 (j - s)] V fun e w' => e = .returned (.int .i64 ((a : Int) + (m : Int))) ∧ Below V.heap.size V w') := Lib.hid (fun V => by
    refine (inside_any _ _ _ _ _ (by omega)).mono ?_
    rintro e w' ⟨rfl, rfl⟩
    exact ⟨by rw [hm, Int.natCast_add], (Below.refl _ _).alloc (Nat.le_refl _) _⟩)
  have HB' := Lib.hid hB'
  have hal := (Below.refl w.heap.size w).alloc (Nat.le_refl _) (.cells #[.slice (some ⟨b0, o0, none⟩) l.length c] 46)
  have q0 : (w.alloc (.cells #[.slice (some ⟨b0, o0, none⟩) l.length c] 46)).cell? ⟨w.heap.size, 0, none⟩ = some (.slice (some ⟨b0, o0, none⟩) l.length c) := (Blk.new w _ _).cell 0
  have qi := (hal.cell (p := ⟨Bi, 0, none⟩) hbi).trans hci
  have qj := (hal.cell (p := ⟨Bj, 0, none⟩) hbj).trans hcj
  have hz0 : w.heap.size < (w.alloc (.cells #[.slice (some ⟨b0, o0, none⟩) l.length c] 46)).heap.size := by simp
  have hzi : Bi < (w.alloc (.cells #[.slice (some ⟨b0, o0, none⟩) l.length c] 46)).heap.size := by simp; omega
  have hzj : Bj < (w.alloc (.cells #[.slice (some ⟨b0, o0, none⟩) l.length c] 46)).heap.size := by simp; omega
  clear hm ha hcv hcl hB' hB hci hcj
  have hwi : IntKind.i64.wrap (i - s) = i - s := IntWalk.i64_in _ ⟨by omega, by omega⟩
  have hwj : IntKind.i64.wrap (j - s) = j - s := IntWalk.i64_in _ ⟨by omega, by omega⟩
  go_enter Tryd.func63, Tryd.ntmps63
  go_wp2_with fail
  generalize w.alloc (.cells #[.slice (some ⟨b0, o0, none⟩) l.length c] 46) = W at *
  go_region_held3 (fun V => V.cell? ⟨w.heap.size, 0, none⟩ = some (.slice (some ⟨b0, o0, none⟩) l.length c) ∧ V.cell? ⟨Bi, 0, none⟩ = some (.int .i64 i) ∧ V.cell? ⟨Bj, 0, none⟩ = some (.int .i64 j)) (exact ⟨(by first | exact q0 | exact r0 | exact t0), (by first | exact qi | exact ri | exact ti), (by first | exact qj | exact rj | exact tj)⟩) (first
    | (go_at_call_of 64 (Value.int .i64 (i - s)); refine (H1.out _).mono ?_; rintro e w5 ⟨rfl, hb5⟩; have hb5 : Below W.heap.size W w5 := ⟨hb5.os, hb5.tape, hb5.output, hb5.size, hb5.block⟩; have r0 := (hb5.cell (p := ⟨w.heap.size, 0, none⟩) hz0).trans q0; have ri := (hb5.cell (p := ⟨Bi, 0, none⟩) hzi).trans qi; have rj := (hb5.cell (p := ⟨Bj, 0, none⟩) hzj).trans qj; have hz5 := hb5.size; have HB5 := Lib.hid (below_then hal hb5); clear hb5)
    | (go_at_call_of 64 (Value.int .i64 (j - s)); refine (H2.out _).mono ?_; rintro e w6 ⟨rfl, hb6⟩; have hb6 : Below w5.heap.size w5 w6 := ⟨hb6.os, hb6.tape, hb6.output, hb6.size, hb6.block⟩; have t0 := (hb6.cell (p := ⟨w.heap.size, 0, none⟩) (Nat.lt_of_lt_of_le hz0 hz5)).trans r0; have ti := (hb6.cell (p := ⟨Bi, 0, none⟩) (Nat.lt_of_lt_of_le hzi hz5)).trans ri; have tj := (hb6.cell (p := ⟨Bj, 0, none⟩) (Nat.lt_of_lt_of_le hzj hz5)).trans rj; have HB6 := Lib.hid (below_then HB5.out hb6); clear hb6))
  go_wp2
  go_ret
  exact ⟨⟨_, _, rfl, HB'.out⟩, ⟨HB6.out.os, HB6.out.tape, HB6.out.output, HB6.out.size, HB6.out.block⟩⟩

/-- .. in the words of an append: there is an address, and the cells lie there. -/
theorem cutOut1_cells (A : Option Addr) (l : List UInt8) (c : Nat) (s i j : Int) (Bi Bj : Nat) (w : World) (hl : 0 < l.length) (hlc : l.length ≤ c) (hcm : c ≤ maxLen) (hs : 0 ≤ s ∧ s ≤ 1099511627776) (hi : 0 ≤ i ∧ i ≤ 1099511627776) (hj : 0 ≤ j ∧ j ≤ 1099511627776) (hij : i ≤ j)
    (hci : w.cell? ⟨Bi, 0, none⟩ = some (.int .i64 i)) (hcj : w.cell? ⟨Bj, 0, none⟩ = some (.int .i64 j)) (hbi : Bi < w.heap.size) (hbj : Bj < w.heap.size) (hB : Bs w A l) :
    Calls Tryd.prog 63 #[.int .i64 s, .agg #[.slice A l.length c], .pointer (some ⟨Bi, 0, none⟩), .pointer (some ⟨Bj, 0, none⟩)] w fun e w' => (∃ ad c', e = .returned (.slice (some ad) (cutV l (i - s) (j - s)).length c') ∧ ∀ k u, ((cutV l (i - s) (j - s)).map bV)[k]? = some u → w'.cell? (ad.add k) = some u) ∧ Below w.heap.size w w' := by
  refine (cutOut1_any A l c s i j Bi Bj w hl hlc hcm hs hi hj hij hci hcj hbi hbj hB).mono ?_
  rintro e w' ⟨⟨ad, c', rfl, hX⟩, hb⟩
  refine ⟨⟨ad, c', rfl, fun k u hk => ?_⟩, hb⟩
  obtain ⟨hk1, hk2⟩ := List.getElem?_eq_some_iff.1 hk
  rw [List.length_map] at hk1
  obtain ⟨b, off, e, hlt, hc⟩ := hX k hk1
  cases e
  rw [List.getElem_map] at hk2
  rw [← hk2]
  have h := (hb.cell (p := ⟨b, off + k, none⟩) hlt).trans hc
  by_cases h0 : k = 0
  · subst h0; simpa [Addr.add, bV] using h
  · simpa [Addr.add, bV, h0] using h
end Go.Proofs.YthnahenpnafkmaaDoor

namespace Go.Proofs.YthnahenpnafkmaaDoor
open Go.RowKit Go.Shelf P
set_option linter.unusedVariables false
set_option linter.unusedSimpArgs false
set_option maxRecDepth 100000

/-- A function value is stored in one cell. -/
theorem run_store_func {P : Program} (w : World) (a : Addr) (m : Mode) (f : Fn) (x y : Array Value) : (store a (.func f x y) m).run P w = stored P w a (.func f x y) m := run_store P w a _ m rfl
theorem run_store_nilFunc {P : Program} (w : World) (a : Addr) (m : Mode) : (store a .nilFunc m).run P w = stored P w a .nilFunc m := run_store P w a _ m rfl
attribute [local go_sem] Oper.semAt_some run_store_func run_store_nilFunc

/-- An append to a row of the call's own, stored into its variable: what lies where. -/
theorem appended_into {W w1 : World} {n₀ B : Nat} {t e : TypeId} {v v' : Value} {k m : Nat} {xs ys : List Value}
    (hv : Boxed W B t v) (hte : t ≠ e) (hrow : W.ownsRow n₀ e 1 v k xs) (hn₀ : n₀ ≤ W.heap.size) (hB : n₀ ≤ B)
    (hown' : w1.ownsRow n₀ e 1 v' m ys) (hgrow : W.grownBy w1 v.ownBlock) :
    Boxed w1 B t v ∧ Boxed (w1.setCell ⟨B, 0, none⟩ v') B t v' ∧ (w1.setCell ⟨B, 0, none⟩ v').ownsRow n₀ e 1 v' m ys ∧ KeepsOthers W (w1.setCell ⟨B, 0, none⟩ v') ∧ Below n₀ W (w1.setCell ⟨B, 0, none⟩ v') ∧
      ∀ b T' u, T' ≠ e → b ≠ B → Boxed W b T' u → Boxed (w1.setCell ⟨B, 0, none⟩ v') b T' u := by
  have hv1 : Boxed w1 B t v := hv.kept hgrow (hv.not_row hte hrow)
  refine ⟨hv1, hv1.set v', hown'.kept (grownBy_setCell' w1 B v') (.inr (hv1.not_row hte hown').symm), ?_, ?_, fun b T' u hT hb hu => (hu.kept hgrow (hu.not_row hT hrow)).other hb _⟩
  · refine (KeepsOthers.of_grownBy hgrow fun j o ej hj => ?_).trans (KeepsOthers.setCell _ _ _)
    rcases hrow.2 with ⟨rfl, _⟩ | ⟨g, cap, cur, rfl, _, hgb, _⟩
    · simp [Value.ownBlock] at ej
    · obtain rfl : g = j := by simpa [Value.ownBlock] using ej
      rw [hgb] at hj; cases hj; rfl
  · refine ((Below.refl n₀ W).grown hgrow hn₀ fun j ej => ?_).setCell (p := ⟨B, 0, none⟩) hB v'
    rcases hrow.2 with ⟨rfl, _⟩ | ⟨g, cap, cur, rfl, hb, _, _⟩
    · simp [Value.ownBlock] at ej
    · obtain rfl : g = j := by simpa [Value.ownBlock] using ej
      exact hb

/-- Whatever lies in a lone variable lies on where all that lay, lies. -/
theorem boxed_belowAll {W W' : World} {b : Nat} {t : TypeId} {v : Value} (h : Boxed W b t v) (hb : Below W.heap.size W W') : Boxed W' b t v := (hb.block b h.lt).trans h
theorem keepsFrom_below {W W' : World} (B : Nat) (hb : Below W.heap.size W W') : KeepsFrom B W W' := ⟨hb.size, fun k o _ hk ho => (hb.block k (Array.getElem?_eq_some_iff.1 hk).1).trans hk⟩

/-- What a loop over the places pre has gathered. -/
def gath (ls : List (List UInt8)) (i j : Int) (pre : List { k : Nat // k < ls.length }) : List UInt8 :=
  (pre.map fun x => cutV (ls[x.1]'x.2) (i - (tot (ls.take x.1) : Nat)) (j - (tot (ls.take x.1) : Nat))).flatten
theorem gath_snoc (ls : List (List UInt8)) (i j : Int) (pre : List { k : Nat // k < ls.length }) (x : { k : Nat // k < ls.length }) :
    gath ls i j (pre ++ [x]) = gath ls i j pre ++ cutV (ls[x.1]'x.2) (i - (tot (ls.take x.1) : Nat)) (j - (tot (ls.take x.1) : Nat)) := by
  simp [gath]
theorem gath_len (ls : List (List UInt8)) (i j : Int) (M : Nat) (hM : ∀ k (h : k < ls.length), (ls[k]).length ≤ M) : ∀ pre : List { k : Nat // k < ls.length }, (gath ls i j pre).length ≤ pre.length * M := by
  intro pre
  induction pre with
  | nil => simp [gath]
  | cons x t ih =>
    have h1 := cutV_len (ls[x.1]'x.2) (i - (tot (ls.take x.1) : Nat)) (j - (tot (ls.take x.1) : Nat))
    have h2 := hM x.1 x.2
    have e : gath ls i j (x :: t) = cutV (ls[x.1]'x.2) (i - (tot (ls.take x.1) : Nat)) (j - (tot (ls.take x.1) : Nat)) ++ gath ls i j t := by simp [gath]
    rw [e, List.length_append, List.length_cons, Nat.succ_mul]
    omega

end Go.Proofs.YthnahenpnafkmaaDoor

namespace Go.Proofs.YthnahenpnafkmaaDoor
open Go Go.RowKit Go.Shelf P
set_option linter.unusedVariables false

/-- Q, and the way out is none that lets out. -/
def NoOut (Q : Exit → Act → World → Prop) : Exit → Act → World → Prop := fun e a w => e ≠ .outgrown ∧ Q e a w

theorem upon_round {l n : Nat} {P : Program} {o : Oper} {a : Act} {K K' : Act → World → Prop} {Q : Exit → Act → World → Prop} {r : Result Next} (hk : ∀ a w, K a w → K' a w)
    (h : o.upon P a K (NoOut Q) r) : o.uponIn (Fence.wide.inRound l) n P a K' Q r := by
  cases r with
  | ok x w' =>
    cases x <;> simp only [Oper.upon, Oper.uponIn] at h ⊢
    case value u => exact hk _ _ h
    case skip => exact hk _ _ h
    case defer d => exact hk _ _ h
    case enter f args =>
      refine ⟨fun h => by simp [Fence.wide] at h, CallsIn.inRound l (callsIn_wide.2 (Calls.mono h fun e w'' he => ?_))⟩
      cases e with
      | returned u => exact hk _ _ he
      | panicked c => exact he.2
      | outgrown => obtain ⟨_, _, h, _⟩ := he; exact absurd rfl h
    case row row args =>
      refine ⟨fun h => by simp [Fence.wide] at h, fun c cs _ => ?_⟩
      obtain ⟨v, w2, h1, h2⟩ := h c cs
      exact ⟨v, w2, hk _ _ h1, stepsIn_wide.2 h2⟩
  | halt x w' =>
    cases x <;> simp only [Oper.upon, Oper.uponIn] at h ⊢
    case panic u => exact h.2

/-- No defer statement among them. -/
def noDefer (ops : Array Oper) : Bool := ops.all fun o => match o.op with | .defer _ => false | _ => true

theorem wpOp_round {l n : Nat} {P : Program} {ops : Array Oper} {Q : Exit → Act → World → Prop} {i : Nat} {a : Act} {w : World} {K K' : Act → World → Prop} (hd : noDefer ops = true) (hk : ∀ a w, K a w → K' a w)
    (h : wpOp P ops (NoOut Q) i K a w) : wpOpIn (Fence.wide.inRound l) n P ops Q i K' a w := by
  unfold wpOp at h
  unfold wpOpIn
  cases ho : ops[i]? with
  | none => simp only [ho] at h ⊢; exact hk _ _ h
  | some o =>
    simp only [ho] at h ⊢
    have hdo : ∀ c, o.op ≠ .defer c := by
      intro c hc
      obtain ⟨hi, he⟩ := Array.getElem?_eq_some_iff.1 ho
      have := (Array.all_eq_true.1 hd) i hi
      rw [he, hc] at this
      simp at this
    split
    · rename_i hw
      simp only [hw, if_true] at h
      rcases h with h | ⟨_, _, _, h, _⟩
      · refine ⟨fun _ _ => trivial, ?_⟩
        rw [show (Fence.wide.inRound l).round = some l from rfl, Oper.semAt_some l _ _ hdo]
        exact upon_round hk h
      · exact absurd rfl h
    · rename_i hw
      simp only [hw] at h
      exact ⟨fun _ _ => trivial, hk _ _ h⟩

theorem wpAny_round {l n : Nat} {P : Program} {ops : Array Oper} {Q : Exit → Act → World → Prop} {md : Region.Mode} (hd : noDefer ops = true) :
    ∀ (fuel : Nat) (listed : Array Bool) (a : Act) (w : World), wpAny P md ops (NoOut Q) fuel listed a w → wpAnyIn (Fence.wide.inRound l) n P md ops Q fuel listed a w
  | 0, _, _, _, h => ⟨h.1, h.2.2⟩
  | fuel + 1, _, _, _, h => ⟨fun hr => (h.1 hr).2, fun i hi => wpOp_round hd (fun a' w' h' => wpAny_round hd fuel _ a' w' h') (h.2 i hi)⟩

/-- A drawn region inside a round, by the laws of a region outside of one. -/
theorem wpIn_region_round {l n id : Nat} {P : Program} {ops : Array Oper} {Q : Exit → Act → World → Prop} {S : World → Prop} {a : Act} {w : World} (hm : P.follows .mixedOrders = true) (hd : noDefer ops = true) (hS : S w.drew)
    (h : S w.drew → wpAnyH P .any ops (NoOut Q) S ops.size (Array.replicate ops.size false) a w.drew) : (Code.region id ops true).wpIn (Fence.wide.inRound l) n P Q a w :=
  wpIn_region_any hm (wpAny_round hd _ _ _ _ (wpAny_of_held _ _ _ _ (h hS)))

/-- append onto a row of the call's own inside a region that draws its order. -/
theorem step_app_cells {P : Program} {ops : Array Oper} {o : Oper} {a : Act} {w : World} {K : Act → World → Prop} {Q : Exit → Act → World → Prop} {X : Prop} (hgd : o.guard = none) (s x : Operand) (t : TypeId)
    (ho : o.op = .call { callee := .builtin .append, args := #[s, x], argTypes := #[t, t] })
    (base : Nat) (e : TypeId) (i : TypeInfo) (z : Value) (size bytes : Nat) (h1 : P.underlying t = some (.slice e)) (h2 : P.info? e = some i) (h3 : i.zero = some z) (h4 : i.size = size) (h5 : i.bytes = bytes) (h6 : z.cells.size = size) (h7 : 0 < size)
    (v : Value) (k : Nat) (xs : List Value) (hs : a.eval s = v) (hown : w.ownsRow base e size v k xs) (ad : Addr) (m c : Nat) (news : List Value) (hx : a.eval x = .slice (some ad) m c) (hn : news.length = m * size)
    (hc : ∀ j u, news[j]? = some u → w.cell? (ad.add j) = some u) (h1c : ∀ u ∈ news, u.oneCell' = true) (b1 : k + m ≤ maxLen) (b2 : (k + m) * bytes ≤ 140737488355328) (b3 : base ≤ w.heap.size)
    (h : ∀ v' w', w'.ownsRow base e size v' (k + m) (xs ++ news) → w.grownBy w' v.ownBlock → K (a.put o.dst v') w') :
    if Region.wanted o (yielded ops a.tmps) = true then Oper.wp P o a w K Q else X := by
  obtain ⟨v', w', hrun, r1, r2, r3⟩ := run_append_own (P := P) w base t o.type e i z size bytes h1 h2 h3 h4 h5 h6 h7 v k xs hown ad m c news hn hc h1c b1 b2 b3
  have hw : Region.wanted o (yielded ops a.tmps) = true := by simp [Region.wanted, hgd]
  rw [if_pos hw]
  unfold Oper.wp
  simp [execOp, ho, resolve, invoke, builtin, hs, hx, hrun, Result.andThen]
  exact h v' w' r1 r2

theorem insideV_app (n m : Nat) (a : Int) : insideV (n + m) a = insideV n a + insideV m (a - n) := by unfold insideV; omega

theorem cutV_app (l r : List UInt8) (a b : Int) (h : a ≤ b) : cutV (l ++ r) a b = cutV l a b ++ cutV r (a - l.length) (b - l.length) := by
  unfold cutV
  have hm1 := insideV_mono l.length h
  have hm2 := insideV_mono r.length (show a - (l.length : Int) ≤ b - l.length by omega)
  have h1 := insideV_le l.length a
  have h2 := insideV_le l.length b
  have h3 := insideV_le r.length (a - l.length)
  have h4 := insideV_le r.length (b - l.length)
  have c1 : insideV r.length (a - l.length) = 0 ∨ insideV l.length a = l.length := by unfold insideV; omega
  have c2 : insideV r.length (b - l.length) = 0 ∨ insideV l.length b = l.length := by unfold insideV; omega
  rw [List.length_append, insideV_app, insideV_app]
  generalize insideV l.length a = x at *
  generalize insideV l.length b = x' at *
  generalize insideV r.length (a - l.length) = y at *
  generalize insideV r.length (b - l.length) = y' at *
  have e1 : l.drop (x + y) = l.drop x := by
    rcases c1 with c | c
    · rw [c, Nat.add_zero]
    · rw [List.drop_eq_nil_of_le (by omega), List.drop_eq_nil_of_le (by omega)]
  have e2 : x + y - l.length = y := by omega
  rw [List.drop_append, e1, e2, List.take_append, List.length_drop]
  congr 1
  · rcases c2 with c | c
    · congr 1; omega
    · rw [List.take_of_length_le (by rw [List.length_drop]; omega), List.take_of_length_le (by rw [List.length_drop]; omega)]
  · congr 1; omega

theorem gath_all (ls : List (List UInt8)) (i j : Int) (h : i ≤ j) : ∀ k, k ≤ ls.length → gath ls i j (ks ls.length k) = cutV (ls.take k).flatten i j := by
  intro k
  induction k with
  | zero => intro _; simp [ks, gath, cutV]
  | succ k ih =>
    intro hk
    rw [ks_succ (show k < ls.length by omega), gath_snoc, ih (by omega), flat_snoc ls k (by omega), cutV_app _ _ _ _ h]
    rfl

theorem gath_whole (ls : List (List UInt8)) (i j : Nat) (h : i ≤ j) (hj : j ≤ ls.flatten.length) : gath ls i j (ks ls.length ls.length) = (ls.flatten.drop i).take (j - i) := by
  rw [gath_all ls i j (by omega) _ (Nat.le_refl _), List.take_length]
  unfold cutV
  have e1 : insideV ls.flatten.length i = i := by unfold insideV; omega
  have e2 : insideV ls.flatten.length j = j := by unfold insideV; omega
  rw [e1, e2]
end Go.Proofs.YthnahenpnafkmaaDoor

namespace Go.Proofs.YthnahenpnafkmaaDoor
open Go.RowKit Go.Shelf P
set_option linter.unusedVariables false
set_option linter.unusedSimpArgs false
set_option maxRecDepth 100000
attribute [local go_sem] Oper.semAt_some run_store_func run_store_nilFunc

end Go.Proofs.YthnahenpnafkmaaDoor

namespace Go.Proofs.YthnahenpnafkmaaDoor
open Go.RowKit Go.Shelf P
set_option linter.unusedVariables false
set_option linter.unusedSimpArgs false
set_option maxRecDepth 100000

/-- May the bytes i..j - 1 be taken? -/
def sliceOk (ls : List (List UInt8)) (i j : Int) : Bool := decide (i ≤ j) && (chunksOk ls && [i, j].all (fun a => isBound (chunksText ls) a))
/-- The bytes i..j - 1, where they may be taken. -/
def sliceV (ls : List (List UInt8)) (i j : Int) : List UInt8 := if sliceOk ls i j then (ls.flatten.drop i.toNat).take (j - i).toNat else []

theorem sliceOk_iff (ls : List (List UInt8)) (i j : Int) : sliceOk ls i j = true ↔ i ≤ j ∧ rCut ls i = true ∧ rCut ls j = true := by
  unfold sliceOk rCut
  simp only [Bool.and_eq_true, decide_eq_true_eq, List.all_cons, List.all_nil, and_true]
  constructor
  · rintro ⟨h1, h2, h3, h4⟩; exact ⟨h1, ⟨h2, h3⟩, h2, h4⟩
  · rintro ⟨h1, ⟨h2, h3⟩, _, h4⟩; exact ⟨h1, h2, h3, h4⟩

theorem isBound_range {l : List UInt8} {a : Int} (h : isBound l a = true) : 0 ≤ a ∧ a ≤ l.length := by
  by_cases h1 : a < 0 ∨ (l.length : Int) < a
  · rw [isBound_out l a h1] at h; cases h
  · omega

theorem rCut_range {ls : List (List UInt8)} {a : Int} (h : rCut ls a = true) : chunksOk ls = true ∧ 0 ≤ a ∧ a ≤ ls.flatten.length := by
  unfold rCut at h
  rw [Bool.and_eq_true] at h
  have := isBound_range h.2
  rw [chunksText_ok h.1] at this
  exact ⟨h.1, this⟩

theorem sliceV_len (ls : List (List UInt8)) (i j : Int) : (sliceV ls i j).length ≤ 400 := by
  unfold sliceV
  split
  · rename_i h
    have h1 := ((sliceOk_iff ls i j).1 h).2.1
    have h2 := chunksOk_tot (rCut_range h1).1
    unfold tot at h2
    rw [List.length_take, List.length_drop]
    omega
  · simp

/-- What a call ends in that makes bytes of its own and says whether there are any. -/
def MakesB (w : World) (l : List UInt8) (b : Bool) (e : Ending) (w' : World) : Prop := ∃ v, e = .returned (.tuple #[v, .bool b]) ∧ Own w' w.heap.size v l ∧ Below w.heap.size w w'

end Go.Proofs.YthnahenpnafkmaaDoor
