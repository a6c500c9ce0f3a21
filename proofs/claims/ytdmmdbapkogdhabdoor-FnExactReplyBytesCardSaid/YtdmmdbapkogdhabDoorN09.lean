/-
  Chapter 9, ReplyBytes in the program: contract. Own work.
-/
import Derived.Test.YtdmmdbapkogdhabDoorN08
import Derived.Test.YtdmmdbapkogdhabDoorN06
namespace Go.Proofs.YtdmmdbapkogdhabDoor
open Go.RowKit P
set_option linter.unusedVariables false
set_option linter.unusedSimpArgs false
set_option maxRecDepth 100000

theorem bs_one9 {w : World} (x : Int) (hx : 0 ≤ x ∧ x < 256) : Bs (w.alloc (.cells #[.int .u8 x] 5)) (some ⟨w.heap.size, 0, none⟩) [u8 x] := by
  intro k hk
  have h0 := (Blk.new w #[.int .u8 x] 5).cell k
  refine ⟨w.heap.size, 0, rfl, by simp, ?_⟩
  rw [Nat.zero_add, h0]
  match k, hk with
  | 0, _ => simp [u8_toNat x hx.1 hx.2]
theorem ints_new9 {w : World} (l : List Int) : w.heap.size < (w.alloc (.cells (l.map (fun x => Value.int .i64 x)).toArray 3)).heap.size ∧ ∀ j (h : j < l.length), (w.alloc (.cells (l.map (fun x => Value.int .i64 x)).toArray 3)).cell? ⟨w.heap.size, j, none⟩ = some (.int .i64 l[j]) := by
  refine ⟨by simp, fun j hj => ?_⟩
  have h := (Blk.new w (l.map (fun x => Value.int .i64 x)).toArray 3).cell j
  rw [h]
  simp [hj]
theorem keepsBelow8 {B g pk : Nat} {a b c : World} (h : Below B a b) (hB : B ≤ b.heap.size) (hg : B ≤ g) (hp : B ≤ pk) (k : Keeps [g, pk] b c) : Below B a c :=
  h.trans (k.below hB (fun x hx => by simp at hx; omega))

set_option maxHeartbeats 16000000 in
theorem implReplyBytes_any (x p q : Int) (A : Option Addr) (t : List UInt8) (d : Nat) (w : World) (hl : t.length ≤ d) (hc9 : d ≤ 9223372036854775807) (hT : Tab w) (hA : Bs w A t) :
    Calls Tryd.prog 12 #[.agg #[.int .i64 x, .int .i64 p, .int .i64 q, .slice A t.length d]] w fun e w' => ∃ v, e = .returned v ∧ Own w' w.heap.size v (rpBytes x p q t) ∧ Below w.heap.size w w' := by
  have hal := (Below.refl w.heap.size w).alloc (Nat.le_refl _) (.cells #[.int .i64 x, .int .i64 p, .int .i64 q, .slice A t.length d] 27)
  have BX := Lib.hid (Blk.new w #[.int .i64 x, .int .i64 p, .int .i64 q, .slice A t.length d] 27)
  have hT2 := Lib.hid (hT.below hal)
  have hA2 := Lib.hid (hA.below hal)
  have HB := Lib.hid hal
  have zw0 : w.heap.size < (w.alloc (.cells #[.int .i64 x, .int .i64 p, .int .i64 q, .slice A t.length d] 27)).heap.size := by simp
  obtain ⟨ok, hok⟩ : ∃ ok, rpOk x p q t = ok := ⟨_, rfl⟩
  have HOK := Lib.hid hok
  obtain ⟨R, hR⟩ : ∃ R, rpBytes x p q t = R := ⟨_, rfl⟩
  have HR := Lib.hid hR
  rw [hR]
  clear hal hok hR
  go_enter Tryd.func12, Tryd.ntmps12
  go_wp2_with fail
  generalize w.alloc (.cells #[.int .i64 x, .int .i64 p, .int .i64 q, .slice A t.length d] 27) = W0 at *
  refine (implReplyOk_any x p q A t d _ hl hc9 (by exact hT2.out) (by exact hA2.out)).mono ?_
  rintro e w1 ⟨rfl, hb⟩
  rw [HOK.out]
  have HA := Lib.hid (hA2.out.below hb)
  have BX := Lib.hid (BX.out.below hb)
  have HB := Lib.hid (below_then HB.out hb)
  have z1 := hb.size
  clear hb hT2 hA2
  cases ok
  case false =>
    have e0 : R = [] := by rw [← HR.out]; unfold rpBytes; rw [HOK.out]; rfl
    have HE := Lib.hid e0
    clear e0
    go_wp2
    go_ret
    exact ⟨.slice none 0 0, rfl, by rw [HE.out]; exact Own.nil _ _, HB.out⟩
  have HE : Hid (rpEnc x p q t = R) := Lib.hid (by rw [← HR.out]; unfold rpBytes; rw [HOK.out]; rfl)
  have hlen := rpOk_len HOK.out
  have hrg : (0 ≤ x ∧ x ≤ 10) ∧ (0 ≤ p ∧ p ≤ 65535) ∧ (0 ≤ q ∧ q ≤ 65535) := by
    have h := HOK.out
    unfold rpOk isW at h
    simp only [Bool.and_eq_true, decide_eq_true_eq] at h
    exact ⟨h.1.1.1.1, h.1.1.1.2, h.1.1.2⟩
  obtain ⟨hx1, hp1, hq1⟩ := hrg
  have hwr : IntKind.i64.wrap (7 + (t.length : Int)) = ((7 + t.length : Nat) : Int) := by rw [IntWalk.i64_in _ ⟨by omega, by omega⟩]; omega
  have x0 := BX.out.cell 0
  have x1 := BX.out.cell 1
  have x2 := BX.out.cell 2
  have x3 := BX.out.cell 3
  go_wp2_with fail
  refine (newPacket_any (7 + t.length) _ (by omega)).mono ?_
  rintro e w2 ⟨rfl, hp, hb⟩
  have HA := Lib.hid (HA.out.below hb)
  have BX := Lib.hid (BX.out.below hb)
  have HB := Lib.hid (below_then HB.out hb)
  have z2 := hb.size
  have HP := Lib.hid hp
  obtain ⟨g, hg⟩ : ∃ g, w1.heap.size = g := ⟨_, rfl⟩
  rw [hg] at HP z2
  rw [hg]
  have hg1 : w.heap.size < g := by omega
  have HNE : Hid (∀ b off, A = some ⟨b, off, none⟩ → 0 < t.length → b < w.heap.size) := Lib.hid (fun b off e hz => by obtain ⟨b', off', e', hlt, _⟩ := hA 0 hz; rw [e] at e'; cases e'; exact hlt)
  have hpl := HP.out.box.lt
  clear hb hp hg x0 x1 x2 x3
  have x0 := BX.out.cell 0
  have x1 := BX.out.cell 1
  have x2 := BX.out.cell 2
  have x3 := BX.out.cell 3
  have hbn := (Below.refl w2.heap.size w2).alloc (Nat.le_refl _) (.cells #[.int .u8 x] 5)
  go_wp2_with fail
  refine (putBytes_any (g + 1) g (7 + t.length) _ _ [u8 x] 1 _ (HP.out.below hbn) (by exact bs_one9 x (by omega)) (by simp [w2_len] <;> omega) (by omega)).mono ?_
  rintro e w3 ⟨rfl, hp, hk⟩
  have hk := ((Keeps.of_below hbn).trans hk)
  have HP := Lib.hid hp
  have BX := Lib.hid (BX.out.of_block (hk.block _ BX.out.lt (by simp; omega)))
  have HB := Lib.hid (keepsBelow8 HB.out HB.out.size (by omega) (by omega) hk)
  have z3 := hk.size
  have hpl := HP.out.box.lt
  have HA := Lib.hid (HA.out.of_heap hk.size (fun b off e hz => hk.block b (by obtain ⟨b', off', e', hlt, _⟩ := HA.out 0 hz; rw [e] at e'; cases e'; exact hlt) (by have := HNE.out b off e hz; simp; omega)))
  clear hp hk hbn x0 x1 x2 x3
  have x0 := BX.out.cell 0
  have x1 := BX.out.cell 1
  have x2 := BX.out.cell 2
  have x3 := BX.out.cell 3
  have hbn := (Below.refl w3.heap.size w3).alloc (Nat.le_refl _) (.cells #[.int .i64 p, .int .i64 q, .int .i64 (t.length : Int)] 3)
  have hin := ints_new9 (w := w3) [p, q, (t.length : Int)]
  go_wp2_with fail
  refine (putWords_any (g + 1) g (7 + t.length) _ w3.heap.size [p, q, (t.length : Int)] 3 _ (HP.out.below hbn) (by exact hin) (by omega) (by omega) (by intro n hn; simp at hn; rcases hn with rfl | rfl | rfl <;> (unfold isW; simp <;> omega)) (by simp [w2_len] <;> omega) (by omega)).mono ?_
  rintro e w4 ⟨rfl, hp, hk⟩
  have hk := ((Keeps.of_below hbn).trans hk)
  have HP := Lib.hid hp
  have BX := Lib.hid (BX.out.of_block (hk.block _ BX.out.lt (by simp; omega)))
  have HB := Lib.hid (keepsBelow8 HB.out HB.out.size (by omega) (by omega) hk)
  have z4 := hk.size
  have hpl := HP.out.box.lt
  have HA := Lib.hid (HA.out.of_heap hk.size (fun b off e hz => hk.block b (by obtain ⟨b', off', e', hlt, _⟩ := HA.out 0 hz; rw [e] at e'; cases e'; exact hlt) (by have := HNE.out b off e hz; simp; omega)))
  clear hp hk hbn hin x0 x1 x2 x3
  have x0 := BX.out.cell 0
  have x1 := BX.out.cell 1
  have x2 := BX.out.cell 2
  have x3 := BX.out.cell 3
  go_wp2_with fail
  refine (putBytes_any (g + 1) g (7 + t.length) _ A t d _ HP.out (by exact HA.out) (by simp [w2_len] <;> omega) (by omega)).mono ?_
  rintro e w5 ⟨rfl, hp, hk⟩
  have hk := hk
  have HP := Lib.hid hp
  have BX := Lib.hid (BX.out.of_block (hk.block _ BX.out.lt (by simp; omega)))
  have HB := Lib.hid (keepsBelow8 HB.out HB.out.size (by omega) (by omega) hk)
  have z5 := hk.size
  have hpl := HP.out.box.lt

  clear hp hk x0 x1 x2 x3
  have c0 := HP.out.box.cell 0
  go_wp2
  go_ret
  refine ⟨_, rfl, ?_, HB.out⟩
  have hE := HE.out
  unfold rpEnc at hE
  have hR2 := HP.out.own (by simp [w2_len] <;> omega) (by unfold maxLen; omega) w.heap.size (by omega)
  simp only [List.nil_append, List.append_assoc, List.cons_append, List.flatMap_cons, List.flatMap_nil, List.append_nil] at hR2
  rw [← hE]
  exact hR2
end Go.Proofs.YtdmmdbapkogdhabDoor
