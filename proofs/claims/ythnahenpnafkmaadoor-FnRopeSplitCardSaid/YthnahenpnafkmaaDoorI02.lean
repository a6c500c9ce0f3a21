/-
  Chapter 2, the program's MeasOf, and the model's: contracts. Own work.
-/
import Derived.Test.YthnahenpnafkmaaDoorC02
import Derived.Shelf.Bytes.SlCountOne
import Derived.Test.YthnahenpnafkmaaDoorI01
import Derived.Test.YthnahenpnafkmaaDoorS01
namespace Go.Proofs.YthnahenpnafkmaaDoor
open Go.RowKit P
set_option linter.unusedVariables false
set_option maxRecDepth 100000

/-- What a call that returns a measure ends in. -/
def meas (b r n : Int) : Value := .agg #[.int .i64 b, .int .i64 r, .int .i64 n]

theorem count_list (l : List UInt8) (x : UInt8) (n : Nat) : (l.foldl (fun n y => if y == x then n + 1 else n) n) = n + l.count x := by
  induction l generalizing n with
  | nil => simp
  | cons a t ih =>
    rw [List.foldl_cons, ih, List.count_cons]
    split <;> omega

theorem run_count (w : World) (A : Option Addr) (l : List UInt8) (c : Nat) (hA : Bs w A l) : (Extern.BytealgCount.count #[.slice A l.length c, .int .u8 10]).run Tryd.prog w = .ok (.int .i64 (lines l)) w := by
  cases A with
  | none =>
    have h0 : l = [] := by
      cases l with
      | nil => rfl
      | cons x t => obtain ⟨b, off, e, _⟩ := hA 0 (by simp); cases e
    subst h0
    exact Lib.run_countNil w 0 c 10
  | some a =>
    have := Lib.run_countAt (P := Tryd.prog) w a l.length c (l.map fun x => (x.toNat : Int)) (by simp) (fun i hi => by
      obtain ⟨b, off, e, _, hc⟩ := hA i hi
      cases e
      rw [add_plain, hc]
      simp [List.getD, hi]) 10
    rw [this]
    congr 3
    unfold Lib.countByte Lib.bytesOf lines
    rw [List.map_map]
    have e : ((fun n : Int => UInt8.ofNat n.toNat) ∘ fun x : UInt8 => (x.toNat : Int)) = id := by
      funext x
      simp
    rw [e, List.map_id]
    rfl

set_option maxHeartbeats 1000000 in
theorem bytesCount_any (A : Option Addr) (l : List UInt8) (c b2 d : Nat) (w : World) (hA : Bs w A l) (hc2 : w.cell? ⟨b2, 0, none⟩ = some (.int .u8 10)) :
    Calls Tryd.prog 52 #[.slice A l.length c, .slice (some ⟨b2, 0, none⟩) 1 d] w fun e w' => e = .returned (.int .i64 (lines l)) ∧ w' = w := by
  have hrun := run_count w A l c hA
  go_enter Tryd.func52, Tryd.ntmps52
  go_wp2
  rw [run_callFunc_extern Tryd.func71 (by kernel_rfl) (by kernel_rfl) (by kernel_rfl) (e := Extern.BytealgCount.count) (by kernel_rfl), hrun]
  simp only [Result.andThen]
  rw [Oper.upon_value]
  go_wp2
  go_ret
  exact ⟨rfl, rfl⟩

set_option maxHeartbeats 1000000 in
theorem measOf_any (A : Option Addr) (l : List UInt8) (c : Nat) (w : World) (hl : l.length ≤ c) (hc9 : c ≤ 9223372036854775807) (hT : Tab w) (hA : Bs w A l) :
    Calls Tryd.prog 26 #[.slice A l.length c] w fun e w' => e = .returned (meas (mB l) (mR l) (mL l)) ∧ Below w.heap.size w w' := by
  have hb0 := (Below.refl w.heap.size w).alloc (Nat.le_refl _) (.cells #[.int .i64 0, .int .i64 0, .int .i64 0] 35)
  have hT0 := hT.below hb0
  have hA0 := hA.below hb0
  by_cases ht : isText l = true
  · have h1 : mB l = l.length ∧ mR l = runeCount l ∧ mL l = lines l := by unfold mB mR mL; simp [ht]
    have H1 := Lib.hid h1
    have HTX := Lib.hid ht
    have hbd := m_bd l
    obtain ⟨q, hq⟩ : ∃ q, runeCount l = q := ⟨_, rfl⟩
    have HQ := Lib.hid hq
    clear h1 ht hq
    go_enter Tryd.func26, Tryd.ntmps26
    go_wp2_with fail
    refine (textOk_any A l c _ hl hc9 (by exact hT0) (by exact hA0)).mono ?_
    rintro e w1 ⟨rfl, n1, rfl⟩
    rw [HTX.out]
    go_wp2_with fail
    refine (runeCount_any A l c _ hl hc9 (by exact hT0) (by exact hA0)).mono ?_
    rintro e w2 ⟨rfl, n2, rfl⟩
    rw [HQ.out]
    go_wp2_with fail
    refine (bytesCount_any A l c _ _ _ (by refine hA.below ?_; (repeat (first | exact Below.refl _ _ | assumption | refine Below.setCell ?_ (by first | (simp; done) | (simp; omega) | omega) _ | refine Below.drew ?_ | refine below_drewN ?_ _ | refine Below.alloc ?_ (by first | (simp; done) | (simp; omega) | omega) _))) (by go_simp)).mono ?_
    rintro e w3 ⟨rfl, rfl⟩
    go_wp2
    refine bodyPost_ret (v := meas l.length q (lines l)) (by simp [results, Tryd.results26, go_sem, meas]) rfl ⟨?_, ?_⟩
    · rw [H1.out.1, H1.out.2.1, H1.out.2.2, HQ.out]
    · (repeat (first | exact Below.refl _ _ | assumption | refine Below.setCell ?_ (by first | (simp; done) | (simp; omega) | omega) _ | refine Below.drew ?_ | refine below_drewN ?_ _ | refine Below.alloc ?_ (by first | (simp; done) | (simp; omega) | omega) _))
  · have hf : isText l = false := by simpa using ht
    have h1 : mB l = 0 ∧ mR l = 0 ∧ mL l = 0 := by unfold mB mR mL; simp [hf]
    have H1 := Lib.hid h1
    have HTX := Lib.hid hf
    clear h1 hf ht
    go_enter Tryd.func26, Tryd.ntmps26
    go_wp2_with fail
    refine (textOk_any A l c _ hl hc9 (by exact hT0) (by exact hA0)).mono ?_
    rintro e w1 ⟨rfl, n1, rfl⟩
    rw [HTX.out]
    go_wp2
    refine bodyPost_ret (v := meas 0 0 0) (by simp [results, Tryd.results26, go_sem, meas]) rfl ⟨?_, ?_⟩
    · rw [H1.out.1, H1.out.2.1, H1.out.2.2]
    · (repeat (first | exact Below.refl _ _ | assumption | refine Below.setCell ?_ (by first | (simp; done) | (simp; omega) | omega) _ | refine Below.drew ?_ | refine below_drewN ?_ _ | refine Below.alloc ?_ (by first | (simp; done) | (simp; omega) | omega) _))
end Go.Proofs.YthnahenpnafkmaaDoor
