/-
  Texts of one claim in one: Open0, C05, Open6b, Open7, R04, Cur9, EB, Cur10, Cur13, Cur20, Cur21, Cur22, C22, P23, I28, WFnLeaseBook. Own work.
-/
import Derived.Test.YtgbmobepnhhldaaLaw0
import Derived.Deep.Slices
import Derived.Deep.Fields
import Derived.ChangeSame
import Derived.Test.YtgbmobepnhhldaaSz
import Derived.Test.YtgbmobepnhhldaaMark
import Derived.Test.YtgbmobepnhhldaaBs
import Derived.Test.YtgbmobepnhhldaaBlk
import Derived.ProofKit
import Derived.OpenShut
import Derived.OpenVars
import Derived.ChangeOld
import Derived.Deep.DeepHandedRow
import Derived.Test.YtgbmobepnhhldaaI02f
import Derived.Test.YtgbmobepnhhldaaI02g
import Derived.Test.YtgbmobepnhhldaaC04
import Derived.Test.YtgbmobepnhhldaaS02b
import Derived.Test.YtgbmobepnhhldaaP04
import Derived.Test.YtgbmobepnhhldaaS01
import Derived.BigQuiet
import Derived.Deep.QuietTactic
import Derived.Test.YtgbmobepnhhldaaCur6
import Derived.Test.YtgbmobepnhhldaaI01f
import Derived.Test.YtgbmobepnhhldaaApp
import Derived.Deep.RegionHeld3
import Derived.Deep.DeepCutAuto
import Derived.Test.YtgbmobepnhhldaaC10
import Derived.Test.YtgbmobepnhhldaaS16
import Derived.Test.YtgbmobepnhhldaaP14
import Derived.Test.YtgbmobepnhhldaaS11
import Derived.Test.YtgbmobepnhhldaaS14
import Derived.Test.YtgbmobepnhhldaaI23
import Derived.Test.YtgbmobepnhhldaaS15
import Derived.Test.YtgbmobepnhhldaaI14
import Derived.Test.YtgbmobepnhhldaaI12

/-
  Arguments opened: what the form's reading of an argument says in the words of the layouts. Own work.
-/
namespace Go.Proofs.Ytgbmobepnhhldaa
open Go.ChangeShapes Go.WideShapes Go.ChangeAt Go.RowKit Go.Deep P
set_option linter.unusedVariables false

section
variable {H : Type} {enc : TypeId × Value → H} {w : World} {base : Nat} {spare : Nat → Bool} {held : Bool}

/-- Whatever reads as data of type t reads in layout L. -/
def Reads {α : Type} (enc : TypeId × Value → H) (w : World) (base : Nat) (spare : Nat → Bool) (held : Bool) (t : TypeId) (L : Lay α) : Prop :=
  ∀ (fuel : Nat) (cs : List Value) (x : DataW H × List MemPlace), DataW.trod enc Try.prog w base spare held fuel t cs = some x → ∃ d, L.rd w cs d

theorem reads_bytes (hsp : ∀ b, spare b = true) : Reads enc w base spare held 22 Lay.bytes := by
  intro fuel cs x hf
  have hrow : ∃ A len cap zs, cs = [.slice A len cap] ∧ IsRow .u8 w A len cap zs := by
    rcases open_ints Try.underlying22 Try.underlying5 (by kernel_rfl) hf with ⟨hcs, _⟩ | ⟨x, l, c, zs, hcs, _, hl, hm, hz, _, hcell, hwz⟩
    · exact ⟨_, _, _, [], hcs, .inl ⟨rfl, rfl, rfl, rfl⟩⟩
    · exact ⟨_, _, _, zs, hcs, .inr ⟨_, rfl, hl, hm, by rw [hz, if_pos (hsp _)], hcell, hwz⟩⟩
  obtain ⟨A, len, cap, zs, rfl, hr⟩ := hrow
  obtain ⟨l, rfl, h1, h2, h3⟩ := bs_of_row hr
  exact ⟨l, A, cap, rfl, h1, h2, h3⟩

theorem reads_int : Reads enc w base spare held 3 Lay.int := by
  intro fuel cs x hf
  obtain ⟨n, rfl, _, hw⟩ := DataW.trod_int Try.underlying3 hf
  exact ⟨n, rfl, by simpa [Lit.wf, IntKind.min, IntKind.max, IntKind.signed, IntKind.bits] using hw⟩

theorem choose_list {α : Type} {Q : Nat → α → Prop} : ∀ n, (∀ i, i < n → ∃ d, Q i d) → ∃ l : List α, l.length = n ∧ ∀ i (h : i < l.length), Q i l[i] := by
  intro n
  induction n with
  | zero => intro _; exact ⟨[], rfl, fun i h => by simp at h⟩
  | succ n ih =>
    intro h
    obtain ⟨l, hl, hq⟩ := ih (fun i hi => h i (by omega))
    obtain ⟨d, hd⟩ := h n (by omega)
    refine ⟨l ++ [d], by simp [hl], fun i hi => ?_⟩
    by_cases e : i < l.length
    · rw [List.getElem_append_left e]; exact hq i e
    · have : i = n := by simp at hi; omega
      subst this
      rw [List.getElem_append_right (by omega)]
      simpa [hl] using hd

theorem reads_slice {α : Type} {t e T : TypeId} {E : Lay α} (ht : Try.prog.underlying t = some (.slice e)) (hC : Try.prog.cellsOf e = E.sz) (hpos : 0 < E.sz) (he : Reads enc w base spare held e E) : Reads enc w base spare held t (Lay.slice T E) := by
  intro fuel cs x hf
  rcases open_slice ht hf with ⟨rfl, _⟩ | ⟨a, len, cap, m, n, D, Pl, rfl, hb, hl, hm, hmm, hx, hi⟩
  · exact ⟨[], none, 0, rfl, Nat.le_refl _, by unfold maxLen; omega, Sl.nil _ _ _ _⟩
  · have hlm : len ≤ m := by rw [hmm]; split <;> omega
    have key : ∀ i, i < len → ∃ d, ∃ us : List Value, us.length = E.sz ∧ (∀ j (hj : j < us.length), w.cell? (a.add (i * E.sz + j)) = some us[j]) ∧ E.rd w us d := by
      intro i hil
      obtain ⟨us, hc, ht'⟩ := hi i (by omega)
      rw [hC] at hc
      obtain ⟨_, hcl, hat⟩ := World.cells?_some hc
      obtain ⟨d, hd⟩ := he n us _ ht'
      refine ⟨d, us, hcl, fun j hj => ?_, hd⟩
      have := hat j (by omega)
      rw [add_add] at this
      rw [this, List.getElem?_eq_getElem hj]
    obtain ⟨l, rfl, hl2⟩ := choose_list len key
    refine ⟨l, some a, cap, rfl, hl, hm, fun k hk => ?_⟩
    obtain ⟨us, hus, hc, hr⟩ := hl2 k hk
    have hc0 := hc 0 (by omega)
    obtain ⟨us0, hus0, hc00, _⟩ := hl2 0 (by omega)
    have hspot := World.cell?_spot (hc00 0 (by omega))
    obtain ⟨b, off, spot⟩ := a
    have hs : spot = none := by simpa [Addr.add] using hspot
    subst hs
    refine ⟨b, off, us, rfl, ?_, hus, fun j hj => ?_, hr⟩
    · rw [add_plain] at hc0
      exact World.block_lt_of_cell? w _ hc0
    · rw [← add_plain]; exact hc j hj

/-- A struct of one field. -/
theorem reads_struct1 {α : Type} {t : TypeId} {f : Field} {L : Lay α} (ht : Try.prog.underlying t = some (.struct #[f])) (ho : f.offset = 0) (hC : Try.prog.cellsOf f.type = Try.prog.cellsOf t) (he : Reads enc w base spare held f.type L) : Reads enc w base spare held t L := by
  intro fuel cs x hf
  obtain ⟨xs, n, _, hx, hlen, hxl, hg⟩ := DataW.trod_struct ht hf
  have h0 := hg 0 f rfl
  rw [ho, List.drop_zero, hC, List.take_of_length_le (by omega)] at h0
  obtain ⟨y, hy⟩ : ∃ y, xs[0]? = some y := ⟨xs[0]'(by rw [hxl]; simp), List.getElem?_eq_getElem (by rw [hxl]; simp)⟩
  rw [hy] at h0
  exact he n cs y h0

end
end Go.Proofs.Ytgbmobepnhhldaa

/-
  Chapter 5, the laws' helpers on edits: contracts. Own work.
-/
namespace Go.Proofs.Ytgbmobepnhhldaa
open Go.RowKit P
set_option linter.unusedVariables false

/-- An edit in cells: where, how many, what. -/
def Lay.edit : Lay (Int × Int × List UInt8) := Lay.pair Lay.int (Lay.pair Lay.int Lay.bytes)

/-- The cells of an edit. -/
def edC (a m : Int) (A : Option Addr) (n c : Nat) : Array Value := #[.int .i64 a, .int .i64 m, .slice A n c]

theorem bsk1 (w : World) (o : Obj) : Below w.heap.size w (w.alloc o) := (Below.refl w.heap.size w).alloc (Nat.le_refl _) o
theorem bsk2 (w : World) (o : Obj) : Below w.heap.size w (w.drew.alloc o) := (Below.refl w.heap.size w).drew.alloc (Nat.le_refl _) o
theorem bsk3 (w : World) (o : Obj) : Below w.heap.size w (w.alloc o).drew := ((Below.refl w.heap.size w).alloc (Nat.le_refl _) o).drew
theorem bsk4 (w : World) : Below w.heap.size w w.drew := (Below.refl w.heap.size w).drew
theorem below_skip {w w' : World} {o : Obj} (h : Below (w.alloc o).heap.size (w.alloc o) w') : Below w.heap.size w w' := below_then (bsk1 w o) h
theorem below_skipd {w w' : World} {o : Obj} (h : Below (w.drew.alloc o).heap.size (w.drew.alloc o) w') : Below w.heap.size w w' := below_then (bsk2 w o) h
theorem below_skipe {w w' : World} {o : Obj} (h : Below (w.alloc o).drew.heap.size (w.alloc o).drew w') : Below w.heap.size w w' := below_then (bsk3 w o) h
theorem below_undr {w w' : World} (h : Below w.drew.heap.size w.drew w') : Below w.heap.size w w' := below_then (bsk4 w) h
theorem blk_skip {w w' : World} {cs : Array Value} {T : TypeId} (h : Below (w.alloc (.cells cs T)).heap.size (w.alloc (.cells cs T)) w') : Blk w' w.heap.size cs T := (Blk.new w cs T).below h
theorem blk_skipd {w w' : World} {cs : Array Value} {T : TypeId} (h : Below (w.drew.alloc (.cells cs T)).heap.size (w.drew.alloc (.cells cs T)) w') : Blk w' w.heap.size cs T := (Blk.new w.drew cs T).below h
theorem blk_skipe {w w' : World} {cs : Array Value} {T : TypeId} (h : Below (w.alloc (.cells cs T)).drew.heap.size (w.alloc (.cells cs T)).drew w') : Blk w' w.heap.size cs T := Blk.below (w := (w.alloc (.cells cs T)).drew) (Blk.new w cs T) h
theorem Blk.setFar9 {w : World} {b d : Nat} {cs : Array Value} {t : TypeId} (h : Blk w b cs t) (hne : b ≠ d) (i : Nat) (u : Value) : Blk (w.setCell ⟨d, i, none⟩ u) b cs t := h.of_block (Below.heap_setCell w ⟨d, i, none⟩ u b (fun e => hne (by simpa using e)))
theorem own_bs9 {w : World} {base : Nat} {A : Option Addr} {n c : Nat} {l : List UInt8} (h : Own w base (.slice A n c) l) : Bs w A l := by
  obtain ⟨A', c', e, _, _, hB⟩ := h.form
  simp only [Value.slice.injEq] at e
  rw [e.1]
  exact hB

end Go.Proofs.Ytgbmobepnhhldaa

/-
  Edits opened as arguments. Own work.
-/
namespace Go.Proofs.Ytgbmobepnhhldaa
open Go.ChangeShapes Go.WideShapes Go.ChangeAt Go.RowKit Go.Deep P
set_option linter.unusedVariables false
set_option maxRecDepth 100000

section
variable {H : Type} {enc : TypeId × Value → H} {w : World} {base : Nat} {spare : Nat → Bool} {held : Bool}

/-- A struct of three fields of one cell each. -/
theorem reads_struct3 {α β γ : Type} {t : TypeId} {f0 f1 f2 : Field} {K : Lay α} {L : Lay β} {M : Lay γ} (ht : Try.prog.underlying t = some (.struct #[f0, f1, f2])) (h0 : f0.offset = 0) (h1 : f1.offset = 1) (h2 : f2.offset = 2)
    (c0 : Try.prog.cellsOf f0.type = 1) (c1 : Try.prog.cellsOf f1.type = 1) (c2 : Try.prog.cellsOf f2.type = 1) (hC : Try.prog.cellsOf t = 3)
    (r0 : Reads enc w base spare held f0.type K) (r1 : Reads enc w base spare held f1.type L) (r2 : Reads enc w base spare held f2.type M) : Reads enc w base spare held t (Lay.pair K (Lay.pair L M)) := by
  intro fuel cs x hf
  obtain ⟨xs, n, _, hx, hlen, hxl, hg⟩ := DataW.trod_struct ht hf
  rw [hC] at hlen
  have hxl' : xs.length = 3 := by rw [hxl]; rfl
  match cs, hlen with
  | [u0, u1, u2], _ =>
    have g0 := hg 0 f0 rfl
    have g1 := hg 1 f1 rfl
    have g2 := hg 2 f2 rfl
    rw [h0, c0] at g0
    rw [h1, c1] at g1
    rw [h2, c2] at g2
    obtain ⟨y0, hy0⟩ : ∃ y, xs[0]? = some y := ⟨xs[0]'(by omega), List.getElem?_eq_getElem (by omega)⟩
    obtain ⟨y1, hy1⟩ : ∃ y, xs[1]? = some y := ⟨xs[1]'(by omega), List.getElem?_eq_getElem (by omega)⟩
    obtain ⟨y2, hy2⟩ : ∃ y, xs[2]? = some y := ⟨xs[2]'(by omega), List.getElem?_eq_getElem (by omega)⟩
    rw [hy0] at g0
    rw [hy1] at g1
    rw [hy2] at g2
    obtain ⟨d0, e0⟩ := r0 n [u0] y0 g0
    obtain ⟨d1, e1⟩ := r1 n [u1] y1 g1
    obtain ⟨d2, e2⟩ := r2 n [u2] y2 g2
    exact ⟨(d0, d1, d2), [u0], [u1, u2], rfl, e0, [u1], [u2], rfl, e1, e2⟩

end

/-- An edit in cells. -/
theorem Lay.edit_rd {w : World} {cs : List Value} {d : Int × Int × List UInt8} (h : Lay.edit.rd w cs d) : ∃ A c, cs = [.int .i64 d.1, .int .i64 d.2.1, .slice A d.2.2.length c] ∧ (-9223372036854775808 ≤ d.1 ∧ d.1 ≤ 9223372036854775807) ∧ (-9223372036854775808 ≤ d.2.1 ∧ d.2.1 ≤ 9223372036854775807) ∧ d.2.2.length ≤ c ∧ c ≤ maxLen ∧ Bs w A d.2.2 := by
  obtain ⟨c1, c2, rfl, ⟨rfl, ha⟩, c3, c4, rfl, ⟨rfl, hm⟩, A, c, rfl, h1, h2, hB⟩ := h
  exact ⟨A, c, rfl, ha, hm, h1, h2, hB⟩
end Go.Proofs.Ytgbmobepnhhldaa

/-
  Lists of edits, and selections, opened as arguments. Own work.
-/
namespace Go.Proofs.Ytgbmobepnhhldaa
open Go.ChangeShapes Go.WideShapes Go.ChangeAt Go.RowKit Go.Deep P
set_option linter.unusedVariables false
set_option maxRecDepth 100000

section
variable {H : Type} {enc : TypeId × Value → H} {w : World} {base : Nat} {spare : Nat → Bool} {held : Bool}

/-- A struct of two fields of one cell each. -/
theorem reads_struct2 {α β : Type} {t : TypeId} {f0 f1 : Field} {K : Lay α} {L : Lay β} (ht : Try.prog.underlying t = some (.struct #[f0, f1])) (h0 : f0.offset = 0) (h1 : f1.offset = 1)
    (c0 : Try.prog.cellsOf f0.type = 1) (c1 : Try.prog.cellsOf f1.type = 1) (hC : Try.prog.cellsOf t = 2)
    (r0 : Reads enc w base spare held f0.type K) (r1 : Reads enc w base spare held f1.type L) : Reads enc w base spare held t (Lay.pair K L) := by
  intro fuel cs x hf
  obtain ⟨xs, n, _, hx, hlen, hxl, hg⟩ := DataW.trod_struct ht hf
  rw [hC] at hlen
  have hxl' : xs.length = 2 := by rw [hxl]; rfl
  match cs, hlen with
  | [u0, u1], _ =>
    have g0 := hg 0 f0 rfl
    have g1 := hg 1 f1 rfl
    rw [h0, c0] at g0
    rw [h1, c1] at g1
    obtain ⟨y0, hy0⟩ : ∃ y, xs[0]? = some y := ⟨xs[0]'(by omega), List.getElem?_eq_getElem (by omega)⟩
    obtain ⟨y1, hy1⟩ : ∃ y, xs[1]? = some y := ⟨xs[1]'(by omega), List.getElem?_eq_getElem (by omega)⟩
    rw [hy0] at g0
    rw [hy1] at g1
    obtain ⟨d0, e0⟩ := r0 n [u0] y0 g0
    obtain ⟨d1, e1⟩ := r1 n [u1] y1 g1
    exact ⟨(d0, d1), [u0], [u1], rfl, e0, e1⟩

end
end Go.Proofs.Ytgbmobepnhhldaa

/-
  Chapter 4, the program's RopeOk, RopeText, RopeMeas, RopeOf: contracts. Own work.
  Chapter 4, the model's RopeOk, RopeText, RopeMeas: contracts. Own work.
  Chapter 4, the model's l04Cut, RopeLine: contracts. Own work.
  Chapter 4, the model's RopeLine: contract. Own work.
  Chapter 4, the program's cutsOk, RopeLine: contracts. Own work.
  Chapter 4, the program's RopeLine: contract. Own work.
  Chapter 4, the model's l04Stands: contract. Own work.
-/
namespace Go.Proofs.Ytgbmobepnhhldaa
open Go.RowKit P
set_option linter.unusedVariables false
set_option maxRecDepth 100000


end Go.Proofs.Ytgbmobepnhhldaa

namespace Go.Proofs.Ytgbmobepnhhldaa
open Go.RowKit P
set_option linter.unusedVariables false
set_option maxRecDepth 100000

end Go.Proofs.Ytgbmobepnhhldaa

namespace Go.Proofs.Ytgbmobepnhhldaa
open Go.RowKit P
set_option linter.unusedVariables false
set_option maxRecDepth 100000

theorem slice_part2 (A : Option Addr) (n c i : Nat) (w : World) (l : List UInt8) (hA : A = none → c = 0) (hp : ∀ a, A = some a → ∃ g o, a = ⟨g, o, none⟩) (hn : l.length = n) (hi : i ≤ n) (hc : n ≤ c) (hc9 : c ≤ 9223372036854775807) (hB : Bs w A l) :
    ∃ A', (∀ W, (Instr.slice 22 (.slice A n c) (some (.int .i64 (i : Int))) none none).run Try.prog W = .ok (.slice A' (n - i) (c - i)) W) ∧ Bs w A' (l.drop i) ∧ (A' = none → c - i = 0) ∧ (∀ a, A' = some a → ∃ g o, a = ⟨g, o, none⟩) := by
  have hz : ∀ W, (Go.sizeOf 5).run Try.prog W = .ok 1 W := fun W => by kernel_rfl
  have ht' : Try.prog.underlying 22 = some (.slice (Try.prog.elem 22)) := by simp [Program.elem, Try.underlying22]
  have he : Try.prog.elem 22 = 5 := by simp [Program.elem, Try.underlying22]
  cases A with
  | none =>
    have h0 := hA rfl
    subst h0
    refine ⟨none, fun W => ?_, fun k hk => by rw [List.length_drop] at hk; omega, fun _ => by omega, fun _ h => by cases h⟩
    rw [run_slice_l W 22 _ _ _ ht' .i64 _ (by omega) (by omega), he, hz]
    simp [Result.andThen, sliced]
  | some x =>
    obtain ⟨g, o, rfl⟩ := hp x rfl
    refine ⟨some (if c = i then ⟨g, o, none⟩ else ⟨g, o + i, none⟩), fun W => ?_, ?_, (fun h => by cases h), fun a h => by cases h; split <;> exact ⟨_, _, rfl⟩⟩
    · rw [run_slice_l W 22 _ _ _ ht' .i64 _ (by omega) (by omega), he, hz]
      by_cases h0 : c = i
      · simp [Result.andThen, sliced, h0]
      · by_cases h1 : i = 0
        · subst h1; simp [Result.andThen, sliced, Addr.add, h0]
        · simp [Result.andThen, sliced, Addr.add, h0, h1]
    · by_cases h0 : c = i
      · intro k hk
        rw [List.length_drop] at hk
        omega
      · rw [if_neg h0]
        have := Bs.sub hB i (l.length - i)
        rw [List.take_of_length_le (by rw [List.length_drop]; omega)] at this
        exact this
theorem slice_part (A : Option Addr) (n c i : Nat) (w : World) (l : List UInt8) (hA : A = none → c = 0) (hp : ∀ a, A = some a → ∃ g o, a = ⟨g, o, none⟩) (hn : l.length = n) (hi : i ≤ n) (hc : n ≤ c) (hc9 : c ≤ 9223372036854775807) (hB : Bs w A l) :
    ∃ A', (∀ W, (Instr.slice 22 (.slice A n c) (some (.int .i64 (i : Int))) none none).run Try.prog W = .ok (.slice A' (n - i) (c - i)) W) ∧ Bs w A' (l.drop i) :=
  let ⟨A', h1, h2, _, _⟩ := slice_part2 A n c i w l hA hp hn hi hc hc9 hB
  ⟨A', h1, h2⟩
end Go.Proofs.Ytgbmobepnhhldaa

namespace Go.Proofs.Ytgbmobepnhhldaa
open Go.RowKit P
set_option linter.unusedVariables false
set_option maxRecDepth 100000

theorem ten_eq {x : UInt8} (h : x = 10) : ((x.toNat : Int) == 10) = true := by subst h; rfl
theorem ten_ne {x : UInt8} (h : x ≠ 10) : ((x.toNat : Int) == 10) = false := by
  rw [beq_eq_false_iff_ne]
  intro e
  apply h
  apply UInt8.toNat_inj.1
  have : (10 : UInt8).toNat = 10 := rfl
  omega

end Go.Proofs.Ytgbmobepnhhldaa

namespace Go.Proofs.Ytgbmobepnhhldaa
open Go.RowKit P
set_option linter.unusedVariables false
set_option maxRecDepth 100000

theorem ret_i64 {a b : Int} (h : a = b) : Ending.returned (.int .i64 a) = .returned (.int .i64 b) := by rw [h]

end Go.Proofs.Ytgbmobepnhhldaa

namespace Go.Proofs.Ytgbmobepnhhldaa
open Go.RowKit P
set_option linter.unusedVariables false
set_option maxRecDepth 100000

/-- Own bytes: nil, or a block of their own. -/
theorem Own.form2 {w : World} {base : Nat} {v : Value} {l : List UInt8} (h : Own w base v l) : ∃ A c, v = .slice A l.length c ∧ l.length ≤ c ∧ c ≤ 9223372036854775807 ∧ Bs w A l ∧ (A = none → c = 0) ∧ (∀ x, A = some x → ∃ g o, x = ⟨g, o, none⟩) := by
  obtain ⟨A, c, hv, h1, h2, hB⟩ := h.form
  refine ⟨A, c, hv, h1, by unfold maxLen at h2; omega, hB, ?_, ?_⟩
  · intro hA
    rcases h.2 with ⟨e, _⟩ | ⟨g, cap, cur, e, _⟩
    · rw [hv] at e; simp only [Value.slice.injEq] at e; exact e.2.2
    · rw [hv] at e; simp only [Value.slice.injEq] at e; rw [hA] at e; exact absurd e.1 (by simp)
  · intro x hx
    rcases h.2 with ⟨e, _⟩ | ⟨g, cap, cur, e, _⟩
    · rw [hv] at e; simp only [Value.slice.injEq] at e; rw [hx] at e; exact absurd e.1 (by simp)
    · rw [hv] at e; simp only [Value.slice.injEq] at e; rw [hx] at e; exact ⟨g, 0, Option.some.inj e.1⟩

/-- 's[:k]' of bytes. -/
theorem slice_head (A : Option Addr) (n c k : Nat) (hA : A = none → c = 0) (hp : ∀ x, A = some x → ∃ g o, x = ⟨g, o, none⟩) (hk : k ≤ c) :
    ∀ W, (Instr.slice 22 (.slice A n c) none (some (.int .i64 (k : Int))) none).run Try.prog W = .ok (.slice A k c) W := by
  intro W
  have hz : ∀ W, (Go.sizeOf 5).run Try.prog W = .ok 1 W := fun W => by kernel_rfl
  have ht' : Try.prog.underlying 22 = some (.slice (Try.prog.elem 22)) := by simp [Program.elem, Try.underlying22]
  have he : Try.prog.elem 22 = 5 := by simp [Program.elem, Try.underlying22]
  rw [run_slice_h W 22 _ _ _ ht' .i64 _ (by omega) (by omega), he, hz]
  cases A with
  | none =>
    have h0 := hA rfl
    subst h0
    have : k = 0 := by omega
    subst this
    simp [Result.andThen, sliced]
  | some x =>
    obtain ⟨g, o, rfl⟩ := hp x rfl
    simp [Result.andThen, sliced, Addr.add]

theorem Bs.head {w : World} {A : Option Addr} {l : List UInt8} (h : Bs w A l) (k : Nat) (hk : k ≤ l.length) : Bs w A (l.take k) := by
  intro j hj
  rw [List.length_take] at hj
  obtain ⟨b, off, hA, hlt, hc⟩ := h j (by omega)
  refine ⟨b, off, hA, hlt, ?_⟩
  rw [hc, List.getElem_take]

end Go.Proofs.Ytgbmobepnhhldaa

namespace Go.Proofs.Ytgbmobepnhhldaa
open Go.RowKit P
set_option linter.unusedVariables false
set_option maxRecDepth 100000

/-- 's[i:i+m]' of bytes. -/
theorem slice_mid (A : Option Addr) (n c i m : Nat) (w : World) (l : List UInt8) (hA : A = none → c = 0) (hp : ∀ a, A = some a → ∃ g o, a = ⟨g, o, none⟩) (hn : l.length = n) (hi : i + m ≤ n) (hc : n ≤ c) (hc9 : c ≤ 9223372036854775807) (hB : Bs w A l) :
    ∃ A', (∀ W, (Instr.slice 22 (.slice A n c) (some (.int .i64 (i : Int))) (some (.int .i64 ((i : Int) + (m : Int)))) none).run Try.prog W = .ok (.slice A' m (c - i)) W) ∧ Bs w A' ((l.drop i).take m) := by
  have hz : ∀ W, (Go.sizeOf 5).run Try.prog W = .ok 1 W := fun W => by kernel_rfl
  have ht' : Try.prog.underlying 22 = some (.slice (Try.prog.elem 22)) := by simp [Program.elem, Try.underlying22]
  have he : Try.prog.elem 22 = 5 := by simp [Program.elem, Try.underlying22]
  have htn : ((i : Int) + (m : Int)).toNat = i + m := by omega
  cases A with
  | none =>
    have h0 := hA rfl
    subst h0
    refine ⟨none, fun W => ?_, fun k hk => by rw [List.length_take, List.length_drop] at hk; omega⟩
    rw [run_slice_lh W 22 _ _ _ ht' .i64 .i64 _ _ (by omega) (by omega) (by omega), he, hz]
    have : i = 0 := by omega
    have : m = 0 := by omega
    subst i; subst m
    simp [Result.andThen, sliced]
  | some x =>
    obtain ⟨g, o, rfl⟩ := hp x rfl
    refine ⟨some (if c = i then ⟨g, o, none⟩ else ⟨g, o + i, none⟩), fun W => ?_, ?_⟩
    · rw [run_slice_lh W 22 _ _ _ ht' .i64 .i64 _ _ (by omega) (by omega) (by omega), he, hz]
      have hm : i + m - i = m := by omega
      by_cases h0 : c = i
      · simp [Result.andThen, sliced, h0, htn, hm]
      · by_cases h1 : i = 0
        · subst h1; simp [Result.andThen, sliced, Addr.add, h0]
        · simp [Result.andThen, sliced, Addr.add, h0, h1, htn, hm]
    · by_cases h0 : c = i
      · intro k hk
        rw [List.length_take, List.length_drop] at hk
        omega
      · rw [if_neg h0]
        exact Bs.sub hB i m

end Go.Proofs.Ytgbmobepnhhldaa

/-
  The draws' cursor: ropes, places of a rope: contracts. Own work.
-/
namespace Go.Proofs.Ytgbmobepnhhldaa
open Go.RowKit P
set_option linter.unusedVariables false

/-- Chunks that can be read, whatever becomes of what lies below base. -/
def Far (base : Nat) (w : World) (A : Option Addr) (L : List (List UInt8)) (c : Nat) : Prop :=
  L.length ≤ c ∧ c ≤ maxLen ∧ ∀ w' : World, (∀ k, base ≤ k → k < w.heap.size → w'.heap[k]? = w.heap[k]?) → w.heap.size ≤ w'.heap.size → Cs w' A L
theorem Far.keep {base : Nat} {w w' : World} {A : Option Addr} {L : List (List UInt8)} {c : Nat} (h : Far base w A L c) (hk : ∀ k, base ≤ k → k < w.heap.size → w'.heap[k]? = w.heap[k]?) (hs : w.heap.size ≤ w'.heap.size) : Far base w' A L c :=
  ⟨h.1, h.2.1, fun x hx hz => h.2.2 x (fun k h1 h2 => (hx k h1 (by omega)).trans (hk k h1 h2)) (by omega)⟩
theorem Far.only {base g : Nat} {w w' : World} {A : Option Addr} {L : List (List UInt8)} {c : Nat} (h : Far base w A L c) (hg : g < base) (ho : Only g w w') : Far base w' A L c := h.keep (fun k h1 h2 => ho.block k h2 (fun e => by injection e; omega)) ho.size
theorem Far.cs {base : Nat} {w : World} {A : Option Addr} {L : List (List UInt8)} {c : Nat} (h : Far base w A L c) : Cs w A L := h.2.2 w (fun _ _ _ => rfl) (Nat.le_refl _)
theorem Far.below {base : Nat} {w w' : World} {A : Option Addr} {L : List (List UInt8)} {c : Nat} (h : Far base w A L c) (hb : Below w.heap.size w w') : Far base w' A L c := h.keep (fun k _ h2 => hb.block k h2) hb.size
theorem Far.setNew {base : Nat} {w : World} {A : Option Addr} {L : List (List UInt8)} {c : Nat} (h : Far base w A L c) {b : Nat} (hb : b < base) (i : Nat) (u : Value) : Far base (w.setCell ⟨b, i, none⟩ u) A L c :=
  h.keep (fun k h1 _ => Below.heap_setCell w ⟨b, i, none⟩ u k (fun e => by simp at e; omega)) (by simp [World.setCell])
theorem Far.mono {base base' : Nat} {w : World} {A : Option Addr} {L : List (List UInt8)} {c : Nat} (h : Far base w A L c) (hb : base' ≤ base) : Far base' w A L c := ⟨h.1, h.2.1, fun x hx hz => h.2.2 x (fun k h1 h2 => hx k (by omega) h2) hz⟩
/-- What a draw of a rope ends in. -/
def DrawsR (g N : Nat) (w : World) (e : Ending) (w' : World) : Prop :=
  ∃ A c L, e = .returned (.agg #[.slice A L.length c]) ∧ Far w.heap.size w' A L c ∧ L.length ≤ 400 ∧ (∀ x ∈ L, x.length ≤ 401) ∧ Cur w' g N ∧ Only g w w'

theorem Blk.only {g b : Nat} {w w' : World} {cs : Array Value} {t : TypeId} (h : Blk w b cs t) (ho : Only g w w') (hb : b ≠ g) : Blk w' b cs t := h.of_block (ho.block b h.lt (fun e => hb (by injection e)))

theorem chunksOf_len (l : List UInt8) : (chunksOf l).length ≤ 400 ∧ ∀ x ∈ chunksOf l, x.length ≤ 401 := by
  have h := chunksOf_ok l
  refine ⟨chunksOk_len h, fun x hx => ?_⟩
  obtain ⟨k, hk, rfl⟩ := List.mem_iff_getElem.1 hx
  have h1 := tot_mem (ls := chunksOf l) k hk
  have h2 := chunksOk_tot h
  omega

theorem Only.setNew {g : Nat} {a w : World} (h : Only g a w) {b : Nat} (hb : a.heap.size ≤ b) (i : Nat) (u : Value) : Only g a (w.setCell ⟨b, i, none⟩ u) :=
  ⟨h.os, h.tape, h.output, by simpa [World.setCell] using h.size, fun k hk hne => (Below.heap_setCell w ⟨b, i, none⟩ u k (fun e => by simp at e; omega)).trans (h.block k hk hne)⟩
theorem Cur.setNew {w : World} {g N : Nat} (h : Cur w g N) {b : Nat} (hb : g < b) (i : Nat) (u : Value) : Cur (w.setCell ⟨b, i, none⟩ u) g N :=
  h.keep (fun k hk => Below.heap_setCell w ⟨b, i, none⟩ u k (fun e => by simp at e; omega)) (by simp [World.setCell])
theorem Lay.set {α : Type} (L : Lay α) {w : World} {cs : List Value} {x : α} {fp : List Nat} (h : L.ow w cs x fp) {b : Nat} (hb : b ∉ fp) (i : Nat) (u : Value) : L.ow (w.setCell ⟨b, i, none⟩ u) cs x fp :=
  L.kept h (fun k hk => Below.heap_setCell _ _ _ _ (fun e => hb (by simp at e; exact e ▸ hk))) (by simp [World.setCell])
theorem Blk.setFar {w : World} {b d : Nat} {cs : Array Value} {t : TypeId} (h : Blk w b cs t) (hne : b ≠ d) (i : Nat) (u : Value) : Blk (w.setCell ⟨d, i, none⟩ u) b cs t := h.of_block (Below.heap_setCell w ⟨d, i, none⟩ u b (fun e => hne (by simpa using e)))

theorem cutsOr_bd (l : List UInt8) : (cutsOr l).length ≤ l.length + 1 ∧ ∀ x ∈ cutsOr l, x ≤ l.length := by
  unfold cutsOr cuts
  split
  · refine ⟨by have := List.length_filter_le (fun k : Nat => isBound l k) (List.range (l.length + 1)); simpa using this, fun x hx => ?_⟩
    have := List.mem_range.1 (List.mem_filter.1 hx).1
    omega
  · simp

theorem OwnN.only {w w' : World} {g base : Nat} {v : Value} {l : List Nat} (h : OwnN w base v l) (ho : Only g w w') (hb : g < base) : OwnN w' base v l := by
  refine World.ownsRow.kept (w' := w') (row := some g) h ho ?_
  cases hv : v.ownBlock with
  | none => exact .inl rfl
  | some k => exact .inr (fun e => by injection e with e; have := (World.ownsRow.lt h k hv).1; omega)

/-- What a draw of two places ends in. -/
def Draws2 (g N : Nat) (w : World) (e : Ending) (w' : World) : Prop := ∃ x y : Int, e = .returned (.tuple #[.int .i64 x, .int .i64 y]) ∧ (-9223372036854775808 ≤ x ∧ x ≤ 9223372036854775807) ∧ (-9223372036854775808 ≤ y ∧ y ≤ 9223372036854775807) ∧ Cur w' g N ∧ Only g w w'

end Go.Proofs.Ytgbmobepnhhldaa

/-
  An edit that lies in a variable's block. Own work.
  Slices of slices of bytes: what the parts read as. Own work (kept beside chapter 4's, whose texts are long).
  append of bytes inside a region that draws its order: a step. Own work.
-/
namespace Go.Proofs.Ytgbmobepnhhldaa
open Go.RowKit P
set_option linter.unusedVariables false

/-- The cells of an edit are there. -/
structure EBox (w : World) (b : Nat) (a m : Int) (A : Option Addr) (n c : Nat) : Prop where
  blk : Blk w b #[.int .i64 a, .int .i64 m, .slice A n c] 30
theorem EBox.new (w : World) (a m : Int) (A : Option Addr) (n c : Nat) : EBox (w.alloc (.cells #[.int .i64 a, .int .i64 m, .slice A n c] 30)) w.heap.size a m A n c := ⟨Blk.new w _ _⟩
theorem EBox.below {w w' : World} {b : Nat} {a m : Int} {A : Option Addr} {n c : Nat} (h : EBox w b a m A n c) (hb : Below w.heap.size w w') : EBox w' b a m A n c := ⟨h.blk.below hb⟩
theorem EBox.c0 {w : World} {b : Nat} {a m : Int} {A : Option Addr} {n c : Nat} (h : EBox w b a m A n c) : w.cell? ⟨b, 0, none⟩ = some (.int .i64 a) := h.blk.cell 0
theorem EBox.c1 {w : World} {b : Nat} {a m : Int} {A : Option Addr} {n c : Nat} (h : EBox w b a m A n c) : w.cell? ⟨b, 1, none⟩ = some (.int .i64 m) := h.blk.cell 1
theorem EBox.c2 {w : World} {b : Nat} {a m : Int} {A : Option Addr} {n c : Nat} (h : EBox w b a m A n c) : w.cell? ⟨b, 2, none⟩ = some (.slice A n c) := h.blk.cell 2
theorem EBox.lt {w : World} {b : Nat} {a m : Int} {A : Option Addr} {n c : Nat} (h : EBox w b a m A n c) : b < w.heap.size := h.blk.lt

end Go.Proofs.Ytgbmobepnhhldaa

namespace Go.Proofs.Ytgbmobepnhhldaa
open Go.RowKit P
set_option linter.unusedVariables false
set_option maxRecDepth 100000

theorem slc_tail (A : Option Addr) (n c i : Nat) (w : World) (l : List UInt8) (hA : A = none → c = 0) (hp : ∀ a, A = some a → ∃ g o, a = ⟨g, o, none⟩) (hn : l.length = n) (hi : i ≤ n) (hc : n ≤ c) (hc9 : c ≤ 9223372036854775807) (hB : Bs w A l) :
    ∃ A', (∀ W, (Instr.slice 22 (.slice A n c) (some (.int .i64 (i : Int))) none none).run Try.prog W = .ok (.slice A' (n - i) (c - i)) W) ∧ Bs w A' (l.drop i) ∧ (A' = none → c - i = 0) ∧ (∀ a, A' = some a → ∃ g o, a = ⟨g, o, none⟩) := by
  have hz : ∀ W, (Go.sizeOf 5).run Try.prog W = .ok 1 W := fun W => by kernel_rfl
  have ht' : Try.prog.underlying 22 = some (.slice (Try.prog.elem 22)) := by simp [Program.elem, Try.underlying22]
  have he : Try.prog.elem 22 = 5 := by simp [Program.elem, Try.underlying22]
  cases A with
  | none =>
    have h0 := hA rfl
    subst h0
    refine ⟨none, fun W => ?_, fun k hk => by rw [List.length_drop] at hk; omega, fun _ => by omega, fun _ h => by cases h⟩
    rw [run_slice_l W 22 _ _ _ ht' .i64 _ (by omega) (by omega), he, hz]
    simp [Result.andThen, sliced]
  | some x =>
    obtain ⟨g, o, rfl⟩ := hp x rfl
    refine ⟨some (if c = i then ⟨g, o, none⟩ else ⟨g, o + i, none⟩), fun W => ?_, ?_, (fun h => by cases h), fun a h => by cases h; split <;> exact ⟨_, _, rfl⟩⟩
    · rw [run_slice_l W 22 _ _ _ ht' .i64 _ (by omega) (by omega), he, hz]
      by_cases h0 : c = i
      · simp [Result.andThen, sliced, h0]
      · by_cases h1 : i = 0
        · subst h1; simp [Result.andThen, sliced, Addr.add, h0]
        · simp [Result.andThen, sliced, Addr.add, h0, h1]
    · by_cases h0 : c = i
      · intro k hk
        rw [List.length_drop] at hk
        omega
      · rw [if_neg h0]
        have := Bs.sub hB i (l.length - i)
        rw [List.take_of_length_le (by rw [List.length_drop]; omega)] at this
        exact this

theorem slc_head (A : Option Addr) (n c k : Nat) (hA : A = none → c = 0) (hp : ∀ x, A = some x → ∃ g o, x = ⟨g, o, none⟩) (hk : k ≤ c) :
    ∀ W, (Instr.slice 22 (.slice A n c) none (some (.int .i64 (k : Int))) none).run Try.prog W = .ok (.slice A k c) W := by
  intro W
  have hz : ∀ W, (Go.sizeOf 5).run Try.prog W = .ok 1 W := fun W => by kernel_rfl
  have ht' : Try.prog.underlying 22 = some (.slice (Try.prog.elem 22)) := by simp [Program.elem, Try.underlying22]
  have he : Try.prog.elem 22 = 5 := by simp [Program.elem, Try.underlying22]
  rw [run_slice_h W 22 _ _ _ ht' .i64 _ (by omega) (by omega), he, hz]
  cases A with
  | none =>
    have h0 := hA rfl
    subst h0
    have : k = 0 := by omega
    subst this
    simp [Result.andThen, sliced]
  | some x =>
    obtain ⟨g, o, rfl⟩ := hp x rfl
    simp [Result.andThen, sliced, Addr.add]

theorem Bs.head9 {w : World} {A : Option Addr} {l : List UInt8} (h : Bs w A l) (k : Nat) (hk : k ≤ l.length) : Bs w A (l.take k) := by
  intro j hj
  rw [List.length_take] at hj
  obtain ⟨b, off, hA, hlt, hc⟩ := h j (by omega)
  refine ⟨b, off, hA, hlt, ?_⟩
  rw [hc, List.getElem_take]

theorem slc_mid (A : Option Addr) (n c i m : Nat) (w : World) (l : List UInt8) (hA : A = none → c = 0) (hp : ∀ a, A = some a → ∃ g o, a = ⟨g, o, none⟩) (hn : l.length = n) (hi : i + m ≤ n) (hc : n ≤ c) (hc9 : c ≤ 9223372036854775807) (hB : Bs w A l) :
    ∃ A', (∀ W, (Instr.slice 22 (.slice A n c) (some (.int .i64 (i : Int))) (some (.int .i64 ((i : Int) + (m : Int)))) none).run Try.prog W = .ok (.slice A' m (c - i)) W) ∧ Bs w A' ((l.drop i).take m) := by
  have hz : ∀ W, (Go.sizeOf 5).run Try.prog W = .ok 1 W := fun W => by kernel_rfl
  have ht' : Try.prog.underlying 22 = some (.slice (Try.prog.elem 22)) := by simp [Program.elem, Try.underlying22]
  have he : Try.prog.elem 22 = 5 := by simp [Program.elem, Try.underlying22]
  have htn : ((i : Int) + (m : Int)).toNat = i + m := by omega
  cases A with
  | none =>
    have h0 := hA rfl
    subst h0
    refine ⟨none, fun W => ?_, fun k hk => by rw [List.length_take, List.length_drop] at hk; omega⟩
    rw [run_slice_lh W 22 _ _ _ ht' .i64 .i64 _ _ (by omega) (by omega) (by omega), he, hz]
    have : i = 0 := by omega
    have : m = 0 := by omega
    subst i; subst m
    simp [Result.andThen, sliced]
  | some x =>
    obtain ⟨g, o, rfl⟩ := hp x rfl
    refine ⟨some (if c = i then ⟨g, o, none⟩ else ⟨g, o + i, none⟩), fun W => ?_, ?_⟩
    · rw [run_slice_lh W 22 _ _ _ ht' .i64 .i64 _ _ (by omega) (by omega) (by omega), he, hz]
      have hm : i + m - i = m := by omega
      by_cases h0 : c = i
      · simp [Result.andThen, sliced, h0, htn, hm]
      · by_cases h1 : i = 0
        · subst h1; simp [Result.andThen, sliced, Addr.add, h0]
        · simp [Result.andThen, sliced, Addr.add, h0, h1, htn, hm]
    · by_cases h0 : c = i
      · intro k hk
        rw [List.length_take, List.length_drop] at hk
        omega
      · rw [if_neg h0]
        exact Bs.sub hB i m

theorem own_plain9 {w : World} {base : Nat} {v : Value} {l : List UInt8} (h : Own w base v l) : ∃ A c, v = .slice A l.length c ∧ l.length ≤ c ∧ c ≤ 9223372036854775807 ∧ Bs w A l ∧ (A = none → c = 0) ∧ (∀ x, A = some x → ∃ g o, x = ⟨g, o, none⟩) := by
  obtain ⟨A, c, hv, h1, h2, hB⟩ := h.form
  refine ⟨A, c, hv, h1, by unfold maxLen at h2; omega, hB, ?_, ?_⟩
  · intro hA
    rcases h.2 with ⟨e, _⟩ | ⟨g, cap, cur, e, _⟩
    · rw [hv] at e; simp only [Value.slice.injEq] at e; exact e.2.2
    · rw [hv] at e; simp only [Value.slice.injEq] at e; rw [hA] at e; exact absurd e.1 (by simp)
  · intro x hx
    rcases h.2 with ⟨e, _⟩ | ⟨g, cap, cur, e, _⟩
    · rw [hv] at e; simp only [Value.slice.injEq] at e; rw [hx] at e; exact absurd e.1 (by simp)
    · rw [hv] at e; simp only [Value.slice.injEq] at e; rw [hx] at e; exact ⟨g, 0, Option.some.inj e.1⟩

/-- A slice's address is plain. -/
def Pl (A : Option Addr) (c : Nat) : Prop := (A = none → c = 0) ∧ ∀ a, A = some a → ∃ g o, a = ⟨g, o, none⟩
theorem Pl.some_ (g o c : Nat) : Pl (some ⟨g, o, none⟩) c := by
  unfold Pl
  exact ⟨fun h => (by cases h), fun a h => (by cases h; exact ⟨_, _, rfl⟩)⟩
end Go.Proofs.Ytgbmobepnhhldaa

namespace Go.Proofs.Ytgbmobepnhhldaa
open Go.RowKit P
set_option linter.unusedVariables false

/-- append of bytes inside a region that draws its order. -/
theorem step_app_bytes9 {w : World} {ops : Array Oper} {o : Oper} {a : Act} {K : Act → World → Prop} {Q : Exit → Act → World → Prop} {X : Prop} (hgd : o.guard = none) (s x : Operand)
    (ho : o.op = .call { callee := .builtin .append, args := #[s, x], argTypes := #[22, 22] })
    (base : Nat) (v : Value) (l r : List UInt8) (A : Option Addr) (n c : Nat) (hs : a.eval s = v) (hx : a.eval x = .slice A n c) (hn : n = r.length) (hown : Own w base v l) (hr : Bs w A r)
    (hlen : l.length + r.length ≤ 1000000000) (hbase : base ≤ w.heap.size)
    (h : ∀ v' w', Own w' base v' (l ++ r) → w.grownBy w' v.ownBlock → (v'.ownBlock = v.ownBlock ∨ v'.ownBlock = some w.heap.size) → K (a.put o.dst v') w') :
    if Region.wanted o (yielded ops a.tmps) = true then Oper.wp Try.prog o a w K Q else X := by
  obtain ⟨v', w', hrun, h2, h3, h4⟩ := run_app_bytes c n o.type hn hown hr hlen hbase
  have hw : Region.wanted o (yielded ops a.tmps) = true := by simp [Region.wanted, hgd]
  rw [if_pos hw]
  unfold Oper.wp execOp
  simp only [ho, resolve, invoke, builtin, Sem.run_bind, Sem.run_pure, Result.andThen_ok, List.map_toArray, List.map_cons, List.map_nil, hs, hx, hrun]
  exact h v' w' h2 h3 h4

end Go.Proofs.Ytgbmobepnhhldaa

/-
  Chapter 5's draws: an edit of a text. Own work.
  Chapter 5's draws: an edit of a text, mostly one that fits. Own work.
  The draw of EditBack; sameEdit, bytesOf: contracts. Own work.
-/
namespace Go.Proofs.Ytgbmobepnhhldaa
open Go.RowKit P
set_option linter.unusedVariables false
set_option linter.unusedSimpArgs false
set_option maxRecDepth 100000

/-- What a draw of an edit ends in. -/
def DrawsE (g N : Nat) (w : World) (e : Ending) (w' : World) : Prop :=
  ∃ a m v l, e = .returned (.agg #[.int .i64 a, .int .i64 m, v]) ∧ (-9223372036854775808 ≤ a ∧ a ≤ 9223372036854775807) ∧ (-9223372036854775808 ≤ m ∧ m ≤ 9223372036854775807) ∧ Own w' w.heap.size v l ∧ l.length ≤ 500 ∧ Cur w' g N ∧ Only g w w'

theorem wrap64_bd (x : Int) : -9223372036854775808 ≤ wrap64 x ∧ wrap64 x ≤ 9223372036854775807 := by
  rw [← IntWalk.i64_left, IntKind.wrap_i64]
  omega
/-- A block's cells are what they are, the cursor's block apart. -/
theorem EBox.only {g b : Nat} {w w' : World} {a m : Int} {A : Option Addr} {n c : Nat} (h : EBox w b a m A n c) (ho : Only g w w') (hb : b ≠ g) : EBox w' b a m A n c := ⟨h.blk.only ho hb⟩
theorem EBox.f (i : Nat) {w : World} {b : Nat} {a m : Int} {A : Option Addr} {n c : Nat} (h : EBox w b a m A n c) : w.frozen? ⟨b, i, none⟩ = false := h.blk.frozen i
theorem EBox.set1 {w : World} {b : Nat} {a m : Int} {A : Option Addr} {n c : Nat} (h : EBox w b a m A n c) (x : Int) : EBox (w.setCell ⟨b, 1, none⟩ (.int .i64 x)) b a x A n c := ⟨by simpa using h.blk.set 1 (.int .i64 x)⟩
theorem EBox.set0 {w : World} {b : Nat} {a m : Int} {A : Option Addr} {n c : Nat} (h : EBox w b a m A n c) (x : Int) : EBox (w.setCell ⟨b, 0, none⟩ (.int .i64 x)) b x m A n c := ⟨by simpa using h.blk.set 0 (.int .i64 x)⟩
theorem EBox.set2 {w : World} {b : Nat} {a m : Int} {A : Option Addr} {n c : Nat} (h : EBox w b a m A n c) (B : Option Addr) (k d : Nat) : EBox (w.setCell ⟨b, 2, none⟩ (.slice B k d)) b a m B k d := ⟨by simpa using h.blk.set 2 (.slice B k d)⟩

end Go.Proofs.Ytgbmobepnhhldaa

namespace Go.Proofs.Ytgbmobepnhhldaa
open Go.RowKit P
set_option linter.unusedVariables false
set_option linter.unusedSimpArgs false
set_option maxRecDepth 100000

theorem own_zeros (w : World) (n : Nat) (hn : n ≤ 1000) : Own (w.alloc (.cells (madeCells #[.int .u8 0] n) 5)) w.heap.size (.slice (some ⟨w.heap.size, 0, none⟩) n n) (List.replicate n 0) := by
  have h : Row (w.alloc (.cells (madeCells #[.int .u8 0] n) 5)) w.heap.size (List.replicate n (0 : UInt8)) := by
    unfold Row
    rw [List.length_replicate]
    exact (World.rowIs_made w (.int .u8 0) n 5).congr (by intro j hj; simp [List.getD_eq_getElem?_getD, List.getElem?_replicate, hj])
  have := h.own w.heap.size (Nat.le_refl _) (by rw [List.length_replicate]; unfold maxLen; omega)
  rw [List.length_replicate] at this
  exact this

end Go.Proofs.Ytgbmobepnhhldaa

namespace Go.Proofs.Ytgbmobepnhhldaa
open Go.RowKit P
set_option linter.unusedVariables false
set_option linter.unusedSimpArgs false
set_option maxRecDepth 100000

/-- What a draw of a text and an edit ends in. -/
def DrawsTE (w : World) (e : Ending) (w' : World) : Prop :=
  ∃ A l c a m B p d, e = .returned (.tuple #[.slice A l.length c, .agg #[.int .i64 a, .int .i64 m, .slice B p.length d]]) ∧ l.length ≤ 401 ∧ l.length ≤ c ∧ c ≤ 9223372036854775807 ∧ Pl A c ∧ Bs w' A l ∧
    (-9223372036854775808 ≤ a ∧ a ≤ 9223372036854775807) ∧ (-9223372036854775808 ≤ m ∧ m ≤ 9223372036854775807) ∧ p.length ≤ 500 ∧ p.length ≤ d ∧ d ≤ 9223372036854775807 ∧ Pl B d ∧ Bs w' B p ∧ Below w.heap.size w w'

end Go.Proofs.Ytgbmobepnhhldaa

/-
  Chapter 6's draws: small edits, spots; laws.pick at any offset: contracts. Own work.
  Chapter 5's draw of a text and an edit that may not fit: contract. Own work.
-/
namespace Go.Proofs.Ytgbmobepnhhldaa
open Go.RowKit P
set_option linter.unusedVariables false
set_option linter.unusedSimpArgs false
set_option maxRecDepth 100000

set_option maxHeartbeats 4000000 in
theorem lawPickN_any (j : Nat) (hj : j ≤ 100) (A : Option Addr) (l : List UInt8) (c : Nat) (n : Int) (w : World) (hl : l.length ≤ 1048576) (h0 : 0 ≤ n) (hn : n ≤ 1000) (hA : Bs w A l) :
    Calls Try.prog 9 #[.slice A l.length c, .int .i64 (j : Int), .int .i64 n] w fun e w' => (∃ x : Int, e = .returned (.int .i64 x) ∧ 0 ≤ x ∧ (x < n ∨ (n < 2 ∧ x = 0))) ∧ Below w.heap.size w w' := by
  by_cases hz : l.length = 0
  · have g1 : ((l.length : Int) == 0) = true := by simp [hz]
    have H := Lib.hid hz
    clear hz
    go_enter Try.func9, Try.ntmps9
    go_wp2
    go_ret
    exact ⟨⟨0, rfl, Int.le_refl _, by omega⟩, Below.refl _ _⟩
  have g1 : ((l.length : Int) == 0) = false := by rw [beq_eq_false_iff_ne]; omega
  by_cases hn2 : n < 2
  · go_enter Try.func9, Try.ntmps9
    go_wp2
    go_ret
    exact ⟨⟨0, rfl, Int.le_refl _, .inr ⟨hn2, rfl⟩⟩, Below.refl _ _⟩
  have hlz : (l.length : Int) ≠ 0 := by omega
  have hnz : n ≠ 0 := by omega
  go_enter Try.func9, Try.ntmps9
  go_wp2
  go_loopw [7, 8] (fun xx kk wr => ∃ (x : Int) (k : Nat), xx = .int .i64 x ∧ kk = .int .i64 k ∧ 0 ≤ x ∧ ((k = 0 ∧ x ≤ 0) ∨ (k = 1 ∧ x ≤ 255) ∨ (k = 2 ∧ x ≤ 8160) ∨ (k = 3 ∧ x ≤ 253215)) ∧ Below w.heap.size w wr) (fun _ kk _ => 3 - (intOf kk).toNat)
  case atStart => exact ⟨0, 0, rfl, rfl, Int.le_refl _, .inl ⟨rfl, Int.le_refl _⟩, Below.refl _ _⟩
  case round =>
    obtain ⟨x, k, rfl, rfl, hx0, hx, hb⟩ := hrel
    by_cases hk : k < 3
    · obtain ⟨m, hme, hml⟩ : ∃ m : Nat, ((j : Int) + (k : Int)) % (l.length : Int) = (m : Int) ∧ m < l.length := by
        refine ⟨(j + k) % l.length, by rw [Int.natCast_emod, Int.natCast_add], Nat.mod_lt _ (by omega)⟩
      obtain ⟨b, off, rfl, hbl, hc⟩ := (hA.below hb) m hml
      have hu := (l[m]).toNat_lt
      obtain ⟨bn, hbn⟩ : ∃ bn : Int, bn = (l[m]).toNat := ⟨_, rfl⟩
      rw [← hbn] at hc
      have hbn1 : 0 ≤ bn ∧ bn ≤ 255 := by omega
      have hml' : (m : Int) < (l.length : Int) := by omega
      have hx9 : x ≤ 8160 := by omega
      have hne : ¬ (l.length : Int) = 0 := by omega
      have hw0 : IntKind.i64.wrap ((j : Int) + (k : Int)) = (j : Int) + (k : Int) := IntWalk.i64_in _ ⟨by omega, by omega⟩
      have hw1 : IntKind.i64.wrap (31 * x) = 31 * x := IntWalk.i64_in _ ⟨by omega, by omega⟩
      have hw2 : IntKind.i64.wrap (31 * x + bn) = 31 * x + bn := IntWalk.i64_in _ ⟨by omega, by omega⟩
      clear hbn hu
      go_wp2
      go_roundw
      case rel => exact ⟨31 * x + bn, k + 1, rfl, by go_num, by omega, by omega, hb⟩
      case measure => first | (simp [intOf]; done) | (simp [intOf]; omega)
    · have hbd := emod_bd (x + j) n (by omega)
      have hx9 : x ≤ 253215 := by omega
      have hw2 : IntKind.i64.wrap (x + j) = x + j := IntWalk.i64_in _ ⟨by omega, by omega⟩
      have hx3 : 0 ≤ x + (j : Int) := by omega
      go_wp2
      go_ret
      exact ⟨⟨_, rfl, hbd.1, .inl hbd.2⟩, hb⟩

/-- A write into another block leaves bytes of the call's own. -/
theorem ownSet9 {w : World} {B b : Nat} {v : Value} {l : List UInt8} (h : Own w B v l) (hne : ∀ k ∈ v.ownBlock.toList, b ≠ k) (i : Nat) (u : Value) : Own (w.setCell ⟨b, i, none⟩ u) B v l :=
  h.heap (fun k hk => Below.heap_setCell _ _ _ _ (fun e => hne k hk (by simpa using e.symm)))

set_option maxHeartbeats 8000000 in
theorem small_any (g N : Nat) (w : World) (hN : N ≤ 9000) (h : Cur w g N) :
    Calls Try.prog 30 #[.pointer (some ⟨g, 0, none⟩)] w (DrawsE g (N + 50) w) := by
  have hglt := h.lt
  have hal := (Below.refl w.heap.size w).alloc (Nat.le_refl _) (.cells #[.int .i64 0, .int .i64 0, .slice none 0 0] 30)
  have bR := EBox.new w 0 0 none 0 0
  have hc0 := h.only_new hal
  have ho0 : Only g w _ := Only.of_below hal
  have hsW0 : w.heap.size + 1 ≤ (w.alloc (.cells #[.int .i64 0, .int .i64 0, .slice none 0 0] 30)).heap.size := by simp
  clear h
  go_enter Try.func30, Try.ntmps30
  go_wp2_with fail
  generalize w.alloc (.cells #[.int .i64 0, .int .i64 0, .slice none 0 0] 30) = W0 at *
  refine (pick_draws g N 20 _ (by omega) (by omega) (by omega) (by exact hc0)).mono ?_
  rintro e w3 ⟨a, rfl, ha0, ha1, hc3, ho3⟩
  have bR := bR.only ho3 (by omega)
  have hz3 : w.heap.size + 1 ≤ w3.heap.size := by have := ho3.size; omega
  have ho3 := ho0.trans ho3
  clear hc0 ho0 hal
  go_wp2_with fail
  refine (pick_draws g (N + 1) 6 _ (by omega) (by omega) (by omega) (by exact hc3)).mono ?_
  rintro e w4 ⟨m, rfl, hm0, hm1, hc4, ho4⟩
  have bR := bR.only ho4 (by omega)
  have hz4 : w.heap.size + 1 ≤ w4.heap.size := by have := ho4.size; omega
  have ho4 := ho3.trans ho4
  clear hc3 ho3
  go_wp2_with fail
  refine (text_any g (N + 2) 5 _ (by omega) (by omega) (by exact hc4)).mono ?_
  rintro e w5 ⟨v1, p, rfl, hown1, hp5, hc5, ho5⟩
  have HRG1 := Lib.hid hown1.range
  obtain ⟨A1, c1, rfl, _, _, _⟩ := hown1.form
  have bR := bR.only ho5 (by omega)
  have hz1 : w.heap.size + 1 ≤ w5.heap.size := by have := ho5.size; omega
  have hz45 := ho5.size
  have ho1 := ho4.trans ho5
  have hal1 := (Below.refl w5.heap.size w5).alloc (Nat.le_refl _) (.cells #[.int .i64 a, .int .i64 m, .slice A1 p.length c1] 30)
  have bE := EBox.new w5 a m A1 p.length c1
  have bR := bR.below hal1
  have hc1 := hc5.only_new hal1
  have ho1 := ho1.trans (Only.of_below hal1)
  have hown1 := hown1.below hal1
  clear hal1 hc4 ho4 hc5 ho5
  go_wp2_with fail
  generalize w5.alloc (.cells #[.int .i64 a, .int .i64 m, .slice A1 p.length c1] 30) = W1 at *
  refine (pick_any g (N + 2 + 1 + 3 * 5) 14 _ (by omega) (by omega) (by exact hc1)).mono ?_
  rintro e w2 ⟨x, rfl, hx0, hx1, hc2, ho2⟩
  have bR := bR.only ho2 (by omega)
  have bE := bE.only ho2 (by omega)
  have hown2 := hown1.only ho2 (by omega)
  have HRG := HRG1
  have ho2 := ho1.trans ho2
  have hc2 := hc2.mono (M := N + 40) (by omega)
  clear hc1 ho1 hown1
  have r0 := bR.c0
  have r1 := bR.c1
  have r2 := bR.c2
  have g0 := bR.f 0
  have g1 := bR.f 1
  have g2 := bR.f 2
  have e0 := bE.c0
  have e1 := bE.c1
  have e2 := bE.c2
  have hlt := bR.lt
  have hlt2 := bE.lt
  by_cases q0 : x = 0
  · subst q0
    clear r0 r1 r2 g0 g1 g2 e0 e1 e2 hlt hlt2
    go_wp2_with fail
    refine (raw_any g (N + 40) _ (by omega) (by exact hc2)).mono ?_
    rintro e w6 ⟨r, rfl, hr0, hr1, hc6, ho6⟩
    have bR := bR.only ho6 (by omega)
    have bE := bE.only ho6 (by omega)
    have hown6 := hown2.only ho6 (by omega)
    have ho6 := ho2.trans ho6
    have hal6 := (Below.refl w6.heap.size w6).alloc (Nat.le_refl _) (.cells #[.int .i64 r, .int .i64 400, .int .i64 401] 3)
    go_wp2_with fail
    refine (pick_draws g (N + 42) 3 _ (by omega) (by omega) (by omega) (by exact hc6.alloc _)).mono ?_
    rintro e w7 ⟨z, rfl, hz0, hz1, hc7, ho7⟩
    obtain ⟨k, rfl⟩ := Int.eq_ofNat_of_zero_le hz0
    have hrow := ho7.row hc6.lt k
    obtain ⟨t, hv, ht0, ht1⟩ : ∃ v : Int, w7.cell? ⟨w6.heap.size, k, none⟩ = some (.int .i64 v) ∧ -9223372036854775808 ≤ v ∧ v ≤ 9223372036854775807 := by
      rw [hrow]
      match k, (show k < 3 by omega) with
      | 0, _ => exact ⟨_, rfl, by omega, by omega⟩
      | 1, _ => exact ⟨_, rfl, by omega, by omega⟩
      | 2, _ => exact ⟨_, rfl, by omega, by omega⟩
    clear hrow
    have bR := (bR.below hal6).only ho7 (by omega)
    have bE := (bE.below hal6).only ho7 (by omega)
    have hown7 := (hown6.below hal6).only ho7 (by omega)
    have ho7 := ho6.trans ho7.of_alloc
    have r0 := bR.c0
    have r1 := bR.c1
    have r2 := bR.c2
    have g0 := bR.f 0
    have g1 := bR.f 1
    have g2 := bR.f 2
    have e0 := bE.c0
    have e1 := bE.c1
    have e2 := bE.c2
    have f0 := bE.f 0
    have f1 := bE.f 1
    have f2 := bE.f 2
    have hlt := bR.lt
    have hlt2 := bE.lt
    have HO := Lib.hid hown7
    clear hown7 hown6
    go_wp2
    refine bodyPost_ret (v := .agg #[.int .i64 t, .int .i64 m, .slice A1 p.length c1]) (by simp [results, Try.results30, go_sem, r0, r1, r2]) rfl ?_
    have hA : ∀ k ∈ (Value.slice A1 p.length c1).ownBlock.toList, w.heap.size ≠ k := fun k hk => by have h1 := HRG.out k hk; omega
    have hB : ∀ k ∈ (Value.slice A1 p.length c1).ownBlock.toList, w5.heap.size ≠ k := fun k hk => by have h1 := HRG.out k hk; omega
    exact ⟨t, m, .slice A1 p.length c1, p, rfl, ⟨by omega, by omega⟩, ⟨by omega, by omega⟩, (ownSet9 (ownSet9 (ownSet9 (ownSet9 HO.out hB 0 _) hA 0 _) hA 1 _) hA 2 _).mono (by omega), by omega,
      ((((hc7.setNew (b := w5.heap.size) (by omega) 0 _).setNew (b := w.heap.size) (by omega) 0 _).setNew (b := w.heap.size) (by omega) 1 _).setNew (b := w.heap.size) (by omega) 2 _).mono (by omega),
      (((ho7.setNew (b := w5.heap.size) (by omega) 0 _).setNew (Nat.le_refl _) 0 _).setNew (Nat.le_refl _) 1 _).setNew (Nat.le_refl _) 2 _⟩
  by_cases q1 : x = 1
  · subst q1
    clear r0 r1 r2 g0 g1 g2 e0 e1 e2 hlt hlt2
    go_wp2_with fail
    refine (raw_any g (N + 40) _ (by omega) (by exact hc2)).mono ?_
    rintro e w6 ⟨r, rfl, hr0, hr1, hc6, ho6⟩
    have bR := bR.only ho6 (by omega)
    have bE := bE.only ho6 (by omega)
    have hown6 := hown2.only ho6 (by omega)
    have ho6 := ho2.trans ho6
    have hal6 := (Below.refl w6.heap.size w6).alloc (Nat.le_refl _) (.cells #[.int .i64 r, .int .i64 400, .int .i64 401] 3)
    go_wp2_with fail
    refine (pick_draws g (N + 42) 3 _ (by omega) (by omega) (by omega) (by exact hc6.alloc _)).mono ?_
    rintro e w7 ⟨z, rfl, hz0, hz1, hc7, ho7⟩
    obtain ⟨k, rfl⟩ := Int.eq_ofNat_of_zero_le hz0
    have hrow := ho7.row hc6.lt k
    obtain ⟨t, hv, ht0, ht1⟩ : ∃ v : Int, w7.cell? ⟨w6.heap.size, k, none⟩ = some (.int .i64 v) ∧ -9223372036854775808 ≤ v ∧ v ≤ 9223372036854775807 := by
      rw [hrow]
      match k, (show k < 3 by omega) with
      | 0, _ => exact ⟨_, rfl, by omega, by omega⟩
      | 1, _ => exact ⟨_, rfl, by omega, by omega⟩
      | 2, _ => exact ⟨_, rfl, by omega, by omega⟩
    clear hrow
    have bR := (bR.below hal6).only ho7 (by omega)
    have bE := (bE.below hal6).only ho7 (by omega)
    have hown7 := (hown6.below hal6).only ho7 (by omega)
    have ho7 := ho6.trans ho7.of_alloc
    have r0 := bR.c0
    have r1 := bR.c1
    have r2 := bR.c2
    have g0 := bR.f 0
    have g1 := bR.f 1
    have g2 := bR.f 2
    have e0 := bE.c0
    have e1 := bE.c1
    have e2 := bE.c2
    have f0 := bE.f 0
    have f1 := bE.f 1
    have f2 := bE.f 2
    have hlt := bR.lt
    have hlt2 := bE.lt
    have HO := Lib.hid hown7
    clear hown7 hown6
    go_wp2
    refine bodyPost_ret (v := .agg #[.int .i64 a, .int .i64 t, .slice A1 p.length c1]) (by simp [results, Try.results30, go_sem, r0, r1, r2]) rfl ?_
    have hA : ∀ k ∈ (Value.slice A1 p.length c1).ownBlock.toList, w.heap.size ≠ k := fun k hk => by have h1 := HRG.out k hk; omega
    have hB : ∀ k ∈ (Value.slice A1 p.length c1).ownBlock.toList, w5.heap.size ≠ k := fun k hk => by have h1 := HRG.out k hk; omega
    exact ⟨a, t, .slice A1 p.length c1, p, rfl, ⟨by omega, by omega⟩, ⟨by omega, by omega⟩, (ownSet9 (ownSet9 (ownSet9 (ownSet9 HO.out hB 1 _) hA 0 _) hA 1 _) hA 2 _).mono (by omega), by omega,
      ((((hc7.setNew (b := w5.heap.size) (by omega) 1 _).setNew (b := w.heap.size) (by omega) 0 _).setNew (b := w.heap.size) (by omega) 1 _).setNew (b := w.heap.size) (by omega) 2 _).mono (by omega),
      (((ho7.setNew (b := w5.heap.size) (by omega) 1 _).setNew (Nat.le_refl _) 0 _).setNew (Nat.le_refl _) 1 _).setNew (Nat.le_refl _) 2 _⟩
  by_cases q2 : x = 2
  · subst q2
    clear r0 r1 r2 g0 g1 g2 e0 e1 e2 hlt hlt2
    go_wp2_with fail
    refine (pick_any g (N + 40) 2 _ (by omega) (by omega) (by exact hc2)).mono ?_
    rintro e w6 ⟨y, rfl, hy0, hy1, hc6, ho6⟩
    have bR := bR.only ho6 (by omega)
    have bE := bE.only ho6 (by omega)
    have ho6 := ho2.trans ho6
    obtain ⟨n, hn⟩ : ∃ n : Nat, 400 + y = (n : Int) := ⟨(400 + y).toNat, by omega⟩
    have hn4 : n ≤ 402 := by omega
    have hmk : ∀ W, (Instr.makeSlice 22 (.int .i64 (400 + y)) (.int .i64 (400 + y))).run Try.prog W = .ok (.slice (some ⟨W.heap.size, 0, none⟩) n n) (W.alloc (.cells (madeCells #[.int .u8 0] n) 5)) := fun W => by
      rw [hn]
      have := run_mk (P := Try.prog) 22 5 (.int .u8 0) 1 1 Try.underlying22 Try.infoB n (by omega) (by omega) W
      rw [Nat.mul_one] at this
      exact this
    have t0 := bR.c0
    have t1 := bR.c1
    have t2 := bR.c2
    have s0 := bR.f 0
    have s1 := bR.f 1
    have s2 := bR.f 2
    have o0 := bE.c0
    have o1 := bE.c1
    have o2 := bE.c2
    have p2 := bE.f 2
    have hq1 := bE.lt
    have hq2 := bR.lt
    have hz4 := ho6.size
    have HN := Lib.hid hn
    clear hn
    go_wp2
    have bR5 := ((((EBox.mk (bR.blk.setFar (d := w5.heap.size) (by omega) 2 (.slice (some ⟨w6.heap.size, 0, none⟩) n n))).set0 a).set1 m).set2 (some ⟨w6.heap.size, 0, none⟩) n n).below ((Below.refl _ _).alloc (Nat.le_refl _) (.cells (madeCells #[.int .u8 0] n) 5))
    have u0 := bR5.c0
    have u1 := bR5.c1
    have u2 := bR5.c2
    refine bodyPost_ret (v := .agg #[.int .i64 a, .int .i64 m, .slice (some ⟨w6.heap.size, 0, none⟩) n n]) (by simp [results, Try.results30, go_sem, u0, u1, u2]) rfl ?_
    clear u0 u1 u2 bR5
    have hc5 := (((hc6.setNew (b := w5.heap.size) (by omega) 2 (.slice (some ⟨w6.heap.size, 0, none⟩) n n)).setNew (b := w.heap.size) (by omega) 0 (.int .i64 a)).setNew (b := w.heap.size) (by omega) 1 (.int .i64 m)).setNew (b := w.heap.size) (by omega) 2 (.slice (some ⟨w6.heap.size, 0, none⟩) n n)
    have ho5 := (((ho6.setNew (b := w5.heap.size) (by omega) 2 (.slice (some ⟨w6.heap.size, 0, none⟩) n n)).setNew (Nat.le_refl _) 0 (.int .i64 a)).setNew (Nat.le_refl _) 1 (.int .i64 m)).setNew (Nat.le_refl _) 2 (.slice (some ⟨w6.heap.size, 0, none⟩) n n)
    have hsz5 : ((((w6.setCell ⟨w5.heap.size, 2, none⟩ (.slice (some ⟨w6.heap.size, 0, none⟩) n n)).setCell ⟨w.heap.size, 0, none⟩ (.int .i64 a)).setCell ⟨w.heap.size, 1, none⟩ (.int .i64 m)).setCell ⟨w.heap.size, 2, none⟩ (.slice (some ⟨w6.heap.size, 0, none⟩) n n)).heap.size = w6.heap.size := by simp
    generalize (((w6.setCell ⟨w5.heap.size, 2, none⟩ (.slice (some ⟨w6.heap.size, 0, none⟩) n n)).setCell ⟨w.heap.size, 0, none⟩ (.int .i64 a)).setCell ⟨w.heap.size, 1, none⟩ (.int .i64 m)).setCell ⟨w.heap.size, 2, none⟩ (.slice (some ⟨w6.heap.size, 0, none⟩) n n) = W5 at *
    have hown5 := own_zeros W5 n (by omega)
    rw [hsz5] at hown5
    exact ⟨a, m, .slice (some ⟨w6.heap.size, 0, none⟩) n n, List.replicate n 0, rfl, ⟨by omega, by omega⟩, ⟨by omega, by omega⟩, hown5.mono (by omega), by rw [List.length_replicate]; omega, (hc5.alloc _).mono (by omega), ho5.trans (Only.of_below ((Below.refl _ _).alloc (Nat.le_refl _) _))⟩
  have b0 : (x == 0) = false := by simpa using q0
  have b1 : (x == 1) = false := by simpa using q1
  have b2 : (x == 2) = false := by simpa using q2
  go_wp2
  refine bodyPost_ret (v := .agg #[.int .i64 a, .int .i64 m, .slice A1 p.length c1]) (by simp [results, Try.results30, go_sem, r0, r1, r2]) rfl ?_
  have hA : ∀ k ∈ (Value.slice A1 p.length c1).ownBlock.toList, w.heap.size ≠ k := fun k hk => by have h1 := HRG.out k hk; omega
  exact ⟨a, m, .slice A1 p.length c1, p, rfl, ⟨by omega, by omega⟩, ⟨by omega, by omega⟩, (ownSet9 (ownSet9 (ownSet9 hown2 hA 0 _) hA 1 _) hA 2 _).mono (by omega), by omega,
    (((hc2.setNew (b := w.heap.size) (by omega) 0 _).setNew (b := w.heap.size) (by omega) 1 _).setNew (b := w.heap.size) (by omega) 2 _).mono (by omega),
    ((ho2.setNew (Nat.le_refl _) 0 _).setNew (Nat.le_refl _) 1 _).setNew (Nat.le_refl _) 2 _⟩

end Go.Proofs.Ytgbmobepnhhldaa

namespace Go.Proofs.Ytgbmobepnhhldaa
open Go.RowKit P
set_option linter.unusedVariables false
set_option linter.unusedSimpArgs false
set_option maxRecDepth 100000

end Go.Proofs.Ytgbmobepnhhldaa

namespace Go.Proofs.Ytgbmobepnhhldaa
open Go.RowKit P
set_option linter.unusedVariables false
set_option linter.unusedSimpArgs false
set_option maxRecDepth 100000

end Go.Proofs.Ytgbmobepnhhldaa

/-
  Chapter 7's draws of a lease and of a clock: contracts. Own work.
-/
namespace Go.Proofs.Ytgbmobepnhhldaa
open Go.RowKit P
set_option linter.unusedVariables false
set_option linter.unusedSimpArgs false
set_option maxRecDepth 100000

/-- What a draw of one lease ends in. -/
def DrawsLe (g N : Nat) (w : World) (e : Ending) (w' : World) : Prop :=
  ∃ i j s t : Int, e = .returned (.agg #[.int .i64 i, .int .i64 j, .int .i64 s, .int .i64 t]) ∧ isI i ∧ isI j ∧ isI s ∧ isI t ∧ Cur w' g N ∧ Only g w w'
/-- Four cells written in a row into one new block. -/
theorem put4 {g : Nat} {a w : World} {b : Nat} (h : Only g a w) (hb : a.heap.size ≤ b) (x y s t : Value) : Only g a ((((w.setCell ⟨b, 0, none⟩ x).setCell ⟨b, 1, none⟩ y).setCell ⟨b, 2, none⟩ s).setCell ⟨b, 3, none⟩ t) :=
  (((h.setNew hb 0 x).setNew hb 1 y).setNew hb 2 s).setNew hb 3 t
theorem curPut4 {g N : Nat} {w : World} {b : Nat} (h : Cur w g N) (hb : g < b) (x y s t : Value) : Cur ((((w.setCell ⟨b, 0, none⟩ x).setCell ⟨b, 1, none⟩ y).setCell ⟨b, 2, none⟩ s).setCell ⟨b, 3, none⟩ t) g N :=
  (((h.setNew hb 0 x).setNew hb 1 y).setNew hb 2 s).setNew hb 3 t

set_option maxHeartbeats 8000000 in
theorem lease_any (g N : Nat) (w : World) (hN : N ≤ 10000000) (h : Cur w g N) :
    Calls Try.prog 64 #[.pointer (some ⟨g, 0, none⟩)] w (DrawsLe g (N + 4) w) := by
  have hglt := h.lt
  have hal := (Below.refl w.heap.size w).alloc (Nat.le_refl _) (.cells #[.int .i64 0, .int .i64 0, .int .i64 0, .int .i64 0] 26)
  have bR := Blk.new w #[.int .i64 0, .int .i64 0, .int .i64 0, .int .i64 0] 26
  have hc0 := h.only_new hal
  have ho0 : Only g w _ := Only.of_below hal
  clear h
  go_enter Try.func64, Try.ntmps64
  go_wp2_with fail
  generalize w.alloc (.cells #[.int .i64 0, .int .i64 0, .int .i64 0, .int .i64 0] 26) = W0 at *
  refine (pick_draws g N 20 _ (by omega) (by omega) (by omega) (by exact hc0)).mono ?_
  rintro e w1 ⟨i, rfl, hi0, hi1, hc1, ho1⟩
  have bR := bR.only ho1 (by omega)
  have ho1 := ho0.trans ho1
  clear hc0 ho0 hal
  go_wp2_with fail
  refine (pick_draws g (N + 1) 6 _ (by omega) (by omega) (by omega) (by exact hc1)).mono ?_
  rintro e w2 ⟨y, rfl, hy0, hy1, hc2, ho2⟩
  have bR := bR.only ho2 (by omega)
  have ho2 := ho1.trans ho2
  clear hc1 ho1
  go_wp2_with fail
  refine (pick_draws g (N + 2) 3 _ (by omega) (by omega) (by omega) (by exact hc2)).mono ?_
  rintro e w3 ⟨s, rfl, hs0, hs1, hc3, ho3⟩
  have bR := bR.only ho3 (by omega)
  have ho3 := ho2.trans ho3
  clear hc2 ho2
  go_wp2_with fail
  refine (pick_draws g (N + 3) 12 _ (by omega) (by omega) (by omega) (by exact hc3)).mono ?_
  rintro e w4 ⟨t, rfl, ht0, ht1, hc4, ho4⟩
  have bR := bR.only ho4 (by omega)
  have ho4 := ho3.trans ho4
  clear hc3 ho3
  have r0 := bR.cell 0
  have r1 := bR.cell 1
  have r2 := bR.cell 2
  have r3 := bR.cell 3
  have g0 := bR.frozen 0
  have g1 := bR.frozen 1
  have g2 := bR.frozen 2
  have g3 := bR.frozen 3
  have hlt := bR.lt
  have hw1 : IntKind.i64.wrap (i + 1) = i + 1 := IntWalk.i64_in _ ⟨by omega, by omega⟩
  have hw2 : IntKind.i64.wrap (i + 1 + y) = i + 1 + y := IntWalk.i64_in _ ⟨by omega, by omega⟩
  have hw3 : IntKind.i64.wrap (1 + s) = 1 + s := IntWalk.i64_in _ ⟨by omega, by omega⟩
  have hw4 : IntKind.i64.wrap (1 + t) = 1 + t := IntWalk.i64_in _ ⟨by omega, by omega⟩
  go_wp2
  refine bodyPost_ret (v := .agg #[.int .i64 i, .int .i64 (i + 1 + y), .int .i64 (1 + s), .int .i64 (1 + t)]) (by simp [results, Try.results64, go_sem, r0, r1, r2, r3]) rfl ?_
  exact ⟨i, i + 1 + y, 1 + s, 1 + t, rfl, ⟨by omega, by omega⟩, ⟨by omega, by omega⟩, ⟨by omega, by omega⟩, ⟨by omega, by omega⟩, curPut4 hc4 (by omega) _ _ _ _, put4 ho4 (Nat.le_refl _) _ _ _ _⟩


set_option maxHeartbeats 4000000 in
theorem now_any (g N : Nat) (w : World) (hN : N ≤ 10000000) (h : Cur w g N) :
    Calls Try.prog 29 #[.pointer (some ⟨g, 0, none⟩)] w (Draws g (N + 4) (-9223372036854775808) 9223372036854775807 w) := by
  go_enter Try.func29, Try.ntmps29
  go_wp2_with fail
  refine (pick_draws g N 14 _ (by omega) (by omega) (by omega) (by exact h)).mono ?_
  rintro e w1 ⟨x, rfl, hx0, hx1, hc1, ho1⟩
  clear h
  go_wp2_with fail
  refine (raw_any g (N + 1) _ (by omega) (by exact hc1)).mono ?_
  rintro e w2 ⟨r, rfl, hr0, hr1, hc2, ho2⟩
  have ho2 := ho1.trans ho2
  clear hc1 ho1
  go_wp2_with fail
  refine (pick_draws g (N + 1 + 2) 5 _ (by omega) (by omega) (by omega) (by exact hc2.alloc _)).mono ?_
  rintro e w3 ⟨z, rfl, hz0, hz1, hc3, ho3⟩
  obtain ⟨k, rfl⟩ := Int.eq_ofNat_of_zero_le hz0
  have hrow := ho3.row hc2.lt k
  obtain ⟨t, hv, hv0, hv1⟩ : ∃ v : Int, w3.cell? ⟨w2.heap.size, k, none⟩ = some (.int .i64 v) ∧ -9223372036854775808 ≤ v ∧ v ≤ 9223372036854775807 := by
    rw [hrow]
    match k, (show k < 5 by omega) with
    | 0, _ => exact ⟨_, rfl, by omega, by omega⟩
    | 1, _ => exact ⟨_, rfl, by omega, by omega⟩
    | 2, _ => exact ⟨_, rfl, by omega, by omega⟩
    | 3, _ => exact ⟨_, rfl, by omega, by omega⟩
    | 4, _ => exact ⟨_, rfl, by omega, by omega⟩
  clear hrow
  have ho3 := ho2.trans ho3.of_alloc
  go_wp2
  go_ret
  exact ⟨t, rfl, hv0, hv1, hc3, ho3⟩


set_option maxHeartbeats 16000000 in
theorem badLease_any (g N : Nat) (w : World) (hN : N ≤ 10000000) (h : Cur w g N) :
    Calls Try.prog 26 #[.pointer (some ⟨g, 0, none⟩)] w (DrawsLe g (N + 8) w) := by
  have hglt := h.lt
  have hal := (Below.refl w.heap.size w).alloc (Nat.le_refl _) (.cells #[.int .i64 0, .int .i64 0, .int .i64 0, .int .i64 0] 26)
  have bR := Blk.new w #[.int .i64 0, .int .i64 0, .int .i64 0, .int .i64 0] 26
  have hc0 := h.only_new hal
  have ho0 : Only g w _ := Only.of_below hal
  have hsW0 : w.heap.size + 1 ≤ (w.alloc (.cells #[.int .i64 0, .int .i64 0, .int .i64 0, .int .i64 0] 26)).heap.size := by simp
  clear h
  go_enter Try.func26, Try.ntmps26
  go_wp2_with fail
  generalize w.alloc (.cells #[.int .i64 0, .int .i64 0, .int .i64 0, .int .i64 0] 26) = W0 at *
  refine (lease_any g N _ (by omega) (by exact hc0)).mono ?_
  rintro e w1 ⟨i, j, s, t, rfl, hi, hj, hs, ht, hc1, ho1⟩
  have hz1 := ho1.size
  have bR := bR.only ho1 (by omega)
  have ho1 := ho0.trans ho1
  have hal1 := (Below.refl w1.heap.size w1).alloc (Nat.le_refl _) (.cells #[.int .i64 i, .int .i64 j, .int .i64 s, .int .i64 t] 26)
  have bL := Blk.new w1 #[.int .i64 i, .int .i64 j, .int .i64 s, .int .i64 t] 26
  have bR := bR.below hal1
  have hc1 := hc1.only_new hal1
  have ho1 := ho1.trans (Only.of_below hal1)
  have hwl : w.heap.size < w1.heap.size := by omega
  clear hc0 ho0 hal hal1
  go_wp2_with fail
  generalize w1.alloc (.cells #[.int .i64 i, .int .i64 j, .int .i64 s, .int .i64 t] 26) = W1 at *
  refine (pick_draws g (N + 4) 14 _ (by omega) (by omega) (by omega) (by exact hc1)).mono ?_
  rintro e w2 ⟨x, rfl, hx0, hx1, hc2, ho2⟩
  have bR := bR.only ho2 (by omega)
  have bL := bL.only ho2 (by omega)
  have ho2 := ho1.trans ho2
  clear hc1 ho1
  by_cases q0 : x = 0
  · subst q0
    go_wp2_with fail
    refine (raw_any g (N + 5) _ (by omega) (by exact hc2)).mono ?_
    rintro e w6 ⟨r, rfl, hr0, hr1, hc6, ho6⟩
    have bR := bR.only ho6 (by omega)
    have bL := bL.only ho6 (by omega)
    have hz6 := ho6.size
    have ho6 := ho2.trans ho6
    have hr : isI r := ⟨hr0, hr1⟩
    have r0 := bR.cell 0
    have r1 := bR.cell 1
    have r2 := bR.cell 2
    have r3 := bR.cell 3
    have g0 := bR.frozen 0
    have g1 := bR.frozen 1
    have g2 := bR.frozen 2
    have g3 := bR.frozen 3
    have e0 := bL.cell 0
    have e1 := bL.cell 1
    have e2 := bL.cell 2
    have e3 := bL.cell 3
    have f0 := bL.frozen 0
    have f1 := bL.frozen 1
    have f2 := bL.frozen 2
    have f3 := bL.frozen 3
    have hlt := bR.lt
    have hlt2 := bL.lt
    go_wp2
    refine bodyPost_ret (v := .agg #[.int .i64 r, .int .i64 j, .int .i64 s, .int .i64 t]) (by simp [results, Try.results26, go_sem, r0, r1, r2, r3]) rfl ?_
    exact ⟨r, j, s, t, rfl, hr, hj, hs, ht, curPut4 ((hc6.setNew (b := w1.heap.size) (by omega) 0 _).mono (by omega)) (by omega) _ _ _ _, put4 (ho6.setNew (b := w1.heap.size) (by omega) 0 _) (Nat.le_refl _) _ _ _ _⟩
  by_cases q1 : x = 1
  · subst q1
    have e0 := bL.cell 0
    go_upto_region 6 with fail
    refine wp_region_held_drew (S := (fun V => V.cell? ⟨w1.heap.size, 0, none⟩ = some (.int .i64 i))) (by kernel_rfl) (by exact e0) (fun hHeld => ?_)
    refine wpAnyH_take (i := 0) (oi := ?_) (v := ?_) ?_ ?_ ?_ ?_ ?_ ?_ (by exact hHeld) ?_
    rotate_left 2
    · (simp only [List.getElem?_toArray, List.getElem?_cons_zero]; try rfl)
    · kernel_rfl
    · kernel_rfl
    · kernel_rfl
    · exact fun _ _ _ h => h
    · refine Or.inl ⟨by rfl, ?_⟩
      (intro V hSV; (try dsimp only at hSV); have q0 := hSV; go_simp; try with_reducible rfl)
    (try simp only [Act.put, List.setIfInBounds_toArray, List.set_cons_zero, List.set_cons_succ])
    refine wpAnyH_take (i := 2) (oi := ?_) (v := ?_) ?_ ?_ ?_ ?_ ?_ ?_ (by exact hHeld) ?_
    rotate_left 2
    · (simp only [List.getElem?_toArray, List.getElem?_cons_zero, List.getElem?_cons_succ]; try rfl)
    · kernel_rfl
    · kernel_rfl
    · kernel_rfl
    · exact fun _ _ _ h => h
    · refine Or.inl ⟨by rfl, ?_⟩
      (intro V hSV; (try dsimp only at hSV); have q0 := hSV; go_simp; try with_reducible rfl)
    (try simp only [Act.put, List.setIfInBounds_toArray, List.set_cons_zero, List.set_cons_succ])
    refine wpAnyH_take (i := 3) (oi := ?_) (v := ?_) ?_ ?_ ?_ ?_ ?_ ?_ (by exact hHeld) ?_
    rotate_left 2
    · (simp only [List.getElem?_toArray, List.getElem?_cons_zero, List.getElem?_cons_succ]; try rfl)
    · kernel_rfl
    · kernel_rfl
    · kernel_rfl
    · exact fun _ _ _ h => h
    · refine Or.inl ⟨by rfl, ?_⟩
      (intro V hSV; (try dsimp only at hSV); have q0 := hSV; go_simp; try with_reducible rfl)
    (try simp only [Act.put, List.setIfInBounds_toArray, List.set_cons_zero, List.set_cons_succ])
    refine wpAnyH_take (i := 5) (oi := ?_) (v := ?_) ?_ ?_ ?_ ?_ ?_ ?_ (by exact hHeld) ?_
    rotate_left 2
    · (simp only [List.getElem?_toArray, List.getElem?_cons_zero, List.getElem?_cons_succ]; try rfl)
    · kernel_rfl
    · kernel_rfl
    · kernel_rfl
    · exact fun _ _ _ h => h
    · refine Or.inl ⟨by rfl, ?_⟩
      (intro V hSV; (try dsimp only at hSV); have q0 := hSV; go_simp; try with_reducible rfl)
    (try simp only [Act.put, List.setIfInBounds_toArray, List.set_cons_zero, List.set_cons_succ])
    refine wpAnyH_ready (rs := [1]) (by kernel_rfl) (by simp) ?_
    refine AllReadyH.cons rfl (fun K hK => ?_) AllReadyH.nil
    go_simp
    refine (raw_any g (N + 5) _ (by omega) (by exact hc2)).mono ?_
    rintro e w6 ⟨r, rfl, hr0, hr1, hc6, ho6⟩
    have ho6 : Only g w2 w6 := ⟨ho6.os, ho6.tape, ho6.output, ho6.size, ho6.block⟩
    have bR := bR.only ho6 (by omega)
    have bL := bL.only ho6 (by omega)
    have hz6 := ho6.size
    have ho6 := ho2.trans ho6
    have hr : isI r := ⟨hr0, hr1⟩
    have e0 := bL.cell 0
    go_wp2_with fail
    refine hK.out _ _ (by exact e0) (fun hHeld => ?_)
    clear hK K
    (try simp only [Act.put, List.setIfInBounds_toArray, List.set_cons_zero, List.set_cons_succ])
    refine wpAnyH_ready (rs := [4, 6]) (by kernel_rfl) (by simp) ?_
    refine AllReadyH.cons (o := ?_) ?_ (fun K hK => ?_) ?_
    rotate_left 1
    · (simp only [List.getElem?_toArray, List.getElem?_cons_zero, List.getElem?_cons_succ]; try rfl)
    · have hal6 := (Below.refl w6.heap.size w6).alloc (Nat.le_refl _) (.cells #[.int .i64 r, .int .i64 i, .int .i64 400, .int .i64 401] 3)
      go_simp
      refine hK.out _ _ (by exact (bL.below hal6).cell 0) (fun hHeld => ?_)
      clear hK K
      (try simp only [Act.put, List.setIfInBounds_toArray, List.set_cons_zero, List.set_cons_succ])
      refine wpAnyH_ready (rs := [6]) (by kernel_rfl) (by simp) ?_
      refine AllReadyH.cons rfl (fun K hK => ?_) AllReadyH.nil
      go_simp
      refine (pick_draws g (N + 7) 4 _ (by omega) (by omega) (by omega) (by exact hc6.alloc _)).mono ?_
      rintro e w7 ⟨z, rfl, hz0, hz1, hc7, ho7⟩
      have ho7 : Only g (w6.alloc (.cells #[.int .i64 r, .int .i64 i, .int .i64 400, .int .i64 401] 3)) w7 := ⟨ho7.os, ho7.tape, ho7.output, ho7.size, ho7.block⟩
      have hrow := ho7.row hc6.lt
      have bR := (bR.below hal6).only ho7 (by omega)
      have bL := (bL.below hal6).only ho7 (by omega)
      have ho7 := ho6.trans ho7.of_alloc
      have e0 := bL.cell 0
      go_wp2_with fail
      refine hK.out _ _ (by exact e0) (fun hHeld => ?_)
      clear hK K
      (try simp only [Act.put, List.setIfInBounds_toArray, List.set_cons_zero, List.set_cons_succ])
      obtain ⟨k, rfl⟩ := Int.eq_ofNat_of_zero_le hz0
      have hk4 : (k : Int) < 4 := by omega
      obtain ⟨v, hv, hvI⟩ : ∃ v : Int, (w7).cell? ⟨w6.heap.size, k, none⟩ = some (.int .i64 v) ∧ isI v := by
        rw [hrow k]
        match k, (show k < 4 by omega) with
        | 0, _ => exact ⟨_, rfl, hr⟩
        | 1, _ => exact ⟨_, rfl, hi⟩
        | 2, _ => exact ⟨_, rfl, by decide, by decide⟩
        | 3, _ => exact ⟨_, rfl, by decide, by decide⟩
      clear hrow
      have r0 := bR.cell 0
      have r1 := bR.cell 1
      have r2 := bR.cell 2
      have r3 := bR.cell 3
      have g0 := bR.frozen 0
      have g1 := bR.frozen 1
      have g2 := bR.frozen 2
      have g3 := bR.frozen 3
      have e0 := bL.cell 0
      have e1 := bL.cell 1
      have e2 := bL.cell 2
      have e3 := bL.cell 3
      have f0 := bL.frozen 0
      have f1 := bL.frozen 1
      have f2 := bL.frozen 2
      have f3 := bL.frozen 3
      have hlt := bR.lt
      have hlt2 := bL.lt
      refine wpAnyH_take (i := 7) (oi := ?_) (v := ?_) ?_ ?_ ?_ ?_ ?_ ?_ (by exact hHeld) ?_
      rotate_left 2
      · (simp only [List.getElem?_toArray, List.getElem?_cons_zero, List.getElem?_cons_succ]; try rfl)
      · kernel_rfl
      · kernel_rfl
      · kernel_rfl
      · exact fun _ _ _ h => h
      · refine Or.inl ⟨by rfl, ?_⟩
        (intro V hSV; (try dsimp only at hSV); have q0 := hSV; go_simp; try with_reducible rfl)
      (try simp only [Act.put, List.setIfInBounds_toArray, List.set_cons_zero, List.set_cons_succ])
      refine wpAnyH_ready (rs := [8]) (by kernel_rfl) (by simp) ?_
      refine AllReadyH.cons (o := ?_) ?_ (fun K hK => ?_) AllReadyH.nil
      rotate_left 1
      · (simp only [List.getElem?_toArray, List.getElem?_cons_zero, List.getElem?_cons_succ]; try rfl)
      go_simp
      refine hK.out _ _ (by exact e0) (fun hHeld => ?_)
      clear hK K
      (try simp only [Act.put, List.setIfInBounds_toArray, List.set_cons_zero, List.set_cons_succ])
      refine wpAnyH_take (i := 9) (oi := ?_) (v := ?_) ?_ ?_ ?_ ?_ ?_ ?_ (by exact hHeld) ?_
      rotate_left 2
      · (simp only [List.getElem?_toArray, List.getElem?_cons_zero, List.getElem?_cons_succ]; try rfl)
      · kernel_rfl
      · kernel_rfl
      · kernel_rfl
      · exact fun _ _ _ h => h
      · refine Or.inl ⟨by rfl, ?_⟩
        (intro V hSV; (try dsimp only at hSV); have q0 := hSV; go_simp; try with_reducible rfl)
      (try simp only [Act.put, List.setIfInBounds_toArray, List.set_cons_zero, List.set_cons_succ])
      refine wpAnyH_ready (rs := [10]) (by kernel_rfl) (by simp) ?_
      refine AllReadyH.cons (o := ?_) ?_ (fun K hK => ?_) AllReadyH.nil
      rotate_left 1
      · (simp only [List.getElem?_toArray, List.getElem?_cons_zero, List.getElem?_cons_succ]; try rfl)
      go_simp
      refine hK.out _ _ (by exact (bL.set 1 (.int .i64 v)).cell 0) (fun hHeld => ?_)
      clear hK K
      (try simp only [Act.put, List.setIfInBounds_toArray, List.set_cons_zero, List.set_cons_succ])
      refine wpAnyH_done (by kernel_rfl) ?_ _
      go_wp2
      refine bodyPost_ret (v := .agg #[.int .i64 i, .int .i64 v, .int .i64 s, .int .i64 t]) (by simp [results, Try.results26, go_sem, r0, r1, r2, r3]) rfl ?_
      exact ⟨i, v, s, t, rfl, hi, hvI, hs, ht, curPut4 ((hc7.setNew (b := w1.heap.size) (by omega) 1 _).mono (by omega)) (by omega) _ _ _ _, put4 (ho7.setNew (b := w1.heap.size) (by omega) 1 _) (Nat.le_refl _) _ _ _ _⟩
    refine AllReadyH.cons (o := ?_) ?_ (fun K hK => ?_) AllReadyH.nil
    rotate_left 1
    · (simp only [List.getElem?_toArray, List.getElem?_cons_zero, List.getElem?_cons_succ]; try rfl)
    go_simp
    refine (pick_draws g (N + 7) 4 _ (by omega) (by omega) (by omega) (by exact hc6)).mono ?_
    rintro e w7 ⟨z, rfl, hz0, hz1, hc7, ho7⟩
    have ho7 : Only g w6 w7 := ⟨ho7.os, ho7.tape, ho7.output, ho7.size, ho7.block⟩
    have bR := bR.only ho7 (by omega)
    have bL := bL.only ho7 (by omega)
    have hz7 := ho7.size
    have ho7 := ho6.trans ho7
    have e0 := bL.cell 0
    go_wp2_with fail
    refine hK.out _ _ (by exact e0) (fun hHeld => ?_)
    clear hK K
    (try simp only [Act.put, List.setIfInBounds_toArray, List.set_cons_zero, List.set_cons_succ])
    refine wpAnyH_ready (rs := [4]) (by kernel_rfl) (by simp) ?_
    refine AllReadyH.cons (o := ?_) ?_ (fun K hK => ?_) AllReadyH.nil
    rotate_left 1
    · (simp only [List.getElem?_toArray, List.getElem?_cons_zero, List.getElem?_cons_succ]; try rfl)
    have hal7 := (Below.refl w7.heap.size w7).alloc (Nat.le_refl _) (.cells #[.int .i64 r, .int .i64 i, .int .i64 400, .int .i64 401] 3)
    go_simp
    refine hK.out _ _ (by exact (bL.below hal7).cell 0) (fun hHeld => ?_)
    clear hK K
    (try simp only [Act.put, List.setIfInBounds_toArray, List.set_cons_zero, List.set_cons_succ])
    have hrow := (Blk.new w7 #[.int .i64 r, .int .i64 i, .int .i64 400, .int .i64 401] 3).cell
    have bR := bR.below hal7
    have bL := bL.below hal7
    have ho7 := ho7.trans (Only.of_below hal7)
    have hc7 := hc7.alloc (.cells #[.int .i64 r, .int .i64 i, .int .i64 400, .int .i64 401] 3)
    have e0 := bL.cell 0
    obtain ⟨k, rfl⟩ := Int.eq_ofNat_of_zero_le hz0
    have hk4 : (k : Int) < 4 := by omega
    obtain ⟨v, hv, hvI⟩ : ∃ v : Int, (w7.alloc (.cells #[.int .i64 r, .int .i64 i, .int .i64 400, .int .i64 401] 3)).cell? ⟨w7.heap.size, k, none⟩ = some (.int .i64 v) ∧ isI v := by
      rw [hrow k]
      match k, (show k < 4 by omega) with
      | 0, _ => exact ⟨_, rfl, hr⟩
      | 1, _ => exact ⟨_, rfl, hi⟩
      | 2, _ => exact ⟨_, rfl, by decide, by decide⟩
      | 3, _ => exact ⟨_, rfl, by decide, by decide⟩
    clear hrow
    have r0 := bR.cell 0
    have r1 := bR.cell 1
    have r2 := bR.cell 2
    have r3 := bR.cell 3
    have g0 := bR.frozen 0
    have g1 := bR.frozen 1
    have g2 := bR.frozen 2
    have g3 := bR.frozen 3
    have e0 := bL.cell 0
    have e1 := bL.cell 1
    have e2 := bL.cell 2
    have e3 := bL.cell 3
    have f0 := bL.frozen 0
    have f1 := bL.frozen 1
    have f2 := bL.frozen 2
    have f3 := bL.frozen 3
    have hlt := bR.lt
    have hlt2 := bL.lt
    refine wpAnyH_take (i := 7) (oi := ?_) (v := ?_) ?_ ?_ ?_ ?_ ?_ ?_ (by exact hHeld) ?_
    rotate_left 2
    · (simp only [List.getElem?_toArray, List.getElem?_cons_zero, List.getElem?_cons_succ]; try rfl)
    · kernel_rfl
    · kernel_rfl
    · kernel_rfl
    · exact fun _ _ _ h => h
    · refine Or.inl ⟨by rfl, ?_⟩
      (intro V hSV; (try dsimp only at hSV); have q0 := hSV; go_simp; try with_reducible rfl)
    (try simp only [Act.put, List.setIfInBounds_toArray, List.set_cons_zero, List.set_cons_succ])
    refine wpAnyH_ready (rs := [8]) (by kernel_rfl) (by simp) ?_
    refine AllReadyH.cons (o := ?_) ?_ (fun K hK => ?_) AllReadyH.nil
    rotate_left 1
    · (simp only [List.getElem?_toArray, List.getElem?_cons_zero, List.getElem?_cons_succ]; try rfl)
    go_simp
    refine hK.out _ _ (by exact e0) (fun hHeld => ?_)
    clear hK K
    (try simp only [Act.put, List.setIfInBounds_toArray, List.set_cons_zero, List.set_cons_succ])
    refine wpAnyH_take (i := 9) (oi := ?_) (v := ?_) ?_ ?_ ?_ ?_ ?_ ?_ (by exact hHeld) ?_
    rotate_left 2
    · (simp only [List.getElem?_toArray, List.getElem?_cons_zero, List.getElem?_cons_succ]; try rfl)
    · kernel_rfl
    · kernel_rfl
    · kernel_rfl
    · exact fun _ _ _ h => h
    · refine Or.inl ⟨by rfl, ?_⟩
      (intro V hSV; (try dsimp only at hSV); have q0 := hSV; go_simp; try with_reducible rfl)
    (try simp only [Act.put, List.setIfInBounds_toArray, List.set_cons_zero, List.set_cons_succ])
    refine wpAnyH_ready (rs := [10]) (by kernel_rfl) (by simp) ?_
    refine AllReadyH.cons (o := ?_) ?_ (fun K hK => ?_) AllReadyH.nil
    rotate_left 1
    · (simp only [List.getElem?_toArray, List.getElem?_cons_zero, List.getElem?_cons_succ]; try rfl)
    go_simp
    refine hK.out _ _ (by exact (bL.set 1 (.int .i64 v)).cell 0) (fun hHeld => ?_)
    clear hK K
    (try simp only [Act.put, List.setIfInBounds_toArray, List.set_cons_zero, List.set_cons_succ])
    refine wpAnyH_done (by kernel_rfl) ?_ _
    go_wp2
    refine bodyPost_ret (v := .agg #[.int .i64 i, .int .i64 v, .int .i64 s, .int .i64 t]) (by simp [results, Try.results26, go_sem, r0, r1, r2, r3]) rfl ?_
    exact ⟨i, v, s, t, rfl, hi, hvI, hs, ht, curPut4 ((hc7.setNew (b := w1.heap.size) (by omega) 1 _).mono (by omega)) (by omega) _ _ _ _, put4 (ho7.setNew (b := w1.heap.size) (by omega) 1 _) (Nat.le_refl _) _ _ _ _⟩
  by_cases q2 : x = 2
  · subst q2
    go_wp2_with fail
    refine (raw_any g (N + 5) _ (by omega) (by exact hc2)).mono ?_
    rintro e w6 ⟨r, rfl, hr0, hr1, hc6, ho6⟩
    have bR := bR.only ho6 (by omega)
    have bL := bL.only ho6 (by omega)
    have hz6 := ho6.size
    have ho6 := ho2.trans ho6
    have hr : isI r := ⟨hr0, hr1⟩
    have hal6 := (Below.refl w6.heap.size w6).alloc (Nat.le_refl _) (.cells #[.int .i64 r, .int .i64 8, .int .i64 9] 3)
    go_wp2_with fail
    refine (pick_draws g (N + 7) 3 _ (by omega) (by omega) (by omega) (by exact hc6.alloc _)).mono ?_
    rintro e w7 ⟨z, rfl, hz0, hz1, hc7, ho7⟩
    obtain ⟨k, rfl⟩ := Int.eq_ofNat_of_zero_le hz0
    have hrow := ho7.row hc6.lt k
    obtain ⟨v, hv, hv0, hv1⟩ : ∃ v : Int, w7.cell? ⟨w6.heap.size, k, none⟩ = some (.int .i64 v) ∧ -9223372036854775808 ≤ v ∧ v ≤ 9223372036854775807 := by
      rw [hrow]
      match k, (show k < 3 by omega) with
      | 0, _ => exact ⟨_, rfl, by (try unfold isI at *); omega, by (try unfold isI at *); omega⟩
      | 1, _ => exact ⟨_, rfl, by (try unfold isI at *); omega, by (try unfold isI at *); omega⟩
      | 2, _ => exact ⟨_, rfl, by (try unfold isI at *); omega, by (try unfold isI at *); omega⟩
    clear hrow
    have bR := (bR.below hal6).only ho7 (by omega)
    have bL := (bL.below hal6).only ho7 (by omega)
    have ho7 := ho6.trans ho7.of_alloc
    have hvI : isI v := ⟨hv0, hv1⟩
    have r0 := bR.cell 0
    have r1 := bR.cell 1
    have r2 := bR.cell 2
    have r3 := bR.cell 3
    have g0 := bR.frozen 0
    have g1 := bR.frozen 1
    have g2 := bR.frozen 2
    have g3 := bR.frozen 3
    have e0 := bL.cell 0
    have e1 := bL.cell 1
    have e2 := bL.cell 2
    have e3 := bL.cell 3
    have f0 := bL.frozen 0
    have f1 := bL.frozen 1
    have f2 := bL.frozen 2
    have f3 := bL.frozen 3
    have hlt := bR.lt
    have hlt2 := bL.lt
    go_wp2
    refine bodyPost_ret (v := .agg #[.int .i64 i, .int .i64 j, .int .i64 v, .int .i64 t]) (by simp [results, Try.results26, go_sem, r0, r1, r2, r3]) rfl ?_
    exact ⟨i, j, v, t, rfl, hi, hj, hvI, ht, curPut4 ((hc7.setNew (b := w1.heap.size) (by omega) 2 _).mono (by omega)) (by omega) _ _ _ _, put4 (ho7.setNew (b := w1.heap.size) (by omega) 2 _) (Nat.le_refl _) _ _ _ _⟩
  by_cases q3 : x = 3
  · subst q3
    go_wp2_with fail
    refine (raw_any g (N + 5) _ (by omega) (by exact hc2)).mono ?_
    rintro e w6 ⟨r, rfl, hr0, hr1, hc6, ho6⟩
    have bR := bR.only ho6 (by omega)
    have bL := bL.only ho6 (by omega)
    have hz6 := ho6.size
    have ho6 := ho2.trans ho6
    have hr : isI r := ⟨hr0, hr1⟩
    have hal6 := (Below.refl w6.heap.size w6).alloc (Nat.le_refl _) (.cells #[.int .i64 r, .int .i64 1000, .int .i64 1001] 3)
    go_wp2_with fail
    refine (pick_draws g (N + 7) 3 _ (by omega) (by omega) (by omega) (by exact hc6.alloc _)).mono ?_
    rintro e w7 ⟨z, rfl, hz0, hz1, hc7, ho7⟩
    obtain ⟨k, rfl⟩ := Int.eq_ofNat_of_zero_le hz0
    have hrow := ho7.row hc6.lt k
    obtain ⟨v, hv, hv0, hv1⟩ : ∃ v : Int, w7.cell? ⟨w6.heap.size, k, none⟩ = some (.int .i64 v) ∧ -9223372036854775808 ≤ v ∧ v ≤ 9223372036854775807 := by
      rw [hrow]
      match k, (show k < 3 by omega) with
      | 0, _ => exact ⟨_, rfl, by (try unfold isI at *); omega, by (try unfold isI at *); omega⟩
      | 1, _ => exact ⟨_, rfl, by (try unfold isI at *); omega, by (try unfold isI at *); omega⟩
      | 2, _ => exact ⟨_, rfl, by (try unfold isI at *); omega, by (try unfold isI at *); omega⟩
    clear hrow
    have bR := (bR.below hal6).only ho7 (by omega)
    have bL := (bL.below hal6).only ho7 (by omega)
    have ho7 := ho6.trans ho7.of_alloc
    have hvI : isI v := ⟨hv0, hv1⟩
    have r0 := bR.cell 0
    have r1 := bR.cell 1
    have r2 := bR.cell 2
    have r3 := bR.cell 3
    have g0 := bR.frozen 0
    have g1 := bR.frozen 1
    have g2 := bR.frozen 2
    have g3 := bR.frozen 3
    have e0 := bL.cell 0
    have e1 := bL.cell 1
    have e2 := bL.cell 2
    have e3 := bL.cell 3
    have f0 := bL.frozen 0
    have f1 := bL.frozen 1
    have f2 := bL.frozen 2
    have f3 := bL.frozen 3
    have hlt := bR.lt
    have hlt2 := bL.lt
    go_wp2
    refine bodyPost_ret (v := .agg #[.int .i64 i, .int .i64 j, .int .i64 s, .int .i64 v]) (by simp [results, Try.results26, go_sem, r0, r1, r2, r3]) rfl ?_
    exact ⟨i, j, s, v, rfl, hi, hj, hs, hvI, curPut4 ((hc7.setNew (b := w1.heap.size) (by omega) 3 _).mono (by omega)) (by omega) _ _ _ _, put4 (ho7.setNew (b := w1.heap.size) (by omega) 3 _) (Nat.le_refl _) _ _ _ _⟩
  have p0 : (x == 0) = false := by simp [q0]
  have p1 : (x == 1) = false := by simp [q1]
  have p2 : (x == 2) = false := by simp [q2]
  have p3 : (x == 3) = false := by simp [q3]
  have r0 := bR.cell 0
  have r1 := bR.cell 1
  have r2 := bR.cell 2
  have r3 := bR.cell 3
  have g0 := bR.frozen 0
  have g1 := bR.frozen 1
  have g2 := bR.frozen 2
  have g3 := bR.frozen 3
  have e0 := bL.cell 0
  have e1 := bL.cell 1
  have e2 := bL.cell 2
  have e3 := bL.cell 3
  have f0 := bL.frozen 0
  have f1 := bL.frozen 1
  have f2 := bL.frozen 2
  have f3 := bL.frozen 3
  have hlt := bR.lt
  have hlt2 := bL.lt
  go_wp2
  refine bodyPost_ret (v := .agg #[.int .i64 i, .int .i64 j, .int .i64 s, .int .i64 t]) (by simp [results, Try.results26, go_sem, r0, r1, r2, r3]) rfl ?_
  exact ⟨i, j, s, t, rfl, hi, hj, hs, ht, curPut4 (hc2.mono (by omega)) (by omega) _ _ _ _, put4 ho2 (Nat.le_refl _) _ _ _ _⟩
end Go.Proofs.Ytgbmobepnhhldaa

/-
  Chapter 7's draw of a list of leases: contract. Own work.
-/
namespace Go.Proofs.Ytgbmobepnhhldaa
open Go.RowKit P
set_option linter.unusedVariables false
set_option linter.unusedSimpArgs false
set_option maxRecDepth 100000

theorem OwR.only {w w' : World} {g base : Nat} {v : Value} {es : List Le} (h : OwR w base v es) (ho : Only g w w') (hb : g < base) : OwR w' base v es := by
  refine ⟨World.ownsRow.kept (w' := w') (row := some g) h.row ho ?_, h.in_⟩
  cases hv : v.ownBlock with
  | none => exact .inl rfl
  | some k =>
    have := (World.ownsRow.lt h.row k hv).1
    right
    intro e
    injection e with e
    omega
theorem Only.grownR {g base : Nat} {a w w' : World} {v : Value} {es : List Le} (h : Only g a w) (hown : OwR w base v es) (hg : w.grownBy w' v.ownBlock) (hb : a.heap.size ≤ base) : Only g a w' :=
  ⟨hg.os.trans h.os, hg.tape.trans h.tape, hg.output.trans h.output, Nat.le_trans h.size hg.size, fun k hk hne =>
    (hg.block k (Nat.lt_of_lt_of_le hk h.size) (fun e => by have := (World.ownsRow.lt hown.row k e.symm).1; omega)).trans (h.block k hk hne)⟩
theorem Cur.grownR {g N base : Nat} {w w' : World} {v : Value} {es : List Le} (h : Cur w g N) (hown : OwR w base v es) (hg : w.grownBy w' v.ownBlock) (hb : g < base) : Cur w' g N :=
  h.keep (fun k hk => hg.block k (by have := h.lt; omega) (fun e => by have := (World.ownsRow.lt hown.row k e.symm).1; omega)) hg.size
theorem takeL_12 {es : List Le} {l : Le} {now : Int} (h : takeN es l now = 0) : (takeL es l now).length ≤ 12 := by
  have h1 := takeN_zero h
  have h2 := putL_length es l
  unfold takeL
  rw [if_pos h]
  omega

/-- What a draw of a list of leases ends in. -/
def DrawsLs (g N : Nat) (w : World) (e : Ending) (w' : World) : Prop := ∃ v es, e = .returned v ∧ OwR w' w.heap.size v es ∧ es.length ≤ 13 ∧ Cur w' g N ∧ Only g w w'

set_option maxHeartbeats 16000000 in
theorem leases_any (g N : Nat) (w : World) (hN : N ≤ 9000) (h : Cur w g N) :
    Calls Try.prog 25 #[.pointer (some ⟨g, 0, none⟩)] w (DrawsLs g (N + 90) w) := by
  have hglt := h.lt
  have hown0 := OwR.empty w
  have hal := (Below.refl w.heap.size w).alloc (Nat.le_refl _) (.cells #[] 26)
  have hc0 := h.only_new hal
  have ho0 : Only g w _ := Only.of_below hal
  clear h
  go_enter Try.func25, Try.ntmps25
  go_wp2_with fail
  generalize w.alloc (.cells #[] 26) = W0 at *
  refine (size_any g N 16 _ (by omega) (by omega) (by omega) (by exact hc0)).mono ?_
  rintro e w1 ⟨x, rfl, hx0, hx1, hc1, ho1⟩
  obtain ⟨j0, rfl⟩ := Int.eq_ofNat_of_zero_le hx0
  have hj0 : j0 ≤ 16 := by omega
  have how1 := hown0.only ho1 (by omega)
  have ho1 := ho0.trans ho1
  clear hc0 ho0 hown0 hal hx0 hx1
  go_wp2
  go_loopw [3, 4] (fun lv kk wr => ∃ (j : Nat) (v : Value) (es : List Le), kk = .int .i64 j ∧ v = lv ∧ j ≤ 16 ∧ OwR wr w.heap.size v es ∧ es.length ≤ 12 ∧ Cur wr g (N + 1 + 4 * (16 - j)) ∧ Only g w wr) (fun _ kk _ => (intOf kk).toNat)
  case atStart => exact ⟨j0, _, [], rfl, rfl, hj0, how1, by simp, hc1.mono (by omega), ho1⟩
  case round =>
    obtain ⟨j, v, es, rfl, rfl, hj, how, hes, hcur, honly⟩ := hrel
    by_cases hjp : 0 < j
    · go_wp2_with fail
      refine (lease_any g (N + 1 + 4 * (16 - j)) _ (by omega) (by exact hcur)).mono ?_
      rintro e w4 ⟨li, lj, ls, lt, rfl, hi, hjj, hs, ht, hc4, ho4⟩
      have how4 := how.only ho4 (by omega)
      have honly4 := honly.trans ho4
      obtain ⟨A4, c4, rfl, hcap4, hm4, hL4⟩ := how4.ll
      have HOW4 := Lib.hid how4
      have HON := Lib.hid honly4
      have HC4 := Lib.hid hc4
      clear how how4 honly honly4 hcur hc4 ho4
      go_wp2_with fail
      refine (specLeaseTake_any A4 es c4 li lj ls lt 0 _ (by omega) ⟨hcap4, hm4⟩ (by exact hL4)).mono ?_
      rintro e w5 ⟨v5, rfl, how5, hb5⟩
      obtain ⟨n, hn⟩ : ∃ n, takeN es (li, lj, ls, lt) 0 = n := ⟨_, rfl⟩
      rw [hn]
      have hs4 := HON.out.size
      by_cases hz : n = 0
      · have hlen := takeL_12 (hn.trans hz)
        generalize takeL es (li, lj, ls, lt) 0 = es5 at *
        have how5 := how5.mono (base' := w.heap.size) (by omega)
        have hc5 := HC4.out.only_new hb5
        have ho5 := HON.out.trans (Only.of_below hb5)
        subst hz
        have HW := Lib.hid how5
        have HC := Lib.hid hc5
        have HO := Lib.hid ho5
        clear hn how5 hc5 ho5 hb5 hL4
        go_wp2
        go_roundw
        case rel => exact ⟨j - 1, _, es5, by go_num, rfl, by omega, HW.out, hlen, HC.out.mono (by omega), HO.out⟩
        case measure => simp [intOf]; omega
      · have hz2 : (n == 0) = false := by simp [hz]
        have how6 := HOW4.out.below hb5
        have hc5 := HC4.out.only_new hb5
        have ho5 := HON.out.trans (Only.of_below hb5)
        have HW := Lib.hid how6
        have HC := Lib.hid hc5
        have HO := Lib.hid ho5
        clear hn hz how5 how6 hc5 ho5 hb5 hL4
        go_wp2
        go_roundw
        case rel => exact ⟨j - 1, _, es, by go_num, rfl, by omega, HW.out, hes, HC.out.mono (by omega), HO.out⟩
        case measure => simp [intOf]; omega
    · obtain rfl : j = 0 := by omega
      have hcur := hcur.mono (M := N + 70) (by omega)
      go_wp2_with fail
      refine (pick_draws g (N + 70) 14 _ (by omega) (by omega) (by omega) (by exact hcur)).mono ?_
      rintro e w2 ⟨x, rfl, hx0, hx1, hc2, ho2⟩
      have how := how.only ho2 (by omega)
      have honly := honly.trans ho2
      obtain ⟨A2, c2, rfl, hcap2, hm2, hL2⟩ := how.ll
      have hsz := honly.size
      clear hcur ho2
      by_cases q0 : x = 0
      · subst q0
        go_wp2_with fail
        refine (badLease_any g (N + 71) _ (by omega) (by exact hc2)).mono ?_
        rintro e w6 ⟨li, lj, ls, lt, rfl, hi, hjj, hs, ht, hc6, ho6⟩
        have how6 := how.only ho6 (by omega)
        have honly6 := honly.trans ho6
        have hs6 := honly6.size
        have hnew := ll_new w6 (l := (li, lj, ls, lt)) ⟨hi, hjj, hs, ht⟩
        have hal6 := (Below.refl w6.heap.size w6).alloc (Nat.le_refl _) (.cells (leC (li, lj, ls, lt)) 26)
        have how7 := how6.below hal6
        have HC := Lib.hid (hc6.only_new hal6)
        have HO := Lib.hid (honly6.trans (Only.of_below hal6))
        clear how how6 honly honly6 hc6 ho6 hc2 hal6 hL2
        go_wp2_with (at_builtin; go_must (refine wpList_app_le rfl _ _ rfl w.heap.size _ es [(li, lj, ls, lt)] _ 1 1 rfl rfl rfl how7 hnew ?c1 ?c2 ?_))
        case c1 => simp; omega
        case c2 => simp; omega
        intro v8 w8 how8 hg8 _
        have hc8 := HC.out.grownR how7 hg8 (by omega)
        have ho8 := HO.out.grownR how7 hg8 (Nat.le_refl _)
        clear how7 hg8 hnew HC HO
        go_wp2
        go_ret
        exact ⟨v8, _, rfl, how8, by simp; omega, hc8.mono (by omega), ho8⟩
      have p0 : (x == 0) = false := by simp [q0]
      by_cases q1 : x = 1
      · subst q1
        by_cases hl0 : 0 < es.length
        · have hl1 : (0 : Int) < (es.length : Int) := by omega
          clear hL2
          go_wp2_with fail
          refine (pick_draws g (N + 71) es.length _ (by omega) (by omega) (by omega) (by exact hc2)).mono ?_
          rintro e w3 ⟨y, rfl, hy0, hy1, hc3, ho3⟩
          obtain ⟨k, rfl⟩ := Int.eq_ofNat_of_zero_le hy0
          have hk : k < es.length := by omega
          have hk0 : (0 : Int) ≤ (k : Int) := by omega
          have hk1 : (k : Int) < (es.length : Int) := by omega
          have how3 := how.only ho3 (by omega)
          have honly3 := honly.trans ho3
          clear how honly hc2 ho3 hy0 hy1
          go_wp2_with fail
          refine (badLease_any g (N + 72) _ (by omega) (by exact hc3)).mono ?_
          rintro e w6 ⟨li, lj, ls, lt, rfl, hi, hjj, hs, ht, hc6, ho6⟩
          have how6 := how3.only ho6 (by omega)
          have honly6 := honly3.trans ho6
          obtain ⟨gb, rfl, hgb, cur, hB9⟩ : ∃ gb, A2 = some ⟨gb, 0, none⟩ ∧ w.heap.size ≤ gb ∧ ∃ cur, Blk w6 gb cur 26 := by
            rcases how6.row.2 with ⟨e, h0⟩ | ⟨g', cap, cur, e, hbg, hh9, _⟩
            · omega
            · cases e; exact ⟨g', rfl, hbg, cur, hh9⟩
          obtain ⟨_, _, e9, _, _, hL6⟩ := how6.ll
          cases e9
          obtain ⟨b9, off9, x9, y9, s9, t9, e9, hbl9, hek9, k0, k1, k2, k3, _⟩ := hL6.at_ k hk
          cases e9
          have hset := how6.set4 k hk li lj ls lt ⟨hi, hjj, hs, ht⟩
          have f0 := hB9.frozen (k * 4)
          have f1 := hB9.frozen (k * 4 + 1)
          have f2 := hB9.frozen (k * 4 + 2)
          have f3 := hB9.frozen (k * 4 + 3)
          simp only [Nat.zero_add] at k0 k1 k2 k3
          have HS := Lib.hid hset
          have HC := Lib.hid ((((hc6.setNew (b := gb) (by omega) (k * 4) (.int .i64 li)).setNew (b := gb) (by omega) (k * 4 + 1) (.int .i64 lj)).setNew (b := gb) (by omega) (k * 4 + 2) (.int .i64 ls)).setNew (b := gb) (by omega) (k * 4 + 3) (.int .i64 lt))
          have HO := Lib.hid ((((honly6.setNew (b := gb) hgb (k * 4) (.int .i64 li)).setNew (b := gb) hgb (k * 4 + 1) (.int .i64 lj)).setNew (b := gb) hgb (k * 4 + 2) (.int .i64 ls)).setNew (b := gb) hgb (k * 4 + 3) (.int .i64 lt))
          clear hset how6 how3 honly3 honly6 hc6 hc3 ho6 hL6 hek9 hB9
          go_wp2
          go_ret
          exact ⟨_, es.set k (li, lj, ls, lt), rfl, HS.out, by rw [List.length_set]; omega, HC.out.mono (by omega), HO.out⟩
        · obtain rfl : es = [] := List.eq_nil_of_length_eq_zero (by omega)
          have HW := Lib.hid how
          have HC := Lib.hid hc2
          have HO := Lib.hid honly
          clear how hc2 honly hL2 hl0 hcap2 hes
          go_wp2
          go_ret
          exact ⟨_, [], rfl, HW.out, by simp, HC.out.mono (by omega), HO.out⟩
      have p1 : (x == 1) = false := by simp [q1]
      by_cases q2 : x = 2
      · subst q2
        have HW := Lib.hid how
        have HC := Lib.hid hc2
        have HO := Lib.hid honly
        clear how hc2 honly hL2
        go_wp2
        go_loopw [3, 7] (fun lv ii wr => ∃ (i : Nat) (v : Value) (L : List Le), ii = .int .i64 i ∧ v = lv ∧ i + es.length = L.length ∧ L.length ≤ 12 ∧ OwR wr w.heap.size v L ∧ Cur wr g (N + 71) ∧ Only g w wr) (fun _ ii _ => 12 - (intOf ii).toNat)
        case atStart => exact ⟨0, _, es, rfl, rfl, by omega, hes, HW.out, HC.out.mono (by omega), HO.out⟩
        case round =>
          obtain ⟨i, v, L, rfl, rfl, hiL, hL12, how, hcur, honly⟩ := hrel
          obtain ⟨A3, c3, rfl, hcap3, hm3, hL3⟩ := how.ll
          by_cases hlt : L.length < 12
          · have hlt1 : (L.length : Int) < 12 := by omega
            have hw1 : IntKind.i64.wrap (30 + (i : Int)) = 30 + (i : Int) := IntWalk.i64_in _ ⟨by omega, by omega⟩
            have hw2 : IntKind.i64.wrap (31 + (i : Int)) = 31 + (i : Int) := IntWalk.i64_in _ ⟨by omega, by omega⟩
            have a1 : isI (30 + (i : Int)) := ⟨by omega, by omega⟩
            have a2 : isI (31 + (i : Int)) := ⟨by omega, by omega⟩
            have a3 : isI 1 := ⟨by decide, by decide⟩
            have a4 : isI 9 := ⟨by decide, by decide⟩
            have hin : leIn (30 + (i : Int), 31 + (i : Int), 1, 9) := ⟨a1, a2, a3, a4⟩
            clear a1 a2 a3 a4
            have hnew := ll_new wr hin
            have hal6 := (Below.refl wr.heap.size wr).alloc (Nat.le_refl _) (.cells (leC (30 + (i : Int), 31 + (i : Int), 1, 9)) 26)
            have how7 := how.below hal6
            have hsr := honly.size
            have HC := Lib.hid (hcur.only_new hal6)
            have HO := Lib.hid (honly.trans (Only.of_below hal6))
            clear how honly hcur hal6 hL3 hin
            go_wp2_with (at_builtin; go_must (refine wpList_app_le rfl _ _ rfl w.heap.size _ L [(30 + (i : Int), 31 + (i : Int), 1, 9)] _ 1 1 rfl rfl rfl how7 hnew ?c1 ?c2 ?_))
            case c1 => simp; omega
            case c2 => simp; omega
            intro v8 w8 how8 hg8 _
            have hc8 := HC.out.grownR how7 hg8 (by omega)
            have ho8 := HO.out.grownR how7 hg8 (Nat.le_refl _)
            have H8 := Lib.hid how8
            clear how7 hg8 hnew HC HO how8
            go_wp2
            go_roundw
            case rel => exact ⟨i + 1, _, _, by go_num, rfl, by simp; omega, by simp; omega, H8.out, hc8, ho8⟩
            case measure => simp [intOf]; omega
          · have hlt1 : ¬ (L.length : Int) < 12 := by omega
            have HW := Lib.hid how
            have HC := Lib.hid hcur
            have HO := Lib.hid honly
            clear how hcur honly hL3
            go_wp2
            go_ret
            exact ⟨_, L, rfl, HW.out, by omega, HC.out.mono (by omega), HO.out⟩
      have p2 : (x == 2) = false := by simp [q2]
      have HW := Lib.hid how
      have HC := Lib.hid hc2
      have HO := Lib.hid honly
      clear how hc2 honly hL2
      go_wp2
      go_ret
      exact ⟨_, es, rfl, HW.out, by omega, HC.out.mono (by omega), HO.out⟩
end Go.Proofs.Ytgbmobepnhhldaa

/-
  Chapter 7's draws for taking a lease: contracts. Own work.
-/
namespace Go.Proofs.Ytgbmobepnhhldaa
open Go.RowKit P
set_option linter.unusedVariables false
set_option linter.unusedSimpArgs false
set_option maxRecDepth 100000

set_option maxHeartbeats 16000000 in
theorem leaseOf_any (g N base : Nat) (A : Option Addr) (es : List Le) (c : Nat) (w : World) (hN : N ≤ 10000000) (h : Cur w g N) (hgb : g < base) (hes : es.length ≤ 13) (how : OwR w base (.slice A es.length c) es) :
    Calls Try.prog 28 #[.pointer (some ⟨g, 0, none⟩), .slice A es.length c] w (DrawsLe g (N + 14) w) := by
  have hglt := h.lt
  have hal := (Below.refl w.heap.size w).alloc (Nat.le_refl _) (.cells #[.int .i64 0, .int .i64 0, .int .i64 0, .int .i64 0] 26)
  have bR := Blk.new w #[.int .i64 0, .int .i64 0, .int .i64 0, .int .i64 0] 26
  have hc0 := h.only_new hal
  have ho0 : Only g w _ := Only.of_below hal
  have how0 := how.below hal
  have hsW0 : w.heap.size + 1 ≤ (w.alloc (.cells #[.int .i64 0, .int .i64 0, .int .i64 0, .int .i64 0] 26)).heap.size := by simp
  clear h how
  go_enter Try.func28, Try.ntmps28
  go_wp2_with fail
  generalize w.alloc (.cells #[.int .i64 0, .int .i64 0, .int .i64 0, .int .i64 0] 26) = W0 at *
  refine (badLease_any g N _ (by omega) (by exact hc0)).mono ?_
  rintro e w1 ⟨i, j, s, t, rfl, hi, hj, hs, ht, hc1, ho1⟩
  have hz1 := ho1.size
  have bR := bR.only ho1 (by omega)
  have how1 := how0.only ho1 hgb
  have ho1 := ho0.trans ho1
  have hal1 := (Below.refl w1.heap.size w1).alloc (Nat.le_refl _) (.cells #[.int .i64 i, .int .i64 j, .int .i64 s, .int .i64 t] 26)
  have bL := Blk.new w1 #[.int .i64 i, .int .i64 j, .int .i64 s, .int .i64 t] 26
  have bR := bR.below hal1
  have hc1 := hc1.only_new hal1
  have how1 := how1.below hal1
  have ho1 := ho1.trans (Only.of_below hal1)
  have hwl : w.heap.size < w1.heap.size := by omega
  clear hc0 ho0 hal hal1 how0
  by_cases hl0 : 0 < es.length
  · have hl1 : (0 : Int) < (es.length : Int) := by omega
    go_wp2_with fail
    generalize w1.alloc (.cells #[.int .i64 i, .int .i64 j, .int .i64 s, .int .i64 t] 26) = W1 at *
    refine (once_any g (N + 8) 3 _ (by omega) (by omega) (by omega) (by exact hc1)).mono ?_
    rintro e w2 ⟨b, rfl, hc2, ho2⟩
    have bR := bR.only ho2 (by omega)
    have bL := bL.only ho2 (by omega)
    have how2 := how1.only ho2 hgb
    have ho2 := ho1.trans ho2
    clear hc1 ho1 how1
    cases b
    · go_wp2_with fail
      refine (pick_draws g (N + 9) es.length _ (by omega) (by omega) (by omega) (by exact hc2)).mono ?_
      rintro e w3 ⟨y, rfl, hy0, hy1, hc3, ho3⟩
      obtain ⟨k, rfl⟩ := Int.eq_ofNat_of_zero_le hy0
      have hk : k < es.length := by omega
      have hk0 : (0 : Int) ≤ (k : Int) := by omega
      have hk1 : (k : Int) < (es.length : Int) := by omega
      have bR := bR.only ho3 (by omega)
      have bL := bL.only ho3 (by omega)
      have how3 := how2.only ho3 hgb
      have ho3 := ho2.trans ho3
      obtain ⟨_, _, e9, _, _, hL3⟩ := how3.ll
      cases e9
      obtain ⟨b9, off9, x9, y9, s9, t9, rfl, hbl9, hek9, k0, k1, k2, k3, hx9, hy9, hs9, ht9⟩ := hL3.at_ k hk
      have halX := (Below.refl w3.heap.size w3).alloc (Nat.le_refl _) (.cells #[.int .i64 x9, .int .i64 y9, .int .i64 s9, .int .i64 t9] 26)
      have bX := Blk.new w3 #[.int .i64 x9, .int .i64 y9, .int .i64 s9, .int .i64 t9] 26
      have bL0 := bL.below halX
      have hw13 : w1.heap.size < w3.heap.size := bL.lt
      have HR := Lib.hid ((bR.below halX))
      have HC := Lib.hid (hc3.only_new halX)
      have HO := Lib.hid (ho3.trans (Only.of_below halX))
      have HX := Lib.hid bX
      have HL := Lib.hid bL0
      clear hc2 ho2 how2 how3 hL3 hek9 bR bL bL0 hc3 ho3 hy0 hy1
      go_upto_region 4 with fail
      generalize w3.alloc (.cells #[.int .i64 x9, .int .i64 y9, .int .i64 s9, .int .i64 t9] 26) = W3 at *
      clear k0 k1 k2 k3
      have e0 := HL.out.cell 0
      have e1 := HL.out.cell 1
      have f0 := HL.out.frozen 0
      have f1 := HL.out.frozen 1
      have i0 := HX.out.cell 0
      have i1 := HX.out.cell 1
      have hlt2 := HL.out.lt
      have hltx := HX.out.lt
      go_wp2_with fail
      clear e0 e1 f0 f1 i0 i1 hlt2 hltx
      refine (once_any g (N + 10) 4 _ (by omega) (by omega) (by omega) (by exact (HC.out.setNew (b := w1.heap.size) (by omega) 0 (.int .i64 x9)).setNew (b := w1.heap.size) (by omega) 1 (.int .i64 y9))).mono ?_
      rintro e w4 ⟨b, rfl, hc4, ho4⟩
      have bL : Blk w4 w1.heap.size #[.int .i64 x9, .int .i64 y9, .int .i64 s, .int .i64 t] 26 := ((HL.out.set 0 (.int .i64 x9)).set 1 (.int .i64 y9)).only ho4 (by omega)
      have bX := ((HX.out.setFar (by omega) 0 _).setFar (by omega) 1 _).only ho4 (by omega)
      have bR := ((HR.out.setFar (by omega) 0 _).setFar (by omega) 1 _).only ho4 (by omega)
      have ho5 := ((HO.out.setNew (b := w1.heap.size) (by omega) 0 _).setNew (b := w1.heap.size) (by omega) 1 _).trans ho4
      clear ho4 HO HC HL HX HR
      have r0 := bR.cell 0
      have g0 := bR.frozen 0
      have e0 := bL.cell 0
      have f0 := bL.frozen 0
      have r1 := bR.cell 1
      have g1 := bR.frozen 1
      have e1 := bL.cell 1
      have f1 := bL.frozen 1
      have r2 := bR.cell 2
      have g2 := bR.frozen 2
      have e2 := bL.cell 2
      have f2 := bL.frozen 2
      have r3 := bR.cell 3
      have g3 := bR.frozen 3
      have e3 := bL.cell 3
      have f3 := bL.frozen 3
      have hlt := bR.lt
      have hlt2 := bL.lt
      cases b
      · have i2 := bX.cell 2
        have hltx := bX.lt
        go_wp2
        refine bodyPost_ret (v := .agg #[.int .i64 x9, .int .i64 y9, .int .i64 s9, .int .i64 t]) (by simp [results, Try.results28, go_sem, r0, r1, r2, r3]) rfl ?_
        exact ⟨x9, y9, s9, t, rfl, hx9, hy9, hs9, ht, (curPut4 ((hc4.setNew (b := w1.heap.size) (by omega) 2 _)) (by omega) _ _ _ _).mono (by omega), put4 ((ho5.setNew (b := w1.heap.size) (by omega) 2 _)) (Nat.le_refl _) _ _ _ _⟩
      · go_wp2
        refine bodyPost_ret (v := .agg #[.int .i64 x9, .int .i64 y9, .int .i64 s, .int .i64 t]) (by simp [results, Try.results28, go_sem, r0, r1, r2, r3]) rfl ?_
        exact ⟨x9, y9, s, t, rfl, hx9, hy9, hs, ht, (curPut4 (hc4) (by omega) _ _ _ _).mono (by omega), put4 (ho5) (Nat.le_refl _) _ _ _ _⟩
    · have r0 := bR.cell 0
      have g0 := bR.frozen 0
      have e0 := bL.cell 0
      have f0 := bL.frozen 0
      have r1 := bR.cell 1
      have g1 := bR.frozen 1
      have e1 := bL.cell 1
      have f1 := bL.frozen 1
      have r2 := bR.cell 2
      have g2 := bR.frozen 2
      have e2 := bL.cell 2
      have f2 := bL.frozen 2
      have r3 := bR.cell 3
      have g3 := bR.frozen 3
      have e3 := bL.cell 3
      have f3 := bL.frozen 3
      have hlt := bR.lt
      have hlt2 := bL.lt
      go_wp2
      refine bodyPost_ret (v := .agg #[.int .i64 i, .int .i64 j, .int .i64 s, .int .i64 t]) (by simp [results, Try.results28, go_sem, r0, r1, r2, r3]) rfl ?_
      exact ⟨i, j, s, t, rfl, hi, hj, hs, ht, (curPut4 (hc2) (by omega) _ _ _ _).mono (by omega), put4 (ho2) (Nat.le_refl _) _ _ _ _⟩
  · obtain rfl : es = [] := List.eq_nil_of_length_eq_zero (by omega)
    clear hl0 hes how1
    go_upto_region 2 with fail
    generalize w1.alloc (.cells #[.int .i64 i, .int .i64 j, .int .i64 s, .int .i64 t] 26) = W1 at *
    have r0 := bR.cell 0
    have g0 := bR.frozen 0
    have e0 := bL.cell 0
    have f0 := bL.frozen 0
    have r1 := bR.cell 1
    have g1 := bR.frozen 1
    have e1 := bL.cell 1
    have f1 := bL.frozen 1
    have r2 := bR.cell 2
    have g2 := bR.frozen 2
    have e2 := bL.cell 2
    have f2 := bL.frozen 2
    have r3 := bR.cell 3
    have g3 := bR.frozen 3
    have e3 := bL.cell 3
    have f3 := bL.frozen 3
    have hlt := bR.lt
    have hlt2 := bL.lt
    go_wp2
    refine bodyPost_ret (v := .agg #[.int .i64 i, .int .i64 j, .int .i64 s, .int .i64 t]) (by simp [results, Try.results28, go_sem, r0, r1, r2, r3]) rfl ?_
    exact ⟨i, j, s, t, rfl, hi, hj, hs, ht, (curPut4 (hc1) (by omega) _ _ _ _).mono (by omega), put4 (ho1) (Nat.le_refl _) _ _ _ _⟩

/-- What a draw for taking a lease ends in. -/
def DrawsLT (w : World) (e : Ending) (w' : World) : Prop :=
  ∃ v es i j s t n, e = .returned (.tuple #[v, .agg #[.int .i64 i, .int .i64 j, .int .i64 s, .int .i64 t], .int .i64 n]) ∧ OwR w' w.heap.size v es ∧ es.length ≤ 13 ∧ isI i ∧ isI j ∧ isI s ∧ isI t ∧ isI n ∧ Below w.heap.size w w'

theorem OwR.setOther {w : World} {base b : Nat} {v : Value} {es : List Le} (h : OwR w base v es) (hne : ∀ k, v.ownBlock = some k → k ≠ b) (i : Nat) (u : Value) : OwR (w.setCell ⟨b, i, none⟩ u) base v es := by
  refine ⟨World.ownsRow.kept (w' := w.setCell ⟨b, i, none⟩ u) (row := some b) h.row ((Only.refl b w).setCell i u) ?_, h.in_⟩
  cases hv : v.ownBlock with
  | none => exact .inl rfl
  | some k =>
    right
    intro e
    injection e with e
    exact hne k hv e

set_option maxHeartbeats 16000000 in
theorem drawLeaseTake_any (A : Option Addr) (l : List UInt8) (c : Nat) (w : World) (hl : l.length ≤ 1048576) (hA : Bs w A l) :
    Calls Try.prog 7 #[.slice A l.length c] w (DrawsLT w) := by
  have hal := (Below.refl w.heap.size w).alloc (Nat.le_refl _) (.cells #[.int .i64 0, .int .i64 0, .int .i64 0, .int .i64 0] 26)
  have bR := Blk.new w #[.int .i64 0, .int .i64 0, .int .i64 0, .int .i64 0] 26
  have hA0 := hA.below hal
  have hz0 : (w.alloc (.cells #[.int .i64 0, .int .i64 0, .int .i64 0, .int .i64 0] 26)).heap.size = w.heap.size + 1 := by simp
  go_enter Try.func7, Try.ntmps7
  go_wp2_with fail
  generalize w.alloc (.cells #[.int .i64 0, .int .i64 0, .int .i64 0, .int .i64 0] 26) = W0 at *
  refine (l01Open_any A l c _ hl (by exact hA0)).mono ?_
  rintro e w1 ⟨rfl, hc0, hb0⟩
  obtain ⟨g, hg⟩ : ∃ g, W0.heap.size = g := ⟨_, rfl⟩
  rw [hg] at hc0 hz0 ⊢
  have hwg : w.heap.size < g := by omega
  have bR := bR.below hb0
  have hb1 := hal.trans (hb0.mono (by omega))
  have hgl := hc0.lt
  clear hA0 hal hz0 hg hb0
  go_wp2_with fail
  refine (leases_any g 0 _ (by omega) (by exact hc0)).mono ?_
  rintro e w2 ⟨v, es, rfl, how2, hes, hc2, ho2⟩
  have bR := bR.only ho2 (by omega)
  have hz2 := ho2.size
  clear hc0
  go_wp2_with fail
  refine (badLease_any g (0 + 90) _ (by omega) (by exact hc2)).mono ?_
  rintro e w3 ⟨i, j, s, t, rfl, hi, hj, hs, ht, hc3, ho3⟩
  have bR := bR.only ho3 (by omega)
  have hz3 := ho3.size
  have how3 := how2.only ho3 (by omega)
  have ho3 := ho2.trans ho3
  have hrng : ∀ k, v.ownBlock = some k → k < w3.heap.size := fun k hk => (World.ownsRow.lt how3.row k hk).2
  have hal3 := (Below.refl w3.heap.size w3).alloc (Nat.le_refl _) (.cells #[.int .i64 i, .int .i64 j, .int .i64 s, .int .i64 t] 26)
  have bL := Blk.new w3 #[.int .i64 i, .int .i64 j, .int .i64 s, .int .i64 t] 26
  have bR := bR.below hal3
  have hc3 := hc3.only_new hal3
  have how3 := how3.below hal3
  have ho3 := ho3.trans (Only.of_below hal3)
  clear hc2 ho2 how2 hal3
  go_wp2_with fail
  generalize w3.alloc (.cells #[.int .i64 i, .int .i64 j, .int .i64 s, .int .i64 t] 26) = W3 at *
  refine (once_any g (0 + 90 + 8) 6 _ (by omega) (by omega) (by omega) (by exact hc3)).mono ?_
  rintro e w4 ⟨b, rfl, hc4, ho4⟩
  have bR := bR.only ho4 (by omega)
  have bL := bL.only ho4 (by omega)
  have how4 := how3.only ho4 (by omega)
  have ho4 := ho3.trans ho4
  have hvne : ∀ k, v.ownBlock = some k → k ≠ w3.heap.size := fun k hk => Nat.ne_of_lt (hrng k hk)
  clear hc3 ho3 how3
  cases b
  · have e0 := bL.cell 0
    have e1 := bL.cell 1
    have e2 := bL.cell 2
    have e3 := bL.cell 3
    have hlt2 := bL.lt
    go_upto_region 6 with fail
    refine wp_region_held_drew (S := (fun V => V.cell? ⟨w3.heap.size, 0, none⟩ = some (.int .i64 i) ∧ V.cell? ⟨w3.heap.size, 1, none⟩ = some (.int .i64 j) ∧ V.cell? ⟨w3.heap.size, 2, none⟩ = some (.int .i64 s) ∧ V.cell? ⟨w3.heap.size, 3, none⟩ = some (.int .i64 t))) (by kernel_rfl) (by exact ⟨e0, e1, e2, e3⟩) (fun hHeld => ?_)
    refine wpAnyH_take (i := 0) (oi := ?_) (v := ?_) ?_ ?_ ?_ ?_ ?_ ?_ (by exact hHeld) ?_
    rotate_left 2
    · (simp only [List.getElem?_toArray, List.getElem?_cons_zero]; try rfl)
    · kernel_rfl
    · kernel_rfl
    · kernel_rfl
    · exact fun _ _ _ h => h
    · refine Or.inl ⟨by rfl, ?_⟩
      (intro V hSV; (try dsimp only at hSV); obtain ⟨q0, q1, q2, q3⟩ := hSV; go_simp; try with_reducible rfl)
    (try simp only [Act.put, List.setIfInBounds_toArray, List.set_cons_zero, List.set_cons_succ])
    refine wpAnyH_take (i := 1) (oi := ?_) (v := ?_) ?_ ?_ ?_ ?_ ?_ ?_ (by exact hHeld) ?_
    rotate_left 2
    · (simp only [List.getElem?_toArray, List.getElem?_cons_zero, List.getElem?_cons_succ]; try rfl)
    · kernel_rfl
    · kernel_rfl
    · kernel_rfl
    · exact fun _ _ _ h => h
    · refine Or.inl ⟨by rfl, ?_⟩
      (intro V hSV; (try dsimp only at hSV); obtain ⟨q0, q1, q2, q3⟩ := hSV; go_simp; try with_reducible rfl)
    (try simp only [Act.put, List.setIfInBounds_toArray, List.set_cons_zero, List.set_cons_succ])
    refine wpAnyH_take (i := 2) (oi := ?_) (v := ?_) ?_ ?_ ?_ ?_ ?_ ?_ (by exact hHeld) ?_
    rotate_left 2
    · (simp only [List.getElem?_toArray, List.getElem?_cons_zero, List.getElem?_cons_succ]; try rfl)
    · kernel_rfl
    · kernel_rfl
    · kernel_rfl
    · exact fun _ _ _ h => h
    · refine Or.inl ⟨by rfl, ?_⟩
      (intro V hSV; (try dsimp only at hSV); obtain ⟨q0, q1, q2, q3⟩ := hSV; go_simp; try with_reducible rfl)
    (try simp only [Act.put, List.setIfInBounds_toArray, List.set_cons_zero, List.set_cons_succ])
    refine wpAnyH_ready (rs := [3]) (by kernel_rfl) (by simp) ?_
    refine AllReadyH.cons rfl (fun K hK => ?_) AllReadyH.nil
    go_simp
    refine (now_any g (0 + 90 + 9) _ (by omega) (by exact hc4)).mono ?_
    rintro e w9 ⟨n, rfl, hn0, hn1, hc9, ho9⟩
    have ho9 : Only g w4 w9 := ⟨ho9.os, ho9.tape, ho9.output, ho9.size, ho9.block⟩
    have bR := bR.only ho9 (by omega)
    have bL := bL.only ho9 (by omega)
    have how9 := how4.only ho9 (by omega)
    have ho9 := ho4.trans ho9
    go_wp2_with fail
    refine hK.out _ _ (by exact ⟨bL.cell 0, bL.cell 1, bL.cell 2, bL.cell 3⟩) (fun hHeld => ?_)
    clear hK K
    (try simp only [Act.put, List.setIfInBounds_toArray, List.set_cons_zero, List.set_cons_succ])
    have r0 := bR.cell 0
    have r1 := bR.cell 1
    have r2 := bR.cell 2
    have r3 := bR.cell 3
    have g0 := bR.frozen 0
    have g1 := bR.frozen 1
    have g2 := bR.frozen 2
    have g3 := bR.frozen 3
    have hlt := bR.lt
    refine wpAnyH_take (i := 4) (oi := ?_) (v := ?_) ?_ ?_ ?_ ?_ ?_ ?_ (by exact hHeld) ?_
    rotate_left 2
    · (simp only [List.getElem?_toArray, List.getElem?_cons_zero, List.getElem?_cons_succ]; try rfl)
    · kernel_rfl
    · kernel_rfl
    · kernel_rfl
    · exact fun _ _ _ h => h
    · refine Or.inl ⟨by rfl, ?_⟩
      (intro V hSV; (try dsimp only at hSV); obtain ⟨q0, q1, q2, q3⟩ := hSV; go_simp; try with_reducible rfl)
    (try simp only [Act.put, List.setIfInBounds_toArray, List.set_cons_zero, List.set_cons_succ])
    have hF : ∀ a b c d : Value, Blk ((((w9.setCell ⟨w.heap.size, 0, none⟩ a).setCell ⟨w.heap.size, 1, none⟩ b).setCell ⟨w.heap.size, 2, none⟩ c).setCell ⟨w.heap.size, 3, none⟩ d) w3.heap.size #[.int .i64 i, .int .i64 j, .int .i64 s, .int .i64 t] 26 := fun a b c d => (((bL.setFar (d := w.heap.size) (by omega) 0 _).setFar (d := w.heap.size) (by omega) 1 _).setFar (d := w.heap.size) (by omega) 2 _).setFar (d := w.heap.size) (by omega) 3 _
    refine wpAnyH_ready (rs := [5]) (by kernel_rfl) (by simp) ?_
    refine AllReadyH.cons (o := ?_) ?_ (fun K hK => ?_) AllReadyH.nil
    rotate_left 1
    · (simp only [List.getElem?_toArray, List.getElem?_cons_zero, List.getElem?_cons_succ]; try rfl)
    go_simp
    refine hK.out _ _ (by exact ⟨(hF _ _ _ _).cell 0, (hF _ _ _ _).cell 1, (hF _ _ _ _).cell 2, (hF _ _ _ _).cell 3⟩) (fun hHeld => ?_)
    clear hK K
    (try simp only [Act.put, List.setIfInBounds_toArray, List.set_cons_zero, List.set_cons_succ])
    refine wpAnyH_take (i := 6) (oi := ?_) (v := ?_) ?_ ?_ ?_ ?_ ?_ ?_ (by exact hHeld) ?_
    rotate_left 2
    · (simp only [List.getElem?_toArray, List.getElem?_cons_zero, List.getElem?_cons_succ]; try rfl)
    · kernel_rfl
    · kernel_rfl
    · kernel_rfl
    · exact fun _ _ _ h => h
    · refine Or.inl ⟨by rfl, ?_⟩
      (intro V hSV; (try dsimp only at hSV); obtain ⟨q0, q1, q2, q3⟩ := hSV; go_simp; try with_reducible rfl)
    (try simp only [Act.put, List.setIfInBounds_toArray, List.set_cons_zero, List.set_cons_succ])
    refine wpAnyH_done (by kernel_rfl) ?_ _
    clear hHeld
    have hOW := ((((how9.only ((Only.refl w.heap.size w9).setCell 0 (.int .i64 i)) (by omega)).only ((Only.refl w.heap.size _).setCell 1 (.int .i64 j)) (by omega)).only ((Only.refl w.heap.size _).setCell 2 (.int .i64 s)) (by omega)).only ((Only.refl w.heap.size _).setCell 3 (.int .i64 t)) (by omega)).mono (base' := w.heap.size) (by omega)
    have hBW := ((((hb1.trans (ho9.below w.heap.size (by omega) (by omega))).setCell (p := ⟨w.heap.size, 0, none⟩) (Nat.le_refl _) (.int .i64 i)).setCell (p := ⟨w.heap.size, 1, none⟩) (Nat.le_refl _) (.int .i64 j)).setCell (p := ⟨w.heap.size, 2, none⟩) (Nat.le_refl _) (.int .i64 s)).setCell (p := ⟨w.heap.size, 3, none⟩) (Nat.le_refl _) (.int .i64 t)
    have HOW := Lib.hid hOW
    have HBW := Lib.hid hBW
    clear hOW hBW hF
    go_wp2
    refine bodyPost_ret (v := .tuple #[v, .agg #[.int .i64 i, .int .i64 j, .int .i64 s, .int .i64 t], .int .i64 n]) (by simp [results, Try.results7, go_sem, r0, r1, r2, r3]) rfl ?_
    exact ⟨v, es, i, j, s, t, n, rfl, HOW.out, hes, hi, hj, hs, ht, ⟨hn0, hn1⟩, HBW.out⟩
  · obtain ⟨Av, cv, rfl, _, _, _⟩ := how4.ll
    go_wp2_with fail
    refine (leaseOf_any g (0 + 90 + 9) w1.heap.size Av es cv _ (by omega) (by exact hc4) (by omega) hes (by exact how4)).mono ?_
    rintro e w5 ⟨i5, j5, s5, t5, rfl, hi5, hj5, hs5, ht5, hc5, ho5⟩
    have bR := bR.only ho5 (by omega)
    have bL := bL.only ho5 (by omega)
    have how5 := how4.only ho5 (by omega)
    have ho5 := ho4.trans ho5
    have e0 := bL.cell 0
    have e1 := bL.cell 1
    have e2 := bL.cell 2
    have e3 := bL.cell 3
    have f0 := bL.frozen 0
    have f1 := bL.frozen 1
    have f2 := bL.frozen 2
    have f3 := bL.frozen 3
    have hlt2 := bL.lt
    go_upto_region 6 with fail
    have bL : Blk ((((w5.setCell ⟨w3.heap.size, 0, none⟩ (.int .i64 i5)).setCell ⟨w3.heap.size, 1, none⟩ (.int .i64 j5)).setCell ⟨w3.heap.size, 2, none⟩ (.int .i64 s5)).setCell ⟨w3.heap.size, 3, none⟩ (.int .i64 t5)) w3.heap.size #[.int .i64 i5, .int .i64 j5, .int .i64 s5, .int .i64 t5] 26 := (((bL.set 0 (.int .i64 i5)).set 1 (.int .i64 j5)).set 2 (.int .i64 s5)).set 3 (.int .i64 t5)
    have bR := (((bR.setFar (d := w3.heap.size) (by omega) 0 (.int .i64 i5)).setFar (d := w3.heap.size) (by omega) 1 (.int .i64 j5)).setFar (d := w3.heap.size) (by omega) 2 (.int .i64 s5)).setFar (d := w3.heap.size) (by omega) 3 (.int .i64 t5)
    have how6 := (((how5.setOther hvne 0 (.int .i64 i5)).setOther hvne 1 (.int .i64 j5)).setOther hvne 2 (.int .i64 s5)).setOther hvne 3 (.int .i64 t5)
    have hc6 := curPut4 hc5 (b := w3.heap.size) (by omega) (.int .i64 i5) (.int .i64 j5) (.int .i64 s5) (.int .i64 t5)
    have ho6 := put4 ho5 (b := w3.heap.size) (by omega) (.int .i64 i5) (.int .i64 j5) (.int .i64 s5) (.int .i64 t5)
    have hz5 := ho5.size
    clear e0 e1 e2 e3 f0 f1 f2 f3 hlt2 hc5 ho5 how5 hc4 ho4 how4
    generalize (((w5.setCell ⟨w3.heap.size, 0, none⟩ (.int .i64 i5)).setCell ⟨w3.heap.size, 1, none⟩ (.int .i64 j5)).setCell ⟨w3.heap.size, 2, none⟩ (.int .i64 s5)).setCell ⟨w3.heap.size, 3, none⟩ (.int .i64 t5) = W6 at *
    have e0 := bL.cell 0
    have e1 := bL.cell 1
    have e2 := bL.cell 2
    have e3 := bL.cell 3
    have hlt2 := bL.lt
    refine wp_region_held_drew (S := (fun V => V.cell? ⟨w3.heap.size, 0, none⟩ = some (.int .i64 i5) ∧ V.cell? ⟨w3.heap.size, 1, none⟩ = some (.int .i64 j5) ∧ V.cell? ⟨w3.heap.size, 2, none⟩ = some (.int .i64 s5) ∧ V.cell? ⟨w3.heap.size, 3, none⟩ = some (.int .i64 t5))) (by kernel_rfl) (by exact ⟨e0, e1, e2, e3⟩) (fun hHeld => ?_)
    refine wpAnyH_take (i := 0) (oi := ?_) (v := ?_) ?_ ?_ ?_ ?_ ?_ ?_ (by exact hHeld) ?_
    rotate_left 2
    · (simp only [List.getElem?_toArray, List.getElem?_cons_zero]; try rfl)
    · kernel_rfl
    · kernel_rfl
    · kernel_rfl
    · exact fun _ _ _ h => h
    · refine Or.inl ⟨by rfl, ?_⟩
      (intro V hSV; (try dsimp only at hSV); obtain ⟨q0, q1, q2, q3⟩ := hSV; go_simp; try with_reducible rfl)
    (try simp only [Act.put, List.setIfInBounds_toArray, List.set_cons_zero, List.set_cons_succ])
    refine wpAnyH_take (i := 1) (oi := ?_) (v := ?_) ?_ ?_ ?_ ?_ ?_ ?_ (by exact hHeld) ?_
    rotate_left 2
    · (simp only [List.getElem?_toArray, List.getElem?_cons_zero, List.getElem?_cons_succ]; try rfl)
    · kernel_rfl
    · kernel_rfl
    · kernel_rfl
    · exact fun _ _ _ h => h
    · refine Or.inl ⟨by rfl, ?_⟩
      (intro V hSV; (try dsimp only at hSV); obtain ⟨q0, q1, q2, q3⟩ := hSV; go_simp; try with_reducible rfl)
    (try simp only [Act.put, List.setIfInBounds_toArray, List.set_cons_zero, List.set_cons_succ])
    refine wpAnyH_take (i := 2) (oi := ?_) (v := ?_) ?_ ?_ ?_ ?_ ?_ ?_ (by exact hHeld) ?_
    rotate_left 2
    · (simp only [List.getElem?_toArray, List.getElem?_cons_zero, List.getElem?_cons_succ]; try rfl)
    · kernel_rfl
    · kernel_rfl
    · kernel_rfl
    · exact fun _ _ _ h => h
    · refine Or.inl ⟨by rfl, ?_⟩
      (intro V hSV; (try dsimp only at hSV); obtain ⟨q0, q1, q2, q3⟩ := hSV; go_simp; try with_reducible rfl)
    (try simp only [Act.put, List.setIfInBounds_toArray, List.set_cons_zero, List.set_cons_succ])
    refine wpAnyH_ready (rs := [3]) (by kernel_rfl) (by simp) ?_
    refine AllReadyH.cons rfl (fun K hK => ?_) AllReadyH.nil
    go_simp
    refine (now_any g (0 + 90 + 9 + 14) _ (by omega) (by exact hc6)).mono ?_
    rintro e w9 ⟨n, rfl, hn0, hn1, hc9, ho9⟩
    have ho9 : Only g W6 w9 := ⟨ho9.os, ho9.tape, ho9.output, ho9.size, ho9.block⟩
    have bR := bR.only ho9 (by omega)
    have bL := bL.only ho9 (by omega)
    have how9 := how6.only ho9 (by omega)
    have ho9 := ho6.trans ho9
    go_wp2_with fail
    refine hK.out _ _ (by exact ⟨bL.cell 0, bL.cell 1, bL.cell 2, bL.cell 3⟩) (fun hHeld => ?_)
    clear hK K
    (try simp only [Act.put, List.setIfInBounds_toArray, List.set_cons_zero, List.set_cons_succ])
    have r0 := bR.cell 0
    have r1 := bR.cell 1
    have r2 := bR.cell 2
    have r3 := bR.cell 3
    have g0 := bR.frozen 0
    have g1 := bR.frozen 1
    have g2 := bR.frozen 2
    have g3 := bR.frozen 3
    have hlt := bR.lt
    refine wpAnyH_take (i := 4) (oi := ?_) (v := ?_) ?_ ?_ ?_ ?_ ?_ ?_ (by exact hHeld) ?_
    rotate_left 2
    · (simp only [List.getElem?_toArray, List.getElem?_cons_zero, List.getElem?_cons_succ]; try rfl)
    · kernel_rfl
    · kernel_rfl
    · kernel_rfl
    · exact fun _ _ _ h => h
    · refine Or.inl ⟨by rfl, ?_⟩
      (intro V hSV; (try dsimp only at hSV); obtain ⟨q0, q1, q2, q3⟩ := hSV; go_simp; try with_reducible rfl)
    (try simp only [Act.put, List.setIfInBounds_toArray, List.set_cons_zero, List.set_cons_succ])
    have hF : ∀ a b c d : Value, Blk ((((w9.setCell ⟨w.heap.size, 0, none⟩ a).setCell ⟨w.heap.size, 1, none⟩ b).setCell ⟨w.heap.size, 2, none⟩ c).setCell ⟨w.heap.size, 3, none⟩ d) w3.heap.size #[.int .i64 i5, .int .i64 j5, .int .i64 s5, .int .i64 t5] 26 := fun a b c d => (((bL.setFar (d := w.heap.size) (by omega) 0 _).setFar (d := w.heap.size) (by omega) 1 _).setFar (d := w.heap.size) (by omega) 2 _).setFar (d := w.heap.size) (by omega) 3 _
    refine wpAnyH_ready (rs := [5]) (by kernel_rfl) (by simp) ?_
    refine AllReadyH.cons (o := ?_) ?_ (fun K hK => ?_) AllReadyH.nil
    rotate_left 1
    · (simp only [List.getElem?_toArray, List.getElem?_cons_zero, List.getElem?_cons_succ]; try rfl)
    go_simp
    refine hK.out _ _ (by exact ⟨(hF _ _ _ _).cell 0, (hF _ _ _ _).cell 1, (hF _ _ _ _).cell 2, (hF _ _ _ _).cell 3⟩) (fun hHeld => ?_)
    clear hK K
    (try simp only [Act.put, List.setIfInBounds_toArray, List.set_cons_zero, List.set_cons_succ])
    refine wpAnyH_take (i := 6) (oi := ?_) (v := ?_) ?_ ?_ ?_ ?_ ?_ ?_ (by exact hHeld) ?_
    rotate_left 2
    · (simp only [List.getElem?_toArray, List.getElem?_cons_zero, List.getElem?_cons_succ]; try rfl)
    · kernel_rfl
    · kernel_rfl
    · kernel_rfl
    · exact fun _ _ _ h => h
    · refine Or.inl ⟨by rfl, ?_⟩
      (intro V hSV; (try dsimp only at hSV); obtain ⟨q0, q1, q2, q3⟩ := hSV; go_simp; try with_reducible rfl)
    (try simp only [Act.put, List.setIfInBounds_toArray, List.set_cons_zero, List.set_cons_succ])
    refine wpAnyH_done (by kernel_rfl) ?_ _
    clear hHeld
    have hOW := ((((how9.only ((Only.refl w.heap.size w9).setCell 0 (.int .i64 i5)) (by omega)).only ((Only.refl w.heap.size _).setCell 1 (.int .i64 j5)) (by omega)).only ((Only.refl w.heap.size _).setCell 2 (.int .i64 s5)) (by omega)).only ((Only.refl w.heap.size _).setCell 3 (.int .i64 t5)) (by omega)).mono (base' := w.heap.size) (by omega)
    have hBW := ((((hb1.trans (ho9.below w.heap.size (by omega) (by omega))).setCell (p := ⟨w.heap.size, 0, none⟩) (Nat.le_refl _) (.int .i64 i5)).setCell (p := ⟨w.heap.size, 1, none⟩) (Nat.le_refl _) (.int .i64 j5)).setCell (p := ⟨w.heap.size, 2, none⟩) (Nat.le_refl _) (.int .i64 s5)).setCell (p := ⟨w.heap.size, 3, none⟩) (Nat.le_refl _) (.int .i64 t5)
    have HOW := Lib.hid hOW
    have HBW := Lib.hid hBW
    clear hOW hBW hF
    go_wp2
    refine bodyPost_ret (v := .tuple #[.slice Av es.length cv, .agg #[.int .i64 i5, .int .i64 j5, .int .i64 s5, .int .i64 t5], .int .i64 n]) (by simp [results, Try.results7, go_sem, r0, r1, r2, r3]) rfl ?_
    exact ⟨_, es, i5, j5, s5, t5, n, rfl, HOW.out, hes, hi5, hj5, hs5, ht5, ⟨hn0, hn1⟩, HBW.out⟩
end Go.Proofs.Ytgbmobepnhhldaa

/-
  Chapter 7, the laws' comparison of two lists of leases: contract. Own work.
-/
namespace Go.Proofs.Ytgbmobepnhhldaa
open Go.RowKit P
set_option linter.unusedVariables false
set_option linter.unusedSimpArgs false
set_option maxRecDepth 100000

set_option maxHeartbeats 4000000 in
theorem sameLeases_any (A B : Option Addr) (es fs : List Le) (c d : Nat) (w : World) (hl : es.length ≤ 1048576) (hA : Ll w A es) (hB : Ll w B fs) :
    Calls Try.prog 16 #[.slice A es.length c, .slice B fs.length d] w fun e w' => e = .returned (.bool (decide (es = fs))) ∧ Below w.heap.size w w' := by
  by_cases hlen : es.length = fs.length
  case neg =>
    have hne : decide (es = fs) = false := decide_eq_false (fun e => hlen (by rw [e]))
    rw [hne]
    have hn1 : ((es.length : Int) == (fs.length : Int)) = false := by simp; omega
    clear hne hlen hA hB
    go_enter Try.func16, Try.ntmps16
    go_wp2
    go_ret
    exact ⟨rfl, Below.refl _ _⟩
  have hn1 : ((es.length : Int) == (fs.length : Int)) = true := by simp; omega
  obtain ⟨n, hn⟩ : ∃ n, es.length = n := ⟨_, rfl⟩
  have HN := Lib.hid hn
  have HF : Hid (fs.length = n) := Lib.hid (by omega)
  obtain ⟨z, hz⟩ : ∃ z, decide (es = fs) = z := ⟨_, rfl⟩
  have HZ := Lib.hid hz
  rw [HZ.out, HN.out, HF.out]
  have hnn : ((n : Int) == (n : Int)) = true := by simp
  have hn9 : n ≤ 1048576 := by omega
  clear hn hz hlen hn1 hl
  go_enter Try.func16, Try.ntmps16
  go_wp2
  go_loopw [5] (fun ii wr => ∃ i : Nat, ii = .int .i64 i ∧ i ≤ n ∧ es.take i = fs.take i ∧ Below w.heap.size w wr) (fun ii _ => n - (intOf ii).toNat)
  case atStart => exact ⟨0, rfl, by omega, by simp, Below.refl _ _⟩
  case round =>
    obtain ⟨i, rfl, hi, hpre, hbw⟩ := hrel
    have HP := Lib.hid hpre
    by_cases hlt : i < n
    · have hie : i < es.length := by rw [HN.out]; exact hlt
      have hif : i < fs.length := by rw [HF.out]; exact hlt
      obtain ⟨b, off, x, y, s, t, rfl, hbl, hek, k0, k1, k2, k3, _⟩ := (hA.below hbw).at_ i hie
      obtain ⟨b', off', x', y', s', t', rfl, hbl', hek', m0, m1, m2, m3, _⟩ := (hB.below hbw).at_ i hif
      have hi0 : (0 : Int) ≤ (i : Int) := by omega
      have hi1 : (i : Int) < (n : Int) := by omega
      by_cases he : (x, y, s, t) = (x', y', s', t')
      · cases he
        have hnext : es.take (i + 1) = fs.take (i + 1) := by
          rw [List.take_succ_eq_append_getElem hie, List.take_succ_eq_append_getElem hif, HP.out, hek, hek']
        have HX := Lib.hid hnext
        have hx1 : (x == x) = true := by simp
        have hx2 : (y == y) = true := by simp
        have hx3 : (s == s) = true := by simp
        have hx4 : (t == t) = true := by simp
        clear hnext hek hek' hpre hA hB
        go_upto_region 6 with fail
        refine wp_region_held_drew (S := (fun V => V.cell? ⟨b, off + i * 4, none⟩ = some (.int .i64 x) ∧ V.cell? ⟨b, off + i * 4 + 1, none⟩ = some (.int .i64 y) ∧ V.cell? ⟨b, off + i * 4 + 2, none⟩ = some (.int .i64 s) ∧ V.cell? ⟨b, off + i * 4 + 3, none⟩ = some (.int .i64 t) ∧ V.cell? ⟨b', off' + i * 4, none⟩ = some (.int .i64 x) ∧ V.cell? ⟨b', off' + i * 4 + 1, none⟩ = some (.int .i64 y) ∧ V.cell? ⟨b', off' + i * 4 + 2, none⟩ = some (.int .i64 s) ∧ V.cell? ⟨b', off' + i * 4 + 3, none⟩ = some (.int .i64 t))) (by kernel_rfl) (by exact ⟨k0, k1, k2, k3, m0, m1, m2, m3⟩) (fun hHeld => ?_)
        refine wpAnyH_take (i := 0) (oi := ?_) (v := ?_) ?_ ?_ ?_ ?_ ?_ ?_ (by exact hHeld) ?_
        rotate_left 2
        · (simp only [List.getElem?_toArray, List.getElem?_cons_zero]; try rfl)
        · kernel_rfl
        · kernel_rfl
        · kernel_rfl
        · exact fun _ _ _ h => h
        · refine Or.inl ⟨by rfl, ?_⟩
          (intro V hSV; (try dsimp only at hSV); obtain ⟨q0, q1, q2, q3, q4, q5, q6, q7⟩ := hSV; go_simp; try with_reducible rfl)
        (try simp only [Act.put, List.setIfInBounds_toArray, List.set_cons_zero, List.set_cons_succ])
        refine wpAnyH_take (i := 1) (oi := ?_) (v := ?_) ?_ ?_ ?_ ?_ ?_ ?_ (by exact hHeld) ?_
        rotate_left 2
        · (simp only [List.getElem?_toArray, List.getElem?_cons_zero, List.getElem?_cons_succ]; try rfl)
        · kernel_rfl
        · kernel_rfl
        · kernel_rfl
        · exact fun _ _ _ h => h
        · refine Or.inl ⟨by rfl, ?_⟩
          (intro V hSV; (try dsimp only at hSV); obtain ⟨q0, q1, q2, q3, q4, q5, q6, q7⟩ := hSV; go_simp; try with_reducible rfl)
        (try simp only [Act.put, List.setIfInBounds_toArray, List.set_cons_zero, List.set_cons_succ])
        refine wpAnyH_take (i := 2) (oi := ?_) (v := ?_) ?_ ?_ ?_ ?_ ?_ ?_ (by exact hHeld) ?_
        rotate_left 2
        · (simp only [List.getElem?_toArray, List.getElem?_cons_zero, List.getElem?_cons_succ]; try rfl)
        · kernel_rfl
        · kernel_rfl
        · kernel_rfl
        · exact fun _ _ _ h => h
        · refine Or.inl ⟨by rfl, ?_⟩
          (intro V hSV; (try dsimp only at hSV); obtain ⟨q0, q1, q2, q3, q4, q5, q6, q7⟩ := hSV; go_simp; try with_reducible rfl)
        (try simp only [Act.put, List.setIfInBounds_toArray, List.set_cons_zero, List.set_cons_succ])
        refine wpAnyH_take (i := 3) (oi := ?_) (v := ?_) ?_ ?_ ?_ ?_ ?_ ?_ (by exact hHeld) ?_
        rotate_left 2
        · (simp only [List.getElem?_toArray, List.getElem?_cons_zero, List.getElem?_cons_succ]; try rfl)
        · kernel_rfl
        · kernel_rfl
        · kernel_rfl
        · exact fun _ _ _ h => h
        · refine Or.inl ⟨by rfl, ?_⟩
          (intro V hSV; (try dsimp only at hSV); obtain ⟨q0, q1, q2, q3, q4, q5, q6, q7⟩ := hSV; go_simp; try with_reducible rfl)
        (try simp only [Act.put, List.setIfInBounds_toArray, List.set_cons_zero, List.set_cons_succ])
        refine wpAnyH_take (i := 4) (oi := ?_) (v := ?_) ?_ ?_ ?_ ?_ ?_ ?_ (by exact hHeld) ?_
        rotate_left 2
        · (simp only [List.getElem?_toArray, List.getElem?_cons_zero, List.getElem?_cons_succ]; try rfl)
        · kernel_rfl
        · kernel_rfl
        · kernel_rfl
        · exact fun _ _ _ h => h
        · refine Or.inl ⟨by rfl, ?_⟩
          (intro V hSV; (try dsimp only at hSV); obtain ⟨q0, q1, q2, q3, q4, q5, q6, q7⟩ := hSV; go_simp; try with_reducible rfl)
        (try simp only [Act.put, List.setIfInBounds_toArray, List.set_cons_zero, List.set_cons_succ])
        refine wpAnyH_take (i := 5) (oi := ?_) (v := ?_) ?_ ?_ ?_ ?_ ?_ ?_ (by exact hHeld) ?_
        rotate_left 2
        · (simp only [List.getElem?_toArray, List.getElem?_cons_zero, List.getElem?_cons_succ]; try rfl)
        · kernel_rfl
        · kernel_rfl
        · kernel_rfl
        · exact fun _ _ _ h => h
        · refine Or.inl ⟨by rfl, ?_⟩
          (intro V hSV; (try dsimp only at hSV); obtain ⟨q0, q1, q2, q3, q4, q5, q6, q7⟩ := hSV; go_simp; try with_reducible rfl)
        (try simp only [Act.put, List.setIfInBounds_toArray, List.set_cons_zero, List.set_cons_succ])
        refine wpAnyH_take (i := 6) (oi := ?_) (v := ?_) ?_ ?_ ?_ ?_ ?_ ?_ (by exact hHeld) ?_
        rotate_left 2
        · (simp only [List.getElem?_toArray, List.getElem?_cons_zero, List.getElem?_cons_succ]; try rfl)
        · kernel_rfl
        · kernel_rfl
        · kernel_rfl
        · exact fun _ _ _ h => h
        · refine Or.inl ⟨by rfl, ?_⟩
          (intro V hSV; (try dsimp only at hSV); obtain ⟨q0, q1, q2, q3, q4, q5, q6, q7⟩ := hSV; go_simp; try with_reducible rfl)
        (try simp only [Act.put, List.setIfInBounds_toArray, List.set_cons_zero, List.set_cons_succ])
        refine wpAnyH_take (i := 7) (oi := ?_) (v := ?_) ?_ ?_ ?_ ?_ ?_ ?_ (by exact hHeld) ?_
        rotate_left 2
        · (simp only [List.getElem?_toArray, List.getElem?_cons_zero, List.getElem?_cons_succ]; try rfl)
        · kernel_rfl
        · kernel_rfl
        · kernel_rfl
        · exact fun _ _ _ h => h
        · refine Or.inl ⟨by rfl, ?_⟩
          (intro V hSV; (try dsimp only at hSV); obtain ⟨q0, q1, q2, q3, q4, q5, q6, q7⟩ := hSV; go_simp; try with_reducible rfl)
        (try simp only [Act.put, List.setIfInBounds_toArray, List.set_cons_zero, List.set_cons_succ])
        refine wpAnyH_take (i := 8) (oi := ?_) (v := ?_) ?_ ?_ ?_ ?_ ?_ ?_ (by exact hHeld) ?_
        rotate_left 2
        · (simp only [List.getElem?_toArray, List.getElem?_cons_zero, List.getElem?_cons_succ]; try rfl)
        · kernel_rfl
        · kernel_rfl
        · kernel_rfl
        · exact fun _ _ _ h => h
        · refine Or.inl ⟨by rfl, ?_⟩
          (intro V hSV; (try dsimp only at hSV); obtain ⟨q0, q1, q2, q3, q4, q5, q6, q7⟩ := hSV; go_simp; try with_reducible rfl)
        (try simp only [Act.put, List.setIfInBounds_toArray, List.set_cons_zero, List.set_cons_succ])
        refine wpAnyH_done (by kernel_rfl) ?_ _
        clear hHeld
        go_wp2
        go_roundw
        case rel => exact ⟨i + 1, by go_num, by omega, HX.out, hbw.drew⟩
        case measure => simp [intOf]; omega
      · have hzf : z = false := by
          rw [← HZ.out]
          refine decide_eq_false (fun e => he ?_)
          subst e
          rw [← hek, ← hek']
        subst hzf
        have HHE := Lib.hid he
        clear hek hek' hpre hA hB he
        by_cases h1 : x = x'
        · subst h1
          by_cases h2 : y = y'
          · subst h2
            by_cases h3 : s = s'
            · subst h3
              have h4 : (t == t') = false := beq_eq_false_iff_ne.2 (fun e => HHE.out (by rw [e]))
              have hx1 : (x == x) = true := by simp
              have hx2 : (y == y) = true := by simp
              have hx3 : (s == s) = true := by simp
              go_upto_region 6 with fail
              refine wp_region_held_drew (S := (fun V => V.cell? ⟨b, off + i * 4, none⟩ = some (.int .i64 x) ∧ V.cell? ⟨b, off + i * 4 + 1, none⟩ = some (.int .i64 y) ∧ V.cell? ⟨b, off + i * 4 + 2, none⟩ = some (.int .i64 s) ∧ V.cell? ⟨b, off + i * 4 + 3, none⟩ = some (.int .i64 t) ∧ V.cell? ⟨b', off' + i * 4, none⟩ = some (.int .i64 x) ∧ V.cell? ⟨b', off' + i * 4 + 1, none⟩ = some (.int .i64 y) ∧ V.cell? ⟨b', off' + i * 4 + 2, none⟩ = some (.int .i64 s) ∧ V.cell? ⟨b', off' + i * 4 + 3, none⟩ = some (.int .i64 t'))) (by kernel_rfl) (by exact ⟨k0, k1, k2, k3, m0, m1, m2, m3⟩) (fun hHeld => ?_)
              refine wpAnyH_take (i := 0) (oi := ?_) (v := ?_) ?_ ?_ ?_ ?_ ?_ ?_ (by exact hHeld) ?_
              rotate_left 2
              · (simp only [List.getElem?_toArray, List.getElem?_cons_zero]; try rfl)
              · kernel_rfl
              · kernel_rfl
              · kernel_rfl
              · exact fun _ _ _ h => h
              · refine Or.inl ⟨by rfl, ?_⟩
                (intro V hSV; (try dsimp only at hSV); obtain ⟨q0, q1, q2, q3, q4, q5, q6, q7⟩ := hSV; go_simp; try with_reducible rfl)
              (try simp only [Act.put, List.setIfInBounds_toArray, List.set_cons_zero, List.set_cons_succ])
              refine wpAnyH_take (i := 1) (oi := ?_) (v := ?_) ?_ ?_ ?_ ?_ ?_ ?_ (by exact hHeld) ?_
              rotate_left 2
              · (simp only [List.getElem?_toArray, List.getElem?_cons_zero, List.getElem?_cons_succ]; try rfl)
              · kernel_rfl
              · kernel_rfl
              · kernel_rfl
              · exact fun _ _ _ h => h
              · refine Or.inl ⟨by rfl, ?_⟩
                (intro V hSV; (try dsimp only at hSV); obtain ⟨q0, q1, q2, q3, q4, q5, q6, q7⟩ := hSV; go_simp; try with_reducible rfl)
              (try simp only [Act.put, List.setIfInBounds_toArray, List.set_cons_zero, List.set_cons_succ])
              refine wpAnyH_take (i := 2) (oi := ?_) (v := ?_) ?_ ?_ ?_ ?_ ?_ ?_ (by exact hHeld) ?_
              rotate_left 2
              · (simp only [List.getElem?_toArray, List.getElem?_cons_zero, List.getElem?_cons_succ]; try rfl)
              · kernel_rfl
              · kernel_rfl
              · kernel_rfl
              · exact fun _ _ _ h => h
              · refine Or.inl ⟨by rfl, ?_⟩
                (intro V hSV; (try dsimp only at hSV); obtain ⟨q0, q1, q2, q3, q4, q5, q6, q7⟩ := hSV; go_simp; try with_reducible rfl)
              (try simp only [Act.put, List.setIfInBounds_toArray, List.set_cons_zero, List.set_cons_succ])
              refine wpAnyH_take (i := 3) (oi := ?_) (v := ?_) ?_ ?_ ?_ ?_ ?_ ?_ (by exact hHeld) ?_
              rotate_left 2
              · (simp only [List.getElem?_toArray, List.getElem?_cons_zero, List.getElem?_cons_succ]; try rfl)
              · kernel_rfl
              · kernel_rfl
              · kernel_rfl
              · exact fun _ _ _ h => h
              · refine Or.inl ⟨by rfl, ?_⟩
                (intro V hSV; (try dsimp only at hSV); obtain ⟨q0, q1, q2, q3, q4, q5, q6, q7⟩ := hSV; go_simp; try with_reducible rfl)
              (try simp only [Act.put, List.setIfInBounds_toArray, List.set_cons_zero, List.set_cons_succ])
              refine wpAnyH_take (i := 4) (oi := ?_) (v := ?_) ?_ ?_ ?_ ?_ ?_ ?_ (by exact hHeld) ?_
              rotate_left 2
              · (simp only [List.getElem?_toArray, List.getElem?_cons_zero, List.getElem?_cons_succ]; try rfl)
              · kernel_rfl
              · kernel_rfl
              · kernel_rfl
              · exact fun _ _ _ h => h
              · refine Or.inl ⟨by rfl, ?_⟩
                (intro V hSV; (try dsimp only at hSV); obtain ⟨q0, q1, q2, q3, q4, q5, q6, q7⟩ := hSV; go_simp; try with_reducible rfl)
              (try simp only [Act.put, List.setIfInBounds_toArray, List.set_cons_zero, List.set_cons_succ])
              refine wpAnyH_take (i := 5) (oi := ?_) (v := ?_) ?_ ?_ ?_ ?_ ?_ ?_ (by exact hHeld) ?_
              rotate_left 2
              · (simp only [List.getElem?_toArray, List.getElem?_cons_zero, List.getElem?_cons_succ]; try rfl)
              · kernel_rfl
              · kernel_rfl
              · kernel_rfl
              · exact fun _ _ _ h => h
              · refine Or.inl ⟨by rfl, ?_⟩
                (intro V hSV; (try dsimp only at hSV); obtain ⟨q0, q1, q2, q3, q4, q5, q6, q7⟩ := hSV; go_simp; try with_reducible rfl)
              (try simp only [Act.put, List.setIfInBounds_toArray, List.set_cons_zero, List.set_cons_succ])
              refine wpAnyH_take (i := 6) (oi := ?_) (v := ?_) ?_ ?_ ?_ ?_ ?_ ?_ (by exact hHeld) ?_
              rotate_left 2
              · (simp only [List.getElem?_toArray, List.getElem?_cons_zero, List.getElem?_cons_succ]; try rfl)
              · kernel_rfl
              · kernel_rfl
              · kernel_rfl
              · exact fun _ _ _ h => h
              · refine Or.inl ⟨by rfl, ?_⟩
                (intro V hSV; (try dsimp only at hSV); obtain ⟨q0, q1, q2, q3, q4, q5, q6, q7⟩ := hSV; go_simp; try with_reducible rfl)
              (try simp only [Act.put, List.setIfInBounds_toArray, List.set_cons_zero, List.set_cons_succ])
              refine wpAnyH_take (i := 7) (oi := ?_) (v := ?_) ?_ ?_ ?_ ?_ ?_ ?_ (by exact hHeld) ?_
              rotate_left 2
              · (simp only [List.getElem?_toArray, List.getElem?_cons_zero, List.getElem?_cons_succ]; try rfl)
              · kernel_rfl
              · kernel_rfl
              · kernel_rfl
              · exact fun _ _ _ h => h
              · refine Or.inl ⟨by rfl, ?_⟩
                (intro V hSV; (try dsimp only at hSV); obtain ⟨q0, q1, q2, q3, q4, q5, q6, q7⟩ := hSV; go_simp; try with_reducible rfl)
              (try simp only [Act.put, List.setIfInBounds_toArray, List.set_cons_zero, List.set_cons_succ])
              refine wpAnyH_take (i := 8) (oi := ?_) (v := ?_) ?_ ?_ ?_ ?_ ?_ ?_ (by exact hHeld) ?_
              rotate_left 2
              · (simp only [List.getElem?_toArray, List.getElem?_cons_zero, List.getElem?_cons_succ]; try rfl)
              · kernel_rfl
              · kernel_rfl
              · kernel_rfl
              · exact fun _ _ _ h => h
              · refine Or.inl ⟨by rfl, ?_⟩
                (intro V hSV; (try dsimp only at hSV); obtain ⟨q0, q1, q2, q3, q4, q5, q6, q7⟩ := hSV; go_simp; try with_reducible rfl)
              (try simp only [Act.put, List.setIfInBounds_toArray, List.set_cons_zero, List.set_cons_succ])
              refine wpAnyH_done (by kernel_rfl) ?_ _
              clear hHeld
              go_wp2
              go_ret
              exact ⟨rfl, hbw.drew⟩
            · have h4 : (s == s') = false := beq_eq_false_iff_ne.2 h3
              clear h3
              have hx1 : (x == x) = true := by simp
              have hx2 : (y == y) = true := by simp
              go_upto_region 6 with fail
              refine wp_region_held_drew (S := (fun V => V.cell? ⟨b, off + i * 4, none⟩ = some (.int .i64 x) ∧ V.cell? ⟨b, off + i * 4 + 1, none⟩ = some (.int .i64 y) ∧ V.cell? ⟨b, off + i * 4 + 2, none⟩ = some (.int .i64 s) ∧ V.cell? ⟨b, off + i * 4 + 3, none⟩ = some (.int .i64 t) ∧ V.cell? ⟨b', off' + i * 4, none⟩ = some (.int .i64 x) ∧ V.cell? ⟨b', off' + i * 4 + 1, none⟩ = some (.int .i64 y) ∧ V.cell? ⟨b', off' + i * 4 + 2, none⟩ = some (.int .i64 s') ∧ V.cell? ⟨b', off' + i * 4 + 3, none⟩ = some (.int .i64 t'))) (by kernel_rfl) (by exact ⟨k0, k1, k2, k3, m0, m1, m2, m3⟩) (fun hHeld => ?_)
              refine wpAnyH_take (i := 0) (oi := ?_) (v := ?_) ?_ ?_ ?_ ?_ ?_ ?_ (by exact hHeld) ?_
              rotate_left 2
              · (simp only [List.getElem?_toArray, List.getElem?_cons_zero]; try rfl)
              · kernel_rfl
              · kernel_rfl
              · kernel_rfl
              · exact fun _ _ _ h => h
              · refine Or.inl ⟨by rfl, ?_⟩
                (intro V hSV; (try dsimp only at hSV); obtain ⟨q0, q1, q2, q3, q4, q5, q6, q7⟩ := hSV; go_simp; try with_reducible rfl)
              (try simp only [Act.put, List.setIfInBounds_toArray, List.set_cons_zero, List.set_cons_succ])
              refine wpAnyH_take (i := 1) (oi := ?_) (v := ?_) ?_ ?_ ?_ ?_ ?_ ?_ (by exact hHeld) ?_
              rotate_left 2
              · (simp only [List.getElem?_toArray, List.getElem?_cons_zero, List.getElem?_cons_succ]; try rfl)
              · kernel_rfl
              · kernel_rfl
              · kernel_rfl
              · exact fun _ _ _ h => h
              · refine Or.inl ⟨by rfl, ?_⟩
                (intro V hSV; (try dsimp only at hSV); obtain ⟨q0, q1, q2, q3, q4, q5, q6, q7⟩ := hSV; go_simp; try with_reducible rfl)
              (try simp only [Act.put, List.setIfInBounds_toArray, List.set_cons_zero, List.set_cons_succ])
              refine wpAnyH_take (i := 2) (oi := ?_) (v := ?_) ?_ ?_ ?_ ?_ ?_ ?_ (by exact hHeld) ?_
              rotate_left 2
              · (simp only [List.getElem?_toArray, List.getElem?_cons_zero, List.getElem?_cons_succ]; try rfl)
              · kernel_rfl
              · kernel_rfl
              · kernel_rfl
              · exact fun _ _ _ h => h
              · refine Or.inl ⟨by rfl, ?_⟩
                (intro V hSV; (try dsimp only at hSV); obtain ⟨q0, q1, q2, q3, q4, q5, q6, q7⟩ := hSV; go_simp; try with_reducible rfl)
              (try simp only [Act.put, List.setIfInBounds_toArray, List.set_cons_zero, List.set_cons_succ])
              refine wpAnyH_take (i := 3) (oi := ?_) (v := ?_) ?_ ?_ ?_ ?_ ?_ ?_ (by exact hHeld) ?_
              rotate_left 2
              · (simp only [List.getElem?_toArray, List.getElem?_cons_zero, List.getElem?_cons_succ]; try rfl)
              · kernel_rfl
              · kernel_rfl
              · kernel_rfl
              · exact fun _ _ _ h => h
              · refine Or.inl ⟨by rfl, ?_⟩
                (intro V hSV; (try dsimp only at hSV); obtain ⟨q0, q1, q2, q3, q4, q5, q6, q7⟩ := hSV; go_simp; try with_reducible rfl)
              (try simp only [Act.put, List.setIfInBounds_toArray, List.set_cons_zero, List.set_cons_succ])
              refine wpAnyH_take (i := 4) (oi := ?_) (v := ?_) ?_ ?_ ?_ ?_ ?_ ?_ (by exact hHeld) ?_
              rotate_left 2
              · (simp only [List.getElem?_toArray, List.getElem?_cons_zero, List.getElem?_cons_succ]; try rfl)
              · kernel_rfl
              · kernel_rfl
              · kernel_rfl
              · exact fun _ _ _ h => h
              · refine Or.inl ⟨by rfl, ?_⟩
                (intro V hSV; (try dsimp only at hSV); obtain ⟨q0, q1, q2, q3, q4, q5, q6, q7⟩ := hSV; go_simp; try with_reducible rfl)
              (try simp only [Act.put, List.setIfInBounds_toArray, List.set_cons_zero, List.set_cons_succ])
              refine wpAnyH_take (i := 5) (oi := ?_) (v := ?_) ?_ ?_ ?_ ?_ ?_ ?_ (by exact hHeld) ?_
              rotate_left 2
              · (simp only [List.getElem?_toArray, List.getElem?_cons_zero, List.getElem?_cons_succ]; try rfl)
              · kernel_rfl
              · kernel_rfl
              · kernel_rfl
              · exact fun _ _ _ h => h
              · refine Or.inl ⟨by rfl, ?_⟩
                (intro V hSV; (try dsimp only at hSV); obtain ⟨q0, q1, q2, q3, q4, q5, q6, q7⟩ := hSV; go_simp; try with_reducible rfl)
              (try simp only [Act.put, List.setIfInBounds_toArray, List.set_cons_zero, List.set_cons_succ])
              refine wpAnyH_take (i := 6) (oi := ?_) (v := ?_) ?_ ?_ ?_ ?_ ?_ ?_ (by exact hHeld) ?_
              rotate_left 2
              · (simp only [List.getElem?_toArray, List.getElem?_cons_zero, List.getElem?_cons_succ]; try rfl)
              · kernel_rfl
              · kernel_rfl
              · kernel_rfl
              · exact fun _ _ _ h => h
              · refine Or.inl ⟨by rfl, ?_⟩
                (intro V hSV; (try dsimp only at hSV); obtain ⟨q0, q1, q2, q3, q4, q5, q6, q7⟩ := hSV; go_simp; try with_reducible rfl)
              (try simp only [Act.put, List.setIfInBounds_toArray, List.set_cons_zero, List.set_cons_succ])
              refine wpAnyH_take (i := 7) (oi := ?_) (v := ?_) ?_ ?_ ?_ ?_ ?_ ?_ (by exact hHeld) ?_
              rotate_left 2
              · (simp only [List.getElem?_toArray, List.getElem?_cons_zero, List.getElem?_cons_succ]; try rfl)
              · kernel_rfl
              · kernel_rfl
              · kernel_rfl
              · exact fun _ _ _ h => h
              · refine Or.inl ⟨by rfl, ?_⟩
                (intro V hSV; (try dsimp only at hSV); obtain ⟨q0, q1, q2, q3, q4, q5, q6, q7⟩ := hSV; go_simp; try with_reducible rfl)
              (try simp only [Act.put, List.setIfInBounds_toArray, List.set_cons_zero, List.set_cons_succ])
              refine wpAnyH_take (i := 8) (oi := ?_) (v := ?_) ?_ ?_ ?_ ?_ ?_ ?_ (by exact hHeld) ?_
              rotate_left 2
              · (simp only [List.getElem?_toArray, List.getElem?_cons_zero, List.getElem?_cons_succ]; try rfl)
              · kernel_rfl
              · kernel_rfl
              · kernel_rfl
              · exact fun _ _ _ h => h
              · refine Or.inl ⟨by rfl, ?_⟩
                (intro V hSV; (try dsimp only at hSV); obtain ⟨q0, q1, q2, q3, q4, q5, q6, q7⟩ := hSV; go_simp; try with_reducible rfl)
              (try simp only [Act.put, List.setIfInBounds_toArray, List.set_cons_zero, List.set_cons_succ])
              refine wpAnyH_done (by kernel_rfl) ?_ _
              clear hHeld
              go_wp2
              go_ret
              exact ⟨rfl, hbw.drew⟩
          · have h4 : (y == y') = false := beq_eq_false_iff_ne.2 h2
            clear h2
            have hx1 : (x == x) = true := by simp
            go_upto_region 6 with fail
            refine wp_region_held_drew (S := (fun V => V.cell? ⟨b, off + i * 4, none⟩ = some (.int .i64 x) ∧ V.cell? ⟨b, off + i * 4 + 1, none⟩ = some (.int .i64 y) ∧ V.cell? ⟨b, off + i * 4 + 2, none⟩ = some (.int .i64 s) ∧ V.cell? ⟨b, off + i * 4 + 3, none⟩ = some (.int .i64 t) ∧ V.cell? ⟨b', off' + i * 4, none⟩ = some (.int .i64 x) ∧ V.cell? ⟨b', off' + i * 4 + 1, none⟩ = some (.int .i64 y') ∧ V.cell? ⟨b', off' + i * 4 + 2, none⟩ = some (.int .i64 s') ∧ V.cell? ⟨b', off' + i * 4 + 3, none⟩ = some (.int .i64 t'))) (by kernel_rfl) (by exact ⟨k0, k1, k2, k3, m0, m1, m2, m3⟩) (fun hHeld => ?_)
            refine wpAnyH_take (i := 0) (oi := ?_) (v := ?_) ?_ ?_ ?_ ?_ ?_ ?_ (by exact hHeld) ?_
            rotate_left 2
            · (simp only [List.getElem?_toArray, List.getElem?_cons_zero]; try rfl)
            · kernel_rfl
            · kernel_rfl
            · kernel_rfl
            · exact fun _ _ _ h => h
            · refine Or.inl ⟨by rfl, ?_⟩
              (intro V hSV; (try dsimp only at hSV); obtain ⟨q0, q1, q2, q3, q4, q5, q6, q7⟩ := hSV; go_simp; try with_reducible rfl)
            (try simp only [Act.put, List.setIfInBounds_toArray, List.set_cons_zero, List.set_cons_succ])
            refine wpAnyH_take (i := 1) (oi := ?_) (v := ?_) ?_ ?_ ?_ ?_ ?_ ?_ (by exact hHeld) ?_
            rotate_left 2
            · (simp only [List.getElem?_toArray, List.getElem?_cons_zero, List.getElem?_cons_succ]; try rfl)
            · kernel_rfl
            · kernel_rfl
            · kernel_rfl
            · exact fun _ _ _ h => h
            · refine Or.inl ⟨by rfl, ?_⟩
              (intro V hSV; (try dsimp only at hSV); obtain ⟨q0, q1, q2, q3, q4, q5, q6, q7⟩ := hSV; go_simp; try with_reducible rfl)
            (try simp only [Act.put, List.setIfInBounds_toArray, List.set_cons_zero, List.set_cons_succ])
            refine wpAnyH_take (i := 2) (oi := ?_) (v := ?_) ?_ ?_ ?_ ?_ ?_ ?_ (by exact hHeld) ?_
            rotate_left 2
            · (simp only [List.getElem?_toArray, List.getElem?_cons_zero, List.getElem?_cons_succ]; try rfl)
            · kernel_rfl
            · kernel_rfl
            · kernel_rfl
            · exact fun _ _ _ h => h
            · refine Or.inl ⟨by rfl, ?_⟩
              (intro V hSV; (try dsimp only at hSV); obtain ⟨q0, q1, q2, q3, q4, q5, q6, q7⟩ := hSV; go_simp; try with_reducible rfl)
            (try simp only [Act.put, List.setIfInBounds_toArray, List.set_cons_zero, List.set_cons_succ])
            refine wpAnyH_take (i := 3) (oi := ?_) (v := ?_) ?_ ?_ ?_ ?_ ?_ ?_ (by exact hHeld) ?_
            rotate_left 2
            · (simp only [List.getElem?_toArray, List.getElem?_cons_zero, List.getElem?_cons_succ]; try rfl)
            · kernel_rfl
            · kernel_rfl
            · kernel_rfl
            · exact fun _ _ _ h => h
            · refine Or.inl ⟨by rfl, ?_⟩
              (intro V hSV; (try dsimp only at hSV); obtain ⟨q0, q1, q2, q3, q4, q5, q6, q7⟩ := hSV; go_simp; try with_reducible rfl)
            (try simp only [Act.put, List.setIfInBounds_toArray, List.set_cons_zero, List.set_cons_succ])
            refine wpAnyH_take (i := 4) (oi := ?_) (v := ?_) ?_ ?_ ?_ ?_ ?_ ?_ (by exact hHeld) ?_
            rotate_left 2
            · (simp only [List.getElem?_toArray, List.getElem?_cons_zero, List.getElem?_cons_succ]; try rfl)
            · kernel_rfl
            · kernel_rfl
            · kernel_rfl
            · exact fun _ _ _ h => h
            · refine Or.inl ⟨by rfl, ?_⟩
              (intro V hSV; (try dsimp only at hSV); obtain ⟨q0, q1, q2, q3, q4, q5, q6, q7⟩ := hSV; go_simp; try with_reducible rfl)
            (try simp only [Act.put, List.setIfInBounds_toArray, List.set_cons_zero, List.set_cons_succ])
            refine wpAnyH_take (i := 5) (oi := ?_) (v := ?_) ?_ ?_ ?_ ?_ ?_ ?_ (by exact hHeld) ?_
            rotate_left 2
            · (simp only [List.getElem?_toArray, List.getElem?_cons_zero, List.getElem?_cons_succ]; try rfl)
            · kernel_rfl
            · kernel_rfl
            · kernel_rfl
            · exact fun _ _ _ h => h
            · refine Or.inl ⟨by rfl, ?_⟩
              (intro V hSV; (try dsimp only at hSV); obtain ⟨q0, q1, q2, q3, q4, q5, q6, q7⟩ := hSV; go_simp; try with_reducible rfl)
            (try simp only [Act.put, List.setIfInBounds_toArray, List.set_cons_zero, List.set_cons_succ])
            refine wpAnyH_take (i := 6) (oi := ?_) (v := ?_) ?_ ?_ ?_ ?_ ?_ ?_ (by exact hHeld) ?_
            rotate_left 2
            · (simp only [List.getElem?_toArray, List.getElem?_cons_zero, List.getElem?_cons_succ]; try rfl)
            · kernel_rfl
            · kernel_rfl
            · kernel_rfl
            · exact fun _ _ _ h => h
            · refine Or.inl ⟨by rfl, ?_⟩
              (intro V hSV; (try dsimp only at hSV); obtain ⟨q0, q1, q2, q3, q4, q5, q6, q7⟩ := hSV; go_simp; try with_reducible rfl)
            (try simp only [Act.put, List.setIfInBounds_toArray, List.set_cons_zero, List.set_cons_succ])
            refine wpAnyH_take (i := 7) (oi := ?_) (v := ?_) ?_ ?_ ?_ ?_ ?_ ?_ (by exact hHeld) ?_
            rotate_left 2
            · (simp only [List.getElem?_toArray, List.getElem?_cons_zero, List.getElem?_cons_succ]; try rfl)
            · kernel_rfl
            · kernel_rfl
            · kernel_rfl
            · exact fun _ _ _ h => h
            · refine Or.inl ⟨by rfl, ?_⟩
              (intro V hSV; (try dsimp only at hSV); obtain ⟨q0, q1, q2, q3, q4, q5, q6, q7⟩ := hSV; go_simp; try with_reducible rfl)
            (try simp only [Act.put, List.setIfInBounds_toArray, List.set_cons_zero, List.set_cons_succ])
            refine wpAnyH_take (i := 8) (oi := ?_) (v := ?_) ?_ ?_ ?_ ?_ ?_ ?_ (by exact hHeld) ?_
            rotate_left 2
            · (simp only [List.getElem?_toArray, List.getElem?_cons_zero, List.getElem?_cons_succ]; try rfl)
            · kernel_rfl
            · kernel_rfl
            · kernel_rfl
            · exact fun _ _ _ h => h
            · refine Or.inl ⟨by rfl, ?_⟩
              (intro V hSV; (try dsimp only at hSV); obtain ⟨q0, q1, q2, q3, q4, q5, q6, q7⟩ := hSV; go_simp; try with_reducible rfl)
            (try simp only [Act.put, List.setIfInBounds_toArray, List.set_cons_zero, List.set_cons_succ])
            refine wpAnyH_done (by kernel_rfl) ?_ _
            clear hHeld
            go_wp2
            go_ret
            exact ⟨rfl, hbw.drew⟩
        · have h4 : (x == x') = false := beq_eq_false_iff_ne.2 h1
          clear h1
          go_upto_region 6 with fail
          refine wp_region_held_drew (S := (fun V => V.cell? ⟨b, off + i * 4, none⟩ = some (.int .i64 x) ∧ V.cell? ⟨b, off + i * 4 + 1, none⟩ = some (.int .i64 y) ∧ V.cell? ⟨b, off + i * 4 + 2, none⟩ = some (.int .i64 s) ∧ V.cell? ⟨b, off + i * 4 + 3, none⟩ = some (.int .i64 t) ∧ V.cell? ⟨b', off' + i * 4, none⟩ = some (.int .i64 x') ∧ V.cell? ⟨b', off' + i * 4 + 1, none⟩ = some (.int .i64 y') ∧ V.cell? ⟨b', off' + i * 4 + 2, none⟩ = some (.int .i64 s') ∧ V.cell? ⟨b', off' + i * 4 + 3, none⟩ = some (.int .i64 t'))) (by kernel_rfl) (by exact ⟨k0, k1, k2, k3, m0, m1, m2, m3⟩) (fun hHeld => ?_)
          refine wpAnyH_take (i := 0) (oi := ?_) (v := ?_) ?_ ?_ ?_ ?_ ?_ ?_ (by exact hHeld) ?_
          rotate_left 2
          · (simp only [List.getElem?_toArray, List.getElem?_cons_zero]; try rfl)
          · kernel_rfl
          · kernel_rfl
          · kernel_rfl
          · exact fun _ _ _ h => h
          · refine Or.inl ⟨by rfl, ?_⟩
            (intro V hSV; (try dsimp only at hSV); obtain ⟨q0, q1, q2, q3, q4, q5, q6, q7⟩ := hSV; go_simp; try with_reducible rfl)
          (try simp only [Act.put, List.setIfInBounds_toArray, List.set_cons_zero, List.set_cons_succ])
          refine wpAnyH_take (i := 1) (oi := ?_) (v := ?_) ?_ ?_ ?_ ?_ ?_ ?_ (by exact hHeld) ?_
          rotate_left 2
          · (simp only [List.getElem?_toArray, List.getElem?_cons_zero, List.getElem?_cons_succ]; try rfl)
          · kernel_rfl
          · kernel_rfl
          · kernel_rfl
          · exact fun _ _ _ h => h
          · refine Or.inl ⟨by rfl, ?_⟩
            (intro V hSV; (try dsimp only at hSV); obtain ⟨q0, q1, q2, q3, q4, q5, q6, q7⟩ := hSV; go_simp; try with_reducible rfl)
          (try simp only [Act.put, List.setIfInBounds_toArray, List.set_cons_zero, List.set_cons_succ])
          refine wpAnyH_take (i := 2) (oi := ?_) (v := ?_) ?_ ?_ ?_ ?_ ?_ ?_ (by exact hHeld) ?_
          rotate_left 2
          · (simp only [List.getElem?_toArray, List.getElem?_cons_zero, List.getElem?_cons_succ]; try rfl)
          · kernel_rfl
          · kernel_rfl
          · kernel_rfl
          · exact fun _ _ _ h => h
          · refine Or.inl ⟨by rfl, ?_⟩
            (intro V hSV; (try dsimp only at hSV); obtain ⟨q0, q1, q2, q3, q4, q5, q6, q7⟩ := hSV; go_simp; try with_reducible rfl)
          (try simp only [Act.put, List.setIfInBounds_toArray, List.set_cons_zero, List.set_cons_succ])
          refine wpAnyH_take (i := 3) (oi := ?_) (v := ?_) ?_ ?_ ?_ ?_ ?_ ?_ (by exact hHeld) ?_
          rotate_left 2
          · (simp only [List.getElem?_toArray, List.getElem?_cons_zero, List.getElem?_cons_succ]; try rfl)
          · kernel_rfl
          · kernel_rfl
          · kernel_rfl
          · exact fun _ _ _ h => h
          · refine Or.inl ⟨by rfl, ?_⟩
            (intro V hSV; (try dsimp only at hSV); obtain ⟨q0, q1, q2, q3, q4, q5, q6, q7⟩ := hSV; go_simp; try with_reducible rfl)
          (try simp only [Act.put, List.setIfInBounds_toArray, List.set_cons_zero, List.set_cons_succ])
          refine wpAnyH_take (i := 4) (oi := ?_) (v := ?_) ?_ ?_ ?_ ?_ ?_ ?_ (by exact hHeld) ?_
          rotate_left 2
          · (simp only [List.getElem?_toArray, List.getElem?_cons_zero, List.getElem?_cons_succ]; try rfl)
          · kernel_rfl
          · kernel_rfl
          · kernel_rfl
          · exact fun _ _ _ h => h
          · refine Or.inl ⟨by rfl, ?_⟩
            (intro V hSV; (try dsimp only at hSV); obtain ⟨q0, q1, q2, q3, q4, q5, q6, q7⟩ := hSV; go_simp; try with_reducible rfl)
          (try simp only [Act.put, List.setIfInBounds_toArray, List.set_cons_zero, List.set_cons_succ])
          refine wpAnyH_take (i := 5) (oi := ?_) (v := ?_) ?_ ?_ ?_ ?_ ?_ ?_ (by exact hHeld) ?_
          rotate_left 2
          · (simp only [List.getElem?_toArray, List.getElem?_cons_zero, List.getElem?_cons_succ]; try rfl)
          · kernel_rfl
          · kernel_rfl
          · kernel_rfl
          · exact fun _ _ _ h => h
          · refine Or.inl ⟨by rfl, ?_⟩
            (intro V hSV; (try dsimp only at hSV); obtain ⟨q0, q1, q2, q3, q4, q5, q6, q7⟩ := hSV; go_simp; try with_reducible rfl)
          (try simp only [Act.put, List.setIfInBounds_toArray, List.set_cons_zero, List.set_cons_succ])
          refine wpAnyH_take (i := 6) (oi := ?_) (v := ?_) ?_ ?_ ?_ ?_ ?_ ?_ (by exact hHeld) ?_
          rotate_left 2
          · (simp only [List.getElem?_toArray, List.getElem?_cons_zero, List.getElem?_cons_succ]; try rfl)
          · kernel_rfl
          · kernel_rfl
          · kernel_rfl
          · exact fun _ _ _ h => h
          · refine Or.inl ⟨by rfl, ?_⟩
            (intro V hSV; (try dsimp only at hSV); obtain ⟨q0, q1, q2, q3, q4, q5, q6, q7⟩ := hSV; go_simp; try with_reducible rfl)
          (try simp only [Act.put, List.setIfInBounds_toArray, List.set_cons_zero, List.set_cons_succ])
          refine wpAnyH_take (i := 7) (oi := ?_) (v := ?_) ?_ ?_ ?_ ?_ ?_ ?_ (by exact hHeld) ?_
          rotate_left 2
          · (simp only [List.getElem?_toArray, List.getElem?_cons_zero, List.getElem?_cons_succ]; try rfl)
          · kernel_rfl
          · kernel_rfl
          · kernel_rfl
          · exact fun _ _ _ h => h
          · refine Or.inl ⟨by rfl, ?_⟩
            (intro V hSV; (try dsimp only at hSV); obtain ⟨q0, q1, q2, q3, q4, q5, q6, q7⟩ := hSV; go_simp; try with_reducible rfl)
          (try simp only [Act.put, List.setIfInBounds_toArray, List.set_cons_zero, List.set_cons_succ])
          refine wpAnyH_take (i := 8) (oi := ?_) (v := ?_) ?_ ?_ ?_ ?_ ?_ ?_ (by exact hHeld) ?_
          rotate_left 2
          · (simp only [List.getElem?_toArray, List.getElem?_cons_zero, List.getElem?_cons_succ]; try rfl)
          · kernel_rfl
          · kernel_rfl
          · kernel_rfl
          · exact fun _ _ _ h => h
          · refine Or.inl ⟨by rfl, ?_⟩
            (intro V hSV; (try dsimp only at hSV); obtain ⟨q0, q1, q2, q3, q4, q5, q6, q7⟩ := hSV; go_simp; try with_reducible rfl)
          (try simp only [Act.put, List.setIfInBounds_toArray, List.set_cons_zero, List.set_cons_succ])
          refine wpAnyH_done (by kernel_rfl) ?_ _
          clear hHeld
          go_wp2
          go_ret
          exact ⟨rfl, hbw.drew⟩
    · obtain rfl : i = n := by omega
      have hzt : z = true := by
        rw [← HZ.out]
        refine decide_eq_true ?_
        have h1 := HP.out
        rw [List.take_of_length_le (by rw [HN.out]; omega), List.take_of_length_le (by rw [HF.out]; omega)] at h1
        exact h1
      subst hzt
      go_wp2
      go_ret
      exact ⟨rfl, hbw⟩
end Go.Proofs.Ytgbmobepnhhldaa

/-
  A lease that is taken, plain mathematics: dropped again, found among its session's, not outlived, not taken twice. Own work.
-/
namespace Go.Proofs.Ytgbmobepnhhldaa
open Go.RowKit P
set_option linter.unusedVariables false
set_option linter.unusedSimpArgs false

theorem takeN_zero2 {es : List Le} {l : Le} {now : Int} (h : takeN es l now = 0) : (0 ≤ now ∧ now ≤ 1000) ∧ l.1 ≠ l.2.1 ∧ now < l.2.2.2 ∧ heldL es l now = false := by
  unfold takeN at h
  split at h
  · rename_i h1
    simp only [Bool.and_eq_true, decide_eq_true_eq, Bool.not_eq_true', decide_eq_false_iff_not] at h1
    split at h
    · rename_i h2
      split at h
      · cases h
      · rename_i h3
        exact ⟨h1.1.2, h1.2, h2, by simpa using h3⟩
    · cases h
  · cases h
theorem putL_no_length {es : List Le} {l : Le} (hs : Srt es) (hno : ∀ x ∈ es, leSame x l = false) : (putL es l).length = es.length + 1 := by
  unfold putL
  rw [List.length_append, List.length_cons]
  have h1 : ∀ (L : List Le), (∀ x ∈ L, leSame x l = false) → (L.filter (fun x => leLess x l)).length + (L.filter (fun x => leLess l x)).length = L.length := by
    intro L hL
    induction L with
    | nil => rfl
    | cons x t ih =>
      have ht := ih (fun y hy => hL y (List.mem_cons_of_mem _ hy))
      have hx := hL x (List.mem_cons_self ..)
      rcases le_tri x l with h | h | h
      · have h2 := leLess_asym h
        simp only [List.filter_cons, h, h2, if_true, List.length_cons]
        simp only [Bool.false_eq_true, if_false]
        omega
      · rw [h] at hx; cases hx
      · have h2 := leLess_asym h
        simp only [List.filter_cons, h, h2, if_true, List.length_cons]
        simp only [Bool.false_eq_true, if_false]
        omega
  have := h1 es hno
  omega
/-- What holds of a lease that was taken. -/
theorem taken_facts {es : List Le} {l : Le} {now : Int} (h : takeN es l now = 0) :
    takeL es l now = putL es l ∧ (putL es l).length = es.length + 1 ∧ es.length < 12 ∧ dropN (putL es l) l = 0 ∧ dropL (putL es l) l = es ∧ l ∈ leAll (putL es l) l.2.2.1 ∧
    (∀ x ∈ leExp (putL es l) l.2.2.2, l.2.2.2 < x.2.2.2) ∧ takeN (putL es l) l now = 4 := by
  obtain ⟨hok, hr, hno, hlt⟩ := takeN_zero h
  obtain ⟨hnow, hne, htill, hheld⟩ := takeN_zero2 h
  have hsame := keyIx_no hno
  have hsrt := leOk_srt hok
  have hlen := putL_no_length hsrt hsame
  have hps : Srt (putL es l) := putL_srt hsrt
  have hok2 : leOk (putL es l) = true := leOk_of (by omega) (putL_right (leOk_right hok) hr) hps
  have hmem : l ∈ putL es l := putL_mem.2 (.inl rfl)
  have hkey : keyIx (putL es l) l < (putL es l).length := keyIx_of_mem hmem (leSame_refl l)
  have hat : (putL es l)[keyIx (putL es l) l]'hkey = l := hps.same (List.getElem_mem _) hmem (keyIx_yes hkey)
  refine ⟨by unfold takeL; rw [if_pos h], hlen, hlt, ?_, ?_, ?_, ?_, ?_⟩
  · unfold dropN
    rw [if_pos (by rw [hok2, hr]; rfl), if_pos hkey]
  · unfold dropL
    rw [if_pos (by rw [hok2, hr]; rfl), if_pos hkey]
    have hsub : ((putL es l).take (keyIx (putL es l) l) ++ (putL es l).drop (keyIx (putL es l) l + 1)).Sublist (putL es l) := by
      have h1 := List.take_append_drop (keyIx (putL es l) l) (putL es l)
      conv => rhs; rw [← h1]
      exact List.Sublist.append_left (by rw [List.drop_eq_getElem_cons hkey]; exact List.sublist_cons_self ..) _
    refine Srt.unique (hps.sublist hsub) hsrt (fun x => ⟨fun hx => ?_, fun hx => ?_⟩)
    · rcases putL_mem.1 (hsub.subset hx) with e | ⟨hx2, _⟩
      · subst e
        exfalso
        have hpw : ((putL es x).take (keyIx (putL es x) x) ++ x :: (putL es x).drop (keyIx (putL es x) x + 1)).Pairwise (fun a b => leLess a b = true) := by
          have h1 : (putL es x).take (keyIx (putL es x) x) ++ x :: (putL es x).drop (keyIx (putL es x) x + 1) = putL es x := by
            have h2 := List.drop_eq_getElem_cons hkey
            rw [hat] at h2
            rw [← h2]
            exact List.take_append_drop _ _
          rw [h1]
          exact hps
        rw [List.pairwise_append] at hpw
        rcases List.mem_append.1 hx with h1 | h1
        · have := hpw.2.2 x h1 x (List.mem_cons_self ..)
          rw [leLess_irr] at this
          cases this
        · have := (List.pairwise_cons.1 hpw.2.1).1 x h1
          rw [leLess_irr] at this
          cases this
      · exact hx2
    · have hxp : x ∈ putL es l := putL_mem.2 (.inr ⟨hx, hsame x hx⟩)
      have h1 : putL es l = (putL es l).take (keyIx (putL es l) l) ++ l :: (putL es l).drop (keyIx (putL es l) l + 1) := by
        have h2 := List.drop_eq_getElem_cons hkey
        rw [hat] at h2
        rw [← h2]
        exact (List.take_append_drop _ _).symm
      rw [h1] at hxp
      rcases List.mem_append.1 hxp with h2 | h2
      · exact List.mem_append_left _ h2
      · rcases List.mem_cons.1 h2 with e | h3
        · subst e
          have := hsame x hx
          rw [leSame_refl] at this
          cases this
        · exact List.mem_append_right _ h3
  · unfold leAll
    rw [if_pos hok2]
    exact List.mem_filter.2 ⟨hmem, by simp⟩
  · intro x hx
    unfold leExp at hx
    rw [if_pos hok2] at hx
    simpa using (List.mem_filter.1 hx).2
  · unfold takeN
    have h1 : (leOk (putL es l) && leRight l && decide (0 ≤ now ∧ now ≤ 1000) && !decide (l.1 = l.2.1)) = true := by
      rw [hok2, hr, decide_eq_true hnow, decide_eq_false hne]; rfl
    have h2 : heldL (putL es l) l now = false := by
      unfold heldL at hheld ⊢
      rw [List.any_eq_false] at hheld ⊢
      intro x hx
      rcases putL_mem.1 hx with e | ⟨hx2, _⟩
      · subst e
        simp [barsL]
      · exact hheld x hx2
    rw [if_pos h1, if_pos htill, h2, if_neg (by simp), if_pos (.inl hkey)]
end Go.Proofs.Ytgbmobepnhhldaa

/-
  Chapter 7, LeaseTake and LeaseRenew in the program: contracts. Own work.
-/
namespace Go.Proofs.Ytgbmobepnhhldaa
open Go.RowKit P
set_option linter.unusedVariables false
set_option linter.unusedSimpArgs false
set_option maxRecDepth 100000

set_option maxHeartbeats 16000000 in
theorem implLeaseTake_any (A : Option Addr) (es : List Le) (c : Nat) (x y s t a : Int) (w : World) (hl : es.length ≤ 1048576) (hA : Ll w A es) :
    Calls Try.prog 10 #[.slice A es.length c, .agg #[.int .i64 x, .int .i64 y, .int .i64 s, .int .i64 t], .int .i64 a] w fun e w' => ∃ v, e = .returned (.tuple #[v, .int .i64 (takeN es (x, y, s, t) a)]) ∧ OwR w' w.heap.size v (takeL es (x, y, s, t) a) ∧ Below w.heap.size w w' := by
  obtain ⟨N, hN⟩ : ∃ N, takeN es (x, y, s, t) a = N := ⟨_, rfl⟩
  obtain ⟨L, hL⟩ : ∃ L, takeL es (x, y, s, t) a = L := ⟨_, rfl⟩
  rw [hN, hL]
  have HN := Lib.hid hN
  have HL := Lib.hid hL
  clear hN hL
  have hn9 : es.length ≤ 9223372036854775807 := by omega
  obtain ⟨z, hz⟩ : ∃ z, leOk es = z := ⟨_, rfl⟩
  obtain ⟨q, hq⟩ : ∃ q, leRight (x, y, s, t) = q := ⟨_, rfl⟩
  obtain ⟨k, hk⟩ : ∃ k, decide (0 ≤ a ∧ a ≤ 1000) = k := ⟨_, rfl⟩
  have HZ := Lib.hid hz
  have HQ := Lib.hid hq
  have HK := Lib.hid hk
  clear hz hq hk
  have hA0 := Lib.hid hA
  have BX := Lib.hid (Blk.new w #[.int .i64 x, .int .i64 y, .int .i64 s, .int .i64 t] 26)
  have HB := Lib.hid ((Below.refl w.heap.size w).alloc (Nat.le_refl _) (.cells #[.int .i64 x, .int .i64 y, .int .i64 s, .int .i64 t] 26))
  clear hA
  go_enter Try.func10, Try.ntmps10
  have HA := Lib.hid (hA0.out.below HB.out)
  have p0 := BX.out.cell 0
  have p1 := BX.out.cell 1
  have p2 := BX.out.cell 2
  have p3 := BX.out.cell 3
  go_wp2_with fail
  refine (implLeasesOk_any A es c _ hn9 HA.out).mono ?_
  rintro e w1 ⟨rfl, hb⟩
  clear p0 p1 p2 p3
  clear HA
  have BX := Lib.hid (BX.out.below hb)
  have HB := Lib.hid (below_then HB.out hb)
  clear hb
  rw [HZ.out]
  cases z
  · skip
    obtain ⟨e1, e2⟩ := takeN_form (by rw [HZ.out]; rfl)
    have HN := Lib.hid (HN.out.symm.trans e1)
    have HL := Lib.hid (HL.out.symm.trans e2)
    clear e1 e2
    have p0 := BX.out.cell 0
    have p1 := BX.out.cell 1
    have p2 := BX.out.cell 2
    have p3 := BX.out.cell 3
    go_wp2
    refine bodyPost_ret (v := .tuple #[.slice none 0 0, .int .i64 1]) (by simp [results, Try.results10, go_sem]) rfl ?_
    exact ⟨_, by rw [HN.out], by rw [HL.out]; exact OwR.nil _ _, HB.out⟩
  have HA := Lib.hid (hA0.out.below HB.out)
  have p0 := BX.out.cell 0
  have p1 := BX.out.cell 1
  have p2 := BX.out.cell 2
  have p3 := BX.out.cell 3
  go_wp2_with fail
  refine (isValid_any x y s t _).mono ?_
  rintro e w2 ⟨rfl, hb⟩
  clear p0 p1 p2 p3
  clear HA
  have BX := Lib.hid (BX.out.below hb)
  have HB := Lib.hid (below_then HB.out hb)
  clear hb
  rw [HQ.out]
  cases q
  · skip
    obtain ⟨e1, e2⟩ := takeN_form (by rw [HZ.out, HQ.out]; rfl)
    have HN := Lib.hid (HN.out.symm.trans e1)
    have HL := Lib.hid (HL.out.symm.trans e2)
    clear e1 e2
    have p0 := BX.out.cell 0
    have p1 := BX.out.cell 1
    have p2 := BX.out.cell 2
    have p3 := BX.out.cell 3
    go_wp2
    refine bodyPost_ret (v := .tuple #[.slice none 0 0, .int .i64 1]) (by simp [results, Try.results10, go_sem]) rfl ?_
    exact ⟨_, by rw [HN.out], by rw [HL.out]; exact OwR.nil _ _, HB.out⟩
  have HA := Lib.hid (hA0.out.below HB.out)
  have p0 := BX.out.cell 0
  have p1 := BX.out.cell 1
  have p2 := BX.out.cell 2
  have p3 := BX.out.cell 3
  go_wp2_with fail
  refine (fitsClock_any a _).mono ?_
  rintro e w3 ⟨rfl, rfl⟩
  clear p0 p1 p2 p3
  clear HA
  rw [HK.out]
  cases k
  · skip
    obtain ⟨e1, e2⟩ := takeN_form (by rw [HZ.out, HQ.out, HK.out]; rfl)
    have HN := Lib.hid (HN.out.symm.trans e1)
    have HL := Lib.hid (HL.out.symm.trans e2)
    clear e1 e2
    have p0 := BX.out.cell 0
    have p1 := BX.out.cell 1
    have p2 := BX.out.cell 2
    have p3 := BX.out.cell 3
    go_wp2
    refine bodyPost_ret (v := .tuple #[.slice none 0 0, .int .i64 1]) (by simp [results, Try.results10, go_sem]) rfl ?_
    exact ⟨_, by rw [HN.out], by rw [HL.out]; exact OwR.nil _ _, HB.out⟩
  have hlen := leOk_len HZ.out
  have hin := leIn_right HQ.out
  by_cases hxy : x = y
  · skip
    have hxb : (x == y) = true := by simp [hxy]
    obtain ⟨e1, e2⟩ := takeN_form (by rw [HZ.out, HQ.out, HK.out]; simp [hxy])
    have HN := Lib.hid (HN.out.symm.trans e1)
    have HL := Lib.hid (HL.out.symm.trans e2)
    clear e1 e2
    have p0 := BX.out.cell 0
    have p1 := BX.out.cell 1
    have p2 := BX.out.cell 2
    have p3 := BX.out.cell 3
    go_wp2
    refine bodyPost_ret (v := .tuple #[.slice none 0 0, .int .i64 1]) (by simp [results, Try.results10, go_sem]) rfl ?_
    exact ⟨_, by rw [HN.out], by rw [HL.out]; exact OwR.nil _ _, HB.out⟩
  have hxb : (x == y) = false := by simp [hxy]
  have HF := Lib.hid (show (leOk es && leRight (x, y, s, t) && decide (0 ≤ a ∧ a ≤ 1000) && !decide (((x, y, s, t) : Le).1 = ((x, y, s, t) : Le).2.1)) = true by rw [HZ.out, HQ.out, HK.out]; simp [hxy])
  clear hxy
  obtain ⟨g, hg⟩ : ∃ g, decide (a < t) = g := ⟨_, rfl⟩
  have HG := Lib.hid hg
  clear hg
  have HA := Lib.hid (hA0.out.below HB.out)
  have p0 := BX.out.cell 0
  have p1 := BX.out.cell 1
  have p2 := BX.out.cell 2
  have p3 := BX.out.cell 3
  go_wp2_with fail
  refine (isActive_any x y s t a _).mono ?_
  rintro e w4 ⟨rfl, hb⟩
  clear p0 p1 p2 p3
  clear HA
  have BX := Lib.hid (BX.out.below hb)
  have HB := Lib.hid (below_then HB.out hb)
  clear hb
  rw [HG.out]
  cases g
  · skip
    obtain ⟨e1, e2⟩ := takeN_clock HF.out (of_decide_eq_false HG.out)
    have HN := Lib.hid (HN.out.symm.trans e1)
    have HL := Lib.hid (HL.out.symm.trans e2)
    clear e1 e2
    have p0 := BX.out.cell 0
    have p1 := BX.out.cell 1
    have p2 := BX.out.cell 2
    have p3 := BX.out.cell 3
    go_wp2
    refine bodyPost_ret (v := .tuple #[.slice none 0 0, .int .i64 2]) (by simp [results, Try.results10, go_sem]) rfl ?_
    exact ⟨_, by rw [HN.out], by rw [HL.out]; exact OwR.nil _ _, HB.out⟩
  obtain ⟨h, hh⟩ : ∃ h, heldL es (x, y, s, t) a = h := ⟨_, rfl⟩
  have HH := Lib.hid hh
  clear hh
  have HA := Lib.hid (hA0.out.below HB.out)
  have p0 := BX.out.cell 0
  have p1 := BX.out.cell 1
  have p2 := BX.out.cell 2
  have p3 := BX.out.cell 3
  go_wp2_with fail
  refine (isHeld_any A es c x y s t a _ HZ.out HA.out).mono ?_
  rintro e w5 ⟨rfl, hb⟩
  clear p0 p1 p2 p3
  clear HA
  have BX := Lib.hid (BX.out.below hb)
  have HB := Lib.hid (below_then HB.out hb)
  clear hb
  rw [HH.out]
  cases h
  rotate_left
  · skip
    obtain ⟨e1, e2⟩ := takeN_held HF.out (of_decide_eq_true HG.out) HH.out
    have HN := Lib.hid (HN.out.symm.trans e1)
    have HL := Lib.hid (HL.out.symm.trans e2)
    clear e1 e2
    have p0 := BX.out.cell 0
    have p1 := BX.out.cell 1
    have p2 := BX.out.cell 2
    have p3 := BX.out.cell 3
    go_wp2
    refine bodyPost_ret (v := .tuple #[.slice none 0 0, .int .i64 3]) (by simp [results, Try.results10, go_sem]) rfl ?_
    exact ⟨_, by rw [HN.out], by rw [HL.out]; exact OwR.nil _ _, HB.out⟩
  obtain ⟨f, hf⟩ : ∃ f, decide (keyIx es (x, y, s, t) < es.length) = f := ⟨_, rfl⟩
  have HFK := Lib.hid hf
  clear hf
  have HA := Lib.hid (hA0.out.below HB.out)
  have p0 := BX.out.cell 0
  have p1 := BX.out.cell 1
  have p2 := BX.out.cell 2
  have p3 := BX.out.cell 3
  go_wp2_with fail
  refine (hasKey_any A es c x y s t _ HZ.out HA.out).mono ?_
  rintro e w6 ⟨rfl, hb⟩
  clear p0 p1 p2 p3
  clear HA
  have BX := Lib.hid (BX.out.below hb)
  have HB := Lib.hid (below_then HB.out hb)
  clear hb
  rw [HFK.out]
  cases f
  rotate_left
  · skip
    obtain ⟨e1, e2⟩ := takeN_full HF.out (of_decide_eq_true HG.out) HH.out (.inl (of_decide_eq_true HFK.out))
    have HN := Lib.hid (HN.out.symm.trans e1)
    have HL := Lib.hid (HL.out.symm.trans e2)
    clear e1 e2
    have p0 := BX.out.cell 0
    have p1 := BX.out.cell 1
    have p2 := BX.out.cell 2
    have p3 := BX.out.cell 3
    go_wp2
    refine bodyPost_ret (v := .tuple #[.slice none 0 0, .int .i64 4]) (by simp [results, Try.results10, go_sem]) rfl ?_
    exact ⟨_, by rw [HN.out], by rw [HL.out]; exact OwR.nil _ _, HB.out⟩
  by_cases h12 : es.length = 12
  · skip
    have h12b : ((es.length : Int) == 12) = true := by simp; omega
    have HA := Lib.hid (hA0.out.below HB.out)
    obtain ⟨e1, e2⟩ := takeN_full HF.out (of_decide_eq_true HG.out) HH.out (.inr h12)
    have HN := Lib.hid (HN.out.symm.trans e1)
    have HL := Lib.hid (HL.out.symm.trans e2)
    clear e1 e2
    have p0 := BX.out.cell 0
    have p1 := BX.out.cell 1
    have p2 := BX.out.cell 2
    have p3 := BX.out.cell 3
    go_wp2
    refine bodyPost_ret (v := .tuple #[.slice none 0 0, .int .i64 4]) (by simp [results, Try.results10, go_sem]) rfl ?_
    exact ⟨_, by rw [HN.out], by rw [HL.out]; exact OwR.nil _ _, HB.out⟩
  have h12b : ((es.length : Int) == 12) = false := by simp; omega
  obtain ⟨e1, e2⟩ := takeN_fine HF.out (of_decide_eq_true HG.out) HH.out (fun h => h.elim (of_decide_eq_false HFK.out) h12)
  have HN := Lib.hid (HN.out.symm.trans e1)
  have HL := Lib.hid (HL.out.symm.trans e2)
  clear e1 e2 h12
  have HA := Lib.hid (hA0.out.below HB.out)
  have p0 := BX.out.cell 0
  have p1 := BX.out.cell 1
  have p2 := BX.out.cell 2
  have p3 := BX.out.cell 3
  have zb := BX.out.lt
  have hzw := HB.out.size
  go_wp2_with fail
  refine wp_region_held_drew (S := (fun V => V.cell? ⟨w.heap.size, 0, none⟩ = some (.int .i64 x) ∧ V.cell? ⟨w.heap.size, 1, none⟩ = some (.int .i64 y) ∧ V.cell? ⟨w.heap.size, 2, none⟩ = some (.int .i64 s) ∧ V.cell? ⟨w.heap.size, 3, none⟩ = some (.int .i64 t))) (by kernel_rfl) (by exact ⟨p0, p1, p2, p3⟩) (fun hHeld => ?_)
  refine wpAnyH_take (i := 0) (oi := ?_) (v := ?_) ?_ ?_ ?_ ?_ ?_ ?_ (by exact hHeld) ?_
  rotate_left 2
  · (simp only [List.getElem?_toArray, List.getElem?_cons_zero]; try rfl)
  · kernel_rfl
  · kernel_rfl
  · kernel_rfl
  · exact fun _ _ _ h => h
  · refine Or.inl ⟨by rfl, ?_⟩
    (intro V hSV; (try dsimp only at hSV); obtain ⟨q0, q1, q2, q3⟩ := hSV; go_simp; try with_reducible rfl)
  (try simp only [Act.put, List.setIfInBounds_toArray, List.set_cons_zero, List.set_cons_succ])
  refine wpAnyH_take (i := 2) (oi := ?_) (v := ?_) ?_ ?_ ?_ ?_ ?_ ?_ (by exact hHeld) ?_
  rotate_left 2
  · (simp only [List.getElem?_toArray, List.getElem?_cons_zero, List.getElem?_cons_succ]; try rfl)
  · kernel_rfl
  · kernel_rfl
  · kernel_rfl
  · exact fun _ _ _ h => h
  · refine Or.inl ⟨by rfl, ?_⟩
    (intro V hSV; (try dsimp only at hSV); obtain ⟨q0, q1, q2, q3⟩ := hSV; go_simp; try with_reducible rfl)
  (try simp only [Act.put, List.setIfInBounds_toArray, List.set_cons_zero, List.set_cons_succ])
  refine wpAnyH_ready (rs := [1]) (by kernel_rfl) (by simp) ?_
  refine AllReadyH.cons rfl (fun K hK => ?_) AllReadyH.nil
  go_simp
  refine (cloneLe_any A es _ c _ rfl (by omega) (by exact HA.out)).mono ?_
  rintro e y1 ⟨v1, rfl, hO1, hb1⟩
  have hb1 : Below w6.heap.size w6 y1 := ⟨hb1.os, hb1.tape, hb1.output, hb1.size, hb1.block⟩
  have hO1 : OwR y1 w6.heap.size v1 es := ⟨hO1.row, hO1.in_⟩
  have HO1 := Lib.hid hO1
  have hz1 := hb1.size
  clear hO1
  go_wp2_with fail
  refine hK.out _ _ (by exact ⟨((hb1).cell (p := ⟨w.heap.size, 0, none⟩) zb).trans p0, ((hb1).cell (p := ⟨w.heap.size, 1, none⟩) zb).trans p1, ((hb1).cell (p := ⟨w.heap.size, 2, none⟩) zb).trans p2, ((hb1).cell (p := ⟨w.heap.size, 3, none⟩) zb).trans p3⟩) (fun hHeld => ?_)
  clear hK K
  (try simp only [Act.put, List.setIfInBounds_toArray, List.set_cons_zero, List.set_cons_succ])
  refine wpAnyH_ready (rs := [3]) (by kernel_rfl) (by simp) ?_
  refine AllReadyH.cons rfl (fun K hK => ?_) AllReadyH.nil
  go_simp
  refine (putLease_any v1 es x y s t w6.heap.size _ HZ.out HO1.out hin hz1).mono ?_
  rintro e y2 ⟨v2, rfl, hO2, hg2⟩
  have hb2 : Below w6.heap.size w6 y2 := hb1.trans ((Keeps.of_grown hg2).below hz1 (fun k hk => (HO1.out.range k hk).1))
  have HO2 := Lib.hid (hO2.mono (base' := w.heap.size) hzw)
  clear hO2 hg2
  go_wp2_with fail
  refine hK.out _ _ (by exact ⟨((hb2).cell (p := ⟨w.heap.size, 0, none⟩) zb).trans p0, ((hb2).cell (p := ⟨w.heap.size, 1, none⟩) zb).trans p1, ((hb2).cell (p := ⟨w.heap.size, 2, none⟩) zb).trans p2, ((hb2).cell (p := ⟨w.heap.size, 3, none⟩) zb).trans p3⟩) (fun hHeld => ?_)
  clear hK K
  (try simp only [Act.put, List.setIfInBounds_toArray, List.set_cons_zero, List.set_cons_succ])
  refine wpAnyH_take (i := 4) (oi := ?_) (v := ?_) ?_ ?_ ?_ ?_ ?_ ?_ (by exact hHeld) ?_
  rotate_left 2
  · (simp only [List.getElem?_toArray, List.getElem?_cons_zero, List.getElem?_cons_succ]; try rfl)
  · kernel_rfl
  · kernel_rfl
  · kernel_rfl
  · exact fun _ _ _ h => h
  · refine Or.inl ⟨by rfl, ?_⟩
    (intro V hSV; (try dsimp only at hSV); obtain ⟨q0, q1, q2, q3⟩ := hSV; go_simp; try with_reducible rfl)
  (try simp only [Act.put, List.setIfInBounds_toArray, List.set_cons_zero, List.set_cons_succ])
  refine wpAnyH_take (i := 5) (oi := ?_) (v := ?_) ?_ ?_ ?_ ?_ ?_ ?_ (by exact hHeld) ?_
  rotate_left 2
  · (simp only [List.getElem?_toArray, List.getElem?_cons_zero, List.getElem?_cons_succ]; try rfl)
  · kernel_rfl
  · kernel_rfl
  · kernel_rfl
  · exact fun _ _ _ h => h
  · refine Or.inl ⟨by rfl, ?_⟩
    (intro V hSV; (try dsimp only at hSV); obtain ⟨q0, q1, q2, q3⟩ := hSV; go_simp; try with_reducible rfl)
  (try simp only [Act.put, List.setIfInBounds_toArray, List.set_cons_zero, List.set_cons_succ])
  refine wpAnyH_done (by kernel_rfl) ?_ _
  clear hHeld p0 p1 p2 p3
  have HB := Lib.hid (below_then HB.out hb2)
  go_wp2
  refine bodyPost_ret (v := .tuple #[v2, .int .i64 0]) (by simp [results, Try.results10, go_sem]) rfl ?_
  exact ⟨_, by rw [HN.out], by rw [HL.out]; exact HO2.out, HB.out⟩

set_option maxHeartbeats 16000000 in
theorem implLeaseRenew_any (A : Option Addr) (es : List Le) (c : Nat) (x y s t a : Int) (w : World) (hl : es.length ≤ 1048576) (hA : Ll w A es) :
    Calls Try.prog 12 #[.slice A es.length c, .agg #[.int .i64 x, .int .i64 y, .int .i64 s, .int .i64 t], .int .i64 a] w fun e w' => ∃ v, e = .returned (.tuple #[v, .int .i64 (renewN es (x, y, s, t) a)]) ∧ OwR w' w.heap.size v (renewL es (x, y, s, t) a) ∧ Below w.heap.size w w' := by
  obtain ⟨N, hN⟩ : ∃ N, renewN es (x, y, s, t) a = N := ⟨_, rfl⟩
  obtain ⟨L, hL⟩ : ∃ L, renewL es (x, y, s, t) a = L := ⟨_, rfl⟩
  rw [hN, hL]
  have HN := Lib.hid hN
  have HL := Lib.hid hL
  clear hN hL
  have hn9 : es.length ≤ 9223372036854775807 := by omega
  obtain ⟨z, hz⟩ : ∃ z, leOk es = z := ⟨_, rfl⟩
  obtain ⟨q, hq⟩ : ∃ q, leRight (x, y, s, t) = q := ⟨_, rfl⟩
  obtain ⟨k, hk⟩ : ∃ k, decide (0 ≤ a ∧ a ≤ 1000) = k := ⟨_, rfl⟩
  have HZ := Lib.hid hz
  have HQ := Lib.hid hq
  have HK := Lib.hid hk
  clear hz hq hk
  have hA0 := Lib.hid hA
  have BX := Lib.hid (Blk.new w #[.int .i64 x, .int .i64 y, .int .i64 s, .int .i64 t] 26)
  have HB := Lib.hid ((Below.refl w.heap.size w).alloc (Nat.le_refl _) (.cells #[.int .i64 x, .int .i64 y, .int .i64 s, .int .i64 t] 26))
  clear hA
  go_enter Try.func12, Try.ntmps12
  have HA := Lib.hid (hA0.out.below HB.out)
  have p0 := BX.out.cell 0
  have p1 := BX.out.cell 1
  have p2 := BX.out.cell 2
  have p3 := BX.out.cell 3
  go_wp2_with fail
  refine (implLeasesOk_any A es c _ hn9 HA.out).mono ?_
  rintro e w1 ⟨rfl, hb⟩
  clear p0 p1 p2 p3
  clear HA
  have BX := Lib.hid (BX.out.below hb)
  have HB := Lib.hid (below_then HB.out hb)
  clear hb
  rw [HZ.out]
  cases z
  · skip
    obtain ⟨e1, e2⟩ := renewN_form (by rw [HZ.out]; rfl)
    have HN := Lib.hid (HN.out.symm.trans e1)
    have HL := Lib.hid (HL.out.symm.trans e2)
    clear e1 e2
    have p0 := BX.out.cell 0
    have p1 := BX.out.cell 1
    have p2 := BX.out.cell 2
    have p3 := BX.out.cell 3
    go_wp2
    refine bodyPost_ret (v := .tuple #[.slice none 0 0, .int .i64 1]) (by simp [results, Try.results12, go_sem]) rfl ?_
    exact ⟨_, by rw [HN.out], by rw [HL.out]; exact OwR.nil _ _, HB.out⟩
  have HA := Lib.hid (hA0.out.below HB.out)
  have p0 := BX.out.cell 0
  have p1 := BX.out.cell 1
  have p2 := BX.out.cell 2
  have p3 := BX.out.cell 3
  go_wp2_with fail
  refine (isValid_any x y s t _).mono ?_
  rintro e w2 ⟨rfl, hb⟩
  clear p0 p1 p2 p3
  clear HA
  have BX := Lib.hid (BX.out.below hb)
  have HB := Lib.hid (below_then HB.out hb)
  clear hb
  rw [HQ.out]
  cases q
  · skip
    obtain ⟨e1, e2⟩ := renewN_form (by rw [HZ.out, HQ.out]; rfl)
    have HN := Lib.hid (HN.out.symm.trans e1)
    have HL := Lib.hid (HL.out.symm.trans e2)
    clear e1 e2
    have p0 := BX.out.cell 0
    have p1 := BX.out.cell 1
    have p2 := BX.out.cell 2
    have p3 := BX.out.cell 3
    go_wp2
    refine bodyPost_ret (v := .tuple #[.slice none 0 0, .int .i64 1]) (by simp [results, Try.results12, go_sem]) rfl ?_
    exact ⟨_, by rw [HN.out], by rw [HL.out]; exact OwR.nil _ _, HB.out⟩
  have HA := Lib.hid (hA0.out.below HB.out)
  have p0 := BX.out.cell 0
  have p1 := BX.out.cell 1
  have p2 := BX.out.cell 2
  have p3 := BX.out.cell 3
  go_wp2_with fail
  refine (fitsClock_any a _).mono ?_
  rintro e w3 ⟨rfl, rfl⟩
  clear p0 p1 p2 p3
  clear HA
  rw [HK.out]
  cases k
  · skip
    obtain ⟨e1, e2⟩ := renewN_form (by rw [HZ.out, HQ.out, HK.out]; rfl)
    have HN := Lib.hid (HN.out.symm.trans e1)
    have HL := Lib.hid (HL.out.symm.trans e2)
    clear e1 e2
    have p0 := BX.out.cell 0
    have p1 := BX.out.cell 1
    have p2 := BX.out.cell 2
    have p3 := BX.out.cell 3
    go_wp2
    refine bodyPost_ret (v := .tuple #[.slice none 0 0, .int .i64 1]) (by simp [results, Try.results12, go_sem]) rfl ?_
    exact ⟨_, by rw [HN.out], by rw [HL.out]; exact OwR.nil _ _, HB.out⟩
  have hlen := leOk_len HZ.out
  have hin := leIn_right HQ.out
  have HF := Lib.hid (show (leOk es && leRight (x, y, s, t) && decide (0 ≤ a ∧ a ≤ 1000)) = true by rw [HZ.out, HQ.out, HK.out]; rfl)
  obtain ⟨g, hg⟩ : ∃ g, decide (a < t) = g := ⟨_, rfl⟩
  have HG := Lib.hid hg
  clear hg
  have HA := Lib.hid (hA0.out.below HB.out)
  have p0 := BX.out.cell 0
  have p1 := BX.out.cell 1
  have p2 := BX.out.cell 2
  have p3 := BX.out.cell 3
  go_wp2_with fail
  refine (isActive_any x y s t a _).mono ?_
  rintro e w4 ⟨rfl, hb⟩
  clear p0 p1 p2 p3
  clear HA
  have BX := Lib.hid (BX.out.below hb)
  have HB := Lib.hid (below_then HB.out hb)
  clear hb
  rw [HG.out]
  cases g
  · skip
    obtain ⟨e1, e2⟩ := renewN_clock HF.out (of_decide_eq_false HG.out)
    have HN := Lib.hid (HN.out.symm.trans e1)
    have HL := Lib.hid (HL.out.symm.trans e2)
    clear e1 e2
    have p0 := BX.out.cell 0
    have p1 := BX.out.cell 1
    have p2 := BX.out.cell 2
    have p3 := BX.out.cell 3
    go_wp2
    refine bodyPost_ret (v := .tuple #[.slice none 0 0, .int .i64 2]) (by simp [results, Try.results12, go_sem]) rfl ?_
    exact ⟨_, by rw [HN.out], by rw [HL.out]; exact OwR.nil _ _, HB.out⟩
  obtain ⟨h, hh⟩ : ∃ h, liveK es (x, y, s, t) a = h := ⟨_, rfl⟩
  have HH := Lib.hid hh
  have HX := Lib.hid (liveK_exp (l := (x, y, s, t)) (now := a) HZ.out)
  have HEO := Lib.hid (leExp_ok (now := a) HZ.out)
  clear hh
  have HA := Lib.hid (hA0.out.below HB.out)
  have p0 := BX.out.cell 0
  have p1 := BX.out.cell 1
  have p2 := BX.out.cell 2
  have p3 := BX.out.cell 3
  have zb := BX.out.lt
  have hzw := HB.out.size
  go_wp2_with fail
  refine wp_region_held_drew (S := (fun V => V.cell? ⟨w.heap.size, 0, none⟩ = some (.int .i64 x) ∧ V.cell? ⟨w.heap.size, 1, none⟩ = some (.int .i64 y) ∧ V.cell? ⟨w.heap.size, 2, none⟩ = some (.int .i64 s) ∧ V.cell? ⟨w.heap.size, 3, none⟩ = some (.int .i64 t))) (by kernel_rfl) (by exact ⟨p0, p1, p2, p3⟩) (fun hHeld => ?_)
  refine wpAnyH_take (i := 0) (oi := ?_) (v := ?_) ?_ ?_ ?_ ?_ ?_ ?_ (by exact hHeld) ?_
  rotate_left 2
  · (simp only [List.getElem?_toArray, List.getElem?_cons_zero]; try rfl)
  · kernel_rfl
  · kernel_rfl
  · kernel_rfl
  · exact fun _ _ _ h => h
  · refine Or.inl ⟨by rfl, ?_⟩
    (intro V hSV; (try dsimp only at hSV); obtain ⟨q0, q1, q2, q3⟩ := hSV; go_simp; try with_reducible rfl)
  (try simp only [Act.put, List.setIfInBounds_toArray, List.set_cons_zero, List.set_cons_succ])
  refine wpAnyH_take (i := 1) (oi := ?_) (v := ?_) ?_ ?_ ?_ ?_ ?_ ?_ (by exact hHeld) ?_
  rotate_left 2
  · (simp only [List.getElem?_toArray, List.getElem?_cons_zero, List.getElem?_cons_succ]; try rfl)
  · kernel_rfl
  · kernel_rfl
  · kernel_rfl
  · exact fun _ _ _ h => h
  · refine Or.inl ⟨by rfl, ?_⟩
    (intro V hSV; (try dsimp only at hSV); obtain ⟨q0, q1, q2, q3⟩ := hSV; go_simp; try with_reducible rfl)
  (try simp only [Act.put, List.setIfInBounds_toArray, List.set_cons_zero, List.set_cons_succ])
  refine wpAnyH_take (i := 3) (oi := ?_) (v := ?_) ?_ ?_ ?_ ?_ ?_ ?_ (by exact hHeld) ?_
  rotate_left 2
  · (simp only [List.getElem?_toArray, List.getElem?_cons_zero, List.getElem?_cons_succ]; try rfl)
  · kernel_rfl
  · kernel_rfl
  · kernel_rfl
  · exact fun _ _ _ h => h
  · refine Or.inl ⟨by rfl, ?_⟩
    (intro V hSV; (try dsimp only at hSV); obtain ⟨q0, q1, q2, q3⟩ := hSV; go_simp; try with_reducible rfl)
  (try simp only [Act.put, List.setIfInBounds_toArray, List.set_cons_zero, List.set_cons_succ])
  refine wpAnyH_ready (rs := [2]) (by kernel_rfl) (by simp) ?_
  refine AllReadyH.cons rfl (fun K hK => ?_) AllReadyH.nil
  go_simp
  refine (implLeaseExpire_any A es c a _ (by omega) (by exact HA.out)).mono ?_
  rintro e y1 ⟨v1, rfl, hO1, hb1⟩
  have hb1 : Below w4.heap.size w4 y1 := ⟨hb1.os, hb1.tape, hb1.output, hb1.size, hb1.block⟩
  obtain ⟨A1, c1, rfl, _, _, hA1⟩ := hO1.ll
  have HA1 := Lib.hid hA1
  clear hO1 hA1
  go_wp2_with fail
  refine hK.out _ _ (by exact ⟨((hb1).cell (p := ⟨w.heap.size, 0, none⟩) zb).trans p0, ((hb1).cell (p := ⟨w.heap.size, 1, none⟩) zb).trans p1, ((hb1).cell (p := ⟨w.heap.size, 2, none⟩) zb).trans p2, ((hb1).cell (p := ⟨w.heap.size, 3, none⟩) zb).trans p3⟩) (fun hHeld => ?_)
  clear hK K
  (try simp only [Act.put, List.setIfInBounds_toArray, List.set_cons_zero, List.set_cons_succ])
  refine wpAnyH_ready (rs := [4]) (by kernel_rfl) (by simp) ?_
  refine AllReadyH.cons rfl (fun K hK => ?_) AllReadyH.nil
  go_simp
  refine (hasKey_any A1 (leExp es a) c1 x y s t _ HEO.out HA1.out).mono ?_
  rintro e y2 ⟨rfl, hb2⟩
  rw [HX.out, HH.out]
  have hb2 := below_then hb1 hb2
  go_wp2_with fail
  refine hK.out _ _ (by exact ⟨((hb2).cell (p := ⟨w.heap.size, 0, none⟩) zb).trans p0, ((hb2).cell (p := ⟨w.heap.size, 1, none⟩) zb).trans p1, ((hb2).cell (p := ⟨w.heap.size, 2, none⟩) zb).trans p2, ((hb2).cell (p := ⟨w.heap.size, 3, none⟩) zb).trans p3⟩) (fun hHeld => ?_)
  clear hK K
  (try simp only [Act.put, List.setIfInBounds_toArray, List.set_cons_zero, List.set_cons_succ])
  refine wpAnyH_take (i := 5) (oi := ?_) (v := ?_) ?_ ?_ ?_ ?_ ?_ ?_ (by exact hHeld) ?_
  rotate_left 2
  · (simp only [List.getElem?_toArray, List.getElem?_cons_zero, List.getElem?_cons_succ]; try rfl)
  · kernel_rfl
  · kernel_rfl
  · kernel_rfl
  · exact fun _ _ _ h => h
  · refine Or.inl ⟨by rfl, ?_⟩
    (intro V hSV; (try dsimp only at hSV); obtain ⟨q0, q1, q2, q3⟩ := hSV; go_simp; try with_reducible rfl)
  (try simp only [Act.put, List.setIfInBounds_toArray, List.set_cons_zero, List.set_cons_succ])
  refine wpAnyH_take (i := 6) (oi := ?_) (v := ?_) ?_ ?_ ?_ ?_ ?_ ?_ (by exact hHeld) ?_
  rotate_left 2
  · (simp only [List.getElem?_toArray, List.getElem?_cons_zero, List.getElem?_cons_succ]; try rfl)
  · kernel_rfl
  · kernel_rfl
  · kernel_rfl
  · exact fun _ _ _ h => h
  · refine Or.inl ⟨by rfl, ?_⟩
    (intro V hSV; (try dsimp only at hSV); obtain ⟨q0, q1, q2, q3⟩ := hSV; go_simp; try with_reducible rfl)
  (try simp only [Act.put, List.setIfInBounds_toArray, List.set_cons_zero, List.set_cons_succ])
  refine wpAnyH_done (by kernel_rfl) ?_ _
  clear hHeld p0 p1 p2 p3 zb
  have BX := Lib.hid (BX.out.below hb2)
  have HB := Lib.hid (below_then HB.out hb2)
  clear hb1 hb2 HA
  cases h
  · skip
    obtain ⟨e1, e2⟩ := renewN_none HF.out (of_decide_eq_true HG.out) HH.out
    have HN := Lib.hid (HN.out.symm.trans e1)
    have HL := Lib.hid (HL.out.symm.trans e2)
    clear e1 e2
    have p0 := BX.out.cell 0
    have p1 := BX.out.cell 1
    have p2 := BX.out.cell 2
    have p3 := BX.out.cell 3
    go_wp2
    refine bodyPost_ret (v := .tuple #[.slice none 0 0, .int .i64 5]) (by simp [results, Try.results12, go_sem]) rfl ?_
    exact ⟨_, by rw [HN.out], by rw [HL.out]; exact OwR.nil _ _, HB.out⟩
  obtain ⟨e1, e2⟩ := renewN_fine HF.out (of_decide_eq_true HG.out) HH.out
  have HN := Lib.hid (HN.out.symm.trans e1)
  have HL := Lib.hid (HL.out.symm.trans (e2.trans (putL_key_set HZ.out (liveK_key HH.out)).symm))
  clear e1 e2
  have HA := Lib.hid (hA0.out.below HB.out)
  have p0 := BX.out.cell 0
  have p1 := BX.out.cell 1
  have p2 := BX.out.cell 2
  have p3 := BX.out.cell 3
  have zb := BX.out.lt
  have hzw := HB.out.size
  go_wp2_with fail
  refine wp_region_held_drew (S := (fun V => V.cell? ⟨w.heap.size, 0, none⟩ = some (.int .i64 x) ∧ V.cell? ⟨w.heap.size, 1, none⟩ = some (.int .i64 y) ∧ V.cell? ⟨w.heap.size, 2, none⟩ = some (.int .i64 s) ∧ V.cell? ⟨w.heap.size, 3, none⟩ = some (.int .i64 t))) (by kernel_rfl) (by exact ⟨p0, p1, p2, p3⟩) (fun hHeld => ?_)
  refine wpAnyH_take (i := 0) (oi := ?_) (v := ?_) ?_ ?_ ?_ ?_ ?_ ?_ (by exact hHeld) ?_
  rotate_left 2
  · (simp only [List.getElem?_toArray, List.getElem?_cons_zero]; try rfl)
  · kernel_rfl
  · kernel_rfl
  · kernel_rfl
  · exact fun _ _ _ h => h
  · refine Or.inl ⟨by rfl, ?_⟩
    (intro V hSV; (try dsimp only at hSV); obtain ⟨q0, q1, q2, q3⟩ := hSV; go_simp; try with_reducible rfl)
  (try simp only [Act.put, List.setIfInBounds_toArray, List.set_cons_zero, List.set_cons_succ])
  refine wpAnyH_take (i := 2) (oi := ?_) (v := ?_) ?_ ?_ ?_ ?_ ?_ ?_ (by exact hHeld) ?_
  rotate_left 2
  · (simp only [List.getElem?_toArray, List.getElem?_cons_zero, List.getElem?_cons_succ]; try rfl)
  · kernel_rfl
  · kernel_rfl
  · kernel_rfl
  · exact fun _ _ _ h => h
  · refine Or.inl ⟨by rfl, ?_⟩
    (intro V hSV; (try dsimp only at hSV); obtain ⟨q0, q1, q2, q3⟩ := hSV; go_simp; try with_reducible rfl)
  (try simp only [Act.put, List.setIfInBounds_toArray, List.set_cons_zero, List.set_cons_succ])
  refine wpAnyH_ready (rs := [1]) (by kernel_rfl) (by simp) ?_
  refine AllReadyH.cons rfl (fun K hK => ?_) AllReadyH.nil
  go_simp
  refine (cloneLe_any A es _ c _ rfl (by omega) (by exact HA.out)).mono ?_
  rintro e z1 ⟨v1, rfl, hO1, hb1⟩
  have hb1 : Below y2.heap.size y2 z1 := ⟨hb1.os, hb1.tape, hb1.output, hb1.size, hb1.block⟩
  have hO1 : OwR z1 y2.heap.size v1 es := ⟨hO1.row, hO1.in_⟩
  have HO1 := Lib.hid hO1
  have hz1 := hb1.size
  clear hO1
  go_wp2_with fail
  refine hK.out _ _ (by exact ⟨((hb1).cell (p := ⟨w.heap.size, 0, none⟩) zb).trans p0, ((hb1).cell (p := ⟨w.heap.size, 1, none⟩) zb).trans p1, ((hb1).cell (p := ⟨w.heap.size, 2, none⟩) zb).trans p2, ((hb1).cell (p := ⟨w.heap.size, 3, none⟩) zb).trans p3⟩) (fun hHeld => ?_)
  clear hK K
  (try simp only [Act.put, List.setIfInBounds_toArray, List.set_cons_zero, List.set_cons_succ])
  refine wpAnyH_ready (rs := [3]) (by kernel_rfl) (by simp) ?_
  refine AllReadyH.cons rfl (fun K hK => ?_) AllReadyH.nil
  go_simp
  refine (putLease_any v1 es x y s t y2.heap.size _ HZ.out HO1.out hin hz1).mono ?_
  rintro e z2 ⟨v2, rfl, hO2, hg2⟩
  have hb2 : Below y2.heap.size y2 z2 := hb1.trans ((Keeps.of_grown hg2).below hz1 (fun k hk => (HO1.out.range k hk).1))
  have HO2 := Lib.hid (hO2.mono (base' := w.heap.size) hzw)
  clear hO2 hg2
  go_wp2_with fail
  refine hK.out _ _ (by exact ⟨((hb2).cell (p := ⟨w.heap.size, 0, none⟩) zb).trans p0, ((hb2).cell (p := ⟨w.heap.size, 1, none⟩) zb).trans p1, ((hb2).cell (p := ⟨w.heap.size, 2, none⟩) zb).trans p2, ((hb2).cell (p := ⟨w.heap.size, 3, none⟩) zb).trans p3⟩) (fun hHeld => ?_)
  clear hK K
  (try simp only [Act.put, List.setIfInBounds_toArray, List.set_cons_zero, List.set_cons_succ])
  refine wpAnyH_take (i := 4) (oi := ?_) (v := ?_) ?_ ?_ ?_ ?_ ?_ ?_ (by exact hHeld) ?_
  rotate_left 2
  · (simp only [List.getElem?_toArray, List.getElem?_cons_zero, List.getElem?_cons_succ]; try rfl)
  · kernel_rfl
  · kernel_rfl
  · kernel_rfl
  · exact fun _ _ _ h => h
  · refine Or.inl ⟨by rfl, ?_⟩
    (intro V hSV; (try dsimp only at hSV); obtain ⟨q0, q1, q2, q3⟩ := hSV; go_simp; try with_reducible rfl)
  (try simp only [Act.put, List.setIfInBounds_toArray, List.set_cons_zero, List.set_cons_succ])
  refine wpAnyH_take (i := 5) (oi := ?_) (v := ?_) ?_ ?_ ?_ ?_ ?_ ?_ (by exact hHeld) ?_
  rotate_left 2
  · (simp only [List.getElem?_toArray, List.getElem?_cons_zero, List.getElem?_cons_succ]; try rfl)
  · kernel_rfl
  · kernel_rfl
  · kernel_rfl
  · exact fun _ _ _ h => h
  · refine Or.inl ⟨by rfl, ?_⟩
    (intro V hSV; (try dsimp only at hSV); obtain ⟨q0, q1, q2, q3⟩ := hSV; go_simp; try with_reducible rfl)
  (try simp only [Act.put, List.setIfInBounds_toArray, List.set_cons_zero, List.set_cons_succ])
  refine wpAnyH_done (by kernel_rfl) ?_ _
  clear hHeld p0 p1 p2 p3
  have HB := Lib.hid (below_then HB.out hb2)
  go_wp2
  refine bodyPost_ret (v := .tuple #[v2, .int .i64 0]) (by simp [results, Try.results12, go_sem]) rfl ?_
  exact ⟨_, by rw [HN.out], by rw [HL.out]; exact HO2.out, HB.out⟩
end Go.Proofs.Ytgbmobepnhhldaa

/-
  FnLeaseBook, its walk. Own work.
-/
namespace Go.Proofs.Ytgbmobepnhhldaa.fnLeaseBook
open Go.ChangeShapes Go.WideShapes Go.ChangeAt Go.RowKit P
set_option linter.unusedVariables false
set_option maxRecDepth 100000

set_option maxHeartbeats 16000000 in
theorem walk (A : Option Addr) (l : List UInt8) (c : Nat) (hc : l.length ≤ c) (hm : c ≤ maxLen) (w : World) (hB : Bs w A l) :
    Calls Try.prog 5 #[.slice A l.length c] w fun e w' => e = .returned (.bool true) ∧ Below w.heap.size w w' := by
  by_cases hbig : 1048576 < l.length
  · have hb : decide (1048576 < l.length) = true := decide_eq_true hbig
    have HBG := Lib.hid hb
    clear hb hbig
    go_enter Try.func5, Try.ntmps5
    go_wp2_with (go_at_call 6; refine (big_any _ _ _ _).mono ?_; rintro e w' ⟨rfl, rfl⟩; rw [HBG.out])
    go_ret
    exact ⟨rfl, Below.refl _ _⟩
  have hl : l.length ≤ 1048576 := by omega
  have hb : decide (1048576 < l.length) = false := decide_eq_false hbig
  have HBG := Lib.hid hb
  clear hb hbig hc hm
  go_enter Try.func5, Try.ntmps5
  go_wp2_with fail
  refine (big_any _ _ _ _).mono ?_
  rintro e w0 ⟨rfl, rfl⟩
  rw [HBG.out]
  go_wp2_with fail
  refine (drawLeaseTake_any A l c _ hl (by exact hB)).mono ?_
  rintro e w1 ⟨v, es, i, j, s, t, n, rfl, how1, hes, hi, hj, hs, ht, hn, hb1⟩
  obtain ⟨A1, c1, rfl, hcap, hcm, hL1⟩ := how1.ll
  have hal := (Below.refl w1.heap.size w1).alloc (Nat.le_refl _) (.cells #[.int .i64 i, .int .i64 j, .int .i64 s, .int .i64 t] 26)
  have BL := Lib.hid (Blk.new w1 #[.int .i64 i, .int .i64 j, .int .i64 s, .int .i64 t] 26)
  have LL := Lib.hid (hL1.below hal)
  have HB := Lib.hid (below_then hb1 hal)
  obtain ⟨N, hN⟩ : ∃ N, takeN es (i, j, s, t) n = N := ⟨_, rfl⟩
  obtain ⟨R, hR⟩ : ∃ R, takeL es (i, j, s, t) n = R := ⟨_, rfl⟩
  have hRl : R.length ≤ 1048576 := by rw [← hR]; have := takeL_len es (i, j, s, t) n; omega
  have HN := Lib.hid hN
  have HR := Lib.hid hR
  have hnn : (N != N) = false := by simp
  have hnn2 : (N == N) = true := by simp
  clear HBG how1 hL1 hb1 hal hN hR hi hj hs ht hn
  have e0 := BL.out.cell 0
  have e1 := BL.out.cell 1
  have e2 := BL.out.cell 2
  have e3 := BL.out.cell 3
  have hlt := BL.out.lt
  go_wp2_with fail
  generalize w1.alloc (.cells #[.int .i64 i, .int .i64 j, .int .i64 s, .int .i64 t] 26) = W2 at *
  refine (specLeaseTake_any A1 es c1 i j s t n _ (by omega) ⟨hcap, hcm⟩ (by exact LL.out)).mono ?_
  rintro e w3 ⟨v3, rfl, how3, hb3⟩
  rw [HN.out]
  rw [HR.out] at how3
  obtain ⟨A3, c3, rfl, _, _, hL3⟩ := how3.ll
  clear e0 e1 e2 e3 hlt
  have BL := Lib.hid (BL.out.below hb3)
  have LL := Lib.hid (LL.out.below hb3)
  have HB := Lib.hid (below_then HB.out hb3)
  have LW := Lib.hid hL3
  clear how3 hL3 hb3
  have e0 := BL.out.cell 0
  have e1 := BL.out.cell 1
  have e2 := BL.out.cell 2
  have e3 := BL.out.cell 3
  have hlt := BL.out.lt
  go_wp2_with fail
  refine (implLeaseTake_any A1 es c1 i j s t n _ (by omega) (by exact LL.out)).mono ?_
  rintro e w4 ⟨v4, rfl, how4, hb4⟩
  rw [HN.out]
  rw [HR.out] at how4
  obtain ⟨A4, c4, rfl, _, _, hL4⟩ := how4.ll
  clear e0 e1 e2 e3 hlt
  have BL := Lib.hid (BL.out.below hb4)
  have LL := Lib.hid (LL.out.below hb4)
  have LW := Lib.hid (LW.out.below hb4)
  have HB := Lib.hid (below_then HB.out hb4)
  have LM := Lib.hid hL4
  clear how4 hL4 hb4
  by_cases hz : N = 0
  case neg =>
    have hz2 : (N != 0) = true := by simp [hz]
    clear hz
    go_wp2_with fail
    refine (sameLeases_any A4 A3 R R c4 c3 _ hRl (by exact LM.out) (by exact LW.out)).mono ?_
    rintro e w5 ⟨rfl, hb⟩
    rw [decide_eq_true (rfl : R = R)]
    have BL := Lib.hid (BL.out.below hb)
    have LL := Lib.hid (LL.out.below hb)
    have LW := Lib.hid (LW.out.below hb)
    have LM := Lib.hid (LM.out.below hb)
    have HB := Lib.hid (below_then HB.out hb)
    clear hb
    go_wp2_with fail
    refine (sameLeases_any A4 A3 R R c4 c3 _ hRl (by exact LM.out) (by exact LW.out)).mono ?_
    rintro e w6 ⟨rfl, hb⟩
    rw [decide_eq_true (rfl : R = R)]
    have BL := Lib.hid (BL.out.below hb)
    have LL := Lib.hid (LL.out.below hb)
    have LW := Lib.hid (LW.out.below hb)
    have LM := Lib.hid (LM.out.below hb)
    have HB := Lib.hid (below_then HB.out hb)
    clear hb
    go_wp2
    go_ret
    exact ⟨rfl, HB.out⟩
  have hz2 : (N != 0) = false := by simp [hz]
  obtain ⟨f1, f2, f3, f4, f5, f6, f7, f8⟩ := taken_facts (HN.out.trans hz)
  rw [← f1, HR.out] at f2 f4 f5 f6 f7 f8
  have F4 := Lib.hid f4
  have F5 := Lib.hid f5
  have F8 := Lib.hid f8
  have hlen : (R.length : Int) = (es.length : Int) + 1 := by omega
  have HLEN := Lib.hid hlen
  have hR13 : R.length ≤ 12 := by omega
  obtain ⟨M, hM⟩ : ∃ M, leAll R s = M := ⟨_, rfl⟩
  obtain ⟨X, hX⟩ : ∃ X, leExp R t = X := ⟨_, rfl⟩
  have f6 : (i, j, s, t) ∈ leAll R s := f6
  have f7 : ∀ x ∈ leExp R t, t < x.2.2.2 := f7
  rw [hM] at f6
  rw [hX] at f7
  have hM9 : M.length ≤ 1000000 := by rw [← hM]; exact leAll_len R s
  have hX9 : X.length ≤ 1000000 := by rw [← hX]; exact leExp_len R t
  have F6 := Lib.hid f6
  have F7 := Lib.hid f7
  have HM := Lib.hid hM
  have HX := Lib.hid hX
  clear f1 f2 f4 f5 f6 f7 f8 hM hX hlen hz
  go_wp2_with fail
  refine (sameLeases_any A4 A3 R R c4 c3 _ hRl (by exact LM.out) (by exact LW.out)).mono ?_
  rintro e w5 ⟨rfl, hb⟩
  rw [decide_eq_true (rfl : R = R)]
  have BL := Lib.hid (BL.out.below hb)
  have LL := Lib.hid (LL.out.below hb)
  have LW := Lib.hid (LW.out.below hb)
  have LM := Lib.hid (LM.out.below hb)
  have HB := Lib.hid (below_then HB.out hb)
  clear hb
  have e0 := BL.out.cell 0
  have e1 := BL.out.cell 1
  have e2 := BL.out.cell 2
  have e3 := BL.out.cell 3
  have hlt := BL.out.lt
  go_wp2_with fail
  refine (implLeaseDrop_any A4 R c4 i j s t _ hRl (by exact LM.out)).mono ?_
  rintro e w6 ⟨v6, rfl, how6, hb6⟩
  rw [show dropN R (i, j, s, t) = 0 from F4.out]
  rw [show dropL R (i, j, s, t) = es from F5.out] at how6
  obtain ⟨A6, c6, rfl, _, _, hL6⟩ := how6.ll
  clear e0 e1 e2 e3 hlt
  have BL := Lib.hid (BL.out.below hb6)
  have LL := Lib.hid (LL.out.below hb6)
  have LW := Lib.hid (LW.out.below hb6)
  have LM := Lib.hid (LM.out.below hb6)
  have HB := Lib.hid (below_then HB.out hb6)
  have LD := Lib.hid hL6
  clear how6 hL6 hb6
  have e0 := BL.out.cell 0
  have e1 := BL.out.cell 1
  have e2 := BL.out.cell 2
  have e3 := BL.out.cell 3
  have hlt := BL.out.lt
  go_wp2_with fail
  refine (implLeaseAll_any A4 R c4 s _ hRl (by exact LM.out)).mono ?_
  rintro e w7 ⟨v7, rfl, how7, hb7⟩
  rw [HM.out] at how7
  obtain ⟨A7, c7, rfl, _, _, hL7⟩ := how7.ll
  clear e0 e1 e2 e3 hlt
  have BL := Lib.hid (BL.out.below hb7)
  have LL := Lib.hid (LL.out.below hb7)
  have LW := Lib.hid (LW.out.below hb7)
  have LM := Lib.hid (LM.out.below hb7)
  have LD := Lib.hid (LD.out.below hb7)
  have HB := Lib.hid (below_then HB.out hb7)
  have LA := Lib.hid hL7
  clear how7 hL7 hb7
  go_wp2
  go_loopw [13, 14] (fun hv ii wr => ∃ (k : Nat) (b : Bool), ii = .int .i64 k ∧ hv = .bool b ∧ k ≤ M.length ∧ b = decide ((i, j, s, t) ∈ M.take k) ∧ Below w7.heap.size w7 wr) (fun _ ii _ => M.length - (intOf ii).toNat)
  case atStart => exact ⟨0, false, rfl, rfl, Nat.zero_le _, by simp, Below.refl _ _⟩
  case round =>
    obtain ⟨k, b, rfl, rfl, hk, hbb, hbw⟩ := hrel
    have HBB := Lib.hid hbb
    clear hbb
    by_cases hlt : k < M.length
    case pos =>
      have hi0 : (0 : Int) ≤ (k : Int) := by omega
      have hi1 : (k : Int) < (M.length : Int) := by omega
      obtain ⟨b9, off, x, y, p, q, rfl, hbl, hek, k0, k1, k2, k3, _⟩ := (LA.out.below hbw).at_ k hlt
      have BL2 := BL.out.below hbw
      have e0 := BL2.cell 0
      have e1 := BL2.cell 1
      have e2 := BL2.cell 2
      have e3 := BL2.cell 3
      have hst : ((i, j, s, t) ∈ M.take (k + 1)) ↔ ((i, j, s, t) ∈ M.take k ∨ (i, j, s, t) = (x, y, p, q)) := by
        rw [List.take_succ_eq_append_getElem hlt, hek, List.mem_append, List.mem_singleton]
      have HST := Lib.hid hst
      clear hst hek
      cases b
      case true =>
        have HD : Hid (true = decide ((i, j, s, t) ∈ M.take (k + 1))) := Lib.hid (by
          have h1 := HBB.out.symm
          rw [decide_eq_true_eq] at h1
          exact (decide_eq_true (HST.out.2 (.inl h1))).symm)
        go_upto_region 14 with fail
        refine wp_region_held_drew (S := (fun V => V.cell? ⟨b9, off + k * 4, none⟩ = some (.int .i64 x) ∧ V.cell? ⟨b9, off + k * 4 + 1, none⟩ = some (.int .i64 y) ∧ V.cell? ⟨b9, off + k * 4 + 2, none⟩ = some (.int .i64 p) ∧ V.cell? ⟨b9, off + k * 4 + 3, none⟩ = some (.int .i64 q) ∧ V.cell? ⟨w1.heap.size, 0, none⟩ = some (.int .i64 i) ∧ V.cell? ⟨w1.heap.size, 1, none⟩ = some (.int .i64 j) ∧ V.cell? ⟨w1.heap.size, 2, none⟩ = some (.int .i64 s) ∧ V.cell? ⟨w1.heap.size, 3, none⟩ = some (.int .i64 t))) (by kernel_rfl) (by exact ⟨k0, k1, k2, k3, e0, e1, e2, e3⟩) (fun hHeld => ?_)
        refine wpAnyH_take (i := 0) (oi := ?_) (v := ?_) ?_ ?_ ?_ ?_ ?_ ?_ (by exact hHeld) ?_
        rotate_left 2
        · (simp only [List.getElem?_toArray, List.getElem?_cons_zero]; try rfl)
        · kernel_rfl
        · kernel_rfl
        · kernel_rfl
        · exact fun _ _ _ h => h
        · refine Or.inl ⟨by rfl, ?_⟩
          (intro V hSV; (try dsimp only at hSV); obtain ⟨q0, q1, q2, q3, q4, q5, q6, q7⟩ := hSV; go_simp; try with_reducible rfl)
        (try simp only [Act.put, List.setIfInBounds_toArray, List.set_cons_zero, List.set_cons_succ])
        refine wpAnyH_take (i := 1) (oi := ?_) (v := ?_) ?_ ?_ ?_ ?_ ?_ ?_ (by exact hHeld) ?_
        rotate_left 2
        · (simp only [List.getElem?_toArray, List.getElem?_cons_zero, List.getElem?_cons_succ]; try rfl)
        · kernel_rfl
        · kernel_rfl
        · kernel_rfl
        · exact fun _ _ _ h => h
        · refine Or.inl ⟨by rfl, ?_⟩
          (intro V hSV; (try dsimp only at hSV); obtain ⟨q0, q1, q2, q3, q4, q5, q6, q7⟩ := hSV; go_simp; try with_reducible rfl)
        (try simp only [Act.put, List.setIfInBounds_toArray, List.set_cons_zero, List.set_cons_succ])
        refine wpAnyH_take (i := 2) (oi := ?_) (v := undef) ?_ ?_ ?_ ?_ ?_ ?_ (by exact hHeld) ?_
        rotate_left 1
        · (simp only [List.getElem?_toArray, List.getElem?_cons_zero, List.getElem?_cons_succ]; try rfl)
        · kernel_rfl
        · kernel_rfl
        · kernel_rfl
        · exact fun _ _ _ h => h
        · refine Or.inr ?_
          exact ⟨by rfl, rfl⟩
        (try simp only [Act.put, List.setIfInBounds_toArray, List.set_cons_zero, List.set_cons_succ])
        refine wpAnyH_take (i := 3) (oi := ?_) (v := undef) ?_ ?_ ?_ ?_ ?_ ?_ (by exact hHeld) ?_
        rotate_left 1
        · (simp only [List.getElem?_toArray, List.getElem?_cons_zero, List.getElem?_cons_succ]; try rfl)
        · kernel_rfl
        · kernel_rfl
        · kernel_rfl
        · exact fun _ _ _ h => h
        · refine Or.inr ?_
          exact ⟨by rfl, rfl⟩
        (try simp only [Act.put, List.setIfInBounds_toArray, List.set_cons_zero, List.set_cons_succ])
        refine wpAnyH_take (i := 4) (oi := ?_) (v := undef) ?_ ?_ ?_ ?_ ?_ ?_ (by exact hHeld) ?_
        rotate_left 1
        · (simp only [List.getElem?_toArray, List.getElem?_cons_zero, List.getElem?_cons_succ]; try rfl)
        · kernel_rfl
        · kernel_rfl
        · kernel_rfl
        · exact fun _ _ _ h => h
        · refine Or.inr ?_
          exact ⟨by rfl, rfl⟩
        (try simp only [Act.put, List.setIfInBounds_toArray, List.set_cons_zero, List.set_cons_succ])
        refine wpAnyH_take (i := 5) (oi := ?_) (v := undef) ?_ ?_ ?_ ?_ ?_ ?_ (by exact hHeld) ?_
        rotate_left 1
        · (simp only [List.getElem?_toArray, List.getElem?_cons_zero, List.getElem?_cons_succ]; try rfl)
        · kernel_rfl
        · kernel_rfl
        · kernel_rfl
        · exact fun _ _ _ h => h
        · refine Or.inr ?_
          exact ⟨by rfl, rfl⟩
        (try simp only [Act.put, List.setIfInBounds_toArray, List.set_cons_zero, List.set_cons_succ])
        refine wpAnyH_take (i := 6) (oi := ?_) (v := undef) ?_ ?_ ?_ ?_ ?_ ?_ (by exact hHeld) ?_
        rotate_left 1
        · (simp only [List.getElem?_toArray, List.getElem?_cons_zero, List.getElem?_cons_succ]; try rfl)
        · kernel_rfl
        · kernel_rfl
        · kernel_rfl
        · exact fun _ _ _ h => h
        · refine Or.inr ?_
          exact ⟨by rfl, rfl⟩
        (try simp only [Act.put, List.setIfInBounds_toArray, List.set_cons_zero, List.set_cons_succ])
        refine wpAnyH_take (i := 7) (oi := ?_) (v := undef) ?_ ?_ ?_ ?_ ?_ ?_ (by exact hHeld) ?_
        rotate_left 1
        · (simp only [List.getElem?_toArray, List.getElem?_cons_zero, List.getElem?_cons_succ]; try rfl)
        · kernel_rfl
        · kernel_rfl
        · kernel_rfl
        · exact fun _ _ _ h => h
        · refine Or.inr ?_
          exact ⟨by rfl, rfl⟩
        (try simp only [Act.put, List.setIfInBounds_toArray, List.set_cons_zero, List.set_cons_succ])
        refine wpAnyH_take (i := 8) (oi := ?_) (v := ?_) ?_ ?_ ?_ ?_ ?_ ?_ (by exact hHeld) ?_
        rotate_left 2
        · (simp only [List.getElem?_toArray, List.getElem?_cons_zero, List.getElem?_cons_succ]; try rfl)
        · kernel_rfl
        · kernel_rfl
        · kernel_rfl
        · exact fun _ _ _ h => h
        · refine Or.inl ⟨by rfl, ?_⟩
          (intro V hSV; (try dsimp only at hSV); obtain ⟨q0, q1, q2, q3, q4, q5, q6, q7⟩ := hSV; go_simp; try with_reducible rfl)
        (try simp only [Act.put, List.setIfInBounds_toArray, List.set_cons_zero, List.set_cons_succ])
        refine wpAnyH_take (i := 9) (oi := ?_) (v := ?_) ?_ ?_ ?_ ?_ ?_ ?_ (by exact hHeld) ?_
        rotate_left 2
        · (simp only [List.getElem?_toArray, List.getElem?_cons_zero, List.getElem?_cons_succ]; try rfl)
        · kernel_rfl
        · kernel_rfl
        · kernel_rfl
        · exact fun _ _ _ h => h
        · refine Or.inl ⟨by rfl, ?_⟩
          (intro V hSV; (try dsimp only at hSV); obtain ⟨q0, q1, q2, q3, q4, q5, q6, q7⟩ := hSV; go_simp; try with_reducible rfl)
        (try simp only [Act.put, List.setIfInBounds_toArray, List.set_cons_zero, List.set_cons_succ])
        refine wpAnyH_done (by kernel_rfl) ?_ _
        clear hHeld
        go_wp2
        go_roundw
        case rel => exact ⟨k + 1, true, by go_num, rfl, by omega, HD.out, hbw.drew⟩
        case measure => simp [intOf]; omega
      have hno : ¬ (i, j, s, t) ∈ M.take k := of_decide_eq_false HBB.out.symm
      have HNO := Lib.hid hno
      clear hno
      by_cases he : (x, y, p, q) = (i, j, s, t)
      · cases he
        have HD : Hid (true = decide ((i, j, s, t) ∈ M.take (k + 1))) := Lib.hid (decide_eq_true (HST.out.2 (.inr rfl))).symm
        have hx0 : (i == i) = true := by simp
        have hx1 : (j == j) = true := by simp
        have hx2 : (s == s) = true := by simp
        have hx3 : (t == t) = true := by simp
        go_upto_region 14 with fail
        refine wp_region_held_drew (S := (fun V => V.cell? ⟨b9, off + k * 4, none⟩ = some (.int .i64 i) ∧ V.cell? ⟨b9, off + k * 4 + 1, none⟩ = some (.int .i64 j) ∧ V.cell? ⟨b9, off + k * 4 + 2, none⟩ = some (.int .i64 s) ∧ V.cell? ⟨b9, off + k * 4 + 3, none⟩ = some (.int .i64 t) ∧ V.cell? ⟨w1.heap.size, 0, none⟩ = some (.int .i64 i) ∧ V.cell? ⟨w1.heap.size, 1, none⟩ = some (.int .i64 j) ∧ V.cell? ⟨w1.heap.size, 2, none⟩ = some (.int .i64 s) ∧ V.cell? ⟨w1.heap.size, 3, none⟩ = some (.int .i64 t))) (by kernel_rfl) (by exact ⟨k0, k1, k2, k3, e0, e1, e2, e3⟩) (fun hHeld => ?_)
        refine wpAnyH_take (i := 0) (oi := ?_) (v := ?_) ?_ ?_ ?_ ?_ ?_ ?_ (by exact hHeld) ?_
        rotate_left 2
        · (simp only [List.getElem?_toArray, List.getElem?_cons_zero]; try rfl)
        · kernel_rfl
        · kernel_rfl
        · kernel_rfl
        · exact fun _ _ _ h => h
        · refine Or.inl ⟨by rfl, ?_⟩
          (intro V hSV; (try dsimp only at hSV); obtain ⟨q0, q1, q2, q3, q4, q5, q6, q7⟩ := hSV; go_simp; try with_reducible rfl)
        (try simp only [Act.put, List.setIfInBounds_toArray, List.set_cons_zero, List.set_cons_succ])
        refine wpAnyH_take (i := 1) (oi := ?_) (v := ?_) ?_ ?_ ?_ ?_ ?_ ?_ (by exact hHeld) ?_
        rotate_left 2
        · (simp only [List.getElem?_toArray, List.getElem?_cons_zero, List.getElem?_cons_succ]; try rfl)
        · kernel_rfl
        · kernel_rfl
        · kernel_rfl
        · exact fun _ _ _ h => h
        · refine Or.inl ⟨by rfl, ?_⟩
          (intro V hSV; (try dsimp only at hSV); obtain ⟨q0, q1, q2, q3, q4, q5, q6, q7⟩ := hSV; go_simp; try with_reducible rfl)
        (try simp only [Act.put, List.setIfInBounds_toArray, List.set_cons_zero, List.set_cons_succ])
        refine wpAnyH_take (i := 2) (oi := ?_) (v := ?_) ?_ ?_ ?_ ?_ ?_ ?_ (by exact hHeld) ?_
        rotate_left 2
        · (simp only [List.getElem?_toArray, List.getElem?_cons_zero, List.getElem?_cons_succ]; try rfl)
        · kernel_rfl
        · kernel_rfl
        · kernel_rfl
        · exact fun _ _ _ h => h
        · refine Or.inl ⟨by rfl, ?_⟩
          (intro V hSV; (try dsimp only at hSV); obtain ⟨q0, q1, q2, q3, q4, q5, q6, q7⟩ := hSV; go_simp; try with_reducible rfl)
        (try simp only [Act.put, List.setIfInBounds_toArray, List.set_cons_zero, List.set_cons_succ])
        refine wpAnyH_take (i := 3) (oi := ?_) (v := ?_) ?_ ?_ ?_ ?_ ?_ ?_ (by exact hHeld) ?_
        rotate_left 2
        · (simp only [List.getElem?_toArray, List.getElem?_cons_zero, List.getElem?_cons_succ]; try rfl)
        · kernel_rfl
        · kernel_rfl
        · kernel_rfl
        · exact fun _ _ _ h => h
        · refine Or.inl ⟨by rfl, ?_⟩
          (intro V hSV; (try dsimp only at hSV); obtain ⟨q0, q1, q2, q3, q4, q5, q6, q7⟩ := hSV; go_simp; try with_reducible rfl)
        (try simp only [Act.put, List.setIfInBounds_toArray, List.set_cons_zero, List.set_cons_succ])
        refine wpAnyH_take (i := 4) (oi := ?_) (v := ?_) ?_ ?_ ?_ ?_ ?_ ?_ (by exact hHeld) ?_
        rotate_left 2
        · (simp only [List.getElem?_toArray, List.getElem?_cons_zero, List.getElem?_cons_succ]; try rfl)
        · kernel_rfl
        · kernel_rfl
        · kernel_rfl
        · exact fun _ _ _ h => h
        · refine Or.inl ⟨by rfl, ?_⟩
          (intro V hSV; (try dsimp only at hSV); obtain ⟨q0, q1, q2, q3, q4, q5, q6, q7⟩ := hSV; go_simp; try with_reducible rfl)
        (try simp only [Act.put, List.setIfInBounds_toArray, List.set_cons_zero, List.set_cons_succ])
        refine wpAnyH_take (i := 5) (oi := ?_) (v := ?_) ?_ ?_ ?_ ?_ ?_ ?_ (by exact hHeld) ?_
        rotate_left 2
        · (simp only [List.getElem?_toArray, List.getElem?_cons_zero, List.getElem?_cons_succ]; try rfl)
        · kernel_rfl
        · kernel_rfl
        · kernel_rfl
        · exact fun _ _ _ h => h
        · refine Or.inl ⟨by rfl, ?_⟩
          (intro V hSV; (try dsimp only at hSV); obtain ⟨q0, q1, q2, q3, q4, q5, q6, q7⟩ := hSV; go_simp; try with_reducible rfl)
        (try simp only [Act.put, List.setIfInBounds_toArray, List.set_cons_zero, List.set_cons_succ])
        refine wpAnyH_take (i := 6) (oi := ?_) (v := ?_) ?_ ?_ ?_ ?_ ?_ ?_ (by exact hHeld) ?_
        rotate_left 2
        · (simp only [List.getElem?_toArray, List.getElem?_cons_zero, List.getElem?_cons_succ]; try rfl)
        · kernel_rfl
        · kernel_rfl
        · kernel_rfl
        · exact fun _ _ _ h => h
        · refine Or.inl ⟨by rfl, ?_⟩
          (intro V hSV; (try dsimp only at hSV); obtain ⟨q0, q1, q2, q3, q4, q5, q6, q7⟩ := hSV; go_simp; try with_reducible rfl)
        (try simp only [Act.put, List.setIfInBounds_toArray, List.set_cons_zero, List.set_cons_succ])
        refine wpAnyH_take (i := 7) (oi := ?_) (v := ?_) ?_ ?_ ?_ ?_ ?_ ?_ (by exact hHeld) ?_
        rotate_left 2
        · (simp only [List.getElem?_toArray, List.getElem?_cons_zero, List.getElem?_cons_succ]; try rfl)
        · kernel_rfl
        · kernel_rfl
        · kernel_rfl
        · exact fun _ _ _ h => h
        · refine Or.inl ⟨by rfl, ?_⟩
          (intro V hSV; (try dsimp only at hSV); obtain ⟨q0, q1, q2, q3, q4, q5, q6, q7⟩ := hSV; go_simp; try with_reducible rfl)
        (try simp only [Act.put, List.setIfInBounds_toArray, List.set_cons_zero, List.set_cons_succ])
        refine wpAnyH_take (i := 8) (oi := ?_) (v := ?_) ?_ ?_ ?_ ?_ ?_ ?_ (by exact hHeld) ?_
        rotate_left 2
        · (simp only [List.getElem?_toArray, List.getElem?_cons_zero, List.getElem?_cons_succ]; try rfl)
        · kernel_rfl
        · kernel_rfl
        · kernel_rfl
        · exact fun _ _ _ h => h
        · refine Or.inl ⟨by rfl, ?_⟩
          (intro V hSV; (try dsimp only at hSV); obtain ⟨q0, q1, q2, q3, q4, q5, q6, q7⟩ := hSV; go_simp; try with_reducible rfl)
        (try simp only [Act.put, List.setIfInBounds_toArray, List.set_cons_zero, List.set_cons_succ])
        refine wpAnyH_take (i := 9) (oi := ?_) (v := ?_) ?_ ?_ ?_ ?_ ?_ ?_ (by exact hHeld) ?_
        rotate_left 2
        · (simp only [List.getElem?_toArray, List.getElem?_cons_zero, List.getElem?_cons_succ]; try rfl)
        · kernel_rfl
        · kernel_rfl
        · kernel_rfl
        · exact fun _ _ _ h => h
        · refine Or.inl ⟨by rfl, ?_⟩
          (intro V hSV; (try dsimp only at hSV); obtain ⟨q0, q1, q2, q3, q4, q5, q6, q7⟩ := hSV; go_simp; try with_reducible rfl)
        (try simp only [Act.put, List.setIfInBounds_toArray, List.set_cons_zero, List.set_cons_succ])
        refine wpAnyH_done (by kernel_rfl) ?_ _
        clear hHeld
        go_wp2
        go_roundw
        case rel => exact ⟨k + 1, true, by go_num, rfl, by omega, HD.out, hbw.drew⟩
        case measure => simp [intOf]; omega
      · have HD : Hid (false = decide ((i, j, s, t) ∈ M.take (k + 1))) := Lib.hid (decide_eq_false (fun h => (HST.out.1 h).elim HNO.out (fun e => he e.symm))).symm
        have HHE := Lib.hid he
        clear he HST HNO HBB
        by_cases h0 : x = i
        · have h0' := h0.symm
          clear h0
          subst h0'
          by_cases h1 : y = j
          · have h1' := h1.symm
            clear h1
            subst h1'
            by_cases h2 : p = s
            · have h2' := h2.symm
              clear h2
              subst h2'
              have h4 : (q == t) = false := beq_eq_false_iff_ne.2 (fun e => HHE.out (by rw [e]))
              have hx0 : (i == i) = true := by simp
              have hx1 : (j == j) = true := by simp
              have hx2 : (s == s) = true := by simp
              go_upto_region 14 with fail
              refine wp_region_held_drew (S := (fun V => V.cell? ⟨b9, off + k * 4, none⟩ = some (.int .i64 i) ∧ V.cell? ⟨b9, off + k * 4 + 1, none⟩ = some (.int .i64 j) ∧ V.cell? ⟨b9, off + k * 4 + 2, none⟩ = some (.int .i64 s) ∧ V.cell? ⟨b9, off + k * 4 + 3, none⟩ = some (.int .i64 q) ∧ V.cell? ⟨w1.heap.size, 0, none⟩ = some (.int .i64 i) ∧ V.cell? ⟨w1.heap.size, 1, none⟩ = some (.int .i64 j) ∧ V.cell? ⟨w1.heap.size, 2, none⟩ = some (.int .i64 s) ∧ V.cell? ⟨w1.heap.size, 3, none⟩ = some (.int .i64 t))) (by kernel_rfl) (by exact ⟨k0, k1, k2, k3, e0, e1, e2, e3⟩) (fun hHeld => ?_)
              refine wpAnyH_take (i := 0) (oi := ?_) (v := ?_) ?_ ?_ ?_ ?_ ?_ ?_ (by exact hHeld) ?_
              rotate_left 2
              · (simp only [List.getElem?_toArray, List.getElem?_cons_zero]; try rfl)
              · kernel_rfl
              · kernel_rfl
              · kernel_rfl
              · exact fun _ _ _ h => h
              · refine Or.inl ⟨by rfl, ?_⟩
                (intro V hSV; (try dsimp only at hSV); obtain ⟨q0, q1, q2, q3, q4, q5, q6, q7⟩ := hSV; go_simp; try with_reducible rfl)
              (try simp only [Act.put, List.setIfInBounds_toArray, List.set_cons_zero, List.set_cons_succ])
              refine wpAnyH_take (i := 1) (oi := ?_) (v := ?_) ?_ ?_ ?_ ?_ ?_ ?_ (by exact hHeld) ?_
              rotate_left 2
              · (simp only [List.getElem?_toArray, List.getElem?_cons_zero, List.getElem?_cons_succ]; try rfl)
              · kernel_rfl
              · kernel_rfl
              · kernel_rfl
              · exact fun _ _ _ h => h
              · refine Or.inl ⟨by rfl, ?_⟩
                (intro V hSV; (try dsimp only at hSV); obtain ⟨q0, q1, q2, q3, q4, q5, q6, q7⟩ := hSV; go_simp; try with_reducible rfl)
              (try simp only [Act.put, List.setIfInBounds_toArray, List.set_cons_zero, List.set_cons_succ])
              refine wpAnyH_take (i := 2) (oi := ?_) (v := ?_) ?_ ?_ ?_ ?_ ?_ ?_ (by exact hHeld) ?_
              rotate_left 2
              · (simp only [List.getElem?_toArray, List.getElem?_cons_zero, List.getElem?_cons_succ]; try rfl)
              · kernel_rfl
              · kernel_rfl
              · kernel_rfl
              · exact fun _ _ _ h => h
              · refine Or.inl ⟨by rfl, ?_⟩
                (intro V hSV; (try dsimp only at hSV); obtain ⟨q0, q1, q2, q3, q4, q5, q6, q7⟩ := hSV; go_simp; try with_reducible rfl)
              (try simp only [Act.put, List.setIfInBounds_toArray, List.set_cons_zero, List.set_cons_succ])
              refine wpAnyH_take (i := 3) (oi := ?_) (v := ?_) ?_ ?_ ?_ ?_ ?_ ?_ (by exact hHeld) ?_
              rotate_left 2
              · (simp only [List.getElem?_toArray, List.getElem?_cons_zero, List.getElem?_cons_succ]; try rfl)
              · kernel_rfl
              · kernel_rfl
              · kernel_rfl
              · exact fun _ _ _ h => h
              · refine Or.inl ⟨by rfl, ?_⟩
                (intro V hSV; (try dsimp only at hSV); obtain ⟨q0, q1, q2, q3, q4, q5, q6, q7⟩ := hSV; go_simp; try with_reducible rfl)
              (try simp only [Act.put, List.setIfInBounds_toArray, List.set_cons_zero, List.set_cons_succ])
              refine wpAnyH_take (i := 4) (oi := ?_) (v := ?_) ?_ ?_ ?_ ?_ ?_ ?_ (by exact hHeld) ?_
              rotate_left 2
              · (simp only [List.getElem?_toArray, List.getElem?_cons_zero, List.getElem?_cons_succ]; try rfl)
              · kernel_rfl
              · kernel_rfl
              · kernel_rfl
              · exact fun _ _ _ h => h
              · refine Or.inl ⟨by rfl, ?_⟩
                (intro V hSV; (try dsimp only at hSV); obtain ⟨q0, q1, q2, q3, q4, q5, q6, q7⟩ := hSV; go_simp; try with_reducible rfl)
              (try simp only [Act.put, List.setIfInBounds_toArray, List.set_cons_zero, List.set_cons_succ])
              refine wpAnyH_take (i := 5) (oi := ?_) (v := ?_) ?_ ?_ ?_ ?_ ?_ ?_ (by exact hHeld) ?_
              rotate_left 2
              · (simp only [List.getElem?_toArray, List.getElem?_cons_zero, List.getElem?_cons_succ]; try rfl)
              · kernel_rfl
              · kernel_rfl
              · kernel_rfl
              · exact fun _ _ _ h => h
              · refine Or.inl ⟨by rfl, ?_⟩
                (intro V hSV; (try dsimp only at hSV); obtain ⟨q0, q1, q2, q3, q4, q5, q6, q7⟩ := hSV; go_simp; try with_reducible rfl)
              (try simp only [Act.put, List.setIfInBounds_toArray, List.set_cons_zero, List.set_cons_succ])
              refine wpAnyH_take (i := 6) (oi := ?_) (v := ?_) ?_ ?_ ?_ ?_ ?_ ?_ (by exact hHeld) ?_
              rotate_left 2
              · (simp only [List.getElem?_toArray, List.getElem?_cons_zero, List.getElem?_cons_succ]; try rfl)
              · kernel_rfl
              · kernel_rfl
              · kernel_rfl
              · exact fun _ _ _ h => h
              · refine Or.inl ⟨by rfl, ?_⟩
                (intro V hSV; (try dsimp only at hSV); obtain ⟨q0, q1, q2, q3, q4, q5, q6, q7⟩ := hSV; go_simp; try with_reducible rfl)
              (try simp only [Act.put, List.setIfInBounds_toArray, List.set_cons_zero, List.set_cons_succ])
              refine wpAnyH_take (i := 7) (oi := ?_) (v := ?_) ?_ ?_ ?_ ?_ ?_ ?_ (by exact hHeld) ?_
              rotate_left 2
              · (simp only [List.getElem?_toArray, List.getElem?_cons_zero, List.getElem?_cons_succ]; try rfl)
              · kernel_rfl
              · kernel_rfl
              · kernel_rfl
              · exact fun _ _ _ h => h
              · refine Or.inl ⟨by rfl, ?_⟩
                (intro V hSV; (try dsimp only at hSV); obtain ⟨q0, q1, q2, q3, q4, q5, q6, q7⟩ := hSV; go_simp; try with_reducible rfl)
              (try simp only [Act.put, List.setIfInBounds_toArray, List.set_cons_zero, List.set_cons_succ])
              refine wpAnyH_take (i := 8) (oi := ?_) (v := ?_) ?_ ?_ ?_ ?_ ?_ ?_ (by exact hHeld) ?_
              rotate_left 2
              · (simp only [List.getElem?_toArray, List.getElem?_cons_zero, List.getElem?_cons_succ]; try rfl)
              · kernel_rfl
              · kernel_rfl
              · kernel_rfl
              · exact fun _ _ _ h => h
              · refine Or.inl ⟨by rfl, ?_⟩
                (intro V hSV; (try dsimp only at hSV); obtain ⟨q0, q1, q2, q3, q4, q5, q6, q7⟩ := hSV; go_simp; try with_reducible rfl)
              (try simp only [Act.put, List.setIfInBounds_toArray, List.set_cons_zero, List.set_cons_succ])
              refine wpAnyH_take (i := 9) (oi := ?_) (v := ?_) ?_ ?_ ?_ ?_ ?_ ?_ (by exact hHeld) ?_
              rotate_left 2
              · (simp only [List.getElem?_toArray, List.getElem?_cons_zero, List.getElem?_cons_succ]; try rfl)
              · kernel_rfl
              · kernel_rfl
              · kernel_rfl
              · exact fun _ _ _ h => h
              · refine Or.inl ⟨by rfl, ?_⟩
                (intro V hSV; (try dsimp only at hSV); obtain ⟨q0, q1, q2, q3, q4, q5, q6, q7⟩ := hSV; go_simp; try with_reducible rfl)
              (try simp only [Act.put, List.setIfInBounds_toArray, List.set_cons_zero, List.set_cons_succ])
              refine wpAnyH_done (by kernel_rfl) ?_ _
              clear hHeld
              go_wp2
              go_roundw
              case rel => exact ⟨k + 1, false, by go_num, rfl, by omega, HD.out, hbw.drew⟩
              case measure => simp [intOf]; omega
            · have h4 : (p == s) = false := beq_eq_false_iff_ne.2 h2
              clear h2
              have hx0 : (i == i) = true := by simp
              have hx1 : (j == j) = true := by simp
              go_upto_region 14 with fail
              refine wp_region_held_drew (S := (fun V => V.cell? ⟨b9, off + k * 4, none⟩ = some (.int .i64 i) ∧ V.cell? ⟨b9, off + k * 4 + 1, none⟩ = some (.int .i64 j) ∧ V.cell? ⟨b9, off + k * 4 + 2, none⟩ = some (.int .i64 p) ∧ V.cell? ⟨b9, off + k * 4 + 3, none⟩ = some (.int .i64 q) ∧ V.cell? ⟨w1.heap.size, 0, none⟩ = some (.int .i64 i) ∧ V.cell? ⟨w1.heap.size, 1, none⟩ = some (.int .i64 j) ∧ V.cell? ⟨w1.heap.size, 2, none⟩ = some (.int .i64 s) ∧ V.cell? ⟨w1.heap.size, 3, none⟩ = some (.int .i64 t))) (by kernel_rfl) (by exact ⟨k0, k1, k2, k3, e0, e1, e2, e3⟩) (fun hHeld => ?_)
              refine wpAnyH_take (i := 0) (oi := ?_) (v := ?_) ?_ ?_ ?_ ?_ ?_ ?_ (by exact hHeld) ?_
              rotate_left 2
              · (simp only [List.getElem?_toArray, List.getElem?_cons_zero]; try rfl)
              · kernel_rfl
              · kernel_rfl
              · kernel_rfl
              · exact fun _ _ _ h => h
              · refine Or.inl ⟨by rfl, ?_⟩
                (intro V hSV; (try dsimp only at hSV); obtain ⟨q0, q1, q2, q3, q4, q5, q6, q7⟩ := hSV; go_simp; try with_reducible rfl)
              (try simp only [Act.put, List.setIfInBounds_toArray, List.set_cons_zero, List.set_cons_succ])
              refine wpAnyH_take (i := 1) (oi := ?_) (v := ?_) ?_ ?_ ?_ ?_ ?_ ?_ (by exact hHeld) ?_
              rotate_left 2
              · (simp only [List.getElem?_toArray, List.getElem?_cons_zero, List.getElem?_cons_succ]; try rfl)
              · kernel_rfl
              · kernel_rfl
              · kernel_rfl
              · exact fun _ _ _ h => h
              · refine Or.inl ⟨by rfl, ?_⟩
                (intro V hSV; (try dsimp only at hSV); obtain ⟨q0, q1, q2, q3, q4, q5, q6, q7⟩ := hSV; go_simp; try with_reducible rfl)
              (try simp only [Act.put, List.setIfInBounds_toArray, List.set_cons_zero, List.set_cons_succ])
              refine wpAnyH_take (i := 2) (oi := ?_) (v := ?_) ?_ ?_ ?_ ?_ ?_ ?_ (by exact hHeld) ?_
              rotate_left 2
              · (simp only [List.getElem?_toArray, List.getElem?_cons_zero, List.getElem?_cons_succ]; try rfl)
              · kernel_rfl
              · kernel_rfl
              · kernel_rfl
              · exact fun _ _ _ h => h
              · refine Or.inl ⟨by rfl, ?_⟩
                (intro V hSV; (try dsimp only at hSV); obtain ⟨q0, q1, q2, q3, q4, q5, q6, q7⟩ := hSV; go_simp; try with_reducible rfl)
              (try simp only [Act.put, List.setIfInBounds_toArray, List.set_cons_zero, List.set_cons_succ])
              refine wpAnyH_take (i := 3) (oi := ?_) (v := ?_) ?_ ?_ ?_ ?_ ?_ ?_ (by exact hHeld) ?_
              rotate_left 2
              · (simp only [List.getElem?_toArray, List.getElem?_cons_zero, List.getElem?_cons_succ]; try rfl)
              · kernel_rfl
              · kernel_rfl
              · kernel_rfl
              · exact fun _ _ _ h => h
              · refine Or.inl ⟨by rfl, ?_⟩
                (intro V hSV; (try dsimp only at hSV); obtain ⟨q0, q1, q2, q3, q4, q5, q6, q7⟩ := hSV; go_simp; try with_reducible rfl)
              (try simp only [Act.put, List.setIfInBounds_toArray, List.set_cons_zero, List.set_cons_succ])
              refine wpAnyH_take (i := 4) (oi := ?_) (v := ?_) ?_ ?_ ?_ ?_ ?_ ?_ (by exact hHeld) ?_
              rotate_left 2
              · (simp only [List.getElem?_toArray, List.getElem?_cons_zero, List.getElem?_cons_succ]; try rfl)
              · kernel_rfl
              · kernel_rfl
              · kernel_rfl
              · exact fun _ _ _ h => h
              · refine Or.inl ⟨by rfl, ?_⟩
                (intro V hSV; (try dsimp only at hSV); obtain ⟨q0, q1, q2, q3, q4, q5, q6, q7⟩ := hSV; go_simp; try with_reducible rfl)
              (try simp only [Act.put, List.setIfInBounds_toArray, List.set_cons_zero, List.set_cons_succ])
              refine wpAnyH_take (i := 5) (oi := ?_) (v := ?_) ?_ ?_ ?_ ?_ ?_ ?_ (by exact hHeld) ?_
              rotate_left 2
              · (simp only [List.getElem?_toArray, List.getElem?_cons_zero, List.getElem?_cons_succ]; try rfl)
              · kernel_rfl
              · kernel_rfl
              · kernel_rfl
              · exact fun _ _ _ h => h
              · refine Or.inl ⟨by rfl, ?_⟩
                (intro V hSV; (try dsimp only at hSV); obtain ⟨q0, q1, q2, q3, q4, q5, q6, q7⟩ := hSV; go_simp; try with_reducible rfl)
              (try simp only [Act.put, List.setIfInBounds_toArray, List.set_cons_zero, List.set_cons_succ])
              refine wpAnyH_take (i := 6) (oi := ?_) (v := ?_) ?_ ?_ ?_ ?_ ?_ ?_ (by exact hHeld) ?_
              rotate_left 2
              · (simp only [List.getElem?_toArray, List.getElem?_cons_zero, List.getElem?_cons_succ]; try rfl)
              · kernel_rfl
              · kernel_rfl
              · kernel_rfl
              · exact fun _ _ _ h => h
              · refine Or.inl ⟨by rfl, ?_⟩
                (intro V hSV; (try dsimp only at hSV); obtain ⟨q0, q1, q2, q3, q4, q5, q6, q7⟩ := hSV; go_simp; try with_reducible rfl)
              (try simp only [Act.put, List.setIfInBounds_toArray, List.set_cons_zero, List.set_cons_succ])
              refine wpAnyH_take (i := 7) (oi := ?_) (v := ?_) ?_ ?_ ?_ ?_ ?_ ?_ (by exact hHeld) ?_
              rotate_left 2
              · (simp only [List.getElem?_toArray, List.getElem?_cons_zero, List.getElem?_cons_succ]; try rfl)
              · kernel_rfl
              · kernel_rfl
              · kernel_rfl
              · exact fun _ _ _ h => h
              · refine Or.inl ⟨by rfl, ?_⟩
                (intro V hSV; (try dsimp only at hSV); obtain ⟨q0, q1, q2, q3, q4, q5, q6, q7⟩ := hSV; go_simp; try with_reducible rfl)
              (try simp only [Act.put, List.setIfInBounds_toArray, List.set_cons_zero, List.set_cons_succ])
              refine wpAnyH_take (i := 8) (oi := ?_) (v := ?_) ?_ ?_ ?_ ?_ ?_ ?_ (by exact hHeld) ?_
              rotate_left 2
              · (simp only [List.getElem?_toArray, List.getElem?_cons_zero, List.getElem?_cons_succ]; try rfl)
              · kernel_rfl
              · kernel_rfl
              · kernel_rfl
              · exact fun _ _ _ h => h
              · refine Or.inl ⟨by rfl, ?_⟩
                (intro V hSV; (try dsimp only at hSV); obtain ⟨q0, q1, q2, q3, q4, q5, q6, q7⟩ := hSV; go_simp; try with_reducible rfl)
              (try simp only [Act.put, List.setIfInBounds_toArray, List.set_cons_zero, List.set_cons_succ])
              refine wpAnyH_take (i := 9) (oi := ?_) (v := ?_) ?_ ?_ ?_ ?_ ?_ ?_ (by exact hHeld) ?_
              rotate_left 2
              · (simp only [List.getElem?_toArray, List.getElem?_cons_zero, List.getElem?_cons_succ]; try rfl)
              · kernel_rfl
              · kernel_rfl
              · kernel_rfl
              · exact fun _ _ _ h => h
              · refine Or.inl ⟨by rfl, ?_⟩
                (intro V hSV; (try dsimp only at hSV); obtain ⟨q0, q1, q2, q3, q4, q5, q6, q7⟩ := hSV; go_simp; try with_reducible rfl)
              (try simp only [Act.put, List.setIfInBounds_toArray, List.set_cons_zero, List.set_cons_succ])
              refine wpAnyH_done (by kernel_rfl) ?_ _
              clear hHeld
              go_wp2
              go_roundw
              case rel => exact ⟨k + 1, false, by go_num, rfl, by omega, HD.out, hbw.drew⟩
              case measure => simp [intOf]; omega
          · have h4 : (y == j) = false := beq_eq_false_iff_ne.2 h1
            clear h1
            have hx0 : (i == i) = true := by simp
            go_upto_region 14 with fail
            refine wp_region_held_drew (S := (fun V => V.cell? ⟨b9, off + k * 4, none⟩ = some (.int .i64 i) ∧ V.cell? ⟨b9, off + k * 4 + 1, none⟩ = some (.int .i64 y) ∧ V.cell? ⟨b9, off + k * 4 + 2, none⟩ = some (.int .i64 p) ∧ V.cell? ⟨b9, off + k * 4 + 3, none⟩ = some (.int .i64 q) ∧ V.cell? ⟨w1.heap.size, 0, none⟩ = some (.int .i64 i) ∧ V.cell? ⟨w1.heap.size, 1, none⟩ = some (.int .i64 j) ∧ V.cell? ⟨w1.heap.size, 2, none⟩ = some (.int .i64 s) ∧ V.cell? ⟨w1.heap.size, 3, none⟩ = some (.int .i64 t))) (by kernel_rfl) (by exact ⟨k0, k1, k2, k3, e0, e1, e2, e3⟩) (fun hHeld => ?_)
            refine wpAnyH_take (i := 0) (oi := ?_) (v := ?_) ?_ ?_ ?_ ?_ ?_ ?_ (by exact hHeld) ?_
            rotate_left 2
            · (simp only [List.getElem?_toArray, List.getElem?_cons_zero]; try rfl)
            · kernel_rfl
            · kernel_rfl
            · kernel_rfl
            · exact fun _ _ _ h => h
            · refine Or.inl ⟨by rfl, ?_⟩
              (intro V hSV; (try dsimp only at hSV); obtain ⟨q0, q1, q2, q3, q4, q5, q6, q7⟩ := hSV; go_simp; try with_reducible rfl)
            (try simp only [Act.put, List.setIfInBounds_toArray, List.set_cons_zero, List.set_cons_succ])
            refine wpAnyH_take (i := 1) (oi := ?_) (v := ?_) ?_ ?_ ?_ ?_ ?_ ?_ (by exact hHeld) ?_
            rotate_left 2
            · (simp only [List.getElem?_toArray, List.getElem?_cons_zero, List.getElem?_cons_succ]; try rfl)
            · kernel_rfl
            · kernel_rfl
            · kernel_rfl
            · exact fun _ _ _ h => h
            · refine Or.inl ⟨by rfl, ?_⟩
              (intro V hSV; (try dsimp only at hSV); obtain ⟨q0, q1, q2, q3, q4, q5, q6, q7⟩ := hSV; go_simp; try with_reducible rfl)
            (try simp only [Act.put, List.setIfInBounds_toArray, List.set_cons_zero, List.set_cons_succ])
            refine wpAnyH_take (i := 2) (oi := ?_) (v := ?_) ?_ ?_ ?_ ?_ ?_ ?_ (by exact hHeld) ?_
            rotate_left 2
            · (simp only [List.getElem?_toArray, List.getElem?_cons_zero, List.getElem?_cons_succ]; try rfl)
            · kernel_rfl
            · kernel_rfl
            · kernel_rfl
            · exact fun _ _ _ h => h
            · refine Or.inl ⟨by rfl, ?_⟩
              (intro V hSV; (try dsimp only at hSV); obtain ⟨q0, q1, q2, q3, q4, q5, q6, q7⟩ := hSV; go_simp; try with_reducible rfl)
            (try simp only [Act.put, List.setIfInBounds_toArray, List.set_cons_zero, List.set_cons_succ])
            refine wpAnyH_take (i := 3) (oi := ?_) (v := ?_) ?_ ?_ ?_ ?_ ?_ ?_ (by exact hHeld) ?_
            rotate_left 2
            · (simp only [List.getElem?_toArray, List.getElem?_cons_zero, List.getElem?_cons_succ]; try rfl)
            · kernel_rfl
            · kernel_rfl
            · kernel_rfl
            · exact fun _ _ _ h => h
            · refine Or.inl ⟨by rfl, ?_⟩
              (intro V hSV; (try dsimp only at hSV); obtain ⟨q0, q1, q2, q3, q4, q5, q6, q7⟩ := hSV; go_simp; try with_reducible rfl)
            (try simp only [Act.put, List.setIfInBounds_toArray, List.set_cons_zero, List.set_cons_succ])
            refine wpAnyH_take (i := 4) (oi := ?_) (v := ?_) ?_ ?_ ?_ ?_ ?_ ?_ (by exact hHeld) ?_
            rotate_left 2
            · (simp only [List.getElem?_toArray, List.getElem?_cons_zero, List.getElem?_cons_succ]; try rfl)
            · kernel_rfl
            · kernel_rfl
            · kernel_rfl
            · exact fun _ _ _ h => h
            · refine Or.inl ⟨by rfl, ?_⟩
              (intro V hSV; (try dsimp only at hSV); obtain ⟨q0, q1, q2, q3, q4, q5, q6, q7⟩ := hSV; go_simp; try with_reducible rfl)
            (try simp only [Act.put, List.setIfInBounds_toArray, List.set_cons_zero, List.set_cons_succ])
            refine wpAnyH_take (i := 5) (oi := ?_) (v := ?_) ?_ ?_ ?_ ?_ ?_ ?_ (by exact hHeld) ?_
            rotate_left 2
            · (simp only [List.getElem?_toArray, List.getElem?_cons_zero, List.getElem?_cons_succ]; try rfl)
            · kernel_rfl
            · kernel_rfl
            · kernel_rfl
            · exact fun _ _ _ h => h
            · refine Or.inl ⟨by rfl, ?_⟩
              (intro V hSV; (try dsimp only at hSV); obtain ⟨q0, q1, q2, q3, q4, q5, q6, q7⟩ := hSV; go_simp; try with_reducible rfl)
            (try simp only [Act.put, List.setIfInBounds_toArray, List.set_cons_zero, List.set_cons_succ])
            refine wpAnyH_take (i := 6) (oi := ?_) (v := ?_) ?_ ?_ ?_ ?_ ?_ ?_ (by exact hHeld) ?_
            rotate_left 2
            · (simp only [List.getElem?_toArray, List.getElem?_cons_zero, List.getElem?_cons_succ]; try rfl)
            · kernel_rfl
            · kernel_rfl
            · kernel_rfl
            · exact fun _ _ _ h => h
            · refine Or.inl ⟨by rfl, ?_⟩
              (intro V hSV; (try dsimp only at hSV); obtain ⟨q0, q1, q2, q3, q4, q5, q6, q7⟩ := hSV; go_simp; try with_reducible rfl)
            (try simp only [Act.put, List.setIfInBounds_toArray, List.set_cons_zero, List.set_cons_succ])
            refine wpAnyH_take (i := 7) (oi := ?_) (v := ?_) ?_ ?_ ?_ ?_ ?_ ?_ (by exact hHeld) ?_
            rotate_left 2
            · (simp only [List.getElem?_toArray, List.getElem?_cons_zero, List.getElem?_cons_succ]; try rfl)
            · kernel_rfl
            · kernel_rfl
            · kernel_rfl
            · exact fun _ _ _ h => h
            · refine Or.inl ⟨by rfl, ?_⟩
              (intro V hSV; (try dsimp only at hSV); obtain ⟨q0, q1, q2, q3, q4, q5, q6, q7⟩ := hSV; go_simp; try with_reducible rfl)
            (try simp only [Act.put, List.setIfInBounds_toArray, List.set_cons_zero, List.set_cons_succ])
            refine wpAnyH_take (i := 8) (oi := ?_) (v := ?_) ?_ ?_ ?_ ?_ ?_ ?_ (by exact hHeld) ?_
            rotate_left 2
            · (simp only [List.getElem?_toArray, List.getElem?_cons_zero, List.getElem?_cons_succ]; try rfl)
            · kernel_rfl
            · kernel_rfl
            · kernel_rfl
            · exact fun _ _ _ h => h
            · refine Or.inl ⟨by rfl, ?_⟩
              (intro V hSV; (try dsimp only at hSV); obtain ⟨q0, q1, q2, q3, q4, q5, q6, q7⟩ := hSV; go_simp; try with_reducible rfl)
            (try simp only [Act.put, List.setIfInBounds_toArray, List.set_cons_zero, List.set_cons_succ])
            refine wpAnyH_take (i := 9) (oi := ?_) (v := ?_) ?_ ?_ ?_ ?_ ?_ ?_ (by exact hHeld) ?_
            rotate_left 2
            · (simp only [List.getElem?_toArray, List.getElem?_cons_zero, List.getElem?_cons_succ]; try rfl)
            · kernel_rfl
            · kernel_rfl
            · kernel_rfl
            · exact fun _ _ _ h => h
            · refine Or.inl ⟨by rfl, ?_⟩
              (intro V hSV; (try dsimp only at hSV); obtain ⟨q0, q1, q2, q3, q4, q5, q6, q7⟩ := hSV; go_simp; try with_reducible rfl)
            (try simp only [Act.put, List.setIfInBounds_toArray, List.set_cons_zero, List.set_cons_succ])
            refine wpAnyH_done (by kernel_rfl) ?_ _
            clear hHeld
            go_wp2
            go_roundw
            case rel => exact ⟨k + 1, false, by go_num, rfl, by omega, HD.out, hbw.drew⟩
            case measure => simp [intOf]; omega
        · have h4 : (x == i) = false := beq_eq_false_iff_ne.2 h0
          clear h0
          go_upto_region 14 with fail
          refine wp_region_held_drew (S := (fun V => V.cell? ⟨b9, off + k * 4, none⟩ = some (.int .i64 x) ∧ V.cell? ⟨b9, off + k * 4 + 1, none⟩ = some (.int .i64 y) ∧ V.cell? ⟨b9, off + k * 4 + 2, none⟩ = some (.int .i64 p) ∧ V.cell? ⟨b9, off + k * 4 + 3, none⟩ = some (.int .i64 q) ∧ V.cell? ⟨w1.heap.size, 0, none⟩ = some (.int .i64 i) ∧ V.cell? ⟨w1.heap.size, 1, none⟩ = some (.int .i64 j) ∧ V.cell? ⟨w1.heap.size, 2, none⟩ = some (.int .i64 s) ∧ V.cell? ⟨w1.heap.size, 3, none⟩ = some (.int .i64 t))) (by kernel_rfl) (by exact ⟨k0, k1, k2, k3, e0, e1, e2, e3⟩) (fun hHeld => ?_)
          refine wpAnyH_take (i := 0) (oi := ?_) (v := ?_) ?_ ?_ ?_ ?_ ?_ ?_ (by exact hHeld) ?_
          rotate_left 2
          · (simp only [List.getElem?_toArray, List.getElem?_cons_zero]; try rfl)
          · kernel_rfl
          · kernel_rfl
          · kernel_rfl
          · exact fun _ _ _ h => h
          · refine Or.inl ⟨by rfl, ?_⟩
            (intro V hSV; (try dsimp only at hSV); obtain ⟨q0, q1, q2, q3, q4, q5, q6, q7⟩ := hSV; go_simp; try with_reducible rfl)
          (try simp only [Act.put, List.setIfInBounds_toArray, List.set_cons_zero, List.set_cons_succ])
          refine wpAnyH_take (i := 1) (oi := ?_) (v := ?_) ?_ ?_ ?_ ?_ ?_ ?_ (by exact hHeld) ?_
          rotate_left 2
          · (simp only [List.getElem?_toArray, List.getElem?_cons_zero, List.getElem?_cons_succ]; try rfl)
          · kernel_rfl
          · kernel_rfl
          · kernel_rfl
          · exact fun _ _ _ h => h
          · refine Or.inl ⟨by rfl, ?_⟩
            (intro V hSV; (try dsimp only at hSV); obtain ⟨q0, q1, q2, q3, q4, q5, q6, q7⟩ := hSV; go_simp; try with_reducible rfl)
          (try simp only [Act.put, List.setIfInBounds_toArray, List.set_cons_zero, List.set_cons_succ])
          refine wpAnyH_take (i := 2) (oi := ?_) (v := ?_) ?_ ?_ ?_ ?_ ?_ ?_ (by exact hHeld) ?_
          rotate_left 2
          · (simp only [List.getElem?_toArray, List.getElem?_cons_zero, List.getElem?_cons_succ]; try rfl)
          · kernel_rfl
          · kernel_rfl
          · kernel_rfl
          · exact fun _ _ _ h => h
          · refine Or.inl ⟨by rfl, ?_⟩
            (intro V hSV; (try dsimp only at hSV); obtain ⟨q0, q1, q2, q3, q4, q5, q6, q7⟩ := hSV; go_simp; try with_reducible rfl)
          (try simp only [Act.put, List.setIfInBounds_toArray, List.set_cons_zero, List.set_cons_succ])
          refine wpAnyH_take (i := 3) (oi := ?_) (v := ?_) ?_ ?_ ?_ ?_ ?_ ?_ (by exact hHeld) ?_
          rotate_left 2
          · (simp only [List.getElem?_toArray, List.getElem?_cons_zero, List.getElem?_cons_succ]; try rfl)
          · kernel_rfl
          · kernel_rfl
          · kernel_rfl
          · exact fun _ _ _ h => h
          · refine Or.inl ⟨by rfl, ?_⟩
            (intro V hSV; (try dsimp only at hSV); obtain ⟨q0, q1, q2, q3, q4, q5, q6, q7⟩ := hSV; go_simp; try with_reducible rfl)
          (try simp only [Act.put, List.setIfInBounds_toArray, List.set_cons_zero, List.set_cons_succ])
          refine wpAnyH_take (i := 4) (oi := ?_) (v := ?_) ?_ ?_ ?_ ?_ ?_ ?_ (by exact hHeld) ?_
          rotate_left 2
          · (simp only [List.getElem?_toArray, List.getElem?_cons_zero, List.getElem?_cons_succ]; try rfl)
          · kernel_rfl
          · kernel_rfl
          · kernel_rfl
          · exact fun _ _ _ h => h
          · refine Or.inl ⟨by rfl, ?_⟩
            (intro V hSV; (try dsimp only at hSV); obtain ⟨q0, q1, q2, q3, q4, q5, q6, q7⟩ := hSV; go_simp; try with_reducible rfl)
          (try simp only [Act.put, List.setIfInBounds_toArray, List.set_cons_zero, List.set_cons_succ])
          refine wpAnyH_take (i := 5) (oi := ?_) (v := ?_) ?_ ?_ ?_ ?_ ?_ ?_ (by exact hHeld) ?_
          rotate_left 2
          · (simp only [List.getElem?_toArray, List.getElem?_cons_zero, List.getElem?_cons_succ]; try rfl)
          · kernel_rfl
          · kernel_rfl
          · kernel_rfl
          · exact fun _ _ _ h => h
          · refine Or.inl ⟨by rfl, ?_⟩
            (intro V hSV; (try dsimp only at hSV); obtain ⟨q0, q1, q2, q3, q4, q5, q6, q7⟩ := hSV; go_simp; try with_reducible rfl)
          (try simp only [Act.put, List.setIfInBounds_toArray, List.set_cons_zero, List.set_cons_succ])
          refine wpAnyH_take (i := 6) (oi := ?_) (v := ?_) ?_ ?_ ?_ ?_ ?_ ?_ (by exact hHeld) ?_
          rotate_left 2
          · (simp only [List.getElem?_toArray, List.getElem?_cons_zero, List.getElem?_cons_succ]; try rfl)
          · kernel_rfl
          · kernel_rfl
          · kernel_rfl
          · exact fun _ _ _ h => h
          · refine Or.inl ⟨by rfl, ?_⟩
            (intro V hSV; (try dsimp only at hSV); obtain ⟨q0, q1, q2, q3, q4, q5, q6, q7⟩ := hSV; go_simp; try with_reducible rfl)
          (try simp only [Act.put, List.setIfInBounds_toArray, List.set_cons_zero, List.set_cons_succ])
          refine wpAnyH_take (i := 7) (oi := ?_) (v := ?_) ?_ ?_ ?_ ?_ ?_ ?_ (by exact hHeld) ?_
          rotate_left 2
          · (simp only [List.getElem?_toArray, List.getElem?_cons_zero, List.getElem?_cons_succ]; try rfl)
          · kernel_rfl
          · kernel_rfl
          · kernel_rfl
          · exact fun _ _ _ h => h
          · refine Or.inl ⟨by rfl, ?_⟩
            (intro V hSV; (try dsimp only at hSV); obtain ⟨q0, q1, q2, q3, q4, q5, q6, q7⟩ := hSV; go_simp; try with_reducible rfl)
          (try simp only [Act.put, List.setIfInBounds_toArray, List.set_cons_zero, List.set_cons_succ])
          refine wpAnyH_take (i := 8) (oi := ?_) (v := ?_) ?_ ?_ ?_ ?_ ?_ ?_ (by exact hHeld) ?_
          rotate_left 2
          · (simp only [List.getElem?_toArray, List.getElem?_cons_zero, List.getElem?_cons_succ]; try rfl)
          · kernel_rfl
          · kernel_rfl
          · kernel_rfl
          · exact fun _ _ _ h => h
          · refine Or.inl ⟨by rfl, ?_⟩
            (intro V hSV; (try dsimp only at hSV); obtain ⟨q0, q1, q2, q3, q4, q5, q6, q7⟩ := hSV; go_simp; try with_reducible rfl)
          (try simp only [Act.put, List.setIfInBounds_toArray, List.set_cons_zero, List.set_cons_succ])
          refine wpAnyH_take (i := 9) (oi := ?_) (v := ?_) ?_ ?_ ?_ ?_ ?_ ?_ (by exact hHeld) ?_
          rotate_left 2
          · (simp only [List.getElem?_toArray, List.getElem?_cons_zero, List.getElem?_cons_succ]; try rfl)
          · kernel_rfl
          · kernel_rfl
          · kernel_rfl
          · exact fun _ _ _ h => h
          · refine Or.inl ⟨by rfl, ?_⟩
            (intro V hSV; (try dsimp only at hSV); obtain ⟨q0, q1, q2, q3, q4, q5, q6, q7⟩ := hSV; go_simp; try with_reducible rfl)
          (try simp only [Act.put, List.setIfInBounds_toArray, List.set_cons_zero, List.set_cons_succ])
          refine wpAnyH_done (by kernel_rfl) ?_ _
          clear hHeld
          go_wp2
          go_roundw
          case rel => exact ⟨k + 1, false, by go_num, rfl, by omega, HD.out, hbw.drew⟩
          case measure => simp [intOf]; omega
    obtain rfl : k = M.length := by omega
    have hbt : b = true := by
      rw [HBB.out, List.take_length]
      exact decide_eq_true F6.out
    subst hbt
    clear HBB
    have BL := Lib.hid (BL.out.below hbw)
    have LL := Lib.hid (LL.out.below hbw)
    have LW := Lib.hid (LW.out.below hbw)
    have LM := Lib.hid (LM.out.below hbw)
    have LD := Lib.hid (LD.out.below hbw)
    have LA := Lib.hid (LA.out.below hbw)
    have HB := Lib.hid (below_then HB.out hbw)
    clear hbw hlt hk
    have e0 := BL.out.cell 0
    have e1 := BL.out.cell 1
    have e2 := BL.out.cell 2
    have e3 := BL.out.cell 3
    have hlt := BL.out.lt
    go_wp2_with fail
    refine (implLeaseExpire_any A4 R c4 t _ hRl (by exact LM.out)).mono ?_
    rintro e w8 ⟨v8, rfl, how8, hb8⟩
    rw [HX.out] at how8
    obtain ⟨A8, c8, rfl, _, _, hL8⟩ := how8.ll
    clear e0 e1 e2 e3 hlt
    have BL := Lib.hid (BL.out.below hb8)
    have LL := Lib.hid (LL.out.below hb8)
    have LW := Lib.hid (LW.out.below hb8)
    have LM := Lib.hid (LM.out.below hb8)
    have LD := Lib.hid (LD.out.below hb8)
    have LA := Lib.hid (LA.out.below hb8)
    have HB := Lib.hid (below_then HB.out hb8)
    have LX := Lib.hid hL8
    clear how8 hL8 hb8
    go_wp2
    go_loopw [16] (fun ii wr => ∃ k : Nat, ii = .int .i64 k ∧ k ≤ X.length ∧ Below w8.heap.size w8 wr) (fun ii _ => X.length - (intOf ii).toNat)
    case atStart => exact ⟨0, rfl, Nat.zero_le _, Below.refl _ _⟩
    case round =>
      obtain ⟨k, rfl, hk, hbw⟩ := hrel
      by_cases hlt : k < X.length
      case pos =>
        have hi0 : (0 : Int) ≤ (k : Int) := by omega
        have hi1 : (k : Int) < (X.length : Int) := by omega
        obtain ⟨b9, off, x, y, p, q, rfl, hbl, hek, k0, k1, k2, k3, _⟩ := (LX.out.below hbw).at_ k hlt
        have e3 := (BL.out.below hbw).cell 3
        have hq : t < q := by
          have h1 := F7.out X[k] (List.getElem_mem hlt)
          rw [hek] at h1
          exact h1
        have hq2 : ¬ q ≤ t := by omega
        clear hek k0 k1 k2
        go_upto_region 19 with fail
        refine wp_region_held_drew (S := (fun V => V.cell? ⟨b9, off + k * 4 + 3, none⟩ = some (.int .i64 q) ∧ V.cell? ⟨w1.heap.size, 3, none⟩ = some (.int .i64 t))) (by kernel_rfl) (by exact ⟨k3, e3⟩) (fun hHeld => ?_)
        refine wpAnyH_take (i := 0) (oi := ?_) (v := ?_) ?_ ?_ ?_ ?_ ?_ ?_ (by exact hHeld) ?_
        rotate_left 2
        · (simp only [List.getElem?_toArray, List.getElem?_cons_zero]; try rfl)
        · kernel_rfl
        · kernel_rfl
        · kernel_rfl
        · exact fun _ _ _ h => h
        · refine Or.inl ⟨by rfl, ?_⟩
          (intro V hSV; (try dsimp only at hSV); obtain ⟨q0, q1⟩ := hSV; go_simp; try with_reducible rfl)
        (try simp only [Act.put, List.setIfInBounds_toArray, List.set_cons_zero, List.set_cons_succ])
        refine wpAnyH_take (i := 1) (oi := ?_) (v := ?_) ?_ ?_ ?_ ?_ ?_ ?_ (by exact hHeld) ?_
        rotate_left 2
        · (simp only [List.getElem?_toArray, List.getElem?_cons_zero, List.getElem?_cons_succ]; try rfl)
        · kernel_rfl
        · kernel_rfl
        · kernel_rfl
        · exact fun _ _ _ h => h
        · refine Or.inl ⟨by rfl, ?_⟩
          (intro V hSV; (try dsimp only at hSV); obtain ⟨q0, q1⟩ := hSV; go_simp; try with_reducible rfl)
        (try simp only [Act.put, List.setIfInBounds_toArray, List.set_cons_zero, List.set_cons_succ])
        refine wpAnyH_take (i := 2) (oi := ?_) (v := ?_) ?_ ?_ ?_ ?_ ?_ ?_ (by exact hHeld) ?_
        rotate_left 2
        · (simp only [List.getElem?_toArray, List.getElem?_cons_zero, List.getElem?_cons_succ]; try rfl)
        · kernel_rfl
        · kernel_rfl
        · kernel_rfl
        · exact fun _ _ _ h => h
        · refine Or.inl ⟨by rfl, ?_⟩
          (intro V hSV; (try dsimp only at hSV); obtain ⟨q0, q1⟩ := hSV; go_simp; try with_reducible rfl)
        (try simp only [Act.put, List.setIfInBounds_toArray, List.set_cons_zero, List.set_cons_succ])
        refine wpAnyH_take (i := 3) (oi := ?_) (v := ?_) ?_ ?_ ?_ ?_ ?_ ?_ (by exact hHeld) ?_
        rotate_left 2
        · (simp only [List.getElem?_toArray, List.getElem?_cons_zero, List.getElem?_cons_succ]; try rfl)
        · kernel_rfl
        · kernel_rfl
        · kernel_rfl
        · exact fun _ _ _ h => h
        · refine Or.inl ⟨by rfl, ?_⟩
          (intro V hSV; (try dsimp only at hSV); obtain ⟨q0, q1⟩ := hSV; go_simp; try with_reducible rfl)
        (try simp only [Act.put, List.setIfInBounds_toArray, List.set_cons_zero, List.set_cons_succ])
        refine wpAnyH_take (i := 4) (oi := ?_) (v := ?_) ?_ ?_ ?_ ?_ ?_ ?_ (by exact hHeld) ?_
        rotate_left 2
        · (simp only [List.getElem?_toArray, List.getElem?_cons_zero, List.getElem?_cons_succ]; try rfl)
        · kernel_rfl
        · kernel_rfl
        · kernel_rfl
        · exact fun _ _ _ h => h
        · refine Or.inl ⟨by rfl, ?_⟩
          (intro V hSV; (try dsimp only at hSV); obtain ⟨q0, q1⟩ := hSV; go_simp; try with_reducible rfl)
        (try simp only [Act.put, List.setIfInBounds_toArray, List.set_cons_zero, List.set_cons_succ])
        refine wpAnyH_take (i := 5) (oi := ?_) (v := ?_) ?_ ?_ ?_ ?_ ?_ ?_ (by exact hHeld) ?_
        rotate_left 2
        · (simp only [List.getElem?_toArray, List.getElem?_cons_zero, List.getElem?_cons_succ]; try rfl)
        · kernel_rfl
        · kernel_rfl
        · kernel_rfl
        · exact fun _ _ _ h => h
        · refine Or.inl ⟨by rfl, ?_⟩
          (intro V hSV; (try dsimp only at hSV); obtain ⟨q0, q1⟩ := hSV; go_simp; try with_reducible rfl)
        (try simp only [Act.put, List.setIfInBounds_toArray, List.set_cons_zero, List.set_cons_succ])
        refine wpAnyH_take (i := 6) (oi := ?_) (v := ?_) ?_ ?_ ?_ ?_ ?_ ?_ (by exact hHeld) ?_
        rotate_left 2
        · (simp only [List.getElem?_toArray, List.getElem?_cons_zero, List.getElem?_cons_succ]; try rfl)
        · kernel_rfl
        · kernel_rfl
        · kernel_rfl
        · exact fun _ _ _ h => h
        · refine Or.inl ⟨by rfl, ?_⟩
          (intro V hSV; (try dsimp only at hSV); obtain ⟨q0, q1⟩ := hSV; go_simp; try with_reducible rfl)
        (try simp only [Act.put, List.setIfInBounds_toArray, List.set_cons_zero, List.set_cons_succ])
        refine wpAnyH_take (i := 7) (oi := ?_) (v := ?_) ?_ ?_ ?_ ?_ ?_ ?_ (by exact hHeld) ?_
        rotate_left 2
        · (simp only [List.getElem?_toArray, List.getElem?_cons_zero, List.getElem?_cons_succ]; try rfl)
        · kernel_rfl
        · kernel_rfl
        · kernel_rfl
        · exact fun _ _ _ h => h
        · refine Or.inl ⟨by rfl, ?_⟩
          (intro V hSV; (try dsimp only at hSV); obtain ⟨q0, q1⟩ := hSV; go_simp; try with_reducible rfl)
        (try simp only [Act.put, List.setIfInBounds_toArray, List.set_cons_zero, List.set_cons_succ])
        refine wpAnyH_done (by kernel_rfl) ?_ _
        clear hHeld
        go_wp2
        go_roundw
        case rel => exact ⟨k + 1, by go_num, by omega, hbw.drew⟩
        case measure => simp [intOf]; omega
      obtain rfl : k = X.length := by omega
      clear hlt hk
      have BL := Lib.hid (BL.out.below hbw)
      have LL := Lib.hid (LL.out.below hbw)
      have LW := Lib.hid (LW.out.below hbw)
      have LM := Lib.hid (LM.out.below hbw)
      have LD := Lib.hid (LD.out.below hbw)
      have LA := Lib.hid (LA.out.below hbw)
      have LX := Lib.hid (LX.out.below hbw)
      have HB := Lib.hid (below_then HB.out hbw)
      clear hbw
      have e0 := BL.out.cell 0
      have e1 := BL.out.cell 1
      have e2 := BL.out.cell 2
      have e3 := BL.out.cell 3
      have hlt := BL.out.lt
      go_wp2_with fail
      refine (implLeaseTake_any A4 R c4 i j s t n _ hRl (by exact LM.out)).mono ?_
      rintro e w9 ⟨v9, rfl, how9, hb9⟩
      rw [show takeN R (i, j, s, t) n = 4 from F8.out]
      obtain ⟨A9, c9, rfl, _, _, _⟩ := how9.ll
      clear e0 e1 e2 e3 hlt
      have BL := Lib.hid (BL.out.below hb9)
      have LL := Lib.hid (LL.out.below hb9)
      have LW := Lib.hid (LW.out.below hb9)
      have LM := Lib.hid (LM.out.below hb9)
      have LD := Lib.hid (LD.out.below hb9)
      have LA := Lib.hid (LA.out.below hb9)
      have LX := Lib.hid (LX.out.below hb9)
      have HB := Lib.hid (below_then HB.out hb9)
      clear how9 hb9
      have hln : ((R.length : Int) == (es.length : Int) + 1) = true := by rw [HLEN.out]; simp
      go_wp2_with fail
      refine (sameLeases_any A6 A1 es es c6 c1 _ (by omega) (by exact LD.out) (by exact LL.out)).mono ?_
      rintro e w10 ⟨rfl, hb⟩
      rw [decide_eq_true (rfl : es = es)]
      have BL := Lib.hid (BL.out.below hb)
      have LL := Lib.hid (LL.out.below hb)
      have LW := Lib.hid (LW.out.below hb)
      have LM := Lib.hid (LM.out.below hb)
      have LD := Lib.hid (LD.out.below hb)
      have LA := Lib.hid (LA.out.below hb)
      have LX := Lib.hid (LX.out.below hb)
      have HB := Lib.hid (below_then HB.out hb)
      clear hb
      have hw9 : IntKind.i64.wrap ((es.length : Int) + 1) = (es.length : Int) + 1 := IntWalk.i64_in _ ⟨by omega, by omega⟩
      go_wp2
      go_ret
      exact ⟨rfl, HB.out⟩

end Go.Proofs.Ytgbmobepnhhldaa.fnLeaseBook
