/-
  Texts of one claim in one: Law0, Open0, C05, Open6b, Open7, P08, P08c, J07, P09, J09, J09h. Own work.
-/
import Derived.Test.YtgpjjolgpppeeaaLay
import Derived.ProofKit
import Derived.OpenShut
import Derived.ChangeOld
import Derived.Deep.DeepHandedRow
import Derived.Deep.Slices
import Derived.Deep.Fields
import Derived.ChangeSame
import Derived.Test.YtgpjjolgpppeeaaSz
import Derived.Test.YtgpjjolgpppeeaaMark
import Derived.Test.YtgpjjolgpppeeaaBs
import Derived.Test.YtgpjjolgpppeeaaBlk
import Derived.OpenVars
import Derived.Test.YtgpjjolgpppeeaaP02
import Derived.Test.YtgpjjolgpppeeaaEB
import Derived.Deep.RegionHeld3

/-
  What all laws share: the arguments opened into cells. Own work.
-/
namespace Go.Proofs.Ytgpjjolgpppeeaa
open Go.ChangeShapes Go.WideShapes Go.ChangeAt Go.RowKit P
set_option linter.unusedVariables false

theorem own : ownKnob Try.prog.godebug = none := by kernel_rfl
theorem laidOut : laidOutB Try.prog = true := by kernel_rfl
/-- What the guide's opening of a slice of bytes gives. -/
def IsRow (k : IntKind) (w : World) (a : Option Addr) (len cap : Nat) (zs : List Int) : Prop :=
  (a = none ∧ len = 0 ∧ cap = 0 ∧ zs = []) ∨
  ∃ x, a = some x ∧ len ≤ cap ∧ cap ≤ maxLen ∧ zs.length = cap ∧ (∀ i, i < zs.length → w.cell? (x.add i) = some (.int k (zs.getD i 0))) ∧ ∀ n ∈ zs, (Lit.int k n).wf = true

theorem bs_of_row {w : World} {a : Option Addr} {len cap : Nat} {zs : List Int} (h : IsRow .u8 w a len cap zs) : ∃ l : List UInt8, l.length = len ∧ len ≤ cap ∧ cap ≤ maxLen ∧ Bs w a l := by
  rcases h with ⟨rfl, rfl, rfl, rfl⟩ | ⟨x, rfl, hl, hm, hz, hc, hw⟩
  · exact ⟨[], rfl, Nat.le_refl _, by unfold maxLen; omega, fun k hk => by simp at hk⟩
  · refine ⟨(zs.take len).map fun z => UInt8.ofNat z.toNat, by simp; omega, hl, hm, fun k hk => ?_⟩
    have hk2 : k < len := by simp at hk; omega
    have hk3 : k < zs.length := by omega
    have hcell := hc k hk3
    have hspot := World.cell?_spot (hc 0 (by omega))
    obtain ⟨b, off, spot⟩ := x
    have hs : spot = none := by simpa [Addr.add] using hspot
    subst hs
    have hadd : (⟨b, off, none⟩ : Addr).add k = ⟨b, off + k, none⟩ := by unfold Addr.add; split <;> simp_all
    rw [hadd] at hcell
    refine ⟨b, off, rfl, World.block_lt_of_cell? w _ hcell, ?_⟩
    rw [hcell]
    have hwf := hw (zs[k]) (List.getElem_mem hk3)
    have hx : 0 ≤ zs[k] ∧ zs[k] ≤ 255 := by simpa [Lit.wf, IntKind.min, IntKind.max, IntKind.signed, IntKind.bits] using hwf
    have e1 : zs.getD k 0 = zs[k] := by simp [List.getD, hk3]
    have e2 : (((zs.take len).map fun z => UInt8.ofNat z.toNat)[k]).toNat = (zs[k]).toNat := by
      simp only [List.getElem_map, List.getElem_take, UInt8.toNat_ofNat']
      omega
    rw [e1, e2]
    congr 2
    omega

end Go.Proofs.Ytgpjjolgpppeeaa

/-
  Arguments opened: what the form's reading of an argument says in the words of the layouts. Own work.
-/
namespace Go.Proofs.Ytgpjjolgpppeeaa
open Go.ChangeShapes Go.WideShapes Go.ChangeAt Go.RowKit Go.Deep P
set_option linter.unusedVariables false

section
variable {H : Type} {enc : TypeId × Value → H} {w : World} {base : Nat} {spare : Nat → Bool} {held : Bool}

/-- Whatever reads as data of type t reads in layout L. -/
def Reads {α : Type} (enc : TypeId × Value → H) (w : World) (base : Nat) (spare : Nat → Bool) (held : Bool) (t : TypeId) (L : Lay α) : Prop :=
  ∀ (fuel : Nat) (cs : List Value) (x : DataW H × List MemPlace), DataW.trod enc Try.prog w base spare held fuel t cs = some x → ∃ d, L.rd w cs d

theorem reads_bytes (hsp : ∀ b, spare b = true) : Reads enc w base spare held 33 Lay.bytes := by
  intro fuel cs x hf
  have hrow : ∃ A len cap zs, cs = [.slice A len cap] ∧ IsRow .u8 w A len cap zs := by
    rcases open_ints Try.underlying33 Try.underlying5 (by kernel_rfl) hf with ⟨hcs, _⟩ | ⟨x, l, c, zs, hcs, _, hl, hm, hz, _, hcell, hwz⟩
    · exact ⟨_, _, _, [], hcs, .inl ⟨rfl, rfl, rfl, rfl⟩⟩
    · exact ⟨_, _, _, zs, hcs, .inr ⟨_, rfl, hl, hm, by rw [hz, if_pos (hsp _)], hcell, hwz⟩⟩
  obtain ⟨A, len, cap, zs, rfl, hr⟩ := hrow
  obtain ⟨l, rfl, h1, h2, h3⟩ := bs_of_row hr
  exact ⟨l, A, cap, rfl, h1, h2, h3⟩

theorem reads_int : Reads enc w base spare held 3 Lay.int := by
  intro fuel cs x hf
  obtain ⟨n, rfl, _, hw⟩ := DataW.trod_int Try.underlying3 hf
  exact ⟨n, rfl, by simpa [Lit.wf, IntKind.min, IntKind.max, IntKind.signed, IntKind.bits] using hw⟩

theorem choose_list {α : Type} {Q : Nat → α → Prop} : ∀ n, (∀ i, i < n → ∃ d, Q i d) → ∃ l : List α, l.length = n ∧ ∀ i (h : i < l.length), Q i l[i] := by
  intro n
  induction n with
  | zero => intro _; exact ⟨[], rfl, fun i h => by simp at h⟩
  | succ n ih =>
    intro h
    obtain ⟨l, hl, hq⟩ := ih (fun i hi => h i (by omega))
    obtain ⟨d, hd⟩ := h n (by omega)
    refine ⟨l ++ [d], by simp [hl], fun i hi => ?_⟩
    by_cases e : i < l.length
    · rw [List.getElem_append_left e]; exact hq i e
    · have : i = n := by simp at hi; omega
      subst this
      rw [List.getElem_append_right (by omega)]
      simpa [hl] using hd

theorem reads_slice {α : Type} {t e T : TypeId} {E : Lay α} (ht : Try.prog.underlying t = some (.slice e)) (hC : Try.prog.cellsOf e = E.sz) (hpos : 0 < E.sz) (he : Reads enc w base spare held e E) : Reads enc w base spare held t (Lay.slice T E) := by
  intro fuel cs x hf
  rcases open_slice ht hf with ⟨rfl, _⟩ | ⟨a, len, cap, m, n, D, Pl, rfl, hb, hl, hm, hmm, hx, hi⟩
  · exact ⟨[], none, 0, rfl, Nat.le_refl _, by unfold maxLen; omega, Sl.nil _ _ _ _⟩
  · have hlm : len ≤ m := by rw [hmm]; split <;> omega
    have key : ∀ i, i < len → ∃ d, ∃ us : List Value, us.length = E.sz ∧ (∀ j (hj : j < us.length), w.cell? (a.add (i * E.sz + j)) = some us[j]) ∧ E.rd w us d := by
      intro i hil
      obtain ⟨us, hc, ht'⟩ := hi i (by omega)
      rw [hC] at hc
      obtain ⟨_, hcl, hat⟩ := World.cells?_some hc
      obtain ⟨d, hd⟩ := he n us _ ht'
      refine ⟨d, us, hcl, fun j hj => ?_, hd⟩
      have := hat j (by omega)
      rw [add_add] at this
      rw [this, List.getElem?_eq_getElem hj]
    obtain ⟨l, rfl, hl2⟩ := choose_list len key
    refine ⟨l, some a, cap, rfl, hl, hm, fun k hk => ?_⟩
    obtain ⟨us, hus, hc, hr⟩ := hl2 k hk
    have hc0 := hc 0 (by omega)
    obtain ⟨us0, hus0, hc00, _⟩ := hl2 0 (by omega)
    have hspot := World.cell?_spot (hc00 0 (by omega))
    obtain ⟨b, off, spot⟩ := a
    have hs : spot = none := by simpa [Addr.add] using hspot
    subst hs
    refine ⟨b, off, us, rfl, ?_, hus, fun j hj => ?_, hr⟩
    · rw [add_plain] at hc0
      exact World.block_lt_of_cell? w _ hc0
    · rw [← add_plain]; exact hc j hj

/-- A struct of one field. -/
theorem reads_struct1 {α : Type} {t : TypeId} {f : Field} {L : Lay α} (ht : Try.prog.underlying t = some (.struct #[f])) (ho : f.offset = 0) (hC : Try.prog.cellsOf f.type = Try.prog.cellsOf t) (he : Reads enc w base spare held f.type L) : Reads enc w base spare held t L := by
  intro fuel cs x hf
  obtain ⟨xs, n, _, hx, hlen, hxl, hg⟩ := DataW.trod_struct ht hf
  have h0 := hg 0 f rfl
  rw [ho, List.drop_zero, hC, List.take_of_length_le (by omega)] at h0
  obtain ⟨y, hy⟩ : ∃ y, xs[0]? = some y := ⟨xs[0]'(by rw [hxl]; simp), List.getElem?_eq_getElem (by rw [hxl]; simp)⟩
  rw [hy] at h0
  exact he n cs y h0

end
end Go.Proofs.Ytgpjjolgpppeeaa

/-
  Chapter 5, the laws' helpers on edits: contracts. Own work.
-/
namespace Go.Proofs.Ytgpjjolgpppeeaa
open Go.RowKit P
set_option linter.unusedVariables false

/-- An edit in cells: where, how many, what. -/
def Lay.edit : Lay (Int × Int × List UInt8) := Lay.pair Lay.int (Lay.pair Lay.int Lay.bytes)

/-- The cells of an edit. -/
def edC (a m : Int) (A : Option Addr) (n c : Nat) : Array Value := #[.int .i64 a, .int .i64 m, .slice A n c]

theorem bsk1 (w : World) (o : Obj) : Below w.heap.size w (w.alloc o) := (Below.refl w.heap.size w).alloc (Nat.le_refl _) o
theorem bsk2 (w : World) (o : Obj) : Below w.heap.size w (w.drew.alloc o) := (Below.refl w.heap.size w).drew.alloc (Nat.le_refl _) o
theorem bsk3 (w : World) (o : Obj) : Below w.heap.size w (w.alloc o).drew := ((Below.refl w.heap.size w).alloc (Nat.le_refl _) o).drew
theorem bsk4 (w : World) : Below w.heap.size w w.drew := (Below.refl w.heap.size w).drew
theorem below_skip {w w' : World} {o : Obj} (h : Below (w.alloc o).heap.size (w.alloc o) w') : Below w.heap.size w w' := below_then (bsk1 w o) h
theorem below_skipd {w w' : World} {o : Obj} (h : Below (w.drew.alloc o).heap.size (w.drew.alloc o) w') : Below w.heap.size w w' := below_then (bsk2 w o) h
theorem below_skipe {w w' : World} {o : Obj} (h : Below (w.alloc o).drew.heap.size (w.alloc o).drew w') : Below w.heap.size w w' := below_then (bsk3 w o) h
theorem below_undr {w w' : World} (h : Below w.drew.heap.size w.drew w') : Below w.heap.size w w' := below_then (bsk4 w) h
theorem blk_skip {w w' : World} {cs : Array Value} {T : TypeId} (h : Below (w.alloc (.cells cs T)).heap.size (w.alloc (.cells cs T)) w') : Blk w' w.heap.size cs T := (Blk.new w cs T).below h
theorem blk_skipd {w w' : World} {cs : Array Value} {T : TypeId} (h : Below (w.drew.alloc (.cells cs T)).heap.size (w.drew.alloc (.cells cs T)) w') : Blk w' w.heap.size cs T := (Blk.new w.drew cs T).below h
theorem blk_skipe {w w' : World} {cs : Array Value} {T : TypeId} (h : Below (w.alloc (.cells cs T)).drew.heap.size (w.alloc (.cells cs T)).drew w') : Blk w' w.heap.size cs T := Blk.below (w := (w.alloc (.cells cs T)).drew) (Blk.new w cs T) h
theorem toByteS_e (A : Option Addr) (l : List UInt8) (c : Nat) (w : World) (hl : l.length ≤ 1048576) (h : Bs w A l) :
    Calls Try.prog 154 #[.slice A l.length c] w fun e w' => ∃ g, e = .returned (.slice (some ⟨g, 0, none⟩) l.length l.length) ∧ Row w' g l ∧ Below w.heap.size w w' :=
  (toByteS_any A l c w hl h).mono fun e w' ⟨he, hr, hb⟩ => ⟨_, he, hr, hb⟩
theorem Blk.setFar9 {w : World} {b d : Nat} {cs : Array Value} {t : TypeId} (h : Blk w b cs t) (hne : b ≠ d) (i : Nat) (u : Value) : Blk (w.setCell ⟨d, i, none⟩ u) b cs t := h.of_block (Below.heap_setCell w ⟨d, i, none⟩ u b (fun e => hne (by simpa using e)))
theorem own_bs9 {w : World} {base : Nat} {A : Option Addr} {n c : Nat} {l : List UInt8} (h : Own w base (.slice A n c) l) : Bs w A l := by
  obtain ⟨A', c', e, _, _, hB⟩ := h.form
  simp only [Value.slice.injEq] at e
  rw [e.1]
  exact hB

end Go.Proofs.Ytgpjjolgpppeeaa

/-
  Edits opened as arguments. Own work.
-/
namespace Go.Proofs.Ytgpjjolgpppeeaa
open Go.ChangeShapes Go.WideShapes Go.ChangeAt Go.RowKit Go.Deep P
set_option linter.unusedVariables false
set_option maxRecDepth 100000

section
variable {H : Type} {enc : TypeId × Value → H} {w : World} {base : Nat} {spare : Nat → Bool} {held : Bool}

/-- A struct of three fields of one cell each. -/
theorem reads_struct3 {α β γ : Type} {t : TypeId} {f0 f1 f2 : Field} {K : Lay α} {L : Lay β} {M : Lay γ} (ht : Try.prog.underlying t = some (.struct #[f0, f1, f2])) (h0 : f0.offset = 0) (h1 : f1.offset = 1) (h2 : f2.offset = 2)
    (c0 : Try.prog.cellsOf f0.type = 1) (c1 : Try.prog.cellsOf f1.type = 1) (c2 : Try.prog.cellsOf f2.type = 1) (hC : Try.prog.cellsOf t = 3)
    (r0 : Reads enc w base spare held f0.type K) (r1 : Reads enc w base spare held f1.type L) (r2 : Reads enc w base spare held f2.type M) : Reads enc w base spare held t (Lay.pair K (Lay.pair L M)) := by
  intro fuel cs x hf
  obtain ⟨xs, n, _, hx, hlen, hxl, hg⟩ := DataW.trod_struct ht hf
  rw [hC] at hlen
  have hxl' : xs.length = 3 := by rw [hxl]; rfl
  match cs, hlen with
  | [u0, u1, u2], _ =>
    have g0 := hg 0 f0 rfl
    have g1 := hg 1 f1 rfl
    have g2 := hg 2 f2 rfl
    rw [h0, c0] at g0
    rw [h1, c1] at g1
    rw [h2, c2] at g2
    obtain ⟨y0, hy0⟩ : ∃ y, xs[0]? = some y := ⟨xs[0]'(by omega), List.getElem?_eq_getElem (by omega)⟩
    obtain ⟨y1, hy1⟩ : ∃ y, xs[1]? = some y := ⟨xs[1]'(by omega), List.getElem?_eq_getElem (by omega)⟩
    obtain ⟨y2, hy2⟩ : ∃ y, xs[2]? = some y := ⟨xs[2]'(by omega), List.getElem?_eq_getElem (by omega)⟩
    rw [hy0] at g0
    rw [hy1] at g1
    rw [hy2] at g2
    obtain ⟨d0, e0⟩ := r0 n [u0] y0 g0
    obtain ⟨d1, e1⟩ := r1 n [u1] y1 g1
    obtain ⟨d2, e2⟩ := r2 n [u2] y2 g2
    exact ⟨(d0, d1, d2), [u0], [u1, u2], rfl, e0, [u1], [u2], rfl, e1, e2⟩

end

/-- An edit in cells. -/
theorem Lay.edit_rd {w : World} {cs : List Value} {d : Int × Int × List UInt8} (h : Lay.edit.rd w cs d) : ∃ A c, cs = [.int .i64 d.1, .int .i64 d.2.1, .slice A d.2.2.length c] ∧ (-9223372036854775808 ≤ d.1 ∧ d.1 ≤ 9223372036854775807) ∧ (-9223372036854775808 ≤ d.2.1 ∧ d.2.1 ≤ 9223372036854775807) ∧ d.2.2.length ≤ c ∧ c ≤ maxLen ∧ Bs w A d.2.2 := by
  obtain ⟨c1, c2, rfl, ⟨rfl, ha⟩, c3, c4, rfl, ⟨rfl, hm⟩, A, c, rfl, h1, h2, hB⟩ := h
  exact ⟨A, c, rfl, ha, hm, h1, h2, hB⟩
end Go.Proofs.Ytgpjjolgpppeeaa

/-
  Lists of edits, and selections, opened as arguments. Own work.
-/
namespace Go.Proofs.Ytgpjjolgpppeeaa
open Go.ChangeShapes Go.WideShapes Go.ChangeAt Go.RowKit Go.Deep P
set_option linter.unusedVariables false
set_option maxRecDepth 100000

section
variable {H : Type} {enc : TypeId × Value → H} {w : World} {base : Nat} {spare : Nat → Bool} {held : Bool}

/-- A struct of two fields of one cell each. -/
theorem reads_struct2 {α β : Type} {t : TypeId} {f0 f1 : Field} {K : Lay α} {L : Lay β} (ht : Try.prog.underlying t = some (.struct #[f0, f1])) (h0 : f0.offset = 0) (h1 : f1.offset = 1)
    (c0 : Try.prog.cellsOf f0.type = 1) (c1 : Try.prog.cellsOf f1.type = 1) (hC : Try.prog.cellsOf t = 2)
    (r0 : Reads enc w base spare held f0.type K) (r1 : Reads enc w base spare held f1.type L) : Reads enc w base spare held t (Lay.pair K L) := by
  intro fuel cs x hf
  obtain ⟨xs, n, _, hx, hlen, hxl, hg⟩ := DataW.trod_struct ht hf
  rw [hC] at hlen
  have hxl' : xs.length = 2 := by rw [hxl]; rfl
  match cs, hlen with
  | [u0, u1], _ =>
    have g0 := hg 0 f0 rfl
    have g1 := hg 1 f1 rfl
    rw [h0, c0] at g0
    rw [h1, c1] at g1
    obtain ⟨y0, hy0⟩ : ∃ y, xs[0]? = some y := ⟨xs[0]'(by omega), List.getElem?_eq_getElem (by omega)⟩
    obtain ⟨y1, hy1⟩ : ∃ y, xs[1]? = some y := ⟨xs[1]'(by omega), List.getElem?_eq_getElem (by omega)⟩
    rw [hy0] at g0
    rw [hy1] at g1
    obtain ⟨d0, e0⟩ := r0 n [u0] y0 g0
    obtain ⟨d1, e1⟩ := r1 n [u1] y1 g1
    exact ⟨(d0, d1), [u0], [u1], rfl, e0, e1⟩

end
end Go.Proofs.Ytgpjjolgpppeeaa

/-
  Chapter 5, the mathematics of edits: when an edit is valid, what it makes, what undoes it. Own work.
-/
namespace Go.Proofs.Ytgpjjolgpppeeaa
namespace P
set_option linter.unusedVariables false

/-- Whether the edit that puts p for the m bytes at a is valid for the text t. -/
def edOk (t : List UInt8) (a m : Int) (p : List UInt8) : Bool :=
  decide (0 ≤ m) && (isText t && (isText p && ((isBound t a && isBound t (a + m)) && decide ((t.length : Int) - m + p.length ≤ 400))))
/-- What it makes of t. -/
def edText (t : List UInt8) (a m : Int) (p : List UInt8) : List UInt8 := t.take a.toNat ++ (p ++ t.drop (a + m).toNat)
def edDo (t : List UInt8) (a m : Int) (p : List UInt8) : List UInt8 := if edOk t a m p = true then edText t a m p else []
/-- What it cuts. -/
def edCut (t : List UInt8) (a m : Int) : List UInt8 := (t.drop a.toNat).take m.toNat
def backA (t : List UInt8) (a m : Int) (p : List UInt8) : Int := if edOk t a m p = true then a else 0
def backM (t : List UInt8) (a m : Int) (p : List UInt8) : Int := if edOk t a m p = true then p.length else 0
def backP (t : List UInt8) (a m : Int) (p : List UInt8) : List UInt8 := if edOk t a m p = true then edCut t a m else []

theorem edOk_iff (t : List UInt8) (a m : Int) (p : List UInt8) : edOk t a m p = true ↔ 0 ≤ m ∧ isText t = true ∧ isText p = true ∧ isBound t a = true ∧ isBound t (a + m) = true ∧ (t.length : Int) - m + p.length ≤ 400 := by
  unfold edOk
  simp only [Bool.and_eq_true, decide_eq_true_eq, and_assoc]

theorem isBound_range {l : List UInt8} {a : Int} (h : isBound l a = true) : 0 ≤ a ∧ a ≤ l.length := by
  refine ⟨?_, ?_⟩
  all_goals
    apply Classical.byContradiction
    intro g
    rw [isBound_out l a (by omega)] at h
    cases h

theorem edOk_range {t : List UInt8} {a m : Int} {p : List UInt8} (h : edOk t a m p = true) :
    0 ≤ a ∧ 0 ≤ m ∧ a + m ≤ t.length ∧ t.length ≤ 400 ∧ p.length ≤ 400 ∧ (t.length : Int) - m + p.length ≤ 400 := by
  obtain ⟨h1, h2, h3, h4, h5, h6⟩ := (edOk_iff t a m p).1 h
  have := isBound_range h4
  have := isBound_range h5
  have := isText_len h2
  have := isText_len h3
  omega

theorem edText_len {t : List UInt8} {a m : Int} {p : List UInt8} (h : edOk t a m p = true) : ((edText t a m p).length : Int) = t.length - m + p.length := by
  have := edOk_range h
  unfold edText
  rw [List.length_append, List.length_append, List.length_take, List.length_drop]
  omega

theorem edCut_len {t : List UInt8} {a m : Int} {p : List UInt8} (h : edOk t a m p = true) : ((edCut t a m).length : Int) = m := by
  have := edOk_range h
  unfold edCut
  rw [List.length_take, List.length_drop]
  omega

theorem edDo_len (t : List UInt8) (a m : Int) (p : List UInt8) : (edDo t a m p).length ≤ 400 := by
  unfold edDo
  split
  · rename_i h
    have := edText_len h
    have := edOk_range h
    omega
  · simp
theorem backP_len (t : List UInt8) (a m : Int) (p : List UInt8) : (backP t a m p).length ≤ 400 := by
  unfold backP
  split
  · rename_i h
    have := edCut_len h
    have := edOk_range h
    omega
  · simp

/-- The text is what lies before, in and behind the cut. -/
theorem ed_parts {t : List UInt8} {a m : Int} {p : List UInt8} (h : edOk t a m p = true) : t = t.take a.toNat ++ (edCut t a m ++ t.drop (a + m).toNat) := by
  have hr := edOk_range h
  unfold edCut
  rw [show (a + m).toNat = a.toNat + m.toNat by omega, ← List.drop_drop, List.take_append_drop, List.take_append_drop]

/-- The three parts are texts. -/
theorem ed_texts {t : List UInt8} {a m : Int} {p : List UInt8} (h : edOk t a m p = true) : okS 0 (t.take a.toNat) = true ∧ okS 0 (edCut t a m) = true ∧ okS 0 (t.drop (a + m).toNat) = true ∧ okS 0 p = true := by
  have hr := edOk_range h
  obtain ⟨h1, h2, h3, h4, h5, h6⟩ := (edOk_iff t a m p).1 h
  have ht := isText_ok h2
  have b1 : isBound t ((a.toNat : Nat) : Int) = true := by rw [show ((a.toNat : Nat) : Int) = a by omega]; exact h4
  have b2 : isBound t (((a + m).toNat : Nat) : Int) = true := by rw [show (((a + m).toNat : Nat) : Int) = a + m by omega]; exact h5
  refine ⟨okS_take _ t a.toNat (Nat.le_refl _) (by omega) ht b1, ?_, okS_of_bound ht (by omega) b2, isText_ok h3⟩
  have hd := okS_of_bound ht (show a.toNat ≤ t.length by omega) b1
  have hb := isBound_drop t a.toNat m.toNat (by omega) (by omega)
  rw [show ((a.toNat + m.toNat : Nat) : Int) = (((a + m).toNat : Nat) : Int) by omega, b2] at hb
  exact okS_take _ (t.drop a.toNat) m.toNat (Nat.le_refl _) (by rw [List.length_drop]; omega) hd hb

theorem edText_ok {t : List UInt8} {a m : Int} {p : List UInt8} (h : edOk t a m p = true) : isText (edText t a m p) = true := by
  obtain ⟨h1, h2, h3, h4⟩ := ed_texts h
  have hl := edText_len h
  have hr := edOk_range h
  refine isText_of (by omega) ?_
  unfold edText
  exact okS_app _ _ _ (Nat.le_refl _) h1 (okS_app _ _ _ (Nat.le_refl _) h4 h3)

theorem bound_join {x y : List UInt8} (hy : okS 0 y = true) : isBound (x ++ y) ((x.length : Nat) : Int) = true := by
  have := isBound_app_right x y 0 (Nat.zero_le _)
  rw [isBound_zero y hy, Nat.add_zero] at this
  exact this

/-- The inverse edit is valid for the edited text. -/
theorem back_ok {t : List UInt8} {a m : Int} {p : List UInt8} (h : edOk t a m p = true) : edOk (edText t a m p) a p.length (edCut t a m) = true := by
  obtain ⟨h1, h2, h3, h4⟩ := ed_texts h
  have hr := edOk_range h
  have hl := edText_len h
  have hc := edCut_len h
  have htk : ((t.take a.toNat).length : Int) = a := by rw [List.length_take]; omega
  rw [edOk_iff]
  refine ⟨by omega, edText_ok h, isText_of (by omega) h2, ?_, ?_, by omega⟩
  · have := bound_join (x := t.take a.toNat) (okS_app _ _ _ (Nat.le_refl _) h4 h3)
    rw [htk] at this
    exact this
  · have := bound_join (x := t.take a.toNat ++ p) h3
    rw [List.append_assoc, List.length_append, Int.natCast_add, htk] at this
    exact this

/-- It restores the text, and cuts what was put. -/
theorem back_text {t : List UInt8} {a m : Int} {p : List UInt8} (h : edOk t a m p = true) : edText (edText t a m p) a p.length (edCut t a m) = t ∧ edCut (edText t a m p) a p.length = p := by
  have hr := edOk_range h
  have htk : (t.take a.toNat).length = a.toNat := by rw [List.length_take]; omega
  have e1 : (edText t a m p).take a.toNat = t.take a.toNat := by
    unfold edText
    rw [List.take_append_of_le_length (by omega), List.take_of_length_le (by omega)]
  have e2 : (edText t a m p).drop a.toNat = p ++ t.drop (a + m).toNat := by
    unfold edText
    rw [List.drop_append_of_le_length (by omega), List.drop_of_length_le (by omega), List.nil_append]
  have e3 : (edText t a m p).drop (a + (p.length : Int)).toNat = t.drop (a + m).toNat := by
    rw [show (a + (p.length : Int)).toNat = a.toNat + p.length by omega, ← List.drop_drop, e2, List.drop_append_of_le_length (Nat.le_refl _), List.drop_length, List.nil_append]
  refine ⟨?_, ?_⟩
  · rw [show edText (edText t a m p) a p.length (edCut t a m) = (edText t a m p).take a.toNat ++ (edCut t a m ++ (edText t a m p).drop (a + (p.length : Int)).toNat) from rfl, e1, e3]
    exact (ed_parts h).symm
  · rw [show edCut (edText t a m p) a p.length = ((edText t a m p).drop a.toNat).take ((p.length : Int)).toNat from rfl, e2]
    rw [show ((p.length : Int)).toNat = p.length by omega, List.take_append_of_le_length (Nat.le_refl _), List.take_length]
end P
end Go.Proofs.Ytgpjjolgpppeeaa

/-
  Chapter 5, the mathematics of joined edits and of lists of edits. Own work.
-/
namespace Go.Proofs.Ytgpjjolgpppeeaa
namespace P
set_option linter.unusedVariables false

def edSmall (a m : Int) (p : List UInt8) : Bool := decide (0 ≤ a) && (decide (a ≤ 400) && (decide (0 ≤ m) && (decide (m ≤ 400) && decide (p.length ≤ 400))))
theorem edSmall_iff (a m : Int) (p : List UInt8) : edSmall a m p = true ↔ 0 ≤ a ∧ a ≤ 400 ∧ 0 ≤ m ∧ m ≤ 400 ∧ p.length ≤ 400 := by
  unfold edSmall
  simp only [Bool.and_eq_true, decide_eq_true_eq]
/-- The put of the edit b n q behind the edit a m p, in one. -/
def joinPut (a : Int) (p : List UInt8) (b n : Int) (q : List UInt8) : List UInt8 := p.take (b - a).toNat ++ (q ++ p.drop (b - a + n).toNat)
def joinOk (a m : Int) (p : List UInt8) (b n : Int) (q : List UInt8) : Bool :=
  edSmall a m p && (edSmall b n q && (decide (a ≤ b) && (decide (b + n ≤ a + p.length) && decide ((joinPut a p b n q).length ≤ 400))))
theorem joinOk_iff (a m : Int) (p : List UInt8) (b n : Int) (q : List UInt8) : joinOk a m p b n q = true ↔ edSmall a m p = true ∧ edSmall b n q = true ∧ a ≤ b ∧ b + n ≤ a + p.length ∧ (joinPut a p b n q).length ≤ 400 := by
  unfold joinOk
  simp only [Bool.and_eq_true, decide_eq_true_eq]
def joinA (a m : Int) (p : List UInt8) (b n : Int) (q : List UInt8) : Int := if joinOk a m p b n q = true then a else 0
def joinM (a m : Int) (p : List UInt8) (b n : Int) (q : List UInt8) : Int := if joinOk a m p b n q = true then m else 0
def joinP (a m : Int) (p : List UInt8) (b n : Int) (q : List UInt8) : List UInt8 := if joinOk a m p b n q = true then joinPut a p b n q else []
theorem joinPut_len {a m : Int} {p : List UInt8} {b n : Int} {q : List UInt8} (h1 : edSmall a m p = true) (h2 : edSmall b n q = true) (h3 : a ≤ b) (h4 : b + n ≤ a + p.length) : ((joinPut a p b n q).length : Int) = p.length - n + q.length := by
  have s1 := (edSmall_iff a m p).1 h1
  have s2 := (edSmall_iff b n q).1 h2
  unfold joinPut
  rw [List.length_append, List.length_append, List.length_take, List.length_drop]
  omega
theorem joinP_len (a m : Int) (p : List UInt8) (b n : Int) (q : List UInt8) : (joinP a m p b n q).length ≤ 400 := by
  unfold joinP
  split
  · rename_i h; exact ((joinOk_iff a m p b n q).1 h).2.2.2.2
  · simp

/-- The joined edit has the effect of both. -/
theorem join_text {t : List UInt8} {a m : Int} {p : List UInt8} {b n : Int} {q : List UInt8} (h1 : edOk t a m p = true) (h2 : edOk (edText t a m p) b n q = true) (hj : joinOk a m p b n q = true) :
    edOk t a m (joinPut a p b n q) = true ∧ edText t a m (joinPut a p b n q) = edText (edText t a m p) b n q := by
  obtain ⟨s1, s2, h3, h4, h5⟩ := (joinOk_iff a m p b n q).1 hj
  have r1 := edOk_range h1
  have r2 := edOk_range h2
  have l1 := edText_len h1
  have hl := joinPut_len s1 s2 h3 h4
  obtain ⟨k1, k2, k3, k4, k5, k6⟩ := (edOk_iff t a m p).1 h1
  obtain ⟨g1, g2, g3, g4, g5, g6⟩ := (edOk_iff (edText t a m p) b n q).1 h2
  obtain ⟨t1, t2, t3, t4⟩ := ed_texts h1
  have htk : (t.take a.toNat).length = a.toNat := by rw [List.length_take]; omega
  -- inside what a has put
  have hin : ∀ k : Nat, k ≤ p.length → isBound (edText t a m p) (a + (k : Int)) = true → isBound p (k : Int) = true := by
    intro k hk hb
    have e1 : a + (k : Int) = (((t.take a.toNat).length + k : Nat) : Int) := by rw [htk]; omega
    unfold edText at hb
    rw [e1, isBound_app_right _ _ k (by rw [List.length_append]; omega)] at hb
    by_cases hlt : k < p.length
    · rwa [isBound_app_left p _ k hlt] at hb
    · rw [show k = p.length by omega]; exact isBound_end p
  have b1 : isBound p (((b - a).toNat : Nat) : Int) = true := hin _ (by omega) (by rw [show a + (((b - a).toNat : Nat) : Int) = b by omega]; exact g4)
  have b2 : isBound p (((b - a + n).toNat : Nat) : Int) = true := hin _ (by omega) (by rw [show a + (((b - a + n).toNat : Nat) : Int) = b + n by omega]; exact g5)
  have hput : okS 0 (joinPut a p b n q) = true := by
    unfold joinPut
    exact okS_app _ _ _ (Nat.le_refl _) (okS_take _ p _ (Nat.le_refl _) (by omega) t4 b1) (okS_app _ _ _ (Nat.le_refl _) (isText_ok g3) (okS_of_bound t4 (by omega) b2))
  refine ⟨(edOk_iff _ _ _ _).2 ⟨k1, k2, isText_of h5 hput, k4, k5, by omega⟩, ?_⟩
  have d1 : (edText t a m p).take b.toNat = t.take a.toNat ++ p.take (b - a).toNat := by
    unfold edText
    rw [List.take_append, List.take_of_length_le (by omega), htk, show b.toNat - a.toNat = (b - a).toNat by omega, List.take_append_of_le_length (by omega)]
  have d2 : (edText t a m p).drop (b + n).toNat = p.drop (b - a + n).toNat ++ t.drop (a + m).toNat := by
    unfold edText
    rw [List.drop_append, List.drop_of_length_le (by omega), htk, show (b + n).toNat - a.toNat = (b - a + n).toNat by omega, List.drop_append_of_le_length (by omega), List.nil_append]
  rw [show edText (edText t a m p) b n q = (edText t a m p).take b.toNat ++ (q ++ (edText t a m p).drop (b + n).toNat) from rfl, d1, d2]
  unfold edText joinPut
  simp only [List.append_assoc]

/-- An edit of a list. -/
abbrev Ed := Int × Int × List UInt8
/-- The edits done one behind the other, and how many of them were valid. -/
def edsRun : List UInt8 → List Ed → List UInt8 × Nat
  | t, [] => (t, 0)
  | t, e :: es => if edOk t e.1 e.2.1 e.2.2 = true then ((edsRun (edText t e.1 e.2.1 e.2.2) es).1, (edsRun (edText t e.1 e.2.1 e.2.2) es).2 + 1) else (t, 0)
def edsText (t : List UInt8) (es : List Ed) : List UInt8 := if isText t = true then (edsRun t es).1 else []
def edsN (t : List UInt8) (es : List Ed) : Int := if isText t = true then (edsRun t es).2 else -1
theorem edsRun_le (es : List Ed) : ∀ t, (edsRun t es).2 ≤ es.length := by
  induction es with
  | nil => intro t; exact Nat.le_refl _
  | cons e es ih =>
    intro t
    unfold edsRun
    split
    · have := ih (edText t e.1 e.2.1 e.2.2)
      simp only [List.length_cons]; omega
    · exact Nat.zero_le _
theorem edsRun_text (es : List Ed) : ∀ t, isText t = true → isText (edsRun t es).1 = true := by
  induction es with
  | nil => intro t h; exact h
  | cons e es ih =>
    intro t h
    unfold edsRun
    split
    · rename_i hok; exact ih _ (edText_ok hok)
    · exact h
/-- In two parts as at once. -/
theorem edsRun_split (es : List Ed) : ∀ (t : List UInt8) (k : Nat), k ≤ (edsRun t es).2 →
    (edsRun t (es.take k)).2 = k ∧ (edsRun (edsRun t (es.take k)).1 (es.drop k)).1 = (edsRun t es).1 ∧ (edsRun (edsRun t (es.take k)).1 (es.drop k)).2 + k = (edsRun t es).2 := by
  induction es with
  | nil =>
    intro t k hk
    have : k = 0 := by simpa [edsRun] using hk
    subst this
    exact ⟨rfl, rfl, rfl⟩
  | cons e es ih =>
    intro t k hk
    cases k with
    | zero => exact ⟨rfl, rfl, rfl⟩
    | succ k =>
      rw [List.take_succ_cons, List.drop_succ_cons]
      by_cases h : edOk t e.1 e.2.1 e.2.2 = true
      · have e1 : ∀ l, edsRun t (e :: l) = ((edsRun (edText t e.1 e.2.1 e.2.2) l).1, (edsRun (edText t e.1 e.2.1 e.2.2) l).2 + 1) := fun l => by
          show (if edOk t e.1 e.2.1 e.2.2 = true then _ else _) = _
          rw [if_pos h]
        rw [e1] at hk ⊢
        rw [e1]
        obtain ⟨g1, g2, g3⟩ := ih (edText t e.1 e.2.1 e.2.2) k (by simpa using hk)
        exact ⟨by simp only [g1], g2, by simp only; omega⟩
      · have e1 : ∀ l, edsRun t (e :: l) = (t, 0) := fun l => by
          show (if edOk t e.1 e.2.1 e.2.2 = true then _ else _) = _
          rw [if_neg h]
        rw [e1] at hk
        simp at hk
end P
end Go.Proofs.Ytgpjjolgpppeeaa

/-
  Chapter 5, small edits and their ends: contracts. Own work.
-/
namespace Go.Proofs.Ytgpjjolgpppeeaa
open Go.RowKit P
set_option linter.unusedVariables false
set_option linter.unusedSimpArgs false
set_option maxRecDepth 100000

set_option maxHeartbeats 400000 in
theorem edEnd_any (a m r : Int) (A : Option Addr) (n c : Nat) (w : World) (hr : IntKind.i64.wrap (a + m) = r) :
    Calls Try.prog 107 #[.agg #[.int .i64 a, .int .i64 m, .slice A n c]] w fun e w' => e = .returned (.int .i64 r) ∧ Below w.heap.size w w' := by
  have HR := Lib.hid hr
  clear hr
  have hb0 := (Below.refl w.heap.size w).alloc (Nat.le_refl _) (.cells #[.int .i64 a, .int .i64 m, .slice A n c] 37)
  go_enter Try.func107, Try.ntmps107
  go_wp2
  go_ret
  exact ⟨ret_int (by rw [← HR.out]; first | rfl | exact (IntWalk.i64_left _).symm), hb0⟩

set_option maxHeartbeats 400000 in
theorem fitsText_e (n : Int) (z : Bool) (w : World) (hz : decide (0 ≤ n ∧ n ≤ 400) = z) : Calls Try.prog 87 #[.int .i64 n] w fun e w' => e = .returned (.bool z) ∧ w' = w := by
  subst hz
  by_cases h : 0 ≤ n
  · go_enter Try.func87, Try.ntmps87
    go_wp2
    go_ret
    exact ⟨ret_bool (by simp [h]), rfl⟩
  · have hd : decide (0 ≤ n) = false := by simpa using h
    have hf : decide (0 ≤ n ∧ n ≤ 400) = false := by simp; omega
    have HF := Lib.hid hf
    clear h hf
    go_enter Try.func87, Try.ntmps87
    go_wp2
    go_ret
    exact ⟨ret_bool HF.out.symm, rfl⟩

set_option maxHeartbeats 400000 in
theorem l02Small_e (n : Int) (z : Bool) (w : World) (hz : decide (0 ≤ n ∧ n ≤ 400) = z) : Calls Try.prog 140 #[.int .i64 n] w fun e w' => e = .returned (.bool z) ∧ w' = w := by
  subst hz
  by_cases h : 0 ≤ n
  · go_enter Try.func140, Try.ntmps140
    go_wp2
    go_ret
    exact ⟨ret_bool (by simp [h]), rfl⟩
  · have hd : decide (0 ≤ n) = false := by simpa using h
    have hf : decide (0 ≤ n ∧ n ≤ 400) = false := by simp; omega
    have HF := Lib.hid hf
    clear h hf
    go_enter Try.func140, Try.ntmps140
    go_wp2
    go_ret
    exact ⟨ret_bool HF.out.symm, rfl⟩

theorem edSmall_and (a m : Int) (p : List UInt8) : edSmall a m p = (decide (0 ≤ a ∧ a ≤ 400) && (decide (0 ≤ m ∧ m ≤ 400) && decide ((0 : Int) ≤ (p.length : Int) ∧ (p.length : Int) ≤ 400))) := by
  rw [Bool.eq_iff_iff, edSmall_iff]
  simp only [Bool.and_eq_true, decide_eq_true_eq]
  omega

set_option maxHeartbeats 2000000 in
theorem isSmall_any (a m : Int) (A : Option Addr) (p : List UInt8) (c : Nat) (w : World) (hp9 : p.length ≤ 9223372036854775807) :
    Calls Try.prog 106 #[.agg #[.int .i64 a, .int .i64 m, .slice A p.length c]] w fun e w' => e = .returned (.bool (edSmall a m p)) ∧ Below w.heap.size w w' := by
  rw [edSmall_and]
  have hal := (Below.refl w.heap.size w).alloc (Nat.le_refl _) (.cells #[.int .i64 a, .int .i64 m, .slice A p.length c] 37)
  obtain ⟨z1, h1⟩ : ∃ z, decide (0 ≤ a ∧ a ≤ 400) = z := ⟨_, rfl⟩
  obtain ⟨z2, h2⟩ : ∃ z, decide (0 ≤ m ∧ m ≤ 400) = z := ⟨_, rfl⟩
  obtain ⟨z3, h3⟩ : ∃ z, decide ((0 : Int) ≤ (p.length : Int) ∧ (p.length : Int) ≤ 400) = z := ⟨_, rfl⟩
  rw [h1, h2, h3]
  have H1 := Lib.hid h1
  have H2 := Lib.hid h2
  have H3 := Lib.hid h3
  clear h1 h2 h3
  go_enter Try.func106, Try.ntmps106
  go_wp2_with fail
  refine (fitsText_e a z1 _ H1.out).mono ?_
  rintro e w1 ⟨rfl, rfl⟩
  cases z1
  · go_wp2
    go_ret
    exact ⟨rfl, hal⟩
  go_wp2_with fail
  refine (fitsText_e m z2 _ H2.out).mono ?_
  rintro e w1 ⟨rfl, rfl⟩
  cases z2
  · go_wp2
    go_ret
    exact ⟨rfl, hal⟩
  go_wp2_with fail
  refine (fitsText_e (p.length : Int) z3 _ H3.out).mono ?_
  rintro e w1 ⟨rfl, rfl⟩
  go_wp2
  go_ret
  exact ⟨rfl, hal⟩

set_option maxHeartbeats 2000000 in
theorem l05Small_any (a m : Int) (A : Option Addr) (p : List UInt8) (c : Nat) (w : World) (hp9 : p.length ≤ 9223372036854775807) :
    Calls Try.prog 90 #[.agg #[.int .i64 a, .int .i64 m, .slice A p.length c]] w fun e w' => e = .returned (.bool (edSmall a m p)) ∧ Below w.heap.size w w' := by
  rw [edSmall_and]
  have hal := (Below.refl w.heap.size w).alloc (Nat.le_refl _) (.cells #[.int .i64 a, .int .i64 m, .slice A p.length c] 37)
  obtain ⟨z1, h1⟩ : ∃ z, decide (0 ≤ a ∧ a ≤ 400) = z := ⟨_, rfl⟩
  obtain ⟨z2, h2⟩ : ∃ z, decide (0 ≤ m ∧ m ≤ 400) = z := ⟨_, rfl⟩
  have h3 : decide ((0 : Int) ≤ (p.length : Int) ∧ (p.length : Int) ≤ 400) = decide ((p.length : Int) ≤ 400) := by rw [Bool.eq_iff_iff]; simp
  rw [h1, h2, h3]
  have H1 := Lib.hid h1
  have H2 := Lib.hid h2
  clear h1 h2 h3
  go_enter Try.func90, Try.ntmps90
  go_wp2_with fail
  refine (l02Small_e a z1 _ H1.out).mono ?_
  rintro e w1 ⟨rfl, rfl⟩
  cases z1
  · go_wp2
    go_ret
    exact ⟨rfl, hal⟩
  go_wp2_with fail
  refine (l02Small_e m z2 _ H2.out).mono ?_
  rintro e w1 ⟨rfl, rfl⟩
  cases z2
  · go_wp2
    go_ret
    exact ⟨rfl, hal⟩
  go_wp2
  go_ret
  exact ⟨rfl, hal⟩
end Go.Proofs.Ytgpjjolgpppeeaa

/-
  Chapter 6, the mathematics of moved positions, spans, edits and selections. Own work.
-/
namespace Go.Proofs.Ytgpjjolgpppeeaa
namespace P
set_option linter.unusedVariables false

/-- A position that may be moved. -/
def isPlace (p : Int) : Bool := decide (0 ≤ p) && decide (p ≤ 800)
theorem isPlace_iff (p : Int) : isPlace p = true ↔ 0 ≤ p ∧ p ≤ 800 := by unfold isPlace; simp only [Bool.and_eq_true, decide_eq_true_eq]
/-- Where a position goes by an edit that puts n bytes for the m at a, if what it does not leave alone goes to x. -/
def mvTo (p a m n x : Int) : Int := if p < a then p else if p = a ∨ p < a + m then x else p - m + n
def posOk (p a m : Int) (l : List UInt8) : Bool := edSmall a m l && isPlace p
def sideOf (right : Bool) (a n : Int) : Int := if right = true then a + n else a
def posMove (p : Int) (right : Bool) (a m : Int) (l : List UInt8) : Int := if posOk p a m l = true then mvTo p a m l.length (sideOf right a l.length) else -1
def spanOk (i j a m : Int) (l : List UInt8) : Bool := edSmall a m l && (isPlace i && (isPlace j && decide (i ≤ j)))
def spI (i a m n : Int) : Int := mvTo i a m n (a + n)
def spJ (i j a m n : Int) : Int := max (mvTo i a m n (a + n)) (mvTo j a m n a)
def spanI (i j a m : Int) (l : List UInt8) : Int := if spanOk i j a m l = true then spI i a m l.length else -1
def spanJ (i j a m : Int) (l : List UInt8) : Int := if spanOk i j a m l = true then spJ i j a m l.length else -1
def moveOk (a m : Int) (p : List UInt8) (b n : Int) (q : List UInt8) : Bool := edSmall a m p && edSmall b n q
def moveA (a m : Int) (p : List UInt8) (b n : Int) (q : List UInt8) : Int := if moveOk a m p b n q = true then spI a b n q.length else 0
def moveM (a m : Int) (p : List UInt8) (b n : Int) (q : List UInt8) : Int := if moveOk a m p b n q = true then spJ a (a + m) b n q.length - spI a b n q.length else 0
def moveP (a m : Int) (p : List UInt8) (b n : Int) (q : List UInt8) : List UInt8 := if moveOk a m p b n q = true then p else []
def hits (a m : Int) (l : List UInt8) (i j : Int) : Bool := edSmall a m l && (isPlace i && (isPlace j && (decide (i < j) && (decide (a < j) && decide (i < a + m)))))
def apart (a m : Int) (p : List UInt8) (b n : Int) (q : List UInt8) : Bool := edSmall a m p && (edSmall b n q && (decide (a + m < b) || decide (b + n < a)))
def selMvOk (f t a m : Int) (l : List UInt8) : Bool := edSmall a m l && (isPlace f && isPlace t)
def selF (f t a m : Int) (l : List UInt8) (own : Bool) : Int := if selMvOk f t a m l = true then mvTo f a m l.length (sideOf (own || decide (t < f)) a l.length) else 0
def selT (f t a m : Int) (l : List UInt8) (own : Bool) : Int := if selMvOk f t a m l = true then mvTo t a m l.length (sideOf (own || decide (f < t)) a l.length) else 0

theorem sideOf_bd (r : Bool) (a n : Int) (hn : 0 ≤ n) : a ≤ sideOf r a n ∧ sideOf r a n ≤ a + n := by unfold sideOf; split <;> omega
theorem mvTo_bd {p a m n x : Int} (hp : 0 ≤ p) (ha : 0 ≤ a) (hm : 0 ≤ m) (hn : 0 ≤ n) (hx : a ≤ x) (hx2 : x ≤ a + n) : 0 ≤ mvTo p a m n x ∧ mvTo p a m n x ≤ p + a + n := by
  unfold mvTo; split
  · omega
  · split <;> omega
theorem mvTo_le {p q a m n x y : Int} (hm : 0 ≤ m) (hn : 0 ≤ n) (hx : a ≤ x) (hxy : x ≤ y) (hy : y ≤ a + n) (hpq : p ≤ q) : mvTo p a m n x ≤ mvTo q a m n y := by
  unfold mvTo
  split
  · split
    · omega
    · split <;> omega
  · split
    · split
      · omega
      · split <;> omega
    · split
      · omega
      · split <;> omega
theorem posMove_neg {p a m : Int} {l : List UInt8} {r : Bool} : posMove p r a m l < 0 ↔ posOk p a m l = false := by
  unfold posMove
  split
  · rename_i h
    unfold posOk at h
    rw [Bool.and_eq_true, edSmall_iff, isPlace_iff] at h
    have h1 := sideOf_bd r a l.length (by omega)
    have h2 := mvTo_bd (p := p) (a := a) (m := m) (n := l.length) (x := sideOf r a l.length) (by omega) (by omega) (by omega) (by omega) h1.1 h1.2
    have h3 : posOk p a m l = true := by unfold posOk; rw [Bool.and_eq_true, edSmall_iff, isPlace_iff]; exact h
    rw [h3]
    constructor
    · intro h4; omega
    · intro h4; cases h4
  · rename_i h
    simp only [Bool.not_eq_true] at h
    rw [h]; simp
theorem moveOk_span {a m : Int} {p : List UInt8} {b n : Int} {q : List UInt8} (h : moveOk a m p b n q = true) : spanOk a (a + m) b n q = true ∧ spanI a (a + m) b n q = moveA a m p b n q ∧ spanJ a (a + m) b n q - spanI a (a + m) b n q = moveM a m p b n q := by
  have h' := h
  unfold moveOk at h
  rw [Bool.and_eq_true] at h
  have s := (edSmall_iff a m p).1 h.1
  have hs : spanOk a (a + m) b n q = true := by
    unfold spanOk
    rw [h.2, Bool.true_and, Bool.and_eq_true, isPlace_iff, Bool.and_eq_true, isPlace_iff, decide_eq_true_eq]
    omega
  unfold spanI spanJ moveA moveM
  rw [hs, h']
  exact ⟨rfl, rfl, rfl⟩
theorem spI_bd {i a m n : Int} (hp : 0 ≤ i) (ha : 0 ≤ a) (hm : 0 ≤ m) (hn : 0 ≤ n) : 0 ≤ spI i a m n ∧ spI i a m n ≤ i + a + n := mvTo_bd hp ha hm hn (by omega) (by omega)
theorem spJ_bd {i j a m n : Int} (hp : 0 ≤ i) (hij : i ≤ j) (ha : 0 ≤ a) (hm : 0 ≤ m) (hn : 0 ≤ n) : spI i a m n ≤ spJ i j a m n ∧ spJ i j a m n ≤ j + a + n := by
  have h1 := mvTo_bd (p := i) (x := a + n) hp ha hm hn (by omega) (by omega)
  have h2 := mvTo_bd (p := j) (x := a) (by omega) ha hm hn (by omega) (by omega)
  unfold spI spJ
  omega
/-- An empty span stays empty. -/
theorem spJ_same {i a m n : Int} (hm : 0 ≤ m) (hn : 0 ≤ n) : spJ i i a m n = spI i a m n := by
  have := mvTo_le (p := i) (q := i) (a := a) (m := m) (n := n) (x := a) (y := a + n) hm hn (by omega) (by omega) (by omega) (by omega)
  unfold spI spJ
  omega

/-- A boundary goes to a boundary. -/
theorem bound_moved {t : List UInt8} {b n : Int} {q : List UInt8} (h : edOk t b n q = true) {p x : Int} (hx : x = b ∨ x = b + q.length) (hp : isBound t p = true) : isBound (edText t b n q) (mvTo p b n q.length x) = true := by
  obtain ⟨h1, h2, h3, h4⟩ := ed_texts h
  have hr := edOk_range h
  have hpr := isBound_range hp
  have htk : ((t.take b.toNat).length : Int) = b := by rw [List.length_take]; omega
  unfold mvTo
  split
  · rename_i hlt
    obtain ⟨k, rfl⟩ : ∃ k : Nat, p = (k : Int) := ⟨p.toNat, by omega⟩
    unfold edText
    rw [isBound_app_left _ _ k (by omega)]
    have e : t = t.take b.toNat ++ t.drop b.toNat := (List.take_append_drop _ _).symm
    rw [e, isBound_app_left _ _ k (by omega)] at hp
    exact hp
  · split
    · rcases hx with rfl | rfl
      · have := bound_join (x := t.take x.toNat) (okS_app _ _ _ (Nat.le_refl _) h4 h3)
        rw [htk] at this
        exact this
      · have := bound_join (x := t.take b.toNat ++ q) h3
        rw [List.append_assoc, List.length_append, Int.natCast_add, htk] at this
        exact this
    · rename_i h5 h6
      obtain ⟨k, hk⟩ : ∃ k : Nat, p = b + n + (k : Int) := ⟨(p - b - n).toNat, by omega⟩
      subst hk
      have hd := isBound_drop t (b + n).toNat k (by omega) (by omega)
      rw [show (((b + n).toNat + k : Nat) : Int) = b + n + k by omega, hp] at hd
      have := isBound_app_right (t.take b.toNat ++ q) (t.drop (b + n).toNat) k (by rw [List.length_drop]; omega)
      rw [hd, List.append_assoc, List.length_append] at this
      unfold edText
      rw [show b + n + (k : Int) - n + q.length = (((t.take b.toNat).length + q.length + k : Nat) : Int) by omega]
      exact this

theorem take_app9 {α : Type} {x y : List α} {k : Nat} (h : x.length ≤ k) : (x ++ y).take k = x ++ y.take (k - x.length) := by rw [List.take_append, List.take_of_length_le h]
theorem drop_app9 {α : Type} {x y : List α} {k : Nat} (h : x.length ≤ k) : (x ++ y).drop k = y.drop (k - x.length) := by rw [List.drop_append, List.drop_of_length_le h, List.nil_append]
/-- Two edits that are apart: in either order the same. -/
theorem apart_text {t : List UInt8} {a m : Int} {p : List UInt8} {b n : Int} {q : List UInt8} (he : edOk t a m p = true) (hb : edOk t b n q = true) (hl : a + m < b) :
    edText (edText t a m p) (b - m + p.length) n q = edText (edText t b n q) a m p := by
  have hr := edOk_range he
  have hs := edOk_range hb
  have htk : (t.take a.toNat).length = a.toNat := by rw [List.length_take]; omega
  have htb : (t.take b.toNat).length = b.toNat := by rw [List.length_take]; omega
  have e1 : (edText t a m p).take (b - m + p.length).toNat = t.take a.toNat ++ (p ++ (t.drop (a + m).toNat).take (b - a - m).toNat) := by
    unfold edText
    rw [take_app9 (by omega), take_app9 (by omega), htk, show (b - m + (p.length : Int)).toNat - a.toNat - p.length = (b - a - m).toNat by omega]
  have e2 : (edText t a m p).drop (b - m + p.length + n).toNat = t.drop (b + n).toNat := by
    unfold edText
    rw [drop_app9 (by omega), drop_app9 (by omega), List.drop_drop]
    congr 1
    omega
  have e3 : (edText t b n q).take a.toNat = t.take a.toNat := by
    unfold edText
    rw [List.take_append_of_le_length (by omega), List.take_take, Nat.min_eq_left (by omega)]
  have e4 : (edText t b n q).drop (a + m).toNat = (t.drop (a + m).toNat).take (b - a - m).toNat ++ (q ++ t.drop (b + n).toNat) := by
    unfold edText
    rw [List.drop_append_of_le_length (by omega), List.drop_take, show b.toNat - (a + m).toNat = (b - a - m).toNat by omega]
  rw [show edText (edText t a m p) (b - m + p.length) n q = (edText t a m p).take (b - m + p.length).toNat ++ (q ++ (edText t a m p).drop (b - m + p.length + n).toNat) from rfl, e1, e2]
  rw [show edText (edText t b n q) a m p = (edText t b n q).take a.toNat ++ (p ++ (edText t b n q).drop (a + m).toNat) from rfl, e3, e4]
  simp only [List.append_assoc]
theorem apart_moves {a m b n : Int} {x y : Int} (ha : 0 ≤ a) (hm : 0 ≤ m) (hn : 0 ≤ n) (hx : 0 ≤ x) (hy : 0 ≤ y) (hl : a + m < b) :
    spI a b n y = a ∧ spJ a (a + m) b n y - spI a b n y = m ∧ spI b a m x = b - m + x ∧ spJ b (b + n) a m x - spI b a m x = n := by
  unfold spI spJ mvTo
  rw [if_pos (show a < b by omega), if_pos (show a + m < b by omega), if_neg (show ¬ b < a by omega), if_neg (show ¬ (b = a ∨ b < a + m) by omega), if_neg (show ¬ b + n < a by omega), if_neg (show ¬ (b + n = a ∨ b + n < a + m) by omega)]
  omega

/-- An edit moved by another. -/
def mvd (e b : Ed) : Ed := (moveA e.1 e.2.1 e.2.2 b.1 b.2.1 b.2.2, moveM e.1 e.2.1 e.2.2 b.1 b.2.1 b.2.2, moveP e.1 e.2.1 e.2.2 b.1 b.2.1 b.2.2)
/-- An edit moved by each of a list. -/
def mvRun : Ed → List Ed → Ed × Bool
  | e, [] => (e, true)
  | e, b :: bs => if moveOk e.1 e.2.1 e.2.2 b.1 b.2.1 b.2.2 = true then mvRun (mvd e b) bs else ((0, 0, []), false)
def moves (e : Ed) (es : List Ed) : Ed × Bool := if edSmall e.1 e.2.1 e.2.2 = true then mvRun e es else ((0, 0, []), false)
theorem mvd_p {e b : Ed} (h : moveOk e.1 e.2.1 e.2.2 b.1 b.2.1 b.2.2 = true) : (mvd e b).2.2 = e.2.2 := by unfold mvd moveP; rw [h]; rfl
theorem mvRun_len (es : List Ed) : ∀ e, (mvRun e es).1.2.2.length ≤ e.2.2.length := by
  induction es with
  | nil => intro e; exact Nat.le_refl _
  | cons b es ih =>
    intro e
    unfold mvRun
    split
    · rename_i h
      have := ih (mvd e b)
      rwa [mvd_p h] at this
    · exact Nat.zero_le _
theorem moves_len (e : Ed) (es : List Ed) : (moves e es).1.2.2.length ≤ 400 := by
  unfold moves
  split
  · rename_i h
    have := mvRun_len es e
    have := (edSmall_iff _ _ _).1 h
    omega
  · exact Nat.zero_le _
/-- In two parts as at once. -/
theorem mvRun_split (es : List Ed) : ∀ (e : Ed) (k : Nat), k ≤ es.length → (mvRun e es).2 = true →
    (mvRun e (es.take k)).2 = true ∧ mvRun (mvRun e (es.take k)).1 (es.drop k) = mvRun e es := by
  induction es with
  | nil => intro e k hk h; simp at hk; subst hk; exact ⟨rfl, rfl⟩
  | cons b es ih =>
    intro e k hk h
    cases k with
    | zero => exact ⟨rfl, rfl⟩
    | succ k =>
      rw [List.take_succ_cons, List.drop_succ_cons]
      by_cases hm : moveOk e.1 e.2.1 e.2.2 b.1 b.2.1 b.2.2 = true
      · have e1 : ∀ l, mvRun e (b :: l) = mvRun (mvd e b) l := fun l => by
          show (if moveOk e.1 e.2.1 e.2.2 b.1 b.2.1 b.2.2 = true then _ else _) = _
          rw [if_pos hm]
        rw [e1] at h ⊢
        rw [e1]
        exact ih (mvd e b) k (by simpa using hk) h
      · have e1 : mvRun e (b :: es) = ((0, 0, []), false) := by
          show (if moveOk e.1 e.2.1 e.2.2 b.1 b.2.1 b.2.2 = true then _ else _) = _
          rw [if_neg hm]
        rw [e1] at h; cases h
/-- If more is to come, the edit is small. -/
theorem mvRun_small {e : Ed} {es : List Ed} (h : (mvRun e es).2 = true) (hne : es ≠ []) : edSmall e.1 e.2.1 e.2.2 = true := by
  cases es with
  | nil => exact absurd rfl hne
  | cons b es =>
    unfold mvRun at h
    split at h
    · rename_i hm; unfold moveOk at hm; rw [Bool.and_eq_true] at hm; exact hm.1
    · cases h
end P
end Go.Proofs.Ytgpjjolgpppeeaa

/-
  Chapter 6, moved positions and spans: contracts of the model and of the program. Own work.
  Chapter 6, spans moved, hits, edits apart: contracts of the model and of the program. Own work.
  Chapter 6, a span or selection moved by two methods: contract. Own work.
  Chapter 6, the program's SpanMove: contract. Own work.
-/
namespace Go.Proofs.Ytgpjjolgpppeeaa
open Go.RowKit P
set_option linter.unusedVariables false
set_option linter.unusedSimpArgs false
set_option maxRecDepth 100000

set_option maxHeartbeats 400000 in
theorem l06Place_e (n : Int) (z : Bool) (w : World) (hz : isPlace n = z) : Calls Try.prog 127 #[.int .i64 n] w fun e w' => e = .returned (.bool z) ∧ w' = w := by
  subst hz
  by_cases h : 0 ≤ n
  · go_enter Try.func127, Try.ntmps127
    go_wp2
    go_ret
    exact ⟨ret_bool (by unfold isPlace; simp [h]), rfl⟩
  · have hd : decide (0 ≤ n) = false := by simpa using h
    have hf : isPlace n = false := by unfold isPlace; rw [hd]; rfl
    have HF := Lib.hid hf
    clear h hf
    go_enter Try.func127, Try.ntmps127
    go_wp2
    go_ret
    exact ⟨ret_bool HF.out.symm, rfl⟩

set_option maxHeartbeats 400000 in
theorem isSmallPlace_e (n : Int) (z : Bool) (w : World) (hz : isPlace n = z) : Calls Try.prog 126 #[.int .i64 n] w fun e w' => e = .returned (.bool z) ∧ w' = w := by
  subst hz
  by_cases h : 0 ≤ n
  · go_enter Try.func126, Try.ntmps126
    go_wp2
    go_ret
    exact ⟨ret_bool (by unfold isPlace; simp [h]), rfl⟩
  · have hd : decide (0 ≤ n) = false := by simpa using h
    have hf : isPlace n = false := by unfold isPlace; rw [hd]; rfl
    have HF := Lib.hid hf
    clear h hf
    go_enter Try.func126, Try.ntmps126
    go_wp2
    go_ret
    exact ⟨ret_bool HF.out.symm, rfl⟩

theorem posMove_no {p a m : Int} {l : List UInt8} {r z : Bool} (h : isPlace p = false ∨ edSmall a m l = false) (R : Int) (hR : posMove p r a m l = R) : R = -1 := by
  rw [← hR]; unfold posMove posOk
  rcases h with h | h <;> rw [h] <;> simp
theorem posMove_yes {p a m : Int} {l : List UInt8} {r : Bool} (h : isPlace p = true) (g : edSmall a m l = true) : posMove p r a m l = mvTo p a m l.length (sideOf r a l.length) := by
  unfold posMove posOk; rw [h, g]; rfl

set_option maxHeartbeats 4000000 in
theorem specPosMove_any (p : Int) (r : Bool) (a m : Int) (A : Option Addr) (l : List UInt8) (c : Nat) (w : World) (hl9 : l.length ≤ 9223372036854775807) :
    Calls Try.prog 141 #[.int .i64 p, .bool r, .agg #[.int .i64 a, .int .i64 m, .slice A l.length c]] w fun e w' => e = .returned (.int .i64 (posMove p r a m l)) ∧ Below w.heap.size w w' := by
  have hal := (Below.refl w.heap.size w).alloc (Nat.le_refl _) (.cells #[.int .i64 a, .int .i64 m, .slice A l.length c] 37)
  have bE := EBox.new w a m A l.length c
  obtain ⟨z1, h1⟩ : ∃ z, isPlace p = z := ⟨_, rfl⟩
  obtain ⟨z2, h2⟩ : ∃ z, edSmall a m l = z := ⟨_, rfl⟩
  obtain ⟨R, hR⟩ : ∃ R, posMove p r a m l = R := ⟨_, rfl⟩
  rw [hR]
  have H1 := Lib.hid h1
  have H2 := Lib.hid h2
  have HR := Lib.hid hR
  clear h1 h2 hR
  go_enter Try.func141, Try.ntmps141
  go_wp2_with fail
  generalize w.alloc (.cells #[.int .i64 a, .int .i64 m, .slice A l.length c] 37) = W1 at *
  refine (l06Place_e p z1 _ H1.out).mono ?_
  rintro e w1 ⟨rfl, rfl⟩
  have k0 := bE.c0
  have k1 := bE.c1
  have k2 := bE.c2
  cases z1
  · have e1 := posMove_no (z := r) (.inl H1.out) R HR.out
    go_wp2
    go_ret
    exact ⟨ret_int e1.symm, hal⟩
  go_wp2_with fail
  refine (l05Small_any a m A l c _ hl9).mono ?_
  rintro e w2 ⟨rfl, hb2⟩
  rw [H2.out]
  have bE := bE.below hb2
  have hal := below_then hal hb2
  clear k0 k1 k2 hb2
  have k0 := bE.c0
  have k1 := bE.c1
  have k2 := bE.c2
  cases z2
  · have e1 := posMove_no (z := r) (.inr H2.out) R HR.out
    go_wp2
    go_ret
    exact ⟨ret_int e1.symm, hal⟩
  have s := (edSmall_iff a m l).1 H2.out
  have q := (isPlace_iff p).1 H1.out
  have hR2 : mvTo p a m l.length (sideOf r a l.length) = R := (posMove_yes H1.out H2.out).symm.trans HR.out
  have hwr : IntKind.i64.wrap (a + m) = a + m := IntWalk.i64_in _ ⟨by omega, by omega⟩
  have hwr2 : IntKind.i64.wrap (a + l.length) = a + l.length := IntWalk.i64_in _ ⟨by omega, by omega⟩
  have hwr3 : IntKind.i64.wrap (p - m) = p - m := IntWalk.i64_in _ ⟨by omega, by omega⟩
  have hwr4 : IntKind.i64.wrap (p - m + l.length) = p - m + l.length := IntWalk.i64_in _ ⟨by omega, by omega⟩
  by_cases c1 : p < a
  · have e1 : R = p := by rw [← hR2]; unfold mvTo; rw [if_pos c1]
    have E1 := Lib.hid e1
    clear hR2 e1
    go_wp2
    go_ret
    exact ⟨ret_int E1.out.symm, hal⟩
  by_cases c2 : p = a
  · subst c2
    have hpp : (p == p) = true := by simp
    have e1 : R = sideOf r p l.length := by rw [← hR2]; unfold mvTo; rw [if_neg c1, if_pos (.inl rfl)]
    have E1 := Lib.hid e1
    clear hR2 e1
    cases r
    · go_wp2
      go_ret
      exact ⟨ret_int E1.out.symm, hal⟩
    · go_wp2
      go_ret
      exact ⟨ret_int E1.out.symm, hal⟩
  have hpp : (p == a) = false := by simpa using c2
  by_cases c3 : p < a + m
  · have e1 : R = sideOf r a l.length := by rw [← hR2]; unfold mvTo; rw [if_neg c1, if_pos (.inr c3)]
    have E1 := Lib.hid e1
    clear hR2 e1 c2
    cases r
    · go_wp2
      go_ret
      exact ⟨ret_int E1.out.symm, hal⟩
    · go_wp2
      go_ret
      exact ⟨ret_int E1.out.symm, hal⟩
  have e1 : R = p - m + l.length := by rw [← hR2]; unfold mvTo; rw [if_neg c1, if_neg (by omega)]
  have E1 := Lib.hid e1
  clear hR2 e1 c2
  go_wp2
  go_ret
  exact ⟨ret_int E1.out.symm, hal⟩

set_option maxHeartbeats 4000000 in
theorem edMoved_any (p x a m : Int) (A : Option Addr) (l : List UInt8) (c : Nat) (w : World) (hq : 0 ≤ p ∧ p ≤ 800) (hs : 0 ≤ a ∧ a ≤ 400 ∧ 0 ≤ m ∧ m ≤ 400 ∧ l.length ≤ 400) :
    Calls Try.prog 163 #[.agg #[.int .i64 a, .int .i64 m, .slice A l.length c], .int .i64 p, .int .i64 x] w fun e w' => e = .returned (.int .i64 (mvTo p a m l.length x)) ∧ Below w.heap.size w w' := by
  have hal := (Below.refl w.heap.size w).alloc (Nat.le_refl _) (.cells #[.int .i64 a, .int .i64 m, .slice A l.length c] 37)
  have bE := EBox.new w a m A l.length c
  obtain ⟨R, hR⟩ : ∃ R, mvTo p a m l.length x = R := ⟨_, rfl⟩
  rw [hR]
  have k0 := bE.c0
  have k1 := bE.c1
  have k2 := bE.c2
  have hwr : IntKind.i64.wrap (a + m) = a + m := IntWalk.i64_in _ ⟨by omega, by omega⟩
  have hwr3 : IntKind.i64.wrap (p - m) = p - m := IntWalk.i64_in _ ⟨by omega, by omega⟩
  have hwr4 : IntKind.i64.wrap (p - m + l.length) = p - m + l.length := IntWalk.i64_in _ ⟨by omega, by omega⟩
  by_cases c1 : p < a
  · have e1 : R = p := by rw [← hR]; unfold mvTo; rw [if_pos c1]
    have E1 := Lib.hid e1
    clear hR e1
    go_enter Try.func163, Try.ntmps163
    go_wp2
    go_ret
    exact ⟨ret_int E1.out.symm, hal⟩
  by_cases c2 : p = a
  · subst c2
    have hpp : (p == p) = true := by simp
    have e1 : R = x := by rw [← hR]; unfold mvTo; rw [if_neg c1, if_pos (.inl rfl)]
    have E1 := Lib.hid e1
    clear hR e1
    go_enter Try.func163, Try.ntmps163
    go_wp2
    go_ret
    exact ⟨ret_int E1.out.symm, hal⟩
  have hpp : (p == a) = false := by simpa using c2
  have hc : (p < a + m → R = x) ∧ (¬ p < a + m → R = p - m + l.length) := by
    rw [← hR]; unfold mvTo
    rw [if_neg c1]
    exact ⟨fun h => if_pos (.inr h), fun h => if_neg (by omega)⟩
  have HC := Lib.hid hc
  have HWR := Lib.hid hwr
  clear hR hc c2
  go_enter Try.func163, Try.ntmps163
  go_wp2_with fail
  generalize w.alloc (.cells #[.int .i64 a, .int .i64 m, .slice A l.length c] 37) = W1 at *
  refine (edEnd_any a m (a + m) A l.length c _ HWR.out).mono ?_
  rintro e w2 ⟨rfl, hb2⟩
  have bE := bE.below hb2
  have hal := below_then hal hb2
  clear k0 k1 k2 hb2
  have k1 := bE.c1
  have k2 := bE.c2
  by_cases c3 : p < a + m
  · have E1 := Lib.hid (HC.out.1 c3)
    go_wp2
    go_ret
    exact ⟨ret_int E1.out.symm, hal⟩
  · have E1 := Lib.hid (HC.out.2 (by omega))
    go_wp2
    go_ret
    exact ⟨ret_int E1.out.symm, hal⟩
end Go.Proofs.Ytgpjjolgpppeeaa

namespace Go.Proofs.Ytgpjjolgpppeeaa
open Go.RowKit P
set_option linter.unusedVariables false
set_option linter.unusedSimpArgs false
set_option maxRecDepth 100000

theorem spanI_no {i j a m : Int} {l : List UInt8} (h : spanOk i j a m l = false) : spanI i j a m l = -1 ∧ spanJ i j a m l = -1 := by
  unfold spanI spanJ; rw [h]; exact ⟨rfl, rfl⟩
theorem spanI_yes {i j a m : Int} {l : List UInt8} (h : spanOk i j a m l = true) : spanI i j a m l = spI i a m l.length ∧ spanJ i j a m l = spJ i j a m l.length := by
  unfold spanI spanJ; rw [h]; exact ⟨rfl, rfl⟩

set_option maxHeartbeats 4000000 in
theorem specSpanMove_any (i j a m : Int) (A : Option Addr) (l : List UInt8) (c : Nat) (w : World) (hl9 : l.length ≤ 9223372036854775807) :
    Calls Try.prog 91 #[.int .i64 i, .int .i64 j, .agg #[.int .i64 a, .int .i64 m, .slice A l.length c]] w fun e w' => e = .returned (.tuple #[.int .i64 (spanI i j a m l), .int .i64 (spanJ i j a m l)]) ∧ Below w.heap.size w w' := by
  have hal := (Below.refl w.heap.size w).alloc (Nat.le_refl _) (.cells #[.int .i64 a, .int .i64 m, .slice A l.length c] 37)
  have bE := EBox.new w a m A l.length c
  obtain ⟨x, hx⟩ : ∃ x, posMove i true a m l = x := ⟨_, rfl⟩
  obtain ⟨y, hy⟩ : ∃ y, posMove j false a m l = y := ⟨_, rfl⟩
  obtain ⟨R, hR⟩ : ∃ R, spanI i j a m l = R := ⟨_, rfl⟩
  obtain ⟨T, hT⟩ : ∃ R, spanJ i j a m l = R := ⟨_, rfl⟩
  have hno : x < 0 ∨ y < 0 ∨ j < i → R = -1 ∧ T = -1 := by
    intro h
    rw [← hR, ← hT]
    apply spanI_no
    unfold spanOk
    rcases h with h | h | h
    · rw [← hx, posMove_neg] at h
      unfold posOk at h
      simp only [Bool.and_eq_false_iff] at h ⊢
      rcases h with h | h
      · exact .inl h
      · exact .inr (.inl h)
    · rw [← hy, posMove_neg] at h
      unfold posOk at h
      simp only [Bool.and_eq_false_iff] at h ⊢
      rcases h with h | h
      · exact .inl h
      · exact .inr (.inr (.inl h))
    · simp only [Bool.and_eq_false_iff]
      exact .inr (.inr (.inr (decide_eq_false (by omega))))
  have hyes : ¬ x < 0 → ¬ y < 0 → ¬ j < i → R = x ∧ T = max x y ∧ (i = j → max x y = x) := by
    intro h1 h2 h3
    rw [← hx, posMove_neg, Bool.not_eq_false] at h1
    rw [← hy, posMove_neg, Bool.not_eq_false] at h2
    have g1 := h1
    have g2 := h2
    unfold posOk at g1 g2
    rw [Bool.and_eq_true] at g1 g2
    have hs : spanOk i j a m l = true := by
      unfold spanOk
      rw [g1.1, g1.2, g2.2, decide_eq_true (show i ≤ j by omega)]; rfl
    have s := (edSmall_iff a m l).1 g1.1
    obtain ⟨e1, e2⟩ := spanI_yes hs
    have ex : x = mvTo i a m l.length (a + l.length) := by rw [← hx]; unfold posMove; rw [h1]; rfl
    have ey : y = mvTo j a m l.length a := by rw [← hy]; unfold posMove; rw [h2]; rfl
    rw [← hR, ← hT, e1, e2, ex, ey]
    refine ⟨rfl, rfl, fun h => ?_⟩
    subst h
    exact spJ_same (by omega) (by omega)
  rw [hR, hT]
  have HX := Lib.hid hx
  have HY := Lib.hid hy
  have HN := Lib.hid hno
  have HYS := Lib.hid hyes
  clear hx hy hR hT hno hyes
  go_enter Try.func91, Try.ntmps91
  go_wp2_with fail
  generalize w.alloc (.cells #[.int .i64 a, .int .i64 m, .slice A l.length c] 37) = W1 at *
  have k0 := bE.c0
  have k1 := bE.c1
  have k2 := bE.c2
  go_wp2_with fail
  refine (specPosMove_any i true a m A l c _ hl9).mono ?_
  rintro e w2 ⟨rfl, hb2⟩
  rw [HX.out]
  have bE := bE.below hb2
  have hal := below_then hal hb2
  clear k0 k1 k2 hb2
  have k0 := bE.c0
  have k1 := bE.c1
  have k2 := bE.c2
  go_wp2_with fail
  refine (specPosMove_any j false a m A l c _ hl9).mono ?_
  rintro e w3 ⟨rfl, hb3⟩
  rw [HY.out]
  have hal := below_then hal hb3
  clear k0 k1 k2 hb3 bE
  by_cases h1 : x < 0
  · obtain ⟨e1, e2⟩ := HN.out (.inl h1)
    subst e1; subst e2
    go_wp2
    go_ret2
    exact ⟨rfl, hal⟩
  by_cases h2 : y < 0
  · obtain ⟨e1, e2⟩ := HN.out (.inr (.inl h2))
    subst e1; subst e2
    go_wp2
    go_ret2
    exact ⟨rfl, hal⟩
  by_cases h3 : j < i
  · obtain ⟨e1, e2⟩ := HN.out (.inr (.inr h3))
    subst e1; subst e2
    go_wp2
    go_ret2
    exact ⟨rfl, hal⟩
  obtain ⟨e1, e2, e3⟩ := HYS.out (by omega) (by omega) (by omega)
  subst e1
  by_cases h4 : i = j
  · have e4 := (e2.trans (e3 h4))
    subst e4
    subst h4
    have hii : (i == i) = true := by simp
    clear e2 e3
    go_wp2
    go_ret2
    exact ⟨rfl, hal⟩
  have hij : (i == j) = false := by simpa using h4
  have E2 := Lib.hid e2
  clear e2 e3 h4
  by_cases h5 : R < y
  · have e5 : T = y := by rw [E2.out]; omega
    subst e5
    clear E2
    go_wp2
    go_ret2
    exact ⟨rfl, hal⟩
  · have e5 : T = R := by rw [E2.out]; omega
    subst e5
    clear E2
    go_wp2
    go_ret2
    exact ⟨rfl, hal⟩

set_option maxHeartbeats 1000000 in
theorem edBefore_any (p a m : Int) (A : Option Addr) (l : List UInt8) (c : Nat) (w : World) (hq : 0 ≤ p ∧ p ≤ 800) (hs : 0 ≤ a ∧ a ≤ 400 ∧ 0 ≤ m ∧ m ≤ 400 ∧ l.length ≤ 400) :
    Calls Try.prog 137 #[.agg #[.int .i64 a, .int .i64 m, .slice A l.length c], .int .i64 p] w fun e w' => e = .returned (.int .i64 (mvTo p a m l.length a)) ∧ Below w.heap.size w w' := by
  have hal := (Below.refl w.heap.size w).alloc (Nat.le_refl _) (.cells #[.int .i64 a, .int .i64 m, .slice A l.length c] 37)
  go_enter Try.func137, Try.ntmps137
  go_wp2_with fail
  refine (edMoved_any p a a m A l c _ hq hs).mono ?_
  rintro e w2 ⟨rfl, hb2⟩
  have hal := below_then hal hb2
  go_wp2
  go_ret
  exact ⟨rfl, hal⟩

set_option maxHeartbeats 1000000 in
theorem edBehind_any (p a m : Int) (A : Option Addr) (l : List UInt8) (c : Nat) (w : World) (hq : 0 ≤ p ∧ p ≤ 800) (hs : 0 ≤ a ∧ a ≤ 400 ∧ 0 ≤ m ∧ m ≤ 400 ∧ l.length ≤ 400) :
    Calls Try.prog 136 #[.agg #[.int .i64 a, .int .i64 m, .slice A l.length c], .int .i64 p] w fun e w' => e = .returned (.int .i64 (mvTo p a m l.length (a + l.length))) ∧ Below w.heap.size w w' := by
  have hal := (Below.refl w.heap.size w).alloc (Nat.le_refl _) (.cells #[.int .i64 a, .int .i64 m, .slice A l.length c] 37)
  have hwr : IntKind.i64.wrap (a + l.length) = a + l.length := IntWalk.i64_in _ ⟨by omega, by omega⟩
  go_enter Try.func136, Try.ntmps136
  go_wp2_with fail
  refine (edMoved_any p (a + l.length) a m A l c _ hq hs).mono ?_
  rintro e w2 ⟨rfl, hb2⟩
  have hal := below_then hal hb2
  go_wp2
  go_ret
  exact ⟨rfl, hal⟩

end Go.Proofs.Ytgpjjolgpppeeaa

namespace Go.Proofs.Ytgpjjolgpppeeaa
open Go.RowKit P
set_option linter.unusedVariables false
set_option linter.unusedSimpArgs false
set_option maxRecDepth 100000

set_option maxHeartbeats 8000000 in
theorem selMoved_ff (f t a m : Int) (A : Option Addr) (l : List UInt8) (c : Nat) (w : World) (hf : 0 ≤ f ∧ f ≤ 800) (ht : 0 ≤ t ∧ t ≤ 800) (hs : 0 ≤ a ∧ a ≤ 400 ∧ 0 ≤ m ∧ m ≤ 400 ∧ l.length ≤ 400) :
    Calls Try.prog 135 #[.agg #[.int .i64 f, .int .i64 t], .agg #[.int .i64 a, .int .i64 m, .slice A l.length c], .func (.func 137) #[] #[], .func (.func 137) #[] #[]] w fun e w' => e = .returned (.agg #[.int .i64 (mvTo f a m l.length a), .int .i64 (mvTo t a m l.length a)]) ∧ Below w.heap.size w w' := by
  have hal := (((Below.refl w.heap.size w).alloc (Nat.le_refl _) (.cells #[.int .i64 f, .int .i64 t] 156)).alloc (by simp) (.cells #[.int .i64 a, .int .i64 m, .slice A l.length c] 37)).alloc (by simp; omega) (.cells #[.int .i64 0, .int .i64 0] 156)
  have bS := ((Blk.new w #[.int .i64 f, .int .i64 t] 156).below ((Below.refl _ _).alloc (Nat.le_refl _) (.cells #[.int .i64 a, .int .i64 m, .slice A l.length c] 37))).below ((Below.refl _ _).alloc (Nat.le_refl _) (.cells #[.int .i64 0, .int .i64 0] 156))
  have bE := (EBox.new (w.alloc (.cells #[.int .i64 f, .int .i64 t] 156)) a m A l.length c).below ((Below.refl _ _).alloc (Nat.le_refl _) (.cells #[.int .i64 0, .int .i64 0] 156))
  have bR := Blk.new ((w.alloc (.cells #[.int .i64 f, .int .i64 t] 156)).alloc (.cells #[.int .i64 a, .int .i64 m, .slice A l.length c] 37)) #[.int .i64 0, .int .i64 0] 156
  simp only [World.size_alloc] at bE bR
  obtain ⟨x, hx⟩ : ∃ x, mvTo f a m l.length a = x := ⟨_, rfl⟩
  obtain ⟨y, hy⟩ : ∃ y, mvTo t a m l.length a = y := ⟨_, rfl⟩
  have HX := Lib.hid hx
  have HY := Lib.hid hy
  rw [hx, hy]
  clear hx hy
  go_enter Try.func135, Try.ntmps135
  go_wp2_with fail
  generalize ((w.alloc (.cells #[.int .i64 f, .int .i64 t] 156)).alloc (.cells #[.int .i64 a, .int .i64 m, .slice A l.length c] 37)).alloc (.cells #[.int .i64 0, .int .i64 0] 156) = W1 at *
  have s0 := bS.cell 0
  have s1 := bS.cell 1
  have k0 := bE.c0
  have k1 := bE.c1
  have k2 := bE.c2
  have HS := Lib.hid bS
  have HE := Lib.hid bE.blk
  have HR := Lib.hid bR
  have HAL := Lib.hid hal
  clear bS bE bR hal
  refine wp_region_held_drew (S := (fun V => (V).cell? ⟨w.heap.size, 0, none⟩ = some (.int .i64 f) ∧ (V).cell? ⟨w.heap.size, 1, none⟩ = some (.int .i64 t) ∧ (V).cell? ⟨w.heap.size + 1, 0, none⟩ = some (.int .i64 a) ∧ (V).cell? ⟨w.heap.size + 1, 1, none⟩ = some (.int .i64 m) ∧ (V).cell? ⟨w.heap.size + 1, 2, none⟩ = some (.slice A l.length c))) (by kernel_rfl) (by exact ⟨s0, s1, k0, k1, k2⟩) (fun hHeld => ?_)
  clear s0 s1 k0 k1 k2
  refine wpAnyH_take (i := 0) (oi := ?_) (v := ?_) ?_ ?_ ?_ ?_ ?_ ?_ (by exact hHeld) ?_
  rotate_left 2
  · (simp only [List.getElem?_toArray, List.getElem?_cons_zero]; try rfl)
  · kernel_rfl
  · kernel_rfl
  · kernel_rfl
  · exact fun _ _ _ h => h
  · refine Or.inl ⟨by rfl, ?_⟩
    (intro V hSV; (try dsimp only at hSV); obtain ⟨q0, q1, q2, q3, q4⟩ := hSV; go_simp; try with_reducible rfl)
  (try simp only [Act.put, List.setIfInBounds_toArray, List.set_cons_zero, List.set_cons_succ])
  refine wpAnyH_take (i := 1) (oi := ?_) (v := ?_) ?_ ?_ ?_ ?_ ?_ ?_ (by exact hHeld) ?_
  rotate_left 2
  · (simp only [List.getElem?_toArray, List.getElem?_cons_zero, List.getElem?_cons_succ]; try rfl)
  · kernel_rfl
  · kernel_rfl
  · kernel_rfl
  · exact fun _ _ _ h => h
  · refine Or.inl ⟨by rfl, ?_⟩
    (intro V hSV; (try dsimp only at hSV); obtain ⟨q0, q1, q2, q3, q4⟩ := hSV; go_simp; try with_reducible rfl)
  (try simp only [Act.put, List.setIfInBounds_toArray, List.set_cons_zero, List.set_cons_succ])
  refine wpAnyH_take (i := 2) (oi := ?_) (v := ?_) ?_ ?_ ?_ ?_ ?_ ?_ (by exact hHeld) ?_
  rotate_left 2
  · (simp only [List.getElem?_toArray, List.getElem?_cons_zero, List.getElem?_cons_succ]; try rfl)
  · kernel_rfl
  · kernel_rfl
  · kernel_rfl
  · exact fun _ _ _ h => h
  · refine Or.inl ⟨by rfl, ?_⟩
    (intro V hSV; (try dsimp only at hSV); obtain ⟨q0, q1, q2, q3, q4⟩ := hSV; go_simp; try with_reducible rfl)
  (try simp only [Act.put, List.setIfInBounds_toArray, List.set_cons_zero, List.set_cons_succ])
  refine wpAnyH_take (i := 3) (oi := ?_) (v := ?_) ?_ ?_ ?_ ?_ ?_ ?_ (by exact hHeld) ?_
  rotate_left 2
  · (simp only [List.getElem?_toArray, List.getElem?_cons_zero, List.getElem?_cons_succ]; try rfl)
  · kernel_rfl
  · kernel_rfl
  · kernel_rfl
  · exact fun _ _ _ h => h
  · refine Or.inl ⟨by rfl, ?_⟩
    (intro V hSV; (try dsimp only at hSV); obtain ⟨q0, q1, q2, q3, q4⟩ := hSV; go_simp; try with_reducible rfl)
  (try simp only [Act.put, List.setIfInBounds_toArray, List.set_cons_zero, List.set_cons_succ])
  refine wpAnyH_take (i := 5) (oi := ?_) (v := ?_) ?_ ?_ ?_ ?_ ?_ ?_ (by exact hHeld) ?_
  rotate_left 2
  · (simp only [List.getElem?_toArray, List.getElem?_cons_zero, List.getElem?_cons_succ]; try rfl)
  · kernel_rfl
  · kernel_rfl
  · kernel_rfl
  · exact fun _ _ _ h => h
  · refine Or.inl ⟨by rfl, ?_⟩
    (intro V hSV; (try dsimp only at hSV); obtain ⟨q0, q1, q2, q3, q4⟩ := hSV; go_simp; try with_reducible rfl)
  (try simp only [Act.put, List.setIfInBounds_toArray, List.set_cons_zero, List.set_cons_succ])
  refine wpAnyH_take (i := 6) (oi := ?_) (v := ?_) ?_ ?_ ?_ ?_ ?_ ?_ (by exact hHeld) ?_
  rotate_left 2
  · (simp only [List.getElem?_toArray, List.getElem?_cons_zero, List.getElem?_cons_succ]; try rfl)
  · kernel_rfl
  · kernel_rfl
  · kernel_rfl
  · exact fun _ _ _ h => h
  · refine Or.inl ⟨by rfl, ?_⟩
    (intro V hSV; (try dsimp only at hSV); obtain ⟨q0, q1, q2, q3, q4⟩ := hSV; go_simp; try with_reducible rfl)
  (try simp only [Act.put, List.setIfInBounds_toArray, List.set_cons_zero, List.set_cons_succ])
  refine wpAnyH_take (i := 7) (oi := ?_) (v := ?_) ?_ ?_ ?_ ?_ ?_ ?_ (by exact hHeld) ?_
  rotate_left 2
  · (simp only [List.getElem?_toArray, List.getElem?_cons_zero, List.getElem?_cons_succ]; try rfl)
  · kernel_rfl
  · kernel_rfl
  · kernel_rfl
  · exact fun _ _ _ h => h
  · refine Or.inl ⟨by rfl, ?_⟩
    (intro V hSV; (try dsimp only at hSV); obtain ⟨q0, q1, q2, q3, q4⟩ := hSV; go_simp; try with_reducible rfl)
  (try simp only [Act.put, List.setIfInBounds_toArray, List.set_cons_zero, List.set_cons_succ])
  refine wpAnyH_take (i := 8) (oi := ?_) (v := ?_) ?_ ?_ ?_ ?_ ?_ ?_ (by exact hHeld) ?_
  rotate_left 2
  · (simp only [List.getElem?_toArray, List.getElem?_cons_zero, List.getElem?_cons_succ]; try rfl)
  · kernel_rfl
  · kernel_rfl
  · kernel_rfl
  · exact fun _ _ _ h => h
  · refine Or.inl ⟨by rfl, ?_⟩
    (intro V hSV; (try dsimp only at hSV); obtain ⟨q0, q1, q2, q3, q4⟩ := hSV; go_simp; try with_reducible rfl)
  (try simp only [Act.put, List.setIfInBounds_toArray, List.set_cons_zero, List.set_cons_succ])
  refine wpAnyH_ready (rs := [4]) (by kernel_rfl) (by simp) ?_
  refine AllReadyH.cons rfl (fun K hK => ?_) AllReadyH.nil
  go_simp
  refine (edBefore_any f a m A l c _ hf hs).mono ?_
  rintro e w3 ⟨rfl, hb⟩
  rw [HX.out]
  have hb : Below W1.heap.size W1 w3 := ⟨hb.os, hb.tape, hb.output, hb.size, hb.block⟩
  have HB3 := Lib.hid hb
  clear hb
  go_wp2_with fail
  refine hK.out _ _ (by exact ⟨(HS.out.below HB3.out).cell 0, (HS.out.below HB3.out).cell 1, (HE.out.below HB3.out).cell 0, (HE.out.below HB3.out).cell 1, (HE.out.below HB3.out).cell 2⟩) (fun hHeld => ?_)
  clear hK K
  (try simp only [Act.put, List.setIfInBounds_toArray, List.set_cons_zero, List.set_cons_succ])
  refine wpAnyH_ready (rs := [9]) (by kernel_rfl) (by simp) ?_
  refine AllReadyH.cons rfl (fun K hK => ?_) AllReadyH.nil
  go_simp
  refine (edBefore_any t a m A l c _ ht hs).mono ?_
  rintro e w4 ⟨rfl, hb⟩
  rw [HY.out]
  have hb : Below w3.heap.size w3 w4 := ⟨hb.os, hb.tape, hb.output, hb.size, hb.block⟩
  have HB4 := Lib.hid (below_then HB3.out hb)
  clear hb
  go_wp2_with fail
  refine hK.out _ _ (by exact ⟨(HS.out.below HB4.out).cell 0, (HS.out.below HB4.out).cell 1, (HE.out.below HB4.out).cell 0, (HE.out.below HB4.out).cell 1, (HE.out.below HB4.out).cell 2⟩) (fun hHeld => ?_)
  clear hK K
  (try simp only [Act.put, List.setIfInBounds_toArray, List.set_cons_zero, List.set_cons_succ])
  refine wpAnyH_take (i := 10) (oi := ?_) (v := ?_) ?_ ?_ ?_ ?_ ?_ ?_ (by exact hHeld) ?_
  rotate_left 2
  · (simp only [List.getElem?_toArray, List.getElem?_cons_zero, List.getElem?_cons_succ]; try rfl)
  · kernel_rfl
  · kernel_rfl
  · kernel_rfl
  · exact fun _ _ _ h => h
  · refine Or.inl ⟨by rfl, ?_⟩
    (intro V hSV; (try dsimp only at hSV); obtain ⟨q0, q1, q2, q3, q4⟩ := hSV; go_simp; try with_reducible rfl)
  (try simp only [Act.put, List.setIfInBounds_toArray, List.set_cons_zero, List.set_cons_succ])
  have HS4 := Lib.hid (HS.out.below HB4.out)
  have HE4 := Lib.hid (HE.out.below HB4.out)
  have HR4 := Lib.hid (HR.out.below HB4.out)
  have r0 := HR4.out.cell 0
  have r1 := HR4.out.cell 1
  have f0 := HR4.out.frozen 0
  have f1 := HR4.out.frozen 1
  refine wpAnyH_ready (rs := [11]) (by kernel_rfl) (by simp) ?_
  refine AllReadyH.cons (o := ?_) ?_ (fun K hK => ?_) AllReadyH.nil
  rotate_left 1
  · (simp only [List.getElem?_toArray, List.getElem?_cons_zero, List.getElem?_cons_succ]; try rfl)
  go_simp
  refine hK.out _ _ (by exact ⟨((HS4.out.setFar9 (by omega) 0 (.int .i64 x)).setFar9 (by omega) 1 (.int .i64 y)).cell 0, ((HS4.out.setFar9 (by omega) 0 (.int .i64 x)).setFar9 (by omega) 1 (.int .i64 y)).cell 1, ((HE4.out.setFar9 (by omega) 0 (.int .i64 x)).setFar9 (by omega) 1 (.int .i64 y)).cell 0, ((HE4.out.setFar9 (by omega) 0 (.int .i64 x)).setFar9 (by omega) 1 (.int .i64 y)).cell 1, ((HE4.out.setFar9 (by omega) 0 (.int .i64 x)).setFar9 (by omega) 1 (.int .i64 y)).cell 2⟩) (fun hHeld => ?_)
  clear hK K
  (try simp only [Act.put, List.setIfInBounds_toArray, List.set_cons_zero, List.set_cons_succ])
  refine wpAnyH_done (by kernel_rfl) ?_ _
  have hlt := HR4.out.lt
  have hB := below_then HAL.out HB4.out
  go_wp2
  refine bodyPost_ret (v := .agg #[.int .i64 x, .int .i64 y]) (by simp [results, Try.results135, go_sem, r0, r1]) rfl ⟨rfl, ?_⟩
  (repeat (first | exact Below.refl _ _ | assumption | refine Below.setCell ?_ (by first | (simp; done) | (simp; omega) | omega) _ | refine Below.drew ?_ | refine below_drewN ?_ _ | refine Below.alloc ?_ (by first | (simp; done) | (simp; omega) | omega) _))

set_option maxHeartbeats 8000000 in
theorem selMoved_ft (f t a m : Int) (A : Option Addr) (l : List UInt8) (c : Nat) (w : World) (hf : 0 ≤ f ∧ f ≤ 800) (ht : 0 ≤ t ∧ t ≤ 800) (hs : 0 ≤ a ∧ a ≤ 400 ∧ 0 ≤ m ∧ m ≤ 400 ∧ l.length ≤ 400) :
    Calls Try.prog 135 #[.agg #[.int .i64 f, .int .i64 t], .agg #[.int .i64 a, .int .i64 m, .slice A l.length c], .func (.func 137) #[] #[], .func (.func 136) #[] #[]] w fun e w' => e = .returned (.agg #[.int .i64 (mvTo f a m l.length a), .int .i64 (mvTo t a m l.length (a + l.length))]) ∧ Below w.heap.size w w' := by
  have hal := (((Below.refl w.heap.size w).alloc (Nat.le_refl _) (.cells #[.int .i64 f, .int .i64 t] 156)).alloc (by simp) (.cells #[.int .i64 a, .int .i64 m, .slice A l.length c] 37)).alloc (by simp; omega) (.cells #[.int .i64 0, .int .i64 0] 156)
  have bS := ((Blk.new w #[.int .i64 f, .int .i64 t] 156).below ((Below.refl _ _).alloc (Nat.le_refl _) (.cells #[.int .i64 a, .int .i64 m, .slice A l.length c] 37))).below ((Below.refl _ _).alloc (Nat.le_refl _) (.cells #[.int .i64 0, .int .i64 0] 156))
  have bE := (EBox.new (w.alloc (.cells #[.int .i64 f, .int .i64 t] 156)) a m A l.length c).below ((Below.refl _ _).alloc (Nat.le_refl _) (.cells #[.int .i64 0, .int .i64 0] 156))
  have bR := Blk.new ((w.alloc (.cells #[.int .i64 f, .int .i64 t] 156)).alloc (.cells #[.int .i64 a, .int .i64 m, .slice A l.length c] 37)) #[.int .i64 0, .int .i64 0] 156
  simp only [World.size_alloc] at bE bR
  obtain ⟨x, hx⟩ : ∃ x, mvTo f a m l.length a = x := ⟨_, rfl⟩
  obtain ⟨y, hy⟩ : ∃ y, mvTo t a m l.length (a + l.length) = y := ⟨_, rfl⟩
  have HX := Lib.hid hx
  have HY := Lib.hid hy
  rw [hx, hy]
  clear hx hy
  go_enter Try.func135, Try.ntmps135
  go_wp2_with fail
  generalize ((w.alloc (.cells #[.int .i64 f, .int .i64 t] 156)).alloc (.cells #[.int .i64 a, .int .i64 m, .slice A l.length c] 37)).alloc (.cells #[.int .i64 0, .int .i64 0] 156) = W1 at *
  have s0 := bS.cell 0
  have s1 := bS.cell 1
  have k0 := bE.c0
  have k1 := bE.c1
  have k2 := bE.c2
  have HS := Lib.hid bS
  have HE := Lib.hid bE.blk
  have HR := Lib.hid bR
  have HAL := Lib.hid hal
  clear bS bE bR hal
  refine wp_region_held_drew (S := (fun V => (V).cell? ⟨w.heap.size, 0, none⟩ = some (.int .i64 f) ∧ (V).cell? ⟨w.heap.size, 1, none⟩ = some (.int .i64 t) ∧ (V).cell? ⟨w.heap.size + 1, 0, none⟩ = some (.int .i64 a) ∧ (V).cell? ⟨w.heap.size + 1, 1, none⟩ = some (.int .i64 m) ∧ (V).cell? ⟨w.heap.size + 1, 2, none⟩ = some (.slice A l.length c))) (by kernel_rfl) (by exact ⟨s0, s1, k0, k1, k2⟩) (fun hHeld => ?_)
  clear s0 s1 k0 k1 k2
  refine wpAnyH_take (i := 0) (oi := ?_) (v := ?_) ?_ ?_ ?_ ?_ ?_ ?_ (by exact hHeld) ?_
  rotate_left 2
  · (simp only [List.getElem?_toArray, List.getElem?_cons_zero]; try rfl)
  · kernel_rfl
  · kernel_rfl
  · kernel_rfl
  · exact fun _ _ _ h => h
  · refine Or.inl ⟨by rfl, ?_⟩
    (intro V hSV; (try dsimp only at hSV); obtain ⟨q0, q1, q2, q3, q4⟩ := hSV; go_simp; try with_reducible rfl)
  (try simp only [Act.put, List.setIfInBounds_toArray, List.set_cons_zero, List.set_cons_succ])
  refine wpAnyH_take (i := 1) (oi := ?_) (v := ?_) ?_ ?_ ?_ ?_ ?_ ?_ (by exact hHeld) ?_
  rotate_left 2
  · (simp only [List.getElem?_toArray, List.getElem?_cons_zero, List.getElem?_cons_succ]; try rfl)
  · kernel_rfl
  · kernel_rfl
  · kernel_rfl
  · exact fun _ _ _ h => h
  · refine Or.inl ⟨by rfl, ?_⟩
    (intro V hSV; (try dsimp only at hSV); obtain ⟨q0, q1, q2, q3, q4⟩ := hSV; go_simp; try with_reducible rfl)
  (try simp only [Act.put, List.setIfInBounds_toArray, List.set_cons_zero, List.set_cons_succ])
  refine wpAnyH_take (i := 2) (oi := ?_) (v := ?_) ?_ ?_ ?_ ?_ ?_ ?_ (by exact hHeld) ?_
  rotate_left 2
  · (simp only [List.getElem?_toArray, List.getElem?_cons_zero, List.getElem?_cons_succ]; try rfl)
  · kernel_rfl
  · kernel_rfl
  · kernel_rfl
  · exact fun _ _ _ h => h
  · refine Or.inl ⟨by rfl, ?_⟩
    (intro V hSV; (try dsimp only at hSV); obtain ⟨q0, q1, q2, q3, q4⟩ := hSV; go_simp; try with_reducible rfl)
  (try simp only [Act.put, List.setIfInBounds_toArray, List.set_cons_zero, List.set_cons_succ])
  refine wpAnyH_take (i := 3) (oi := ?_) (v := ?_) ?_ ?_ ?_ ?_ ?_ ?_ (by exact hHeld) ?_
  rotate_left 2
  · (simp only [List.getElem?_toArray, List.getElem?_cons_zero, List.getElem?_cons_succ]; try rfl)
  · kernel_rfl
  · kernel_rfl
  · kernel_rfl
  · exact fun _ _ _ h => h
  · refine Or.inl ⟨by rfl, ?_⟩
    (intro V hSV; (try dsimp only at hSV); obtain ⟨q0, q1, q2, q3, q4⟩ := hSV; go_simp; try with_reducible rfl)
  (try simp only [Act.put, List.setIfInBounds_toArray, List.set_cons_zero, List.set_cons_succ])
  refine wpAnyH_take (i := 5) (oi := ?_) (v := ?_) ?_ ?_ ?_ ?_ ?_ ?_ (by exact hHeld) ?_
  rotate_left 2
  · (simp only [List.getElem?_toArray, List.getElem?_cons_zero, List.getElem?_cons_succ]; try rfl)
  · kernel_rfl
  · kernel_rfl
  · kernel_rfl
  · exact fun _ _ _ h => h
  · refine Or.inl ⟨by rfl, ?_⟩
    (intro V hSV; (try dsimp only at hSV); obtain ⟨q0, q1, q2, q3, q4⟩ := hSV; go_simp; try with_reducible rfl)
  (try simp only [Act.put, List.setIfInBounds_toArray, List.set_cons_zero, List.set_cons_succ])
  refine wpAnyH_take (i := 6) (oi := ?_) (v := ?_) ?_ ?_ ?_ ?_ ?_ ?_ (by exact hHeld) ?_
  rotate_left 2
  · (simp only [List.getElem?_toArray, List.getElem?_cons_zero, List.getElem?_cons_succ]; try rfl)
  · kernel_rfl
  · kernel_rfl
  · kernel_rfl
  · exact fun _ _ _ h => h
  · refine Or.inl ⟨by rfl, ?_⟩
    (intro V hSV; (try dsimp only at hSV); obtain ⟨q0, q1, q2, q3, q4⟩ := hSV; go_simp; try with_reducible rfl)
  (try simp only [Act.put, List.setIfInBounds_toArray, List.set_cons_zero, List.set_cons_succ])
  refine wpAnyH_take (i := 7) (oi := ?_) (v := ?_) ?_ ?_ ?_ ?_ ?_ ?_ (by exact hHeld) ?_
  rotate_left 2
  · (simp only [List.getElem?_toArray, List.getElem?_cons_zero, List.getElem?_cons_succ]; try rfl)
  · kernel_rfl
  · kernel_rfl
  · kernel_rfl
  · exact fun _ _ _ h => h
  · refine Or.inl ⟨by rfl, ?_⟩
    (intro V hSV; (try dsimp only at hSV); obtain ⟨q0, q1, q2, q3, q4⟩ := hSV; go_simp; try with_reducible rfl)
  (try simp only [Act.put, List.setIfInBounds_toArray, List.set_cons_zero, List.set_cons_succ])
  refine wpAnyH_take (i := 8) (oi := ?_) (v := ?_) ?_ ?_ ?_ ?_ ?_ ?_ (by exact hHeld) ?_
  rotate_left 2
  · (simp only [List.getElem?_toArray, List.getElem?_cons_zero, List.getElem?_cons_succ]; try rfl)
  · kernel_rfl
  · kernel_rfl
  · kernel_rfl
  · exact fun _ _ _ h => h
  · refine Or.inl ⟨by rfl, ?_⟩
    (intro V hSV; (try dsimp only at hSV); obtain ⟨q0, q1, q2, q3, q4⟩ := hSV; go_simp; try with_reducible rfl)
  (try simp only [Act.put, List.setIfInBounds_toArray, List.set_cons_zero, List.set_cons_succ])
  refine wpAnyH_ready (rs := [4]) (by kernel_rfl) (by simp) ?_
  refine AllReadyH.cons rfl (fun K hK => ?_) AllReadyH.nil
  go_simp
  refine (edBefore_any f a m A l c _ hf hs).mono ?_
  rintro e w3 ⟨rfl, hb⟩
  rw [HX.out]
  have hb : Below W1.heap.size W1 w3 := ⟨hb.os, hb.tape, hb.output, hb.size, hb.block⟩
  have HB3 := Lib.hid hb
  clear hb
  go_wp2_with fail
  refine hK.out _ _ (by exact ⟨(HS.out.below HB3.out).cell 0, (HS.out.below HB3.out).cell 1, (HE.out.below HB3.out).cell 0, (HE.out.below HB3.out).cell 1, (HE.out.below HB3.out).cell 2⟩) (fun hHeld => ?_)
  clear hK K
  (try simp only [Act.put, List.setIfInBounds_toArray, List.set_cons_zero, List.set_cons_succ])
  refine wpAnyH_ready (rs := [9]) (by kernel_rfl) (by simp) ?_
  refine AllReadyH.cons rfl (fun K hK => ?_) AllReadyH.nil
  go_simp
  refine (edBehind_any t a m A l c _ ht hs).mono ?_
  rintro e w4 ⟨rfl, hb⟩
  rw [HY.out]
  have hb : Below w3.heap.size w3 w4 := ⟨hb.os, hb.tape, hb.output, hb.size, hb.block⟩
  have HB4 := Lib.hid (below_then HB3.out hb)
  clear hb
  go_wp2_with fail
  refine hK.out _ _ (by exact ⟨(HS.out.below HB4.out).cell 0, (HS.out.below HB4.out).cell 1, (HE.out.below HB4.out).cell 0, (HE.out.below HB4.out).cell 1, (HE.out.below HB4.out).cell 2⟩) (fun hHeld => ?_)
  clear hK K
  (try simp only [Act.put, List.setIfInBounds_toArray, List.set_cons_zero, List.set_cons_succ])
  refine wpAnyH_take (i := 10) (oi := ?_) (v := ?_) ?_ ?_ ?_ ?_ ?_ ?_ (by exact hHeld) ?_
  rotate_left 2
  · (simp only [List.getElem?_toArray, List.getElem?_cons_zero, List.getElem?_cons_succ]; try rfl)
  · kernel_rfl
  · kernel_rfl
  · kernel_rfl
  · exact fun _ _ _ h => h
  · refine Or.inl ⟨by rfl, ?_⟩
    (intro V hSV; (try dsimp only at hSV); obtain ⟨q0, q1, q2, q3, q4⟩ := hSV; go_simp; try with_reducible rfl)
  (try simp only [Act.put, List.setIfInBounds_toArray, List.set_cons_zero, List.set_cons_succ])
  have HS4 := Lib.hid (HS.out.below HB4.out)
  have HE4 := Lib.hid (HE.out.below HB4.out)
  have HR4 := Lib.hid (HR.out.below HB4.out)
  have r0 := HR4.out.cell 0
  have r1 := HR4.out.cell 1
  have f0 := HR4.out.frozen 0
  have f1 := HR4.out.frozen 1
  refine wpAnyH_ready (rs := [11]) (by kernel_rfl) (by simp) ?_
  refine AllReadyH.cons (o := ?_) ?_ (fun K hK => ?_) AllReadyH.nil
  rotate_left 1
  · (simp only [List.getElem?_toArray, List.getElem?_cons_zero, List.getElem?_cons_succ]; try rfl)
  go_simp
  refine hK.out _ _ (by exact ⟨((HS4.out.setFar9 (by omega) 0 (.int .i64 x)).setFar9 (by omega) 1 (.int .i64 y)).cell 0, ((HS4.out.setFar9 (by omega) 0 (.int .i64 x)).setFar9 (by omega) 1 (.int .i64 y)).cell 1, ((HE4.out.setFar9 (by omega) 0 (.int .i64 x)).setFar9 (by omega) 1 (.int .i64 y)).cell 0, ((HE4.out.setFar9 (by omega) 0 (.int .i64 x)).setFar9 (by omega) 1 (.int .i64 y)).cell 1, ((HE4.out.setFar9 (by omega) 0 (.int .i64 x)).setFar9 (by omega) 1 (.int .i64 y)).cell 2⟩) (fun hHeld => ?_)
  clear hK K
  (try simp only [Act.put, List.setIfInBounds_toArray, List.set_cons_zero, List.set_cons_succ])
  refine wpAnyH_done (by kernel_rfl) ?_ _
  have hlt := HR4.out.lt
  have hB := below_then HAL.out HB4.out
  go_wp2
  refine bodyPost_ret (v := .agg #[.int .i64 x, .int .i64 y]) (by simp [results, Try.results135, go_sem, r0, r1]) rfl ⟨rfl, ?_⟩
  (repeat (first | exact Below.refl _ _ | assumption | refine Below.setCell ?_ (by first | (simp; done) | (simp; omega) | omega) _ | refine Below.drew ?_ | refine below_drewN ?_ _ | refine Below.alloc ?_ (by first | (simp; done) | (simp; omega) | omega) _))

set_option maxHeartbeats 8000000 in
theorem selMoved_tf (f t a m : Int) (A : Option Addr) (l : List UInt8) (c : Nat) (w : World) (hf : 0 ≤ f ∧ f ≤ 800) (ht : 0 ≤ t ∧ t ≤ 800) (hs : 0 ≤ a ∧ a ≤ 400 ∧ 0 ≤ m ∧ m ≤ 400 ∧ l.length ≤ 400) :
    Calls Try.prog 135 #[.agg #[.int .i64 f, .int .i64 t], .agg #[.int .i64 a, .int .i64 m, .slice A l.length c], .func (.func 136) #[] #[], .func (.func 137) #[] #[]] w fun e w' => e = .returned (.agg #[.int .i64 (mvTo f a m l.length (a + l.length)), .int .i64 (mvTo t a m l.length a)]) ∧ Below w.heap.size w w' := by
  have hal := (((Below.refl w.heap.size w).alloc (Nat.le_refl _) (.cells #[.int .i64 f, .int .i64 t] 156)).alloc (by simp) (.cells #[.int .i64 a, .int .i64 m, .slice A l.length c] 37)).alloc (by simp; omega) (.cells #[.int .i64 0, .int .i64 0] 156)
  have bS := ((Blk.new w #[.int .i64 f, .int .i64 t] 156).below ((Below.refl _ _).alloc (Nat.le_refl _) (.cells #[.int .i64 a, .int .i64 m, .slice A l.length c] 37))).below ((Below.refl _ _).alloc (Nat.le_refl _) (.cells #[.int .i64 0, .int .i64 0] 156))
  have bE := (EBox.new (w.alloc (.cells #[.int .i64 f, .int .i64 t] 156)) a m A l.length c).below ((Below.refl _ _).alloc (Nat.le_refl _) (.cells #[.int .i64 0, .int .i64 0] 156))
  have bR := Blk.new ((w.alloc (.cells #[.int .i64 f, .int .i64 t] 156)).alloc (.cells #[.int .i64 a, .int .i64 m, .slice A l.length c] 37)) #[.int .i64 0, .int .i64 0] 156
  simp only [World.size_alloc] at bE bR
  obtain ⟨x, hx⟩ : ∃ x, mvTo f a m l.length (a + l.length) = x := ⟨_, rfl⟩
  obtain ⟨y, hy⟩ : ∃ y, mvTo t a m l.length a = y := ⟨_, rfl⟩
  have HX := Lib.hid hx
  have HY := Lib.hid hy
  rw [hx, hy]
  clear hx hy
  go_enter Try.func135, Try.ntmps135
  go_wp2_with fail
  generalize ((w.alloc (.cells #[.int .i64 f, .int .i64 t] 156)).alloc (.cells #[.int .i64 a, .int .i64 m, .slice A l.length c] 37)).alloc (.cells #[.int .i64 0, .int .i64 0] 156) = W1 at *
  have s0 := bS.cell 0
  have s1 := bS.cell 1
  have k0 := bE.c0
  have k1 := bE.c1
  have k2 := bE.c2
  have HS := Lib.hid bS
  have HE := Lib.hid bE.blk
  have HR := Lib.hid bR
  have HAL := Lib.hid hal
  clear bS bE bR hal
  refine wp_region_held_drew (S := (fun V => (V).cell? ⟨w.heap.size, 0, none⟩ = some (.int .i64 f) ∧ (V).cell? ⟨w.heap.size, 1, none⟩ = some (.int .i64 t) ∧ (V).cell? ⟨w.heap.size + 1, 0, none⟩ = some (.int .i64 a) ∧ (V).cell? ⟨w.heap.size + 1, 1, none⟩ = some (.int .i64 m) ∧ (V).cell? ⟨w.heap.size + 1, 2, none⟩ = some (.slice A l.length c))) (by kernel_rfl) (by exact ⟨s0, s1, k0, k1, k2⟩) (fun hHeld => ?_)
  clear s0 s1 k0 k1 k2
  refine wpAnyH_take (i := 0) (oi := ?_) (v := ?_) ?_ ?_ ?_ ?_ ?_ ?_ (by exact hHeld) ?_
  rotate_left 2
  · (simp only [List.getElem?_toArray, List.getElem?_cons_zero]; try rfl)
  · kernel_rfl
  · kernel_rfl
  · kernel_rfl
  · exact fun _ _ _ h => h
  · refine Or.inl ⟨by rfl, ?_⟩
    (intro V hSV; (try dsimp only at hSV); obtain ⟨q0, q1, q2, q3, q4⟩ := hSV; go_simp; try with_reducible rfl)
  (try simp only [Act.put, List.setIfInBounds_toArray, List.set_cons_zero, List.set_cons_succ])
  refine wpAnyH_take (i := 1) (oi := ?_) (v := ?_) ?_ ?_ ?_ ?_ ?_ ?_ (by exact hHeld) ?_
  rotate_left 2
  · (simp only [List.getElem?_toArray, List.getElem?_cons_zero, List.getElem?_cons_succ]; try rfl)
  · kernel_rfl
  · kernel_rfl
  · kernel_rfl
  · exact fun _ _ _ h => h
  · refine Or.inl ⟨by rfl, ?_⟩
    (intro V hSV; (try dsimp only at hSV); obtain ⟨q0, q1, q2, q3, q4⟩ := hSV; go_simp; try with_reducible rfl)
  (try simp only [Act.put, List.setIfInBounds_toArray, List.set_cons_zero, List.set_cons_succ])
  refine wpAnyH_take (i := 2) (oi := ?_) (v := ?_) ?_ ?_ ?_ ?_ ?_ ?_ (by exact hHeld) ?_
  rotate_left 2
  · (simp only [List.getElem?_toArray, List.getElem?_cons_zero, List.getElem?_cons_succ]; try rfl)
  · kernel_rfl
  · kernel_rfl
  · kernel_rfl
  · exact fun _ _ _ h => h
  · refine Or.inl ⟨by rfl, ?_⟩
    (intro V hSV; (try dsimp only at hSV); obtain ⟨q0, q1, q2, q3, q4⟩ := hSV; go_simp; try with_reducible rfl)
  (try simp only [Act.put, List.setIfInBounds_toArray, List.set_cons_zero, List.set_cons_succ])
  refine wpAnyH_take (i := 3) (oi := ?_) (v := ?_) ?_ ?_ ?_ ?_ ?_ ?_ (by exact hHeld) ?_
  rotate_left 2
  · (simp only [List.getElem?_toArray, List.getElem?_cons_zero, List.getElem?_cons_succ]; try rfl)
  · kernel_rfl
  · kernel_rfl
  · kernel_rfl
  · exact fun _ _ _ h => h
  · refine Or.inl ⟨by rfl, ?_⟩
    (intro V hSV; (try dsimp only at hSV); obtain ⟨q0, q1, q2, q3, q4⟩ := hSV; go_simp; try with_reducible rfl)
  (try simp only [Act.put, List.setIfInBounds_toArray, List.set_cons_zero, List.set_cons_succ])
  refine wpAnyH_take (i := 5) (oi := ?_) (v := ?_) ?_ ?_ ?_ ?_ ?_ ?_ (by exact hHeld) ?_
  rotate_left 2
  · (simp only [List.getElem?_toArray, List.getElem?_cons_zero, List.getElem?_cons_succ]; try rfl)
  · kernel_rfl
  · kernel_rfl
  · kernel_rfl
  · exact fun _ _ _ h => h
  · refine Or.inl ⟨by rfl, ?_⟩
    (intro V hSV; (try dsimp only at hSV); obtain ⟨q0, q1, q2, q3, q4⟩ := hSV; go_simp; try with_reducible rfl)
  (try simp only [Act.put, List.setIfInBounds_toArray, List.set_cons_zero, List.set_cons_succ])
  refine wpAnyH_take (i := 6) (oi := ?_) (v := ?_) ?_ ?_ ?_ ?_ ?_ ?_ (by exact hHeld) ?_
  rotate_left 2
  · (simp only [List.getElem?_toArray, List.getElem?_cons_zero, List.getElem?_cons_succ]; try rfl)
  · kernel_rfl
  · kernel_rfl
  · kernel_rfl
  · exact fun _ _ _ h => h
  · refine Or.inl ⟨by rfl, ?_⟩
    (intro V hSV; (try dsimp only at hSV); obtain ⟨q0, q1, q2, q3, q4⟩ := hSV; go_simp; try with_reducible rfl)
  (try simp only [Act.put, List.setIfInBounds_toArray, List.set_cons_zero, List.set_cons_succ])
  refine wpAnyH_take (i := 7) (oi := ?_) (v := ?_) ?_ ?_ ?_ ?_ ?_ ?_ (by exact hHeld) ?_
  rotate_left 2
  · (simp only [List.getElem?_toArray, List.getElem?_cons_zero, List.getElem?_cons_succ]; try rfl)
  · kernel_rfl
  · kernel_rfl
  · kernel_rfl
  · exact fun _ _ _ h => h
  · refine Or.inl ⟨by rfl, ?_⟩
    (intro V hSV; (try dsimp only at hSV); obtain ⟨q0, q1, q2, q3, q4⟩ := hSV; go_simp; try with_reducible rfl)
  (try simp only [Act.put, List.setIfInBounds_toArray, List.set_cons_zero, List.set_cons_succ])
  refine wpAnyH_take (i := 8) (oi := ?_) (v := ?_) ?_ ?_ ?_ ?_ ?_ ?_ (by exact hHeld) ?_
  rotate_left 2
  · (simp only [List.getElem?_toArray, List.getElem?_cons_zero, List.getElem?_cons_succ]; try rfl)
  · kernel_rfl
  · kernel_rfl
  · kernel_rfl
  · exact fun _ _ _ h => h
  · refine Or.inl ⟨by rfl, ?_⟩
    (intro V hSV; (try dsimp only at hSV); obtain ⟨q0, q1, q2, q3, q4⟩ := hSV; go_simp; try with_reducible rfl)
  (try simp only [Act.put, List.setIfInBounds_toArray, List.set_cons_zero, List.set_cons_succ])
  refine wpAnyH_ready (rs := [4]) (by kernel_rfl) (by simp) ?_
  refine AllReadyH.cons rfl (fun K hK => ?_) AllReadyH.nil
  go_simp
  refine (edBehind_any f a m A l c _ hf hs).mono ?_
  rintro e w3 ⟨rfl, hb⟩
  rw [HX.out]
  have hb : Below W1.heap.size W1 w3 := ⟨hb.os, hb.tape, hb.output, hb.size, hb.block⟩
  have HB3 := Lib.hid hb
  clear hb
  go_wp2_with fail
  refine hK.out _ _ (by exact ⟨(HS.out.below HB3.out).cell 0, (HS.out.below HB3.out).cell 1, (HE.out.below HB3.out).cell 0, (HE.out.below HB3.out).cell 1, (HE.out.below HB3.out).cell 2⟩) (fun hHeld => ?_)
  clear hK K
  (try simp only [Act.put, List.setIfInBounds_toArray, List.set_cons_zero, List.set_cons_succ])
  refine wpAnyH_ready (rs := [9]) (by kernel_rfl) (by simp) ?_
  refine AllReadyH.cons rfl (fun K hK => ?_) AllReadyH.nil
  go_simp
  refine (edBefore_any t a m A l c _ ht hs).mono ?_
  rintro e w4 ⟨rfl, hb⟩
  rw [HY.out]
  have hb : Below w3.heap.size w3 w4 := ⟨hb.os, hb.tape, hb.output, hb.size, hb.block⟩
  have HB4 := Lib.hid (below_then HB3.out hb)
  clear hb
  go_wp2_with fail
  refine hK.out _ _ (by exact ⟨(HS.out.below HB4.out).cell 0, (HS.out.below HB4.out).cell 1, (HE.out.below HB4.out).cell 0, (HE.out.below HB4.out).cell 1, (HE.out.below HB4.out).cell 2⟩) (fun hHeld => ?_)
  clear hK K
  (try simp only [Act.put, List.setIfInBounds_toArray, List.set_cons_zero, List.set_cons_succ])
  refine wpAnyH_take (i := 10) (oi := ?_) (v := ?_) ?_ ?_ ?_ ?_ ?_ ?_ (by exact hHeld) ?_
  rotate_left 2
  · (simp only [List.getElem?_toArray, List.getElem?_cons_zero, List.getElem?_cons_succ]; try rfl)
  · kernel_rfl
  · kernel_rfl
  · kernel_rfl
  · exact fun _ _ _ h => h
  · refine Or.inl ⟨by rfl, ?_⟩
    (intro V hSV; (try dsimp only at hSV); obtain ⟨q0, q1, q2, q3, q4⟩ := hSV; go_simp; try with_reducible rfl)
  (try simp only [Act.put, List.setIfInBounds_toArray, List.set_cons_zero, List.set_cons_succ])
  have HS4 := Lib.hid (HS.out.below HB4.out)
  have HE4 := Lib.hid (HE.out.below HB4.out)
  have HR4 := Lib.hid (HR.out.below HB4.out)
  have r0 := HR4.out.cell 0
  have r1 := HR4.out.cell 1
  have f0 := HR4.out.frozen 0
  have f1 := HR4.out.frozen 1
  refine wpAnyH_ready (rs := [11]) (by kernel_rfl) (by simp) ?_
  refine AllReadyH.cons (o := ?_) ?_ (fun K hK => ?_) AllReadyH.nil
  rotate_left 1
  · (simp only [List.getElem?_toArray, List.getElem?_cons_zero, List.getElem?_cons_succ]; try rfl)
  go_simp
  refine hK.out _ _ (by exact ⟨((HS4.out.setFar9 (by omega) 0 (.int .i64 x)).setFar9 (by omega) 1 (.int .i64 y)).cell 0, ((HS4.out.setFar9 (by omega) 0 (.int .i64 x)).setFar9 (by omega) 1 (.int .i64 y)).cell 1, ((HE4.out.setFar9 (by omega) 0 (.int .i64 x)).setFar9 (by omega) 1 (.int .i64 y)).cell 0, ((HE4.out.setFar9 (by omega) 0 (.int .i64 x)).setFar9 (by omega) 1 (.int .i64 y)).cell 1, ((HE4.out.setFar9 (by omega) 0 (.int .i64 x)).setFar9 (by omega) 1 (.int .i64 y)).cell 2⟩) (fun hHeld => ?_)
  clear hK K
  (try simp only [Act.put, List.setIfInBounds_toArray, List.set_cons_zero, List.set_cons_succ])
  refine wpAnyH_done (by kernel_rfl) ?_ _
  have hlt := HR4.out.lt
  have hB := below_then HAL.out HB4.out
  go_wp2
  refine bodyPost_ret (v := .agg #[.int .i64 x, .int .i64 y]) (by simp [results, Try.results135, go_sem, r0, r1]) rfl ⟨rfl, ?_⟩
  (repeat (first | exact Below.refl _ _ | assumption | refine Below.setCell ?_ (by first | (simp; done) | (simp; omega) | omega) _ | refine Below.drew ?_ | refine below_drewN ?_ _ | refine Below.alloc ?_ (by first | (simp; done) | (simp; omega) | omega) _))

set_option maxHeartbeats 8000000 in
theorem selMoved_tt (f t a m : Int) (A : Option Addr) (l : List UInt8) (c : Nat) (w : World) (hf : 0 ≤ f ∧ f ≤ 800) (ht : 0 ≤ t ∧ t ≤ 800) (hs : 0 ≤ a ∧ a ≤ 400 ∧ 0 ≤ m ∧ m ≤ 400 ∧ l.length ≤ 400) :
    Calls Try.prog 135 #[.agg #[.int .i64 f, .int .i64 t], .agg #[.int .i64 a, .int .i64 m, .slice A l.length c], .func (.func 136) #[] #[], .func (.func 136) #[] #[]] w fun e w' => e = .returned (.agg #[.int .i64 (mvTo f a m l.length (a + l.length)), .int .i64 (mvTo t a m l.length (a + l.length))]) ∧ Below w.heap.size w w' := by
  have hal := (((Below.refl w.heap.size w).alloc (Nat.le_refl _) (.cells #[.int .i64 f, .int .i64 t] 156)).alloc (by simp) (.cells #[.int .i64 a, .int .i64 m, .slice A l.length c] 37)).alloc (by simp; omega) (.cells #[.int .i64 0, .int .i64 0] 156)
  have bS := ((Blk.new w #[.int .i64 f, .int .i64 t] 156).below ((Below.refl _ _).alloc (Nat.le_refl _) (.cells #[.int .i64 a, .int .i64 m, .slice A l.length c] 37))).below ((Below.refl _ _).alloc (Nat.le_refl _) (.cells #[.int .i64 0, .int .i64 0] 156))
  have bE := (EBox.new (w.alloc (.cells #[.int .i64 f, .int .i64 t] 156)) a m A l.length c).below ((Below.refl _ _).alloc (Nat.le_refl _) (.cells #[.int .i64 0, .int .i64 0] 156))
  have bR := Blk.new ((w.alloc (.cells #[.int .i64 f, .int .i64 t] 156)).alloc (.cells #[.int .i64 a, .int .i64 m, .slice A l.length c] 37)) #[.int .i64 0, .int .i64 0] 156
  simp only [World.size_alloc] at bE bR
  obtain ⟨x, hx⟩ : ∃ x, mvTo f a m l.length (a + l.length) = x := ⟨_, rfl⟩
  obtain ⟨y, hy⟩ : ∃ y, mvTo t a m l.length (a + l.length) = y := ⟨_, rfl⟩
  have HX := Lib.hid hx
  have HY := Lib.hid hy
  rw [hx, hy]
  clear hx hy
  go_enter Try.func135, Try.ntmps135
  go_wp2_with fail
  generalize ((w.alloc (.cells #[.int .i64 f, .int .i64 t] 156)).alloc (.cells #[.int .i64 a, .int .i64 m, .slice A l.length c] 37)).alloc (.cells #[.int .i64 0, .int .i64 0] 156) = W1 at *
  have s0 := bS.cell 0
  have s1 := bS.cell 1
  have k0 := bE.c0
  have k1 := bE.c1
  have k2 := bE.c2
  have HS := Lib.hid bS
  have HE := Lib.hid bE.blk
  have HR := Lib.hid bR
  have HAL := Lib.hid hal
  clear bS bE bR hal
  refine wp_region_held_drew (S := (fun V => (V).cell? ⟨w.heap.size, 0, none⟩ = some (.int .i64 f) ∧ (V).cell? ⟨w.heap.size, 1, none⟩ = some (.int .i64 t) ∧ (V).cell? ⟨w.heap.size + 1, 0, none⟩ = some (.int .i64 a) ∧ (V).cell? ⟨w.heap.size + 1, 1, none⟩ = some (.int .i64 m) ∧ (V).cell? ⟨w.heap.size + 1, 2, none⟩ = some (.slice A l.length c))) (by kernel_rfl) (by exact ⟨s0, s1, k0, k1, k2⟩) (fun hHeld => ?_)
  clear s0 s1 k0 k1 k2
  refine wpAnyH_take (i := 0) (oi := ?_) (v := ?_) ?_ ?_ ?_ ?_ ?_ ?_ (by exact hHeld) ?_
  rotate_left 2
  · (simp only [List.getElem?_toArray, List.getElem?_cons_zero]; try rfl)
  · kernel_rfl
  · kernel_rfl
  · kernel_rfl
  · exact fun _ _ _ h => h
  · refine Or.inl ⟨by rfl, ?_⟩
    (intro V hSV; (try dsimp only at hSV); obtain ⟨q0, q1, q2, q3, q4⟩ := hSV; go_simp; try with_reducible rfl)
  (try simp only [Act.put, List.setIfInBounds_toArray, List.set_cons_zero, List.set_cons_succ])
  refine wpAnyH_take (i := 1) (oi := ?_) (v := ?_) ?_ ?_ ?_ ?_ ?_ ?_ (by exact hHeld) ?_
  rotate_left 2
  · (simp only [List.getElem?_toArray, List.getElem?_cons_zero, List.getElem?_cons_succ]; try rfl)
  · kernel_rfl
  · kernel_rfl
  · kernel_rfl
  · exact fun _ _ _ h => h
  · refine Or.inl ⟨by rfl, ?_⟩
    (intro V hSV; (try dsimp only at hSV); obtain ⟨q0, q1, q2, q3, q4⟩ := hSV; go_simp; try with_reducible rfl)
  (try simp only [Act.put, List.setIfInBounds_toArray, List.set_cons_zero, List.set_cons_succ])
  refine wpAnyH_take (i := 2) (oi := ?_) (v := ?_) ?_ ?_ ?_ ?_ ?_ ?_ (by exact hHeld) ?_
  rotate_left 2
  · (simp only [List.getElem?_toArray, List.getElem?_cons_zero, List.getElem?_cons_succ]; try rfl)
  · kernel_rfl
  · kernel_rfl
  · kernel_rfl
  · exact fun _ _ _ h => h
  · refine Or.inl ⟨by rfl, ?_⟩
    (intro V hSV; (try dsimp only at hSV); obtain ⟨q0, q1, q2, q3, q4⟩ := hSV; go_simp; try with_reducible rfl)
  (try simp only [Act.put, List.setIfInBounds_toArray, List.set_cons_zero, List.set_cons_succ])
  refine wpAnyH_take (i := 3) (oi := ?_) (v := ?_) ?_ ?_ ?_ ?_ ?_ ?_ (by exact hHeld) ?_
  rotate_left 2
  · (simp only [List.getElem?_toArray, List.getElem?_cons_zero, List.getElem?_cons_succ]; try rfl)
  · kernel_rfl
  · kernel_rfl
  · kernel_rfl
  · exact fun _ _ _ h => h
  · refine Or.inl ⟨by rfl, ?_⟩
    (intro V hSV; (try dsimp only at hSV); obtain ⟨q0, q1, q2, q3, q4⟩ := hSV; go_simp; try with_reducible rfl)
  (try simp only [Act.put, List.setIfInBounds_toArray, List.set_cons_zero, List.set_cons_succ])
  refine wpAnyH_take (i := 5) (oi := ?_) (v := ?_) ?_ ?_ ?_ ?_ ?_ ?_ (by exact hHeld) ?_
  rotate_left 2
  · (simp only [List.getElem?_toArray, List.getElem?_cons_zero, List.getElem?_cons_succ]; try rfl)
  · kernel_rfl
  · kernel_rfl
  · kernel_rfl
  · exact fun _ _ _ h => h
  · refine Or.inl ⟨by rfl, ?_⟩
    (intro V hSV; (try dsimp only at hSV); obtain ⟨q0, q1, q2, q3, q4⟩ := hSV; go_simp; try with_reducible rfl)
  (try simp only [Act.put, List.setIfInBounds_toArray, List.set_cons_zero, List.set_cons_succ])
  refine wpAnyH_take (i := 6) (oi := ?_) (v := ?_) ?_ ?_ ?_ ?_ ?_ ?_ (by exact hHeld) ?_
  rotate_left 2
  · (simp only [List.getElem?_toArray, List.getElem?_cons_zero, List.getElem?_cons_succ]; try rfl)
  · kernel_rfl
  · kernel_rfl
  · kernel_rfl
  · exact fun _ _ _ h => h
  · refine Or.inl ⟨by rfl, ?_⟩
    (intro V hSV; (try dsimp only at hSV); obtain ⟨q0, q1, q2, q3, q4⟩ := hSV; go_simp; try with_reducible rfl)
  (try simp only [Act.put, List.setIfInBounds_toArray, List.set_cons_zero, List.set_cons_succ])
  refine wpAnyH_take (i := 7) (oi := ?_) (v := ?_) ?_ ?_ ?_ ?_ ?_ ?_ (by exact hHeld) ?_
  rotate_left 2
  · (simp only [List.getElem?_toArray, List.getElem?_cons_zero, List.getElem?_cons_succ]; try rfl)
  · kernel_rfl
  · kernel_rfl
  · kernel_rfl
  · exact fun _ _ _ h => h
  · refine Or.inl ⟨by rfl, ?_⟩
    (intro V hSV; (try dsimp only at hSV); obtain ⟨q0, q1, q2, q3, q4⟩ := hSV; go_simp; try with_reducible rfl)
  (try simp only [Act.put, List.setIfInBounds_toArray, List.set_cons_zero, List.set_cons_succ])
  refine wpAnyH_take (i := 8) (oi := ?_) (v := ?_) ?_ ?_ ?_ ?_ ?_ ?_ (by exact hHeld) ?_
  rotate_left 2
  · (simp only [List.getElem?_toArray, List.getElem?_cons_zero, List.getElem?_cons_succ]; try rfl)
  · kernel_rfl
  · kernel_rfl
  · kernel_rfl
  · exact fun _ _ _ h => h
  · refine Or.inl ⟨by rfl, ?_⟩
    (intro V hSV; (try dsimp only at hSV); obtain ⟨q0, q1, q2, q3, q4⟩ := hSV; go_simp; try with_reducible rfl)
  (try simp only [Act.put, List.setIfInBounds_toArray, List.set_cons_zero, List.set_cons_succ])
  refine wpAnyH_ready (rs := [4]) (by kernel_rfl) (by simp) ?_
  refine AllReadyH.cons rfl (fun K hK => ?_) AllReadyH.nil
  go_simp
  refine (edBehind_any f a m A l c _ hf hs).mono ?_
  rintro e w3 ⟨rfl, hb⟩
  rw [HX.out]
  have hb : Below W1.heap.size W1 w3 := ⟨hb.os, hb.tape, hb.output, hb.size, hb.block⟩
  have HB3 := Lib.hid hb
  clear hb
  go_wp2_with fail
  refine hK.out _ _ (by exact ⟨(HS.out.below HB3.out).cell 0, (HS.out.below HB3.out).cell 1, (HE.out.below HB3.out).cell 0, (HE.out.below HB3.out).cell 1, (HE.out.below HB3.out).cell 2⟩) (fun hHeld => ?_)
  clear hK K
  (try simp only [Act.put, List.setIfInBounds_toArray, List.set_cons_zero, List.set_cons_succ])
  refine wpAnyH_ready (rs := [9]) (by kernel_rfl) (by simp) ?_
  refine AllReadyH.cons rfl (fun K hK => ?_) AllReadyH.nil
  go_simp
  refine (edBehind_any t a m A l c _ ht hs).mono ?_
  rintro e w4 ⟨rfl, hb⟩
  rw [HY.out]
  have hb : Below w3.heap.size w3 w4 := ⟨hb.os, hb.tape, hb.output, hb.size, hb.block⟩
  have HB4 := Lib.hid (below_then HB3.out hb)
  clear hb
  go_wp2_with fail
  refine hK.out _ _ (by exact ⟨(HS.out.below HB4.out).cell 0, (HS.out.below HB4.out).cell 1, (HE.out.below HB4.out).cell 0, (HE.out.below HB4.out).cell 1, (HE.out.below HB4.out).cell 2⟩) (fun hHeld => ?_)
  clear hK K
  (try simp only [Act.put, List.setIfInBounds_toArray, List.set_cons_zero, List.set_cons_succ])
  refine wpAnyH_take (i := 10) (oi := ?_) (v := ?_) ?_ ?_ ?_ ?_ ?_ ?_ (by exact hHeld) ?_
  rotate_left 2
  · (simp only [List.getElem?_toArray, List.getElem?_cons_zero, List.getElem?_cons_succ]; try rfl)
  · kernel_rfl
  · kernel_rfl
  · kernel_rfl
  · exact fun _ _ _ h => h
  · refine Or.inl ⟨by rfl, ?_⟩
    (intro V hSV; (try dsimp only at hSV); obtain ⟨q0, q1, q2, q3, q4⟩ := hSV; go_simp; try with_reducible rfl)
  (try simp only [Act.put, List.setIfInBounds_toArray, List.set_cons_zero, List.set_cons_succ])
  have HS4 := Lib.hid (HS.out.below HB4.out)
  have HE4 := Lib.hid (HE.out.below HB4.out)
  have HR4 := Lib.hid (HR.out.below HB4.out)
  have r0 := HR4.out.cell 0
  have r1 := HR4.out.cell 1
  have f0 := HR4.out.frozen 0
  have f1 := HR4.out.frozen 1
  refine wpAnyH_ready (rs := [11]) (by kernel_rfl) (by simp) ?_
  refine AllReadyH.cons (o := ?_) ?_ (fun K hK => ?_) AllReadyH.nil
  rotate_left 1
  · (simp only [List.getElem?_toArray, List.getElem?_cons_zero, List.getElem?_cons_succ]; try rfl)
  go_simp
  refine hK.out _ _ (by exact ⟨((HS4.out.setFar9 (by omega) 0 (.int .i64 x)).setFar9 (by omega) 1 (.int .i64 y)).cell 0, ((HS4.out.setFar9 (by omega) 0 (.int .i64 x)).setFar9 (by omega) 1 (.int .i64 y)).cell 1, ((HE4.out.setFar9 (by omega) 0 (.int .i64 x)).setFar9 (by omega) 1 (.int .i64 y)).cell 0, ((HE4.out.setFar9 (by omega) 0 (.int .i64 x)).setFar9 (by omega) 1 (.int .i64 y)).cell 1, ((HE4.out.setFar9 (by omega) 0 (.int .i64 x)).setFar9 (by omega) 1 (.int .i64 y)).cell 2⟩) (fun hHeld => ?_)
  clear hK K
  (try simp only [Act.put, List.setIfInBounds_toArray, List.set_cons_zero, List.set_cons_succ])
  refine wpAnyH_done (by kernel_rfl) ?_ _
  have hlt := HR4.out.lt
  have hB := below_then HAL.out HB4.out
  go_wp2
  refine bodyPost_ret (v := .agg #[.int .i64 x, .int .i64 y]) (by simp [results, Try.results135, go_sem, r0, r1]) rfl ⟨rfl, ?_⟩
  (repeat (first | exact Below.refl _ _ | assumption | refine Below.setCell ?_ (by first | (simp; done) | (simp; omega) | omega) _ | refine Below.drew ?_ | refine below_drewN ?_ _ | refine Below.alloc ?_ (by first | (simp; done) | (simp; omega) | omega) _))
end Go.Proofs.Ytgpjjolgpppeeaa

namespace Go.Proofs.Ytgpjjolgpppeeaa
open Go.RowKit P
set_option linter.unusedVariables false
set_option linter.unusedSimpArgs false
set_option maxRecDepth 100000

set_option maxHeartbeats 8000000 in
theorem implSpanMove_any (i j a m : Int) (A : Option Addr) (l : List UInt8) (c : Nat) (w : World) (hl9 : l.length ≤ 9223372036854775807) :
    Calls Try.prog 86 #[.int .i64 i, .int .i64 j, .agg #[.int .i64 a, .int .i64 m, .slice A l.length c]] w fun e w' => e = .returned (.tuple #[.int .i64 (spanI i j a m l), .int .i64 (spanJ i j a m l)]) ∧ Below w.heap.size w w' := by
  have hal := (Below.refl w.heap.size w).alloc (Nat.le_refl _) (.cells #[.int .i64 a, .int .i64 m, .slice A l.length c] 37)
  have bE := EBox.new w a m A l.length c
  obtain ⟨z1, h1⟩ : ∃ z, edSmall a m l = z := ⟨_, rfl⟩
  obtain ⟨z2, h2⟩ : ∃ z, isPlace i = z := ⟨_, rfl⟩
  obtain ⟨z3, h3⟩ : ∃ z, isPlace j = z := ⟨_, rfl⟩
  obtain ⟨R, hR⟩ : ∃ R, spanI i j a m l = R := ⟨_, rfl⟩
  obtain ⟨T, hT⟩ : ∃ R, spanJ i j a m l = R := ⟨_, rfl⟩
  have hok : spanOk i j a m l = (z1 && (z2 && (z3 && decide (i ≤ j)))) := by rw [← h1, ← h2, ← h3]; rfl
  have hno : (z1 && (z2 && (z3 && decide (i ≤ j)))) = false → R = -1 ∧ T = -1 := fun h => by
    rw [← hR, ← hT]; exact spanI_no (hok.trans h)
  have hyes : (z1 && (z2 && (z3 && decide (i ≤ j)))) = true → R = mvTo i a m l.length (a + l.length) ∧ T = max (mvTo i a m l.length (a + l.length)) (mvTo j a m l.length a) := fun h => by
    rw [← hR, ← hT]; exact spanI_yes (hok.trans h)
  rw [hR, hT]
  have H1 := Lib.hid h1
  have H2 := Lib.hid h2
  have H3 := Lib.hid h3
  have HN := Lib.hid hno
  have HY := Lib.hid hyes
  clear h1 h2 h3 hR hT hok hno hyes
  go_enter Try.func86, Try.ntmps86
  go_wp2_with fail
  generalize w.alloc (.cells #[.int .i64 a, .int .i64 m, .slice A l.length c] 37) = W1 at *
  have k0 := bE.c0
  have k1 := bE.c1
  have k2 := bE.c2
  refine (isSmall_any a m A l c _ hl9).mono ?_
  rintro e w2 ⟨rfl, hb2⟩
  rw [H1.out]
  have bE := bE.below hb2
  have hal := below_then hal hb2
  clear k0 k1 k2 hb2
  have k0 := bE.c0
  have k1 := bE.c1
  have k2 := bE.c2
  cases z1
  · obtain ⟨e1, e2⟩ := HN.out rfl
    subst e1; subst e2
    go_wp2
    go_ret2
    exact ⟨rfl, hal⟩
  go_wp2_with fail
  refine (isSmallPlace_e i z2 _ H2.out).mono ?_
  rintro e w3 ⟨rfl, rfl⟩
  cases z2
  · obtain ⟨e1, e2⟩ := HN.out rfl
    subst e1; subst e2
    go_wp2
    go_ret2
    exact ⟨rfl, hal⟩
  go_wp2_with fail
  refine (isSmallPlace_e j z3 _ H3.out).mono ?_
  rintro e w3 ⟨rfl, rfl⟩
  cases z3
  · obtain ⟨e1, e2⟩ := HN.out rfl
    subst e1; subst e2
    go_wp2
    go_ret2
    exact ⟨rfl, hal⟩
  have s := (edSmall_iff a m l).1 H1.out
  have q1 := (isPlace_iff i).1 H2.out
  have q2 := (isPlace_iff j).1 H3.out
  by_cases hij : j < i
  · obtain ⟨e1, e2⟩ := HN.out (by rw [decide_eq_false (show ¬ i ≤ j by omega)]; rfl)
    subst e1; subst e2
    go_wp2
    go_ret2
    exact ⟨rfl, hal⟩
  obtain ⟨e1, e2⟩ := HY.out (by rw [decide_eq_true (show i ≤ j by omega)]; rfl)
  obtain ⟨x, hx⟩ : ∃ x, mvTo i a m l.length (a + l.length) = x := ⟨_, rfl⟩
  obtain ⟨y, hy⟩ : ∃ y, mvTo j a m l.length a = y := ⟨_, rfl⟩
  rw [hx] at e1 e2
  rw [hy] at e2
  have HX := Lib.hid hx
  have HYY := Lib.hid hy
  have E2 := Lib.hid e2
  subst e1
  clear hx hy e2
  go_wp2_with fail
  refine (selMoved_tf i j a m A l c _ q1 q2 s).mono ?_
  rintro e w4 ⟨rfl, hb4⟩
  rw [HX.out, HYY.out]
  have hal := (below_then hal hb4).alloc (by have := hal.size; have := hb4.size; omega) (.cells #[.int .i64 R, .int .i64 y] 156)
  have bS := Blk.new w4 #[.int .i64 R, .int .i64 y] 156
  clear k0 k1 k2 hb4 bE
  have s0 := bS.cell 0
  have s1 := bS.cell 1
  by_cases h5 : R < y
  · have e5 : T = y := by rw [E2.out]; omega
    subst e5
    have HALL := Lib.hid hal
    clear E2 hal
    go_wp2_with fail
    generalize w4.alloc (.cells #[.int .i64 R, .int .i64 T] 156) = W4 at *
    go_region
    all_goals
      go_wp2
      go_ret2
      exact ⟨rfl, below_drewN HALL.out 1⟩
  · have e5 : T = R := by rw [E2.out]; omega
    subst e5
    have HALL := Lib.hid hal
    clear E2 hal
    go_wp2_with fail
    generalize w4.alloc (.cells #[.int .i64 T, .int .i64 y] 156) = W4 at *
    go_region
    all_goals
      go_wp2
      go_ret2
      exact ⟨rfl, below_drewN HALL.out 1⟩
end Go.Proofs.Ytgpjjolgpppeeaa

/-
  Chapter 6, the program's SpanMove, hits, edits apart: contracts. Own work.
-/
namespace Go.Proofs.Ytgpjjolgpppeeaa
open Go.RowKit P
set_option linter.unusedVariables false
set_option linter.unusedSimpArgs false
set_option maxRecDepth 100000

theorem hits_no {i j a m : Int} {l : List UInt8} (h : edSmall a m l = false ∨ isPlace i = false ∨ isPlace j = false ∨ j ≤ i) : hits a m l i j = false := by
  unfold hits
  rcases h with h | h | h | h
  · rw [h]; rfl
  · rw [h]; simp
  · rw [h]; simp
  · rw [decide_eq_false (show ¬ i < j by omega)]; simp
theorem hits_yes {i j a m : Int} {l : List UInt8} (h : edSmall a m l = true) (g : isPlace i = true) (k : isPlace j = true) (q : i < j) : hits a m l i j = (decide (a < j) && decide (i < a + m)) := by
  unfold hits
  rw [h, g, k, decide_eq_true q]; rfl

set_option maxHeartbeats 4000000 in
theorem specEditHits_any (a m : Int) (A : Option Addr) (l : List UInt8) (c : Nat) (i j : Int) (w : World) (hl9 : l.length ≤ 9223372036854775807) :
    Calls Try.prog 68 #[.agg #[.int .i64 a, .int .i64 m, .slice A l.length c], .int .i64 i, .int .i64 j] w fun e w' => e = .returned (.bool (hits a m l i j)) ∧ Below w.heap.size w w' := by
  have hal := (Below.refl w.heap.size w).alloc (Nat.le_refl _) (.cells #[.int .i64 a, .int .i64 m, .slice A l.length c] 37)
  have bE := EBox.new w a m A l.length c
  obtain ⟨z1, h1⟩ : ∃ z, edSmall a m l = z := ⟨_, rfl⟩
  obtain ⟨z2, h2⟩ : ∃ z, isPlace i = z := ⟨_, rfl⟩
  obtain ⟨z3, h3⟩ : ∃ z, isPlace j = z := ⟨_, rfl⟩
  obtain ⟨R, hR⟩ : ∃ R, hits a m l i j = R := ⟨_, rfl⟩
  have hno : (z1 = false ∨ z2 = false ∨ z3 = false ∨ j ≤ i) → R = false := by
    rw [← h1, ← h2, ← h3, ← hR]; exact hits_no
  have hyes : z1 = true → z2 = true → z3 = true → i < j → R = (decide (a < j) && decide (i < a + m)) := by
    rw [← h1, ← h2, ← h3, ← hR]; exact hits_yes
  rw [hR]
  have H1 := Lib.hid h1
  have H2 := Lib.hid h2
  have H3 := Lib.hid h3
  have HN := Lib.hid hno
  have HY := Lib.hid hyes
  clear h1 h2 h3 hR hno hyes
  go_enter Try.func68, Try.ntmps68
  go_wp2_with fail
  generalize w.alloc (.cells #[.int .i64 a, .int .i64 m, .slice A l.length c] 37) = W1 at *
  have k0 := bE.c0
  have k1 := bE.c1
  have k2 := bE.c2
  refine (l05Small_any a m A l c _ hl9).mono ?_
  rintro e w2 ⟨rfl, hb2⟩
  rw [H1.out]
  have bE := bE.below hb2
  have hal := below_then hal hb2
  clear k0 k1 k2 hb2
  have k0 := bE.c0
  have k1 := bE.c1
  have k2 := bE.c2
  cases z1
  · have e1 := HN.out (.inl rfl)
    go_wp2
    go_ret
    exact ⟨ret_bool e1.symm, hal⟩
  go_wp2_with fail
  refine (l06Place_e i z2 _ H2.out).mono ?_
  rintro e w3 ⟨rfl, rfl⟩
  cases z2
  · have e1 := HN.out (.inr (.inl rfl))
    go_wp2
    go_ret
    exact ⟨ret_bool e1.symm, hal⟩
  go_wp2_with fail
  refine (l06Place_e j z3 _ H3.out).mono ?_
  rintro e w3 ⟨rfl, rfl⟩
  cases z3
  · have e1 := HN.out (.inr (.inr (.inl rfl)))
    go_wp2
    go_ret
    exact ⟨ret_bool e1.symm, hal⟩
  have s := (edSmall_iff a m l).1 H1.out
  have hwr : IntKind.i64.wrap (a + m) = a + m := IntWalk.i64_in _ ⟨by omega, by omega⟩
  by_cases hij : j ≤ i
  · have e1 := HN.out (.inr (.inr (.inr hij)))
    go_wp2
    go_ret
    exact ⟨ret_bool e1.symm, hal⟩
  have e1 := HY.out (by trivial) (by trivial) (by trivial) (by omega)
  by_cases hm : m = 0
  · subst hm
    have h00 : ((0 : Int) == 0) = true := rfl
    have e2 : R = (decide (i < a) && decide (a < j)) := by rw [e1, Bool.and_comm, show a + 0 = a by omega]
    have E2 := Lib.hid e2
    clear e1 e2
    by_cases c1 : i < a
    · have e3 : R = decide (a < j) := by rw [E2.out, decide_eq_true c1]; rfl
      have E3 := Lib.hid e3
      clear e3 E2
      go_wp2
      go_ret
      exact ⟨ret_bool E3.out.symm, hal⟩
    · have e3 : R = false := by rw [E2.out, decide_eq_false c1]; rfl
      have E3 := Lib.hid e3
      clear e3 E2
      go_wp2
      go_ret
      exact ⟨ret_bool E3.out.symm, hal⟩
  have h00 : (m == 0) = false := by simpa using hm
  have E1 := Lib.hid e1
  clear e1 hm
  by_cases c1 : a < j
  · have e3 : R = decide (i < a + m) := by rw [E1.out, decide_eq_true c1]; rfl
    have E3 := Lib.hid e3
    clear e3 E1
    go_wp2
    go_ret
    exact ⟨ret_bool E3.out.symm, hal⟩
  · have e3 : R = false := by rw [E1.out, decide_eq_false c1]; rfl
    have E3 := Lib.hid e3
    clear e3 E1
    go_wp2
    go_ret
    exact ⟨ret_bool E3.out.symm, hal⟩

set_option maxHeartbeats 4000000 in
theorem implEditHits_any (a m : Int) (A : Option Addr) (l : List UInt8) (c : Nat) (i j : Int) (w : World) (hl9 : l.length ≤ 9223372036854775807) :
    Calls Try.prog 67 #[.agg #[.int .i64 a, .int .i64 m, .slice A l.length c], .int .i64 i, .int .i64 j] w fun e w' => e = .returned (.bool (hits a m l i j)) ∧ Below w.heap.size w w' := by
  have hal := (Below.refl w.heap.size w).alloc (Nat.le_refl _) (.cells #[.int .i64 a, .int .i64 m, .slice A l.length c] 37)
  have bE := EBox.new w a m A l.length c
  obtain ⟨z1, h1⟩ : ∃ z, edSmall a m l = z := ⟨_, rfl⟩
  obtain ⟨z2, h2⟩ : ∃ z, isPlace i = z := ⟨_, rfl⟩
  obtain ⟨z3, h3⟩ : ∃ z, isPlace j = z := ⟨_, rfl⟩
  obtain ⟨R, hR⟩ : ∃ R, hits a m l i j = R := ⟨_, rfl⟩
  have hno : (z1 = false ∨ z2 = false ∨ z3 = false ∨ j ≤ i) → R = false := by
    rw [← h1, ← h2, ← h3, ← hR]; exact hits_no
  have hyes : z1 = true → z2 = true → z3 = true → i < j → R = (decide (a < j) && decide (i < a + m)) := by
    rw [← h1, ← h2, ← h3, ← hR]; exact hits_yes
  rw [hR]
  have H1 := Lib.hid h1
  have H2 := Lib.hid h2
  have H3 := Lib.hid h3
  have HN := Lib.hid hno
  have HY := Lib.hid hyes
  clear h1 h2 h3 hR hno hyes
  go_enter Try.func67, Try.ntmps67
  go_wp2_with fail
  generalize w.alloc (.cells #[.int .i64 a, .int .i64 m, .slice A l.length c] 37) = W1 at *
  have k0 := bE.c0
  have k1 := bE.c1
  have k2 := bE.c2
  refine (isSmall_any a m A l c _ hl9).mono ?_
  rintro e w2 ⟨rfl, hb2⟩
  rw [H1.out]
  have bE := bE.below hb2
  have hal := below_then hal hb2
  clear k0 k1 k2 hb2
  have k0 := bE.c0
  have k1 := bE.c1
  have k2 := bE.c2
  cases z1
  · have e1 := HN.out (.inl rfl)
    go_wp2
    go_ret
    exact ⟨ret_bool e1.symm, hal⟩
  go_wp2_with fail
  refine (isSmallPlace_e i z2 _ H2.out).mono ?_
  rintro e w3 ⟨rfl, rfl⟩
  cases z2
  · have e1 := HN.out (.inr (.inl rfl))
    go_wp2
    go_ret
    exact ⟨ret_bool e1.symm, hal⟩
  go_wp2_with fail
  refine (isSmallPlace_e j z3 _ H3.out).mono ?_
  rintro e w3 ⟨rfl, rfl⟩
  cases z3
  · have e1 := HN.out (.inr (.inr (.inl rfl)))
    go_wp2
    go_ret
    exact ⟨ret_bool e1.symm, hal⟩
  have s := (edSmall_iff a m l).1 H1.out
  have hwr : IntKind.i64.wrap (a + m) = a + m := IntWalk.i64_in _ ⟨by omega, by omega⟩
  by_cases hij : j ≤ i
  · have e1 := HN.out (.inr (.inr (.inr hij)))
    go_wp2
    go_ret
    exact ⟨ret_bool e1.symm, hal⟩
  have e1 := HY.out (by trivial) (by trivial) (by trivial) (by omega)
  have E1 := Lib.hid e1
  have HWR := Lib.hid hwr
  clear e1
  by_cases c1 : a < j
  · have e3 : R = decide (i < a + m) := by rw [E1.out, decide_eq_true c1]; rfl
    have E3 := Lib.hid e3
    clear e3 E1
    go_wp2_with fail
    refine (edEnd_any a m (a + m) A l.length c _ HWR.out).mono ?_
    rintro e w4 ⟨rfl, hb4⟩
    have hal := below_then hal hb4
    go_wp2
    go_ret
    exact ⟨ret_bool E3.out.symm, hal⟩
  · have e3 : R = false := by rw [E1.out, decide_eq_false c1]; rfl
    have E3 := Lib.hid e3
    clear e3 E1
    go_wp2
    go_ret
    exact ⟨ret_bool E3.out.symm, hal⟩
end Go.Proofs.Ytgpjjolgpppeeaa
