/-
  Lists of edits in memory: reading, owning, drawn. Own work.
-/
import Derived.Test.YtaekanhjkpoifaaDoorC05
import Derived.Test.YtaekanhjkpoifaaDoorCur10
import Derived.Test.YtaekanhjkpoifaaDoorCur6
import Derived.Test.YtaekanhjkpoifaaDoorP08c
namespace Go.Proofs.YtaekanhjkpoifaaDoor
open Go.RowKit P
set_option linter.unusedVariables false
set_option linter.unusedSimpArgs false
set_option maxRecDepth 100000

/-- The slice of edits that starts at A. -/
def Es (w : World) (A : Option Addr) (es : List Ed) : Prop := Sl 3 Lay.edit.rd w A es
theorem Es.below {w w' : World} {A : Option Addr} {es : List Ed} (h : Es w A es) (hb : Below w.heap.size w w') : Es w' A es := Sl.below (E := Lay.edit) h hb
theorem Es.at_ {w : World} {A : Option Addr} {es : List Ed} (h : Es w A es) (k : Nat) (hk : k < es.length) :
    ∃ b off a m B p d, A = some ⟨b, off, none⟩ ∧ b < w.heap.size ∧ es[k] = (a, m, p) ∧ w.cell? ⟨b, off + k * 3, none⟩ = some (.int .i64 a) ∧ w.cell? ⟨b, off + k * 3 + 1, none⟩ = some (.int .i64 m) ∧ w.cell? ⟨b, off + k * 3 + 2, none⟩ = some (.slice B p.length d) ∧
      (-9223372036854775808 ≤ a ∧ a ≤ 9223372036854775807) ∧ (-9223372036854775808 ≤ m ∧ m ≤ 9223372036854775807) ∧ p.length ≤ d ∧ d ≤ maxLen ∧ Bs w B p := by
  obtain ⟨b, off, us, hA, hlt, hus, hc, hr⟩ := h k hk
  obtain ⟨⟨a, m, p⟩, he⟩ : ∃ e, es[k] = e := ⟨_, rfl⟩
  rw [he] at hr
  obtain ⟨c1, c2, rfl, ⟨rfl, ha⟩, c3, c4, rfl, ⟨rfl, hm⟩, B, d, rfl, h1, h2, hB⟩ := hr
  refine ⟨b, off, a, m, B, p, d, hA, hlt, he, ?_, ?_, ?_, ha, hm, h1, h2, hB⟩
  · have := hc 0 (by simp); simpa using this
  · have := hc 1 (by simp); simpa [Nat.add_assoc] using this
  · have := hc 2 (by simp); simpa [Nat.add_assoc] using this

theorem Tryd.infoEd : (Tryd.prog.info? 52).map (fun i => (i.zero, i.size, i.bytes)) = some (some (.agg #[.int .i64 0, .int .i64 0, .slice none 0 0]), 3, 40) := by kernel_rfl

def Lay.edits : Lay (List Ed) := Lay.slice 52 Lay.edit

theorem Only.grownE {g : Nat} {a w w' : World} {v : Value} {l : List Ed} {fp : List Nat} (h : Only g a w) (how : Lay.edits.ow w [v] l fp) (hg : w.grownBy w' v.ownBlock) (hb : ∀ k ∈ fp, a.heap.size ≤ k) : Only g a w' :=
  ⟨hg.os.trans h.os, hg.tape.trans h.tape, hg.output.trans h.output, Nat.le_trans h.size hg.size, fun k hk hne => (hg.block k (Nat.lt_of_lt_of_le hk h.size) (fun e => by
      obtain ⟨es, _, _, _, e2⟩ := ow_one how
      have := hb k (by rw [e2, ← e]; simp)
      omega)).trans (h.block k hk hne)⟩
/-- An edit of the call's own. -/
theorem own_edit {w : World} {base : Nat} {v : Value} {p : List UInt8} {a m : Int} (ha : -9223372036854775808 ≤ a ∧ a ≤ 9223372036854775807) (hm : -9223372036854775808 ≤ m ∧ m ≤ 9223372036854775807) (h : Own w base v p) :
    Lay.edit.ow w [.int .i64 a, .int .i64 m, v] (a, m, p) v.ownBlock.toList :=
  ⟨[.int .i64 a], [.int .i64 m, v], [], v.ownBlock.toList, rfl, ⟨rfl, ha, rfl⟩, ⟨[.int .i64 m], [v], [], v.ownBlock.toList, rfl, ⟨rfl, hm, rfl⟩, h.ow, rfl⟩, rfl⟩

theorem cell_new3 {w : World} {t : TypeId} {x y z : Value} : ∀ j u, ([x, y, z] : List Value)[j]? = some u → (w.alloc (.cells #[x, y, z] t)).cell? ((⟨w.heap.size, 0, none⟩ : Addr).add j) = some u := by
  intro j u hu
  rw [add_plain, Nat.zero_add]
  have h := (Blk.new w #[x, y, z] t).cell j
  rw [h]
  match j, hu with
  | 0, hu => simpa using hu
  | 1, hu => simpa using hu
  | 2, hu => simpa using hu
end Go.Proofs.YtaekanhjkpoifaaDoor
