/-
  Strings in cells, slices of strings, levels and trees as layouts; the library's contracts on strings in these words. Own work.
-/
import Derived.Test.YtfbcpiipekfapaaSnoc
import Derived.Test.YtfbcpiipekfapaaBlk
import Derived.Test.YtfbcpiipekfapaaP03
import Derived.Test.YtfbcpiipekfapaaShelf
import Derived.Deep.RegionWith
namespace Go.Proofs.Ytfbcpiipekfapaa
open Go.RowKit P
set_option linter.unusedVariables false

/-- A string. -/
def Lay.str : Lay Str where
  sz := 1
  rd := fun _ cs l => cs = [.string ⟨l.toArray⟩] ∧ l.length ≤ maxLen
  ow := fun _ cs l fp => cs = [.string ⟨l.toArray⟩] ∧ l.length ≤ maxLen ∧ fp = []
  len := by rintro w cs x ⟨rfl, _⟩; rfl
  one := by rintro w cs x ⟨rfl, _⟩ u hu; simp at hu; subst hu; rfl
  below := by rintro w w' cs x h _; exact h
  read := by rintro w cs x fp ⟨h, b, _⟩; exact ⟨h, b⟩
  lt := by rintro w cs x fp ⟨_, _, rfl⟩ k hk; cases hk
  kept := by rintro w w' cs x fp h _ _; exact h

/-- A slice of strings, a level, a slice of levels (its blocks of the program's own type). -/
def Lay.strs : Lay (List Str) := Lay.slice 9 Lay.str
def Lay.lvl : Lay Lv := Lay.pair Lay.strs Lay.strs
def Lay.lvls : Lay (List Lv) := Lay.slice 63 Lay.lvl

theorem Try.infoStr : (Try.prog.info? 9).map (fun i => (i.zero, i.size, i.bytes)) = some (some (.string ⟨#[]⟩), 1, 16) := by kernel_rfl
theorem Try.infoLvl : (Try.prog.info? 63).map (fun i => (i.zero, i.size, i.bytes)) = some (some (.agg #[.slice none 0 0, .slice none 0 0]), 2, 48) := by kernel_rfl

/-- What a call ends in that makes a value of one cell of its own. -/
def Gives1 {α : Type} (L : Lay α) (x : α) (w : World) (e : Ending) (w' : World) : Prop :=
  ∃ v fp, e = .returned v ∧ L.ow w' [v] x fp ∧ fp.Nodup ∧ (∀ k ∈ fp, w.heap.size ≤ k) ∧ Below w.heap.size w w'

/-- What cutting one sign off the front gives. -/
structure Cut1 (l : Str) (c : UInt8) (r : Str) (ok : Bool) : Prop where
  yes : ok = true → l = c :: r
  no : ok = false → ∀ t, l ≠ c :: t
  len : r.length ≤ l.length

theorem cutPrefix_any (s : ByteArray) (c : UInt8) (w : World) :
    Calls Try.prog 98 #[.string s, .string ⟨#[c]⟩] w fun e w' => (∃ (r : Str) (ok : Bool), e = .returned (.tuple #[.string ⟨r.toArray⟩, .bool ok]) ∧ Cut1 s.data.toList c r ok) ∧ w' = w := by
  refine (Try.strings_CutPrefix s ⟨#[c]⟩ w).mono ?_
  rintro e w' ⟨rfl, rfl⟩
  refine ⟨⟨_, _, rfl, ?_⟩, rfl⟩
  unfold Lib.trimPrefix Lib.hasPrefix
  generalize s.data.toList = l
  cases l with
  | nil => exact ⟨by simp, by simp, by simp⟩
  | cons a t =>
    by_cases h : c = a
    · subst h
      exact ⟨by simp, by simp, by simp⟩
    · refine ⟨by simp [h], fun _ u e => ?_, by simp [h]⟩
      rw [List.cons.injEq] at e
      exact h e.1.symm

theorem count_any (s : ByteArray) (c : UInt8) (w : World) :
    Calls Try.prog 64 #[.string s, .string ⟨#[c]⟩] w fun e w' => e = .returned (.int .i64 ((s.data.toList.count c : Nat) : Int)) ∧ w' = w := by
  refine (Try.strings_Count_one s c w).mono ?_
  rintro e w' ⟨rfl, rfl⟩
  exact ⟨rfl, rfl⟩

theorem strs_rd {w : World} {v : Value} {l : List Str} (h : Lay.strs.rd w [v] l) : ∃ A c, v = .slice A l.length c ∧ l.length ≤ c ∧ c ≤ maxLen ∧ Sl 1 Lay.str.rd w A l := by
  obtain ⟨A, c, e, h⟩ := h
  cases e
  exact ⟨A, c, rfl, h⟩

/-- The slice of strings that starts at A. -/
def Ss (w : World) (A : Option Addr) (l : List Str) : Prop := Sl 1 Lay.str.rd w A l
theorem Ss.below {w w' : World} {A : Option Addr} {l : List Str} (h : Ss w A l) (hb : Below w.heap.size w w') : Ss w' A l := Sl.below (E := Lay.str) h hb
theorem Ss.at_ {w : World} {A : Option Addr} {l : List Str} (h : Ss w A l) (k : Nat) (hk : k < l.length) :
    ∃ b off, A = some ⟨b, off, none⟩ ∧ b < w.heap.size ∧ w.cell? ⟨b, off + k, none⟩ = some (.string ⟨(l[k]).toArray⟩) ∧ (l[k]).length ≤ maxLen := by
  obtain ⟨b, off, v, hA, hb, hc, hr⟩ := Sl.at1 h k hk
  obtain ⟨e, h2⟩ := hr
  cases e
  exact ⟨b, off, hA, hb, hc, h2⟩
theorem Ss.sub {w : World} {b off : Nat} {l : List Str} (h : Ss w (some ⟨b, off, none⟩) l) (i j : Nat) : Ss w (some ⟨b, off + i, none⟩) ((l.drop i).take j) := by
  intro k hk
  have hk2 : i + k < l.length := by simp at hk; omega
  obtain ⟨b', off', us, hA, hlt, hl, hc, hr⟩ := h (i + k) hk2
  cases hA
  refine ⟨b, off + i, us, rfl, hlt, hl, fun j' hj => ?_, ?_⟩
  · have := hc j' hj
    rw [show off + i + (k * 1 + j') = off + ((i + k) * 1 + j') by omega]
    exact this
  · simpa using hr

theorem join_any (A : Option Addr) (l : List Str) (c : Nat) (sep : ByteArray) (w : World) (h : Ss w A l) (hl : l.length ≤ 1000000000) (hc : l.length ≤ c) (hj : (Lib.join l sep.data.toList).length ≤ 140737488355328) :
    Calls Try.prog 58 #[.slice A l.length c, .string sep] w fun e w' => e = .returned (.string ⟨(Lib.join l sep.data.toList).toArray⟩) ∧ Below w.heap.size w w' := by
  by_cases h0 : l = []
  · subst h0
    refine (Try.strings_Join_none A c sep w).mono ?_
    rintro e w' ⟨rfl, rfl⟩
    exact ⟨rfl, Below.refl _ _⟩
  · have hp : 0 < l.length := List.length_pos_iff.2 h0
    obtain ⟨b, off, rfl, hb, _, _⟩ := h.at_ 0 hp
    have e1 : (l.map fun x => (⟨x.toArray⟩ : ByteArray)).length = l.length := List.length_map ..
    have e2 : (l.map fun x => (⟨x.toArray⟩ : ByteArray)).map (·.data.toList) = l := (List.map_map ..).trans (List.map_id l)
    have := Try.strings_Join b off c (l.map fun x => (⟨x.toArray⟩ : ByteArray)) sep w (fun j x hx => by
      rw [List.getElem?_map] at hx
      obtain ⟨y, hy, rfl⟩ := Option.map_eq_some_iff.1 hx
      obtain ⟨hj, rfl⟩ := List.getElem?_eq_some_iff.1 hy
      obtain ⟨b', off', hA, _, hcell, _⟩ := h.at_ j hj
      cases hA
      exact hcell) hb (by rw [e1]; omega) (by rw [e1]; exact hc) (by rw [e2]; exact hj)
    rw [e1, e2] at this
    exact this
end Go.Proofs.Ytfbcpiipekfapaa
