/-
  Chapter 10, the laws' helpers on commits: layouts and contracts (sizes, copies, equality, marks). Own work.
-/
import Derived.Test.YtaekanhjkpoifaaDoorC07
import Derived.Test.YtaekanhjkpoifaaDoorC09b
namespace Go.Proofs.YtaekanhjkpoifaaDoor
open Go.RowKit P
set_option linter.unusedVariables false
set_option linter.unusedSimpArgs false
set_option maxRecDepth 100000

/-- A commit: the session and the edit. -/
abbrev Cm := Int × Ed
def Lay.commit : Lay Cm := Lay.pair Lay.int Lay.edit
def Lay.commits : Lay (List Cm) := Lay.slice 62 Lay.commit
/-- The slice of commits that starts at A. -/
def Cms (w : World) (A : Option Addr) (es : List Cm) : Prop := Sl 4 Lay.commit.rd w A es
theorem Cms.below {w w' : World} {A : Option Addr} {es : List Cm} (h : Cms w A es) (hb : Below w.heap.size w w') : Cms w' A es := Sl.below (E := Lay.commit) h hb
theorem Lay.commit_rd {w : World} {cs : List Value} {s a m : Int} {p : List UInt8} (h : Lay.commit.rd w cs (s, a, m, p)) : ∃ B d, cs = [.int .i64 s, .int .i64 a, .int .i64 m, .slice B p.length d] ∧ isI s ∧ isI a ∧ isI m ∧ p.length ≤ d ∧ d ≤ maxLen ∧ Bs w B p := by
  obtain ⟨c1, c2, rfl, ⟨rfl, hs⟩, c3, c4, rfl, ⟨rfl, ha⟩, c5, c6, rfl, ⟨rfl, hm⟩, B, d, rfl, h1, h2, hB⟩ := h
  exact ⟨B, d, rfl, hs, ha, hm, h1, h2, hB⟩
theorem Cms.at_ {w : World} {A : Option Addr} {es : List Cm} (h : Cms w A es) (k : Nat) (hk : k < es.length) :
    ∃ b off s a m B p d, A = some ⟨b, off, none⟩ ∧ b < w.heap.size ∧ es[k] = (s, a, m, p) ∧ w.cell? ⟨b, off + k * 4, none⟩ = some (.int .i64 s) ∧ w.cell? ⟨b, off + k * 4 + 1, none⟩ = some (.int .i64 a) ∧ w.cell? ⟨b, off + k * 4 + 2, none⟩ = some (.int .i64 m) ∧ w.cell? ⟨b, off + k * 4 + 3, none⟩ = some (.slice B p.length d) ∧
      isI s ∧ isI a ∧ isI m ∧ p.length ≤ d ∧ d ≤ maxLen ∧ Bs w B p := by
  obtain ⟨b, off, us, hA, hlt, hus, hc, hr⟩ := h k hk
  obtain ⟨⟨s, a, m, p⟩, he⟩ : ∃ e, es[k] = e := ⟨_, rfl⟩
  rw [he] at hr
  obtain ⟨B, d, rfl, hs, ha, hm, h1, h2, hB⟩ := Lay.commit_rd hr
  refine ⟨b, off, s, a, m, B, p, d, hA, hlt, he, ?_, ?_, ?_, ?_, hs, ha, hm, h1, h2, hB⟩
  · have := hc 0 (by simp); simpa using this
  · have := hc 1 (by simp); simpa [Nat.add_assoc] using this
  · have := hc 2 (by simp); simpa [Nat.add_assoc] using this
  · have := hc 3 (by simp); simpa [Nat.add_assoc] using this
theorem Tryd.infoCm : (Tryd.prog.info? 62).map (fun i => (i.zero, i.size, i.bytes)) = some (some (.agg #[.int .i64 0, .int .i64 0, .int .i64 0, .slice none 0 0]), 4, 48) := by kernel_rfl
/-- A commit of the call's own. -/
theorem own_commit {w : World} {base : Nat} {v : Value} {p : List UInt8} {s a m : Int} (hs : isI s) (ha : isI a) (hm : isI m) (h : Own w base v p) :
    Lay.commit.ow w [.int .i64 s, .int .i64 a, .int .i64 m, v] (s, a, m, p) v.ownBlock.toList :=
  ⟨[.int .i64 s], [.int .i64 a, .int .i64 m, v], [], v.ownBlock.toList, rfl, ⟨rfl, hs, rfl⟩, own_edit ha hm h, rfl⟩
theorem commit_ow_inv {w : World} {cs : List Value} {d : Cm} {fp : List Nat} (h : Lay.commit.ow w cs d fp) : ∃ v, cs = [.int .i64 d.1, .int .i64 d.2.1, .int .i64 d.2.2.1, v] ∧ isI d.1 ∧ isI d.2.1 ∧ isI d.2.2.1 ∧ Own w 0 v d.2.2.2 ∧ fp = v.ownBlock.toList := by
  obtain ⟨c0, c9, f0, f9, rfl, ⟨rfl, i0, rfl⟩, ⟨c1, c2, f1, f2, rfl, ⟨rfl, i1, rfl⟩, ⟨c3, c4, f3, f4, rfl, ⟨rfl, i2, rfl⟩, ⟨v, rfl, ho, rfl⟩, rfl⟩, rfl⟩, rfl⟩ := h
  exact ⟨v, rfl, i0, i1, i2, ho, by simp⟩

/-- What the commits of a list put. -/
def cputs (es : List Cm) : List (List UInt8) := es.map (·.2.2.2)
theorem cputs_length (es : List Cm) : (cputs es).length = es.length := List.length_map _
theorem cputs_get (es : List Cm) (k : Nat) (hk : k < es.length) : (cputs es)[k]'(by rw [cputs_length]; exact hk) = es[k].2.2.2 := by unfold cputs; rw [List.getElem_map]

set_option maxHeartbeats 1000000 in
theorem eqCommit_any (s a m s' a' m' : Int) (A B : Option Addr) (l r : List UInt8) (c d : Nat) (w : World) (hl : l.length ≤ 9223372036854775807) (hA : Bs w A l) (hB : Bs w B r) :
    Calls Tryd.prog 36 #[.agg #[.int .i64 s, .int .i64 a, .int .i64 m, .slice A l.length c], .agg #[.int .i64 s', .int .i64 a', .int .i64 m', .slice B r.length d]] w fun e w' => e = .returned (.bool (decide (s = s' ∧ a = a' ∧ m = m' ∧ l = r))) ∧ Below w.heap.size w w' := by
  have hb0 := (((Below.refl w.heap.size w).alloc (Nat.le_refl _) (.cells #[.int .i64 s, .int .i64 a, .int .i64 m, .slice A l.length c] 62))).alloc (by simp) (.cells #[.int .i64 s', .int .i64 a', .int .i64 m', .slice B r.length d] 62)
  have hA2 := hA.below hb0
  have hB2 := hB.below hb0
  by_cases h1 : s = s'
  · have e1 : (s != s') = false := by simp [h1]
    generalize hq : decide (a = a' ∧ m = m' ∧ l = r) = q
    have HQ := Lib.hid hq
    have HR : Hid (decide (s = s' ∧ a = a' ∧ m = m' ∧ l = r) = q) := Lib.hid (by rw [← hq]; simp [h1])
    clear hq h1
    go_enter Tryd.func36, Tryd.ntmps36
    go_wp2_with fail
    refine (eqEdit_any a m a' m' A B l r c d _ hl (by exact hA2) (by exact hB2)).mono ?_
    rintro e w1 ⟨rfl, hb1⟩
    rw [HQ.out]
    have hfin := below_then hb0 hb1
    cases q
    all_goals
      go_wp2
      go_ret
      exact ⟨ret_bool HR.out.symm, hfin⟩
  · have HR : Hid (decide (s = s' ∧ a = a' ∧ m = m' ∧ l = r) = false) := Lib.hid (by simp [h1])
    have e1 : (s != s') = true := by simpa using h1
    clear h1
    go_enter Tryd.func36, Tryd.ntmps36
    go_wp2
    go_ret
    exact ⟨ret_bool HR.out.symm, hb0⟩
end Go.Proofs.YtaekanhjkpoifaaDoor
