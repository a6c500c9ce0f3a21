/-
  Own slices of values of one cell each, and slices of slices of them. Own work.
-/
import Derived.Test.YtepffgahgfipjaaLay
namespace Go.Proofs.Ytepffgahgfipjaa
open Go.RowKit P
set_option linter.unusedVariables false

/-- The slice that starts at A holds the values xs, a cell each. -/
def Vs (w : World) (A : Option Addr) (xs : List Value) : Prop := ∀ k (h : k < xs.length), ∃ b off, A = some ⟨b, off, none⟩ ∧ b < w.heap.size ∧ w.cell? ⟨b, off + k, none⟩ = some xs[k]
theorem Vs.below {w w' : World} {A : Option Addr} {xs : List Value} (h : Vs w A xs) (hb : Below w.heap.size w w') : Vs w' A xs := by
  intro k hk
  obtain ⟨b, off, hA, hlt, hc⟩ := h k hk
  exact ⟨b, off, hA, Nat.lt_of_lt_of_le hlt hb.size, (hb.cell (p := ⟨b, off + k, none⟩) hlt).trans hc⟩

/-- v is a slice of the call's own (in blocks from base on, or nil) that holds xs. -/
structure OwnV (w : World) (base : Nat) (T : TypeId) (v : Value) (xs : List Value) : Prop where
  row : w.ownsRow base T 1 v xs.length xs
  one : ∀ u ∈ xs, u.oneCell' = true
theorem OwnV.form {w : World} {base : Nat} {T : TypeId} {v : Value} {xs : List Value} (h : OwnV w base T v xs) : ∃ A c, v = .slice A xs.length c ∧ xs.length ≤ c ∧ c ≤ maxLen ∧ Vs w A xs := by
  obtain ⟨A, c, e, h1, h2, h3⟩ := ownsRow_form h.row
  refine ⟨A, c, e, h1, h2, fun k hk => ?_⟩
  obtain ⟨b, hA, hlt, hc⟩ := h3 k hk
  exact ⟨b, 0, hA, hlt, by rw [Nat.zero_add]; exact hc⟩

/-- The slice of slices that starts at A. -/
def VVs (w : World) (A : Option Addr) (xss : List (List Value)) : Prop := ∀ k (h : k < xss.length), ∃ b off B c, A = some ⟨b, off, none⟩ ∧ b < w.heap.size ∧ w.cell? ⟨b, off + k, none⟩ = some (.slice B (xss[k]).length c) ∧ (xss[k]).length ≤ c ∧ Vs w B xss[k]
theorem VVs.below {w w' : World} {A : Option Addr} {xss : List (List Value)} (h : VVs w A xss) (hb : Below w.heap.size w w') : VVs w' A xss := by
  intro k hk
  obtain ⟨b, off, B, c, hA, hlt, hc, hl, hv⟩ := h k hk
  exact ⟨b, off, B, c, hA, Nat.lt_of_lt_of_le hlt hb.size, (hb.cell (p := ⟨b, off + k, none⟩) hlt).trans hc, hl, hv.below hb⟩

/-- The total length of lists. -/
def vsums (ls : List (List Value)) : Nat := ls.flatten.length
theorem vsums_take (ls : List (List Value)) (k : Nat) (h : k < ls.length) : vsums (ls.take (k + 1)) = vsums (ls.take k) + (ls[k]).length := by
  unfold vsums; rw [List.take_succ_eq_append_getElem h, List.flatten_append, List.length_append]; simp
theorem vsums_le (ls : List (List Value)) (k : Nat) (h : k < ls.length) : vsums (ls.take k) + (ls[k]).length ≤ vsums ls := by
  rw [← vsums_take ls k h]
  have : ls.flatten = (ls.take (k + 1)).flatten ++ (ls.drop (k + 1)).flatten := by rw [← List.flatten_append, List.take_append_drop]
  unfold vsums
  rw [this, List.length_append]
  omega

theorem run_app_vals {P : Program} {T S : TypeId} {z : Value} {bytes : Nat} (hS : P.underlying S = some (.slice T)) (hinfo : (P.info? T).map (fun i => (i.zero, i.size, i.bytes)) = some (some z, 1, bytes)) (hzs : z.cells.size = 1) (hby : bytes ≤ 1000)
    {w : World} {base : Nat} {v : Value} {l r : List Value} {A : Option Addr} (c n : Nat) (ty : TypeId) (hn : n = r.length) (hown : OwnV w base T v l) (hr : Vs w A r) (hr1 : ∀ u ∈ r, u.oneCell' = true)
    (hlen : l.length + r.length ≤ 1000000000) (hbase : base ≤ w.heap.size) :
    ∃ v' w', (Builtin.append_ #[S, S] ty #[v, .slice A n c]).run P w = .ok v' w' ∧ OwnV w' base T v' (l ++ r) ∧ w.grownBy w' v.ownBlock ∧
      (v'.ownBlock = v.ownBlock ∨ v'.ownBlock = some w.heap.size) := by
  subst hn
  obtain ⟨i, hi, hz, hs, hb⟩ := info_parts hinfo
  have hl2 : ∀ s ∈ l ++ r, s.oneCell' = true := by
    intro s hs
    rcases List.mem_append.1 hs with hs | hs
    · exact hown.one s hs
    · exact hr1 s hs
  cases A with
  | none =>
    have h0 : r = [] := by
      cases r with
      | nil => rfl
      | cons x t => obtain ⟨b, off, e, _⟩ := hr 0 (by simp); cases e
    subst h0
    refine ⟨v, w, ?_, by simpa using hown, World.grownBy.refl w _, .inl rfl⟩
    rcases hown.row.2 with ⟨rfl, h1⟩ | ⟨g, cap, cur, rfl, _, _, hnc, _⟩
    · simp [Builtin.append_, run_underlying hS, sizeOf, typeInfo, hi, Builtin.lenOf, Builtin.firstCells]
    · simp [Builtin.append_, run_underlying hS, sizeOf, typeInfo, hi, Builtin.lenOf, Builtin.firstCells, hnc, storeCells]
  | some a =>
    have hcells : ∀ j u, r[j]? = some u → w.cell? (a.add j) = some u := by
      intro j u hu
      have hj : j < r.length := (List.getElem?_eq_some_iff.1 hu).1
      obtain ⟨b, off, e, _, hc⟩ := hr j hj
      cases e
      rw [add_plain, hc]
      rw [List.getElem?_eq_getElem hj] at hu
      exact hu
    have hmul : (l.length + r.length) * bytes ≤ 140737488355328 := by
      have : (l.length + r.length) * bytes ≤ 1000000000 * 1000 := Nat.mul_le_mul hlen hby
      omega
    obtain ⟨v', w', hrun, h2, h3, _, h5⟩ := run_append_own_at (P := P) w base S ty T i z 1 bytes hS hi hz hs hb hzs (by omega) v l.length l hown.row a r.length c r
      (by simp) hcells hr1 (by unfold maxLen; omega) hmul hbase
    refine ⟨v', w', hrun, ⟨?_, hl2⟩, h3, h5⟩
    rw [List.length_append]
    exact h2

theorem wpList_app_vals {P : Program} {T S : TypeId} {z : Value} {bytes : Nat} (hS : P.underlying S = some (.slice T)) (hinfo : (P.info? T).map (fun i => (i.zero, i.size, i.bytes)) = some (some z, 1, bytes)) (hzs : z.cells.size = 1) (hby : bytes ≤ 1000)
    {w : World} {ops : Array Oper} {rest : List Oper} {o : Oper} {a : Act} {Q : Exit → Act → World → Prop} (hgd : Region.wanted o (yielded ops a.tmps) = true) (s x : Operand)
    (ho : o.op = .call { callee := .builtin .append, args := #[s, x], argTypes := #[S, S] })
    (base : Nat) (v : Value) (l r : List Value) (A : Option Addr) (n c : Nat) (hs : a.eval s = v) (hx : a.eval x = .slice A n c) (hn : n = r.length) (hown : OwnV w base T v l) (hr : Vs w A r) (hr1 : ∀ u ∈ r, u.oneCell' = true)
    (hlen : l.length + r.length ≤ 1000000000) (hbase : base ≤ w.heap.size)
    (h : ∀ v' w', OwnV w' base T v' (l ++ r) → w.grownBy w' v.ownBlock → (v'.ownBlock = v.ownBlock ∨ v'.ownBlock = some w.heap.size) → wpList P ops Q rest (a.put o.dst v') w') : wpList P ops Q (o :: rest) a w := by
  refine BigFrame.wpList_want hgd fun K hK => ?_
  obtain ⟨v', w', hrun, h2, h3, h4⟩ := run_app_vals hS hinfo hzs hby c n o.type hn hown hr hr1 hlen hbase
  unfold Oper.wp execOp
  simp only [ho, resolve, invoke, builtin, Sem.run_bind, Sem.run_pure, Result.andThen_ok, List.map_toArray, List.map_cons, List.map_nil, hs, hx, hrun]
  exact hK _ _ (h v' w' h2 h3 h4)
end Go.Proofs.Ytepffgahgfipjaa
