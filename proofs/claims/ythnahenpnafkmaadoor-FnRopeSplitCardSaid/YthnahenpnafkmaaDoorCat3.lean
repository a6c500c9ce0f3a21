/-
  Own slices of values of one cell each, and slices of slices of them. Own work.
  slices.Grow and slices.Concat at bytes. Own work, over the library's laws.
  slices.Concat of three slices of bytes, and bytes.Clone: contracts (kept beside chapter 4's, whose texts are long). Own work.
-/
import Derived.Test.YthnahenpnafkmaaDoorLay
import Derived.Test.YthnahenpnafkmaaDoorShelf
import Derived.Test.YthnahenpnafkmaaDoorApp
import Derived.Test.YthnahenpnafkmaaDoorI01f
import Derived.Test.YthnahenpnafkmaaDoorBlk
import Derived.Test.YthnahenpnafkmaaDoorCl
namespace Go.Proofs.YthnahenpnafkmaaDoor
open Go.RowKit P
set_option linter.unusedVariables false

/-- The slice that starts at A holds the values xs, a cell each. -/
def Vs (w : World) (A : Option Addr) (xs : List Value) : Prop := ∀ k (h : k < xs.length), ∃ b off, A = some ⟨b, off, none⟩ ∧ b < w.heap.size ∧ w.cell? ⟨b, off + k, none⟩ = some xs[k]
theorem Vs.below {w w' : World} {A : Option Addr} {xs : List Value} (h : Vs w A xs) (hb : Below w.heap.size w w') : Vs w' A xs := by
  intro k hk
  obtain ⟨b, off, hA, hlt, hc⟩ := h k hk
  exact ⟨b, off, hA, Nat.lt_of_lt_of_le hlt hb.size, (hb.cell (p := ⟨b, off + k, none⟩) hlt).trans hc⟩

/-- v is a slice of the call's own (in blocks from base on, or nil) that holds xs. -/
structure OwnV (w : World) (base : Nat) (T : TypeId) (v : Value) (xs : List Value) : Prop where
  row : w.ownsRow base T 1 v xs.length xs
  one : ∀ u ∈ xs, u.oneCell' = true
theorem OwnV.form {w : World} {base : Nat} {T : TypeId} {v : Value} {xs : List Value} (h : OwnV w base T v xs) : ∃ A c, v = .slice A xs.length c ∧ xs.length ≤ c ∧ c ≤ maxLen ∧ Vs w A xs := by
  obtain ⟨A, c, e, h1, h2, h3⟩ := ownsRow_form h.row
  refine ⟨A, c, e, h1, h2, fun k hk => ?_⟩
  obtain ⟨b, hA, hlt, hc⟩ := h3 k hk
  exact ⟨b, 0, hA, hlt, by rw [Nat.zero_add]; exact hc⟩

/-- The slice of slices that starts at A. -/
def VVs (w : World) (A : Option Addr) (xss : List (List Value)) : Prop := ∀ k (h : k < xss.length), ∃ b off B c, A = some ⟨b, off, none⟩ ∧ b < w.heap.size ∧ w.cell? ⟨b, off + k, none⟩ = some (.slice B (xss[k]).length c) ∧ (xss[k]).length ≤ c ∧ Vs w B xss[k]
theorem VVs.below {w w' : World} {A : Option Addr} {xss : List (List Value)} (h : VVs w A xss) (hb : Below w.heap.size w w') : VVs w' A xss := by
  intro k hk
  obtain ⟨b, off, B, c, hA, hlt, hc, hl, hv⟩ := h k hk
  exact ⟨b, off, B, c, hA, Nat.lt_of_lt_of_le hlt hb.size, (hb.cell (p := ⟨b, off + k, none⟩) hlt).trans hc, hl, hv.below hb⟩

/-- The total length of lists. -/
def vsums (ls : List (List Value)) : Nat := ls.flatten.length
theorem vsums_take (ls : List (List Value)) (k : Nat) (h : k < ls.length) : vsums (ls.take (k + 1)) = vsums (ls.take k) + (ls[k]).length := by
  unfold vsums; rw [List.take_succ_eq_append_getElem h, List.flatten_append, List.length_append]; simp
theorem vsums_le (ls : List (List Value)) (k : Nat) (h : k < ls.length) : vsums (ls.take k) + (ls[k]).length ≤ vsums ls := by
  rw [← vsums_take ls k h]
  have : ls.flatten = (ls.take (k + 1)).flatten ++ (ls.drop (k + 1)).flatten := by rw [← List.flatten_append, List.take_append_drop]
  unfold vsums
  rw [this, List.length_append]
  omega

theorem run_app_vals {P : Program} {T S : TypeId} {z : Value} {bytes : Nat} (hS : P.underlying S = some (.slice T)) (hinfo : (P.info? T).map (fun i => (i.zero, i.size, i.bytes)) = some (some z, 1, bytes)) (hzs : z.cells.size = 1) (hby : bytes ≤ 1000)
    {w : World} {base : Nat} {v : Value} {l r : List Value} {A : Option Addr} (c n : Nat) (ty : TypeId) (hn : n = r.length) (hown : OwnV w base T v l) (hr : Vs w A r) (hr1 : ∀ u ∈ r, u.oneCell' = true)
    (hlen : l.length + r.length ≤ 1000000000) (hbase : base ≤ w.heap.size) :
    ∃ v' w', (Builtin.append_ #[S, S] ty #[v, .slice A n c]).run P w = .ok v' w' ∧ OwnV w' base T v' (l ++ r) ∧ w.grownBy w' v.ownBlock ∧
      (v'.ownBlock = v.ownBlock ∨ v'.ownBlock = some w.heap.size) := by
  subst hn
  obtain ⟨i, hi, hz, hs, hb⟩ := info_parts hinfo
  have hl2 : ∀ s ∈ l ++ r, s.oneCell' = true := by
    intro s hs
    rcases List.mem_append.1 hs with hs | hs
    · exact hown.one s hs
    · exact hr1 s hs
  cases A with
  | none =>
    have h0 : r = [] := by
      cases r with
      | nil => rfl
      | cons x t => obtain ⟨b, off, e, _⟩ := hr 0 (by simp); cases e
    subst h0
    refine ⟨v, w, ?_, by simpa using hown, World.grownBy.refl w _, .inl rfl⟩
    rcases hown.row.2 with ⟨rfl, h1⟩ | ⟨g, cap, cur, rfl, _, _, hnc, _⟩
    · simp [Builtin.append_, run_underlying hS, sizeOf, typeInfo, hi, Builtin.lenOf, Builtin.firstCells]
    · simp [Builtin.append_, run_underlying hS, sizeOf, typeInfo, hi, Builtin.lenOf, Builtin.firstCells, hnc, storeCells]
  | some a =>
    have hcells : ∀ j u, r[j]? = some u → w.cell? (a.add j) = some u := by
      intro j u hu
      have hj : j < r.length := (List.getElem?_eq_some_iff.1 hu).1
      obtain ⟨b, off, e, _, hc⟩ := hr j hj
      cases e
      rw [add_plain, hc]
      rw [List.getElem?_eq_getElem hj] at hu
      exact hu
    have hmul : (l.length + r.length) * bytes ≤ 140737488355328 := by
      have : (l.length + r.length) * bytes ≤ 1000000000 * 1000 := Nat.mul_le_mul hlen hby
      omega
    obtain ⟨v', w', hrun, h2, h3, _, h5⟩ := run_append_own_at (P := P) w base S ty T i z 1 bytes hS hi hz hs hb hzs (by omega) v l.length l hown.row a r.length c r
      (by simp) hcells hr1 (by unfold maxLen; omega) hmul hbase
    refine ⟨v', w', hrun, ⟨?_, hl2⟩, h3, h5⟩
    rw [List.length_append]
    exact h2

theorem wpList_app_vals {P : Program} {T S : TypeId} {z : Value} {bytes : Nat} (hS : P.underlying S = some (.slice T)) (hinfo : (P.info? T).map (fun i => (i.zero, i.size, i.bytes)) = some (some z, 1, bytes)) (hzs : z.cells.size = 1) (hby : bytes ≤ 1000)
    {w : World} {ops : Array Oper} {rest : List Oper} {o : Oper} {a : Act} {Q : Exit → Act → World → Prop} (hgd : Region.wanted o (yielded ops a.tmps) = true) (s x : Operand)
    (ho : o.op = .call { callee := .builtin .append, args := #[s, x], argTypes := #[S, S] })
    (base : Nat) (v : Value) (l r : List Value) (A : Option Addr) (n c : Nat) (hs : a.eval s = v) (hx : a.eval x = .slice A n c) (hn : n = r.length) (hown : OwnV w base T v l) (hr : Vs w A r) (hr1 : ∀ u ∈ r, u.oneCell' = true)
    (hlen : l.length + r.length ≤ 1000000000) (hbase : base ≤ w.heap.size)
    (h : ∀ v' w', OwnV w' base T v' (l ++ r) → w.grownBy w' v.ownBlock → (v'.ownBlock = v.ownBlock ∨ v'.ownBlock = some w.heap.size) → wpList P ops Q rest (a.put o.dst v') w') : wpList P ops Q (o :: rest) a w := by
  refine BigFrame.wpList_want hgd fun K hK => ?_
  obtain ⟨v', w', hrun, h2, h3, h4⟩ := run_app_vals hS hinfo hzs hby c n o.type hn hown hr hr1 hlen hbase
  unfold Oper.wp execOp
  simp only [ho, resolve, invoke, builtin, Sem.run_bind, Sem.run_pure, Result.andThen_ok, List.map_toArray, List.map_cons, List.map_nil, hs, hx, hrun]
  exact hK _ _ (h v' w' h2 h3 h4)
end Go.Proofs.YthnahenpnafkmaaDoor

namespace Go.Proofs.YthnahenpnafkmaaDoor
open Go.RowKit P
set_option linter.unusedVariables false
set_option maxRecDepth 100000

theorem by_growNil_any (n : Nat) (w : World) (hn : n ≤ 1000000000) :
    Calls Tryd.prog 67 #[.slice none 0 0, .int .i64 (n : Int)] w fun e w' => ∃ v, e = .returned v ∧ OwnV w' w.heap.size 5 v [] ∧ Below w.heap.size w w' := by
  by_cases h0 : n = 0
  · subst h0
    refine (Any8.slices_Grow_room Tryd.growB none 0 0 0 w (by omega) (by omega) (by omega) (by omega)).mono ?_
    rintro e w' ⟨rfl, rfl⟩
    exact ⟨_, rfl, ⟨World.ownsRow_nil _ _ _ _, by simp⟩, Below.refl _ _⟩
  · obtain ⟨i, hi, hz, hs, hb⟩ := info_parts Tryd.infoB
    refine (Any8.slices_Grow_grow Tryd.growB i (.int .u8 0) hi hz (by omega) none 0 0 n [] w (by omega) (by omega) (by rw [hb]; omega) (by omega) (by simp) (fun _ => rfl) (fun a ha => by cases ha)).mono ?_
    rintro e w' ⟨rfl, rfl⟩
    refine ⟨_, rfl, ⟨⟨rfl, .inr ⟨w.heap.size, _, _, rfl, Nat.le_refl _, heap_alloc_new w.drew _, Nat.zero_le _, ?_, ?_, ?_⟩⟩, by simp⟩, (below_of_drewN w 1).alloc (by simp) _⟩
    · exact grownCap_le_maxLen _ _ _ _ (by unfold maxLen; omega)
    · have := grownCap_ge w n 0 5
      rw [show (Tryd.growB_ren.t 25) = 5 from rfl]
      have e1 : ((.int .u8 0) : Value).cells.size = 1 := rfl
      simp [Builtin.zeroCells, e1]
      omega
    · simp

set_option maxHeartbeats 1000000 in
theorem by_concat_any (A : Option Addr) (ls : List (List Value)) (c : Nat) (w : World) (hl : ls.length ≤ 1000000) (hs : vsums ls ≤ 1000000000) (hone : ∀ l ∈ ls, ∀ u ∈ l, u.oneCell' = true) (h : VVs w A ls) :
    Calls Tryd.prog 45 #[.slice A ls.length c] w fun e w' => ∃ v, e = .returned v ∧ OwnV w' w.heap.size 5 v ls.flatten ∧ Below w.heap.size w w' := by
  go_enter Tryd.func45, Tryd.ntmps45
  go_wp2
  go_loop [3, 11] (fun z i => ∃ k : Nat, k ≤ ls.length ∧ i = .int .i64 k ∧ z = .int .i64 ((vsums (ls.take k) : Nat) : Int)) (fun _ i => ls.length - (intOf i).toNat)
  case atStart => exact ⟨0, Nat.zero_le _, rfl, rfl⟩
  case round =>
    obtain ⟨k, hk, rfl, rfl⟩ := hrel
    by_cases hlt : k < ls.length
    · obtain ⟨b, off, B, d, rfl, hbl, hc, hld, hB⟩ := h k hlt
      have h1 := vsums_take ls k hlt
      have h2 := vsums_le ls k hlt
      have H1 := Lib.hid h1
      clear h1
      generalize hL : ls[k] = L at *
      have HL := Lib.hid hL
      clear hL
      obtain ⟨q, hq⟩ : ∃ q, vsums (ls.take k) = q := ⟨_, rfl⟩
      rw [hq] at h2 H1 ⊢
      clear hq
      have hk0 : (k : Int) < (ls.length : Int) := by omega
      have hn : ¬ (q : Int) + (L.length : Int) < 0 := by omega
      go_wp2
      go_round
      case rel => exact ⟨k + 1, by omega, by go_num, by rw [H1.out]; go_num⟩
      case measure => simp [intOf]; omega
    · have e : k = ls.length := by omega
      subst e
      rw [List.take_length]
      go_wp2_with fail
      refine (by_growNil_any (vsums ls) _ hs).mono ?_
      rintro e w1 ⟨v1, rfl, hown1, hb1⟩
      go_wp2
      go_loopw [6, 27] (fun v i wr => ∃ k : Nat, k ≤ ls.length ∧ i = .int .i64 k ∧ OwnV wr w.heap.size 5 v (ls.take k).flatten ∧ Below w.heap.size w wr) (fun _ i _ => ls.length - (intOf i).toNat)
      case atStart => exact ⟨0, Nat.zero_le _, rfl, by simpa using hown1, hb1⟩
      case round =>
        obtain ⟨k, hk2, rfl, hown, hb⟩ := hrel
        by_cases hlt2 : k < ls.length
        · obtain ⟨b, off, B, d, rfl, hbl, hc, hld, hB⟩ := (h.below hb) k hlt2
          have h2 := vsums_le ls k hlt2
          have h1 : (ls.take (k + 1)).flatten = (ls.take k).flatten ++ ls[k] := by rw [List.take_succ_eq_append_getElem hlt2, List.flatten_append]; simp
          have hML : (ls.take k).flatten.length + (ls[k]).length ≤ 1000000000 := Nat.le_trans h2 hs
          have hu := hone ls[k] (List.getElem_mem hlt2)
          generalize hL : ls[k] = L at *
          generalize hM : (ls.take k).flatten = M at *
          have H1 := Lib.hid h1
          have HL := Lib.hid hL
          have HM := Lib.hid hM
          have HU := Lib.hid hu
          clear hL hM h1 hu
          have hk0 : (k : Int) < (ls.length : Int) := by omega
          have hbs := hb.size
          go_wp2_with (at_builtin; go_must (refine wpList_app_vals Tryd.underlying22 Tryd.infoB rfl (by decide) rfl _ _ rfl w.heap.size _ M L B L.length d rfl rfl rfl hown hB HU.out hML hbs ?_))
          intro v4 w4 hown4 hg4 _
          have hb4 := hb.grown hg4 hbs (fun x hx => (World.ownsRow.lt hown.row x hx).1)
          go_wp2
          go_roundw
          case rel => exact ⟨k + 1, by omega, by go_num, by rw [H1.out]; exact hown4, hb4⟩
          case measure => simp [intOf]; omega
        · have e : k = ls.length := by omega
          subst e
          rw [List.take_length] at hown
          go_wp2
          go_ret
          exact ⟨_, rfl, hown, hb⟩
end Go.Proofs.YthnahenpnafkmaaDoor

namespace Go.Proofs.YthnahenpnafkmaaDoor
open Go.RowKit P
set_option linter.unusedVariables false
set_option linter.unusedSimpArgs false
set_option maxRecDepth 100000

theorem Bs.vs9 {w : World} {A : Option Addr} {l : List UInt8} (h : Bs w A l) : Vs w A (l.map bV) := by
  intro k hk
  rw [List.length_map] at hk
  obtain ⟨b, off, e, hb, hc⟩ := h k hk
  exact ⟨b, off, e, hb, by rw [hc, List.getElem_map]; rfl⟩

/-- slices.Concat of three slices of bytes. -/
theorem concatBy3_e (A B C : Option Addr) (l m r : List UInt8) (c d f : Nat) (w : World) (h1 : l.length ≤ c) (h2 : m.length ≤ d) (h3 : r.length ≤ f) (hl : l.length + m.length + r.length ≤ 2000000) (hA : Bs w A l) (hB : Bs w B m) (hC : Bs w C r) :
    Calls Tryd.prog 45 #[.slice (some ⟨w.heap.size, 0, none⟩) 3 3] (w.alloc (.cells #[.slice A l.length c, .slice B m.length d, .slice C r.length f] 22)) fun e w' => ∃ v, e = .returned v ∧ Own w' w.heap.size v (l ++ (m ++ r)) ∧ Below w.heap.size w w' := by
  have hal := (Below.refl w.heap.size w).alloc (Nat.le_refl _) (.cells #[.slice A l.length c, .slice B m.length d, .slice C r.length f] 22)
  have bk := Blk.new w #[.slice A l.length c, .slice B m.length d, .slice C r.length f] 22
  have hv : VVs (w.alloc (.cells #[.slice A l.length c, .slice B m.length d, .slice C r.length f] 22)) (some ⟨w.heap.size, 0, none⟩) [l.map bV, m.map bV, r.map bV] := by
    intro k hk
    match k, hk with
    | 0, _ => exact ⟨_, 0, A, c, rfl, bk.lt, by rw [Nat.zero_add, bk.cell]; simp, by simp [h1], (hA.below hal).vs9⟩
    | 1, _ => exact ⟨_, 0, B, d, rfl, bk.lt, by rw [Nat.zero_add, bk.cell]; simp, by simp [h2], (hB.below hal).vs9⟩
    | 2, _ => exact ⟨_, 0, C, f, rfl, bk.lt, by rw [Nat.zero_add, bk.cell]; simp, by simp [h3], (hC.below hal).vs9⟩
  have hs : vsums [l.map bV, m.map bV, r.map bV] ≤ 1000000000 := by unfold vsums; simp; omega
  refine (by_concat_any (some ⟨w.heap.size, 0, none⟩) [l.map bV, m.map bV, r.map bV] 3 _ (by simp) hs (by
    intro q hq u hu
    simp only [List.mem_cons, List.not_mem_nil, or_false] at hq
    have : ∀ t : List UInt8, u ∈ t.map bV → u.oneCell' = true := fun t ht => by obtain ⟨x, _, rfl⟩ := List.mem_map.1 ht; rfl
    rcases hq with rfl | rfl | rfl <;> exact this _ hu) hv).mono ?_
  rintro e w' ⟨v, rfl, hown, hb⟩
  have hflat : [l.map bV, m.map bV, r.map bV].flatten = (l ++ (m ++ r)).map bV := by simp
  have hrow := hown.row
  rw [hflat, List.length_map] at hrow
  refine ⟨v, rfl, ?_, below_then hal hb⟩
  have h9 : Own w' (w.alloc (.cells #[.slice A l.length c, .slice B m.length d, .slice C r.length f] 22)).heap.size v (l ++ (m ++ r)) := hrow
  exact h9.mono (by simp)

end Go.Proofs.YthnahenpnafkmaaDoor
