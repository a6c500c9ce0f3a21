/-
  Slices of strings of the call's own: append of many, slices.Grow and slices.Concat at strings. Own work, over the library's laws.
-/
import Derived.Test.YtfbcpiipekfapaaStr
namespace Go.Proofs.Ytfbcpiipekfapaa
open Go.RowKit P
set_option linter.unusedVariables false

def sV (s : Str) : Value := .string ⟨s.toArray⟩

/-- v is a slice of strings of the call's own (in blocks from base on, or nil). -/
structure OwnS (w : World) (base : Nat) (v : Value) (l : List Str) : Prop where
  row : w.ownsRow base 9 1 v l.length (l.map sV)
  len : ∀ s ∈ l, s.length ≤ maxLen

theorem OwnS.mono {w : World} {base base' : Nat} {v : Value} {l : List Str} (h : OwnS w base v l) (hb : base' ≤ base) : OwnS w base' v l := by
  refine ⟨⟨h.row.1, ?_⟩, h.len⟩
  rcases h.row.2 with h2 | ⟨g, cap, cur, hv, hg, r⟩
  · exact .inl h2
  · exact .inr ⟨g, cap, cur, hv, by omega, r⟩

theorem ownS_of {w : World} {v : Value} {l : List Str} {fp : List Nat} (h : Lay.strs.ow w [v] l fp) : OwnS w 0 v l ∧ fp = v.ownBlock.toList := by
  obtain ⟨es, rfl, hrow, hes, rfl⟩ := ow_one h
  have e1 : es.flatMap (·.1) = (es.map (·.2.1)).map sV := by
    clear hrow h
    induction es with
    | nil => rfl
    | cons e t ih =>
      have he := hes e (by simp)
      rw [List.flatMap_cons, ih (fun x hx => hes x (by simp [hx])), he.1]
      rfl
  have e2 : es.flatMap (·.2.2) = [] := by
    rw [List.flatMap_eq_nil_iff]
    exact fun e he => (hes e he).2.2
  refine ⟨⟨?_, fun s hs => ?_⟩, by rw [e2, List.append_nil]⟩
  · rw [List.length_map, ← e1]; exact hrow
  · obtain ⟨e, he, rfl⟩ := List.mem_map.1 hs
    exact (hes e he).2.1

theorem OwnS.ow {w : World} {base : Nat} {v : Value} {l : List Str} (h : OwnS w base v l) : Lay.strs.ow w [v] l v.ownBlock.toList := by
  have h0 := h.mono (Nat.zero_le base)
  refine ⟨v, l.map fun s => ([sV s], s, []), rfl, by simp [List.map_map, Function.comp_def], ?_, fun e he => ?_, ?_⟩
  · have e1 : (l.map fun s => (([sV s], s, []) : El Str)).flatMap (·.1) = l.map sV := by
      rw [List.flatMap_map]
      clear h h0
      induction l with
      | nil => rfl
      | cons a t ih => rw [List.flatMap_cons, ih]; rfl
    rw [e1, List.length_map]
    exact h0.row
  · obtain ⟨s, hs, rfl⟩ := List.mem_map.1 he
    exact ⟨rfl, h.len s hs, rfl⟩
  · have : (l.map fun s => (([sV s], s, []) : El Str)).flatMap (·.2.2) = [] := by
      rw [List.flatMap_eq_nil_iff]
      intro e he
      obtain ⟨s, hs, rfl⟩ := List.mem_map.1 he
      rfl
    rw [this, List.append_nil]
theorem OwnS.fp {w : World} {base : Nat} {v : Value} {l : List Str} (h : OwnS w base v l) : v.ownBlock.toList.Nodup ∧ ∀ k ∈ v.ownBlock.toList, base ≤ k ∧ k < w.heap.size :=
  ⟨by cases v.ownBlock <;> simp, fun k hk => World.ownsRow.lt h.row k (by simpa using hk)⟩
theorem OwnS.form {w : World} {base : Nat} {v : Value} {l : List Str} (h : OwnS w base v l) : ∃ A c, v = .slice A l.length c ∧ l.length ≤ c ∧ c ≤ maxLen ∧ Ss w A l := strs_rd (Lay.strs.read h.ow)
theorem OwnS.gives {w w' : World} {v : Value} {l : List Str} (h : OwnS w' w.heap.size v l) (hb : Below w.heap.size w w') : Gives1 Lay.strs l w (.returned v) w' :=
  ⟨v, _, rfl, h.ow, h.fp.1, fun k hk => (h.fp.2 k hk).1, hb⟩
theorem OwnS.nil (w : World) (base : Nat) : OwnS w base (.slice none 0 0) [] := ⟨World.ownsRow_nil w base _ _, by simp⟩
theorem OwnS.below {w w' : World} {base : Nat} {v : Value} {l : List Str} (h : OwnS w base v l) (hb : Below w.heap.size w w') : OwnS w' base v l :=
  ⟨World.ownsRow.kept (w' := w') (row := none) h.row ⟨hb.os, hb.tape, hb.output, hb.size, fun k hk _ => hb.block k hk⟩ (by cases hv : v.ownBlock <;> simp), h.len⟩

theorem run_app_strs {w : World} {base : Nat} {v : Value} {l r : List Str} {A : Option Addr} (c n : Nat) (ty : TypeId) (hn : n = r.length) (hown : OwnS w base v l) (hr : Ss w A r)
    (hlen : l.length + r.length ≤ 1000000000) (hbase : base ≤ w.heap.size) :
    ∃ v' w', (Builtin.append_ #[61, 61] ty #[v, .slice A n c]).run Try.prog w = .ok v' w' ∧ OwnS w' base v' (l ++ r) ∧ w.grownBy w' v.ownBlock ∧
      (v'.ownBlock = v.ownBlock ∨ v'.ownBlock = some w.heap.size) := by
  subst hn
  obtain ⟨i, hi, hz, hs, hb⟩ := info_parts Try.infoStr
  have hl2 : ∀ s ∈ l ++ r, s.length ≤ maxLen := by
    intro s hs
    rcases List.mem_append.1 hs with hs | hs
    · exact hown.len s hs
    · obtain ⟨k, hk, rfl⟩ := List.mem_iff_getElem.1 hs
      obtain ⟨_, _, _, _, _, h⟩ := hr.at_ k hk
      exact h
  cases A with
  | none =>
    have h0 : r = [] := by
      cases r with
      | nil => rfl
      | cons x t => obtain ⟨b, off, e, _⟩ := hr.at_ 0 (by simp); cases e
    subst h0
    refine ⟨v, w, ?_, by simpa using hown, World.grownBy.refl w _, .inl rfl⟩
    rcases hown.row.2 with ⟨rfl, h1⟩ | ⟨g, cap, cur, rfl, _, _, hnc, _⟩
    · simp [Builtin.append_, run_underlying Try.underlying61, sizeOf, typeInfo, hi, Builtin.lenOf, Builtin.firstCells]
    · simp [Builtin.append_, run_underlying Try.underlying61, sizeOf, typeInfo, hi, Builtin.lenOf, Builtin.firstCells, hnc, storeCells]
  | some a =>
    have hcells : ∀ j u, (r.map sV)[j]? = some u → w.cell? (a.add j) = some u := by
      intro j u hu
      have hj : j < r.length := by
        have := (List.getElem?_eq_some_iff.1 hu).1
        simpa using this
      obtain ⟨b, off, e, _, hc, _⟩ := hr.at_ j hj
      cases e
      rw [add_plain, hc]
      simp [hj, sV] at hu
      rw [← hu]
    obtain ⟨v', w', hrun, h2, h3, _, h5⟩ := run_append_own_at (P := Try.prog) w base 61 ty 9 i (.string ⟨#[]⟩) 1 16 Try.underlying61 hi hz hs hb rfl (by omega) v l.length (l.map sV) hown.row a r.length c (r.map sV)
      (by simp) hcells (by intro u hu; simp only [List.mem_map] at hu; obtain ⟨x, _, rfl⟩ := hu; rfl) (by unfold maxLen; omega) (by omega) hbase
    refine ⟨v', w', hrun, ⟨?_, hl2⟩, h3, h5⟩
    rw [List.length_append, List.map_append]
    exact h2

theorem wpList_app_strs {w : World} {ops : Array Oper} {rest : List Oper} {o : Oper} {a : Act} {Q : Exit → Act → World → Prop} (hgd : Region.wanted o (yielded ops a.tmps) = true) (s x : Operand)
    (ho : o.op = .call { callee := .builtin .append, args := #[s, x], argTypes := #[61, 61] })
    (base : Nat) (v : Value) (l r : List Str) (A : Option Addr) (n c : Nat) (hs : a.eval s = v) (hx : a.eval x = .slice A n c) (hn : n = r.length) (hown : OwnS w base v l) (hr : Ss w A r)
    (hlen : l.length + r.length ≤ 1000000000) (hbase : base ≤ w.heap.size)
    (h : ∀ v' w', OwnS w' base v' (l ++ r) → w.grownBy w' v.ownBlock → (v'.ownBlock = v.ownBlock ∨ v'.ownBlock = some w.heap.size) → wpList Try.prog ops Q rest (a.put o.dst v') w') : wpList Try.prog ops Q (o :: rest) a w := by
  refine BigFrame.wpList_want hgd fun K hK => ?_
  obtain ⟨v', w', hrun, h2, h3, h4⟩ := run_app_strs c n o.type hn hown hr hlen hbase
  unfold Oper.wp execOp
  simp only [ho, resolve, invoke, builtin, Sem.run_bind, Sem.run_pure, Result.andThen_ok, List.map_toArray, List.map_cons, List.map_nil, hs, hx, hrun]
  exact hK _ _ (h v' w' h2 h3 h4)

theorem growNil_any (n : Nat) (w : World) (hn : n ≤ 1000000000) :
    Calls Try.prog 111 #[.slice none 0 0, .int .i64 (n : Int)] w fun e w' => ∃ v, e = .returned v ∧ OwnS w' w.heap.size v [] ∧ Below w.heap.size w w' := by
  by_cases h0 : n = 0
  · subst h0
    refine (Any8.slices_Grow_room Try.growS none 0 0 0 w (by omega) (by omega) (by omega) (by omega)).mono ?_
    rintro e w' ⟨rfl, rfl⟩
    exact ⟨_, rfl, OwnS.nil _ _, Below.refl _ _⟩
  · obtain ⟨i, hi, hz, hs, hb⟩ := info_parts Try.infoStr
    refine (Any8.slices_Grow_grow Try.growS i (.string ⟨#[]⟩) hi hz (by omega) none 0 0 n [] w (by omega) (by omega) (by rw [hb]; omega) (by omega) (by simp) (fun _ => rfl) (fun a ha => by cases ha)).mono ?_
    rintro e w' ⟨rfl, rfl⟩
    refine ⟨_, rfl, ⟨⟨rfl, .inr ⟨w.heap.size, _, _, rfl, Nat.le_refl _, heap_alloc_new w.drew _, Nat.zero_le _, ?_, ?_, ?_⟩⟩, by simp⟩, (below_of_drewN w 1).alloc (by simp) _⟩
    · exact grownCap_le_maxLen _ _ _ _ (by unfold maxLen; omega)
    · have := grownCap_ge w n 0 9
      rw [show (Try.growS_ren.t 25) = 9 from rfl]
      have e1 : (Value.string ⟨#[]⟩).cells.size = 1 := rfl
      simp [Builtin.zeroCells, e1]
      omega
    · simp

/-- The total length of lists. -/
def sums (ls : List (List Str)) : Nat := ls.flatten.length
theorem sums_take (ls : List (List Str)) (k : Nat) (h : k < ls.length) : sums (ls.take (k + 1)) = sums (ls.take k) + (ls[k]).length := by
  unfold sums; rw [List.take_succ_eq_append_getElem h, List.flatten_append, List.length_append]; simp
theorem sums_le (ls : List (List Str)) (k : Nat) (h : k < ls.length) : sums (ls.take k) + (ls[k]).length ≤ sums ls := by
  rw [← sums_take ls k h]
  have : ls.flatten = (ls.take (k + 1)).flatten ++ (ls.drop (k + 1)).flatten := by rw [← List.flatten_append, List.take_append_drop]
  unfold sums
  rw [this, List.length_append]
  omega

/-- The slice of slices of strings that starts at A. -/
def Sss (w : World) (A : Option Addr) (ls : List (List Str)) : Prop := Sl 1 Lay.strs.rd w A ls
theorem Sss.below {w w' : World} {A : Option Addr} {l : List (List Str)} (h : Sss w A l) (hb : Below w.heap.size w w') : Sss w' A l := Sl.below (E := Lay.strs) h hb
theorem Sss.at_ {w : World} {A : Option Addr} {ls : List (List Str)} (h : Sss w A ls) (k : Nat) (hk : k < ls.length) :
    ∃ b off B c, A = some ⟨b, off, none⟩ ∧ b < w.heap.size ∧ w.cell? ⟨b, off + k, none⟩ = some (.slice B (ls[k]).length c) ∧ (ls[k]).length ≤ c ∧ Ss w B ls[k] := by
  obtain ⟨b, off, v, hA, hb, hc, hr⟩ := Sl.at1 h k hk
  obtain ⟨B, c, rfl, h1, _, h3⟩ := strs_rd hr
  exact ⟨b, off, B, c, hA, hb, hc, h1, h3⟩

set_option maxHeartbeats 1000000 in
theorem concat_any (A : Option Addr) (ls : List (List Str)) (c : Nat) (w : World) (hl : ls.length ≤ 1000000) (hs : sums ls ≤ 1000000000) (h : Sss w A ls) :
    Calls Try.prog 82 #[.slice A ls.length c] w fun e w' => ∃ v, e = .returned v ∧ OwnS w' w.heap.size v ls.flatten ∧ Below w.heap.size w w' := by
  go_enter Try.func82, Try.ntmps82
  go_wp2
  go_loop [3, 11] (fun z i => ∃ k : Nat, k ≤ ls.length ∧ i = .int .i64 k ∧ z = .int .i64 ((sums (ls.take k) : Nat) : Int)) (fun _ i => ls.length - (intOf i).toNat)
  case atStart => exact ⟨0, Nat.zero_le _, rfl, rfl⟩
  case round =>
    obtain ⟨k, hk, rfl, rfl⟩ := hrel
    by_cases hlt : k < ls.length
    · obtain ⟨b, off, B, d, rfl, hbl, hc, hld, hB⟩ := h.at_ k hlt
      have h1 := sums_take ls k hlt
      have h2 := sums_le ls k hlt
      have H1 := Lib.hid h1
      clear h1
      generalize hL : ls[k] = L at *
      have HL := Lib.hid hL
      clear hL
      obtain ⟨q, hq⟩ : ∃ q, sums (ls.take k) = q := ⟨_, rfl⟩
      rw [hq] at h2 H1 ⊢
      clear hq
      have hk0 : (k : Int) < (ls.length : Int) := by omega
      have hn : ¬ (q : Int) + (L.length : Int) < 0 := by omega
      go_wp2
      go_round
      case rel => exact ⟨k + 1, by omega, by go_num, by rw [H1.out]; go_num⟩
      case measure => simp [intOf]; omega
    · have e : k = ls.length := by omega
      subst e
      rw [List.take_length]
      go_wp2_with fail
      refine (growNil_any (sums ls) _ hs).mono ?_
      rintro e w1 ⟨v1, rfl, hown1, hb1⟩
      go_wp2
      go_loopw [6, 27] (fun v i wr => ∃ k : Nat, k ≤ ls.length ∧ i = .int .i64 k ∧ OwnS wr w.heap.size v (ls.take k).flatten ∧ Below w.heap.size w wr) (fun _ i _ => ls.length - (intOf i).toNat)
      case atStart => exact ⟨0, Nat.zero_le _, rfl, by simpa using hown1, hb1⟩
      case round =>
        obtain ⟨k, hk2, rfl, hown, hb⟩ := hrel
        by_cases hlt2 : k < ls.length
        · obtain ⟨b, off, B, d, rfl, hbl, hc, hld, hB⟩ := (h.below hb).at_ k hlt2
          have h2 := sums_le ls k hlt2
          have h1 : (ls.take (k + 1)).flatten = (ls.take k).flatten ++ ls[k] := by rw [List.take_succ_eq_append_getElem hlt2, List.flatten_append]; simp
          have hML : (ls.take k).flatten.length + (ls[k]).length ≤ 1000000000 := Nat.le_trans h2 hs
          generalize hL : ls[k] = L at *
          generalize hM : (ls.take k).flatten = M at *
          have H1 := Lib.hid h1
          have HL := Lib.hid hL
          have HM := Lib.hid hM
          clear hL hM h1
          have hk0 : (k : Int) < (ls.length : Int) := by omega
          have hbs := hb.size
          go_wp2_with (at_builtin; go_must (refine wpList_app_strs rfl _ _ rfl w.heap.size _ M L B L.length d rfl rfl rfl hown hB hML hbs ?_))
          intro v4 w4 hown4 hg4 _
          have hb4 := hb.grown hg4 hbs (fun x hx => (World.ownsRow.lt hown.row x hx).1)
          go_wp2
          go_roundw
          case rel => exact ⟨k + 1, by omega, by go_num, by rw [H1.out]; exact hown4, hb4⟩
          case measure => simp [intOf]; omega
        · have e : k = ls.length := by omega
          subst e
          rw [List.take_length] at hown
          go_wp2
          go_ret
          exact ⟨_, rfl, hown, hb⟩
end Go.Proofs.Ytfbcpiipekfapaa
