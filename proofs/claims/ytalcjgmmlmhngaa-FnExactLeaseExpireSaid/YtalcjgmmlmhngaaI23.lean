/-
  Chapter 7, slices.Insert of one lease: contract. Own work.
-/
import Derived.Test.YtalcjgmmlmhngaaI14
import Derived.Lib.AppendZerosOnto
import Derived.Lib.Overlaps
namespace Go.Proofs.Ytalcjgmmlmhngaa
open Go.RowKit P
set_option linter.unusedVariables false
set_option linter.unusedSimpArgs false
set_option maxRecDepth 100000

theorem wpList_run_app2 {w : World} {ops : Array Oper} {rest : List Oper} {o : Oper} {a : Act} {Q : Exit → Act → World → Prop} (hgd : o.guard = none) (s x : Operand) (t t' : TypeId)
    (ho : o.op = .call { callee := .builtin .append, args := #[s, x], argTypes := #[t, t'] }) (v y : Value) (hs : a.eval s = v) (hx : a.eval x = y) {v' : Value} {w' : World}
    (hrun : (Builtin.append_ #[t, t'] o.type #[v, y]).run Try.prog w = .ok v' w') (h : wpList Try.prog ops Q rest (a.put o.dst v') w') : wpList Try.prog ops Q (o :: rest) a w :=
  wpList_plain hgd fun K hK => by
    unfold Oper.wp execOp
    simp only [ho, resolve, invoke, builtin, Sem.run_bind, Sem.run_pure, Result.andThen_ok, List.map_toArray, List.map_cons, List.map_nil, hs, hx, hrun]
    exact hK _ _ h
theorem wpList_run_copy {w : World} {ops : Array Oper} {rest : List Oper} {o : Oper} {a : Act} {Q : Exit → Act → World → Prop} (hgd : o.guard = none) (s x : Operand) (t t' : TypeId)
    (ho : o.op = .call { callee := .builtin .copy, args := #[s, x], argTypes := #[t, t'] }) (v y : Value) (hs : a.eval s = v) (hx : a.eval x = y) {v' : Value} {w' : World}
    (hrun : (Builtin.copy_ #[t, t'] o.type #[v, y]).run Try.prog w = .ok v' w') (h : wpList Try.prog ops Q rest (a.put o.dst v') w') : wpList Try.prog ops Q (o :: rest) a w :=
  wpList_plain hgd fun K hK => by
    unfold Oper.wp execOp
    simp only [ho, resolve, invoke, builtin, Sem.run_bind, Sem.run_pure, Result.andThen_ok, List.map_toArray, List.map_cons, List.map_nil, hs, hx, hrun]
    exact hK _ _ h
theorem step_run_copy {w : World} {ops : Array Oper} {o : Oper} {a : Act} {K : Act → World → Prop} {Q : Exit → Act → World → Prop} {X : Prop} (hgd : o.guard = none) (s x : Operand) (t t' : TypeId)
    (ho : o.op = .call { callee := .builtin .copy, args := #[s, x], argTypes := #[t, t'] })
    (v y : Value) (hs : a.eval s = v) (hx : a.eval x = y) {v' : Value} {w' : World} (hrun : (Builtin.copy_ #[t, t'] o.type #[v, y]).run Try.prog w = .ok v' w') (h : K (a.put o.dst v') w') :
    if Region.wanted o (yielded ops a.tmps) = true then Oper.wp Try.prog o a w K Q else X := by
  have hw : Region.wanted o (yielded ops a.tmps) = true := by simp [Region.wanted, hgd]
  rw [if_pos hw]
  unfold Oper.wp execOp
  simp only [ho, resolve, invoke, builtin, Sem.run_bind, Sem.run_pure, Result.andThen_ok, List.map_toArray, List.map_cons, List.map_nil, hs, hx, hrun]
  exact h

theorem slcLe_fromN (g n c j : Nat) (hj : j ≤ n) (hjc : j < c) (hc : n ≤ c) (hc9 : c ≤ maxLen) : ∀ W, (Instr.slice 24 (.slice (some ⟨g, 0, none⟩) n c) (some (.int .i64 (j : Int))) none none).run Try.prog W = .ok (.slice (some ⟨g, j * 4, none⟩) (n - j) (c - j)) W := by
  intro W
  rw [slcLe_from g n c j hj hc hc9 W, if_neg (by omega)]
theorem slcLe_nil0 : ∀ W, (Instr.slice 24 (.slice none 0 0) (some (.int .i64 0)) none none).run Try.prog W = .ok (.slice none 0 0) W := by
  intro W
  have hz : ∀ W, (Go.sizeOf 34).run Try.prog W = .ok 4 W := fun W => by kernel_rfl
  have ht' : Try.prog.underlying 24 = some (.slice (Try.prog.elem 24)) := by simp [Program.elem, Try.underlying24]
  have he : Try.prog.elem 24 = 34 := by simp [Program.elem, Try.underlying24]
  rw [run_slice_l W 24 _ _ _ ht' .i64 _ (by omega) (by omega), he, hz]
  simp [Result.andThen, sliced]
theorem slcLe_upto (g n c m : Nat) (hm : m ≤ c) (hc9 : c ≤ maxLen) : ∀ W, (Instr.slice 24 (.slice (some ⟨g, 0, none⟩) n c) none (some (.int .i64 (m : Int))) none).run Try.prog W = .ok (.slice (some ⟨g, 0, none⟩) m c) W := by
  intro W
  unfold maxLen at hc9
  have hz : ∀ W, (Go.sizeOf 34).run Try.prog W = .ok 4 W := fun W => by kernel_rfl
  have ht' : Try.prog.underlying 24 = some (.slice (Try.prog.elem 24)) := by simp [Program.elem, Try.underlying24]
  have he : Try.prog.elem 24 = 34 := by simp [Program.elem, Try.underlying24]
  rw [run_slice_h W 24 _ _ _ ht' .i64 _ (by omega) (by omega), he, hz]
  simp [Result.andThen, sliced, Addr.add]

/-- copy into a row of leases. -/
theorem run_copy_le {W : World} {g o dLen dCap sLen sCap k : Nat} {a : Addr} {cur : Array Value} {cs : List Value} (hB : Blk W g cur 34) (hk : Nat.min sLen dLen = k) (hcs : cs.length = k * 4)
    (hsrc : ∀ j v, cs[j]? = some v → W.cell? (a.add j) = some v) (hfit : o + cs.length ≤ cur.size) (h1 : ∀ v ∈ cs, v.oneCell' = true) (ty : TypeId) :
    (Builtin.copy_ #[24, 24] ty #[.slice (some ⟨g, o, none⟩) dLen dCap, .slice (some a) sLen sCap]).run Try.prog W = .ok (goInt k) (W.setRow g (cur.toList.take o ++ cs ++ cur.toList.drop (o + cs.length)).toArray) := by
  obtain ⟨inf, hif, hz, hsz, hby⟩ := info_parts Try.infoLe
  have hf := run_firstCells_some (P := Try.prog) W 4 k a sLen sCap cs hcs hsrc
  have hst := run_storeCells_at Try.prog g o 34 cs 0 cur W hB (by simpa using hfit) h1
  simp only [Nat.add_zero] at hst
  simp [Builtin.copy_, run_underlying Try.underlying24, Builtin.lenOf, sizeOf, typeInfo, hif, hsz, hk, hf, hst]

theorem leC_one (l : Le) : ∀ v ∈ leCl l, v.oneCell' = true := by
  intro v hv
  have h := leCl_one [l] v
  simp only [List.flatMap_cons, List.flatMap_nil, List.append_nil] at h
  exact h hv
theorem take_three (A L B R : List Value) (n : Nat) (h : A.length + L.length + B.length = n) : (A ++ L ++ B ++ R).take n = A ++ L ++ B := by
  rw [List.take_append_of_le_length (by simp only [List.length_append]; omega), List.take_of_length_le (by simp only [List.length_append]; omega)]

/-- What slices.Insert of the lease l at i gives. -/
def Inserts (es : List Le) (i : Nat) (l : Le) (base : Nat) (v : Value) (w : World) (e : Ending) (w' : World) : Prop := ∃ v', e = .returned v' ∧ OwR w' base v' (es.take i ++ l :: es.drop i) ∧ w.grownBy w' v.ownBlock

set_option maxHeartbeats 8000000 in
theorem insert_end (v : Value) (es : List Le) (l : Le) (base b : Nat) (w : World) (hl : es.length ≤ 100000) (hO : OwR w base v es) (hL : Ll w (some ⟨b, 0, none⟩) [l]) (hbase : base ≤ w.heap.size) :
    Calls Try.prog 126 #[v, .int .i64 (es.length : Int), .slice (some ⟨b, 0, none⟩) 1 1] w (Inserts es es.length l base v w) := by
  unfold Inserts
  rw [List.take_length, List.drop_length]
  have hsl : ∃ u, ∀ W, (Instr.slice 24 v (some (.int .i64 (es.length : Int))) none none).run Try.prog W = .ok u W := by
    rcases hO.row.2 with ⟨rfl, h0⟩ | ⟨g, cap, cur, rfl, hbg, hh, hnc, hcm, hcs, htk⟩
    · rw [h0]; exact ⟨_, slcLe_nil0⟩
    · exact ⟨_, slcLe_from g es.length cap es.length (Nat.le_refl _) hnc hcm⟩
  have hln : ∃ A c, v = .slice A es.length c := by
    obtain ⟨A, c, h, _⟩ := hO.owL
    exact ⟨A, c, h⟩
  obtain ⟨u, hS⟩ := hsl
  obtain ⟨A, c, rfl⟩ := hln
  have HO := Lib.hid hO
  have HL := Lib.hid hL
  clear hO hL
  go_enter Try.func126, Try.ntmps126
  go_wp2_with (at_builtin; go_must (refine wpList_app_le rfl _ _ rfl base _ es [l] _ 1 1 rfl rfl rfl HO.out (by have h9 := HL.out; exact h9) ?c1 ?c2 ?_))
  case c1 => simp; omega
  case c2 => exact hbase
  intro v4 w4 hown4 hg4 _
  have H4 := Lib.hid hown4
  have HG := Lib.hid hg4
  clear hown4 hg4
  go_wp2
  go_ret
  exact ⟨_, rfl, H4.out, HG.out⟩

set_option maxHeartbeats 8000000 in
theorem insert_grow (g cap i : Nat) (cur : Array Value) (es : List Le) (l : Le) (base b : Nat) (w : World) (hl : es.length ≤ 100000) (hi : i < es.length) (hin : ∀ x ∈ es, leIn x) (hil : leIn l) (hh : Blk w g cur 34) (hnc : cap = es.length) (hcs : cur.size = cap * 4)
    (htk : cur.toList.take (es.length * 4) = es.flatMap leCl) (hb : Blk w b (leC l) 34) (hbase : base ≤ w.heap.size) :
    Calls Try.prog 126 #[.slice (some ⟨g, 0, none⟩) es.length cap, .int .i64 (i : Int), .slice (some ⟨b, 0, none⟩) 1 1] w (Inserts es i l base (.slice (some ⟨g, 0, none⟩) es.length cap) w) := by
  obtain ⟨inf, hif, hz, hsz, hby⟩ := info_parts Try.infoLe
  have hfl := leCl_flat es
  have hcm : cap ≤ maxLen := by unfold maxLen; omega
  have hA : ((es.take i).flatMap leCl).length = i * 4 := by rw [leCl_flat, List.length_take]; omega
  have hBl : ((es.drop i).flatMap leCl).length = (es.length - i) * 4 := by rw [leCl_flat, List.length_drop]
  have hsplit : es.flatMap leCl = (es.take i).flatMap leCl ++ (es.drop i).flatMap leCl := by rw [← List.flatMap_append, List.take_append_drop]
  have hcells : ∀ j u, (es.flatMap leCl)[j]? = some u → w.cell? ⟨g, j, none⟩ = some u := by
    intro j u hu
    rw [hh.cell]
    have hj : j < es.length * 4 := by
      have := (List.getElem?_eq_some_iff.1 hu).1
      omega
    rw [← htk, List.getElem?_take, if_pos hj] at hu
    simpa using hu
  have hgw := hh.lt
  have hbw := hb.lt
  have hS1 := slcLe_fromN g es.length cap i (by omega) (by omega) (by omega) hcm
  have hS2 := slcLe_head g es.length cap i (by omega) (by omega) hcm
  -- the append of a make
  have hold : (Builtin.firstCells inf.size i (.slice (some ⟨g, 0, none⟩) i cap)).run Try.prog w.drew = .ok ((es.take i).flatMap leCl).toArray w.drew := by
    rw [hsz]
    refine run_firstCells_some w.drew 4 i ⟨g, 0, none⟩ i cap _ hA (fun j u hu => ?_)
    rw [add_plain, Nat.zero_add]
    refine hcells j u ?_
    rw [hsplit, List.getElem?_append_left (by rw [hA]; have := (List.getElem?_eq_some_iff.1 hu).1; omega)]
    exact hu
  have hkk : (es.length : Int) + 1 - (i : Int) = ((es.length + 1 - i : Nat) : Int) := by omega
  have hik : i + (es.length + 1 - i) = es.length + 1 := by omega
  have hap := fun ty => Lib.run_append_grow_zeros (P := Try.prog) w 24 3 ty 34 inf _ .i64 .i64 Try.underlying24 Try.underlying3 hif hz (some ⟨g, 0, none⟩) i cap ((es.take i).flatMap leCl) hold (es.length + 1 - i) (by omega) (by omega) (by omega) (by omega) (by rw [hby]; omega) (by rw [hby, hik]; exact growslice_fits (by omega) (by omega))
  rw [hik, ← hkk] at hap
  obtain ⟨G, hG⟩ : ∃ G, grownCap w (es.length + 1) cap 34 = G := ⟨_, rfl⟩
  have hG1 : es.length + 1 ≤ G := by rw [← hG]; exact grownCap_ge w _ _ _
  have hG2 : G ≤ maxLen := by rw [← hG]; exact grownCap_le_maxLen w _ _ _ (by unfold maxLen; omega)
  rw [hG] at hap
  obtain ⟨R0, hR0⟩ : ∃ R0, ((es.take i).flatMap leCl).toArray ++ Builtin.zeroCells (Value.agg #[.int .i64 0, .int .i64 0, .int .i64 0, .int .i64 0]).cells (es.length + 1 - i) ++ Builtin.zeroCells (Value.agg #[.int .i64 0, .int .i64 0, .int .i64 0, .int .i64 0]).cells (G - (es.length + 1)) = R0 := ⟨_, rfl⟩
  rw [hR0] at hap
  have hRs : R0.size = G * 4 := by
    rw [← hR0]
    simp only [Array.size_append, List.size_toArray, size_zeroCells, hA, Value.cells]
    simp
    omega
  have hRt : R0.toList.take (i * 4) = (es.take i).flatMap leCl := by
    rw [← hR0]
    simp only [Array.toList_append, List.append_assoc]
    rw [List.take_append_of_le_length (by rw [hA]; omega), List.take_of_length_le (by rw [hA]; omega)]
  have hB1 : Blk (w.drew.alloc (.cells R0 34)) w.heap.size R0 34 := Blk.new w.drew R0 _
  have hL1 : Blk (w.drew.alloc (.cells R0 34)) b (leC l) 34 := (show Blk w.drew b (leC l) 34 from hb).alloc _
  have hH1 : Blk (w.drew.alloc (.cells R0 34)) g cur 34 := (show Blk w.drew g cur 34 from hh).alloc _
  have hS3 := slcLe_fromN w.heap.size (es.length + 1) G i (by omega) (by omega) (by omega) hG2
  have hS4 := slcLe_fromN w.heap.size (es.length + 1) G (i + 1) (by omega) (by omega) (by omega) hG2
  rw [Int.natCast_add, Int.natCast_one, Nat.add_sub_add_right] at hS4
  have hg1 : w.grownBy (w.drew.alloc (.cells R0 34)) (some g) := ⟨rfl, rfl, rfl, by simp, fun k hk _ => heap_alloc_old w.drew _ hk⟩
  have hz1 : (w.drew.alloc (.cells R0 34)).heap.size = w.heap.size + 1 := by simp
  generalize w.drew.alloc (.cells R0 34) = W1 at *
  clear hR0 hold hG
  have hc1 := run_copy_le (o := i * 4) (dLen := es.length + 1 - i) (dCap := G - i) (sLen := 1) (sCap := 1) (k := 1) (a := ⟨b, 0, none⟩) (cs := leCl l) hB1 (by simp only [Nat.min_def]; split <;> omega) (leCl_length l) (fun j u hu => by rw [add_plain, Nat.zero_add, hL1.cell]; simpa [leCl] using hu) (by rw [leCl_length, hRs]; omega) (leC_one l)
  have hB2 := setRow_heap W1 w.heap.size R0 (R0.toList.take (i * 4) ++ leCl l ++ R0.toList.drop (i * 4 + (leCl l).length)).toArray 34 _ hB1
  have hH2 : Blk (W1.setRow w.heap.size (R0.toList.take (i * 4) ++ leCl l ++ R0.toList.drop (i * 4 + (leCl l).length)).toArray) g cur 34 := hH1.of_block (Go.setRow_other W1 w.heap.size g _ (by omega))
  have hg2 : w.grownBy (W1.setRow w.heap.size (R0.toList.take (i * 4) ++ leCl l ++ R0.toList.drop (i * 4 + (leCl l).length)).toArray) (some g) := ⟨hg1.os, hg1.tape, hg1.output, by rw [Go.setRow_size]; exact hg1.size, fun k hk hne => (Go.setRow_other W1 w.heap.size k _ (by omega)).trans (hg1.block k hk hne)⟩
  have hz2 : (W1.setRow w.heap.size (R0.toList.take (i * 4) ++ leCl l ++ R0.toList.drop (i * 4 + (leCl l).length)).toArray).heap.size = w.heap.size + 1 := by rw [Go.setRow_size]; exact hz1
  obtain ⟨R1, hR1⟩ : ∃ R1, (R0.toList.take (i * 4) ++ leCl l ++ R0.toList.drop (i * 4 + (leCl l).length)).toArray = R1 := ⟨_, rfl⟩
  have hR1s : R1.size = G * 4 := by
    rw [← hR1, List.size_toArray, List.length_append, List.length_append, List.length_take, List.length_drop, leCl_length, Array.length_toList]
    omega
  have hR1t : R1.toList.take ((i + 1) * 4) = (es.take i).flatMap leCl ++ leCl l := by
    rw [← hR1, hRt, List.toList_toArray, List.take_append_of_le_length (by rw [List.length_append, hA, leCl_length]; omega), List.take_of_length_le (by rw [List.length_append, hA, leCl_length]; omega)]
  rw [hR1] at hc1 hB2 hH2 hg2 hz2
  generalize W1.setRow w.heap.size R1 = W2 at *
  clear hR1
  have hc2 := run_copy_le (W := W2.drew) (o := (i + 1) * 4) (dLen := es.length - i) (dCap := G - (i + 1)) (sLen := es.length - i) (sCap := cap - i) (k := es.length - i) (a := ⟨g, i * 4, none⟩) (cs := (es.drop i).flatMap leCl) (g := w.heap.size) (cur := R1) hB2 (by simp only [Nat.min_def]; split <;> omega) hBl (fun j u hu => by
    rw [add_plain, show W2.drew.cell? ⟨g, i * 4 + j, none⟩ = cur[i * 4 + j]? from Blk.cell (show Blk W2.drew g cur 34 from hH2) _, ← hh.cell]
    refine hcells _ u ?_
    rw [hsplit, List.getElem?_append_right (by omega), hA, Nat.add_sub_cancel_left]
    exact hu) (by rw [hBl, hR1s]; omega) (leCl_one _)
  have hfin : OwR (W2.drew.setRow w.heap.size (R1.toList.take ((i + 1) * 4) ++ (es.drop i).flatMap leCl ++ R1.toList.drop ((i + 1) * 4 + ((es.drop i).flatMap leCl).length)).toArray) base (.slice (some ⟨w.heap.size, 0, none⟩) (es.length + 1) G) (es.take i ++ l :: es.drop i) := by
    have hL : (es.take i ++ l :: es.drop i).length = es.length + 1 := by rw [List.length_append, List.length_cons, List.length_take, List.length_drop]; omega
    refine ⟨⟨by rw [leCl_flat], .inr ⟨w.heap.size, G, _, by rw [hL], hbase, setRow_heap W2.drew w.heap.size R1 _ 34 _ hB2, by omega, hG2, ?_, ?_⟩⟩, fun x hx => ?_⟩
    · rw [List.size_toArray, List.length_append, List.length_append, List.length_take, List.length_drop, hBl, Array.length_toList]
      omega
    · rw [hL, List.toList_toArray, hR1t, take_three _ _ _ _ _ (by rw [hA, leCl_length, hBl]; omega), List.flatMap_append, List.flatMap_cons, List.append_assoc]
    · rcases List.mem_append.1 hx with h | h
      · exact hin x (List.mem_of_mem_take h)
      · rcases List.mem_cons.1 h with h | h
        · subst h; exact hil
        · exact hin x (List.mem_of_mem_drop h)
  have hg3 : w.grownBy (W2.drew.setRow w.heap.size (R1.toList.take ((i + 1) * 4) ++ (es.drop i).flatMap leCl ++ R1.toList.drop ((i + 1) * 4 + ((es.drop i).flatMap leCl).length)).toArray) (some g) := ⟨hg2.os, hg2.tape, hg2.output, by rw [Go.setRow_size]; exact hg2.size, fun k hk hne => (Go.setRow_other W2.drew w.heap.size k _ (by omega)).trans (hg2.block k hk hne)⟩
  generalize W2.drew.setRow w.heap.size (R1.toList.take ((i + 1) * 4) ++ (es.drop i).flatMap leCl ++ R1.toList.drop ((i + 1) * 4 + ((es.drop i).flatMap leCl).length)).toArray = W3 at *
  have HFIN := Lib.hid hfin
  have HG3 := Lib.hid hg3
  have hne1 : ((i : Int) == (es.length : Int)) = false := beq_eq_false_iff_ne.2 (by omega)
  have hroom : (cap : Int) < (es.length : Int) + 1 := by omega
  have hw1 : IntKind.i64.wrap ((es.length : Int) + 1) = (es.length : Int) + 1 := IntWalk.i64_in _ (by omega)
  have hw2 : IntKind.i64.wrap ((i : Int) + 1) = (i : Int) + 1 := IntWalk.i64_in _ (by omega)
  have hw3 : IntKind.i64.wrap ((es.length : Int) + 1 - (i : Int)) = (es.length : Int) + 1 - (i : Int) := IntWalk.i64_in _ (by omega)
  clear hB1 hL1 hH1 hg1 hz1 hB2 hH2 hg2 hz2 hfin hg3 hcells hsplit hA hBl hRt hRs hR1t hR1s hkk hik htk hh hb hcs hfl hif hz hsz hby hin hil hnc
  go_enter Try.func126, Try.ntmps126
  go_wp2_with (first
    | (at_builtin; refine wpList_run_app2 rfl _ _ _ _ rfl _ _ rfl rfl (hap _) ?_)
    | (at_builtin; refine wpList_run_copy rfl _ _ _ _ rfl _ _ rfl rfl (hc1 _) ?_))
  refine wp_region_held_drew (S := (fun V => True)) (by kernel_rfl) (by exact trivial) (fun hHeld => ?_)
  refine wpAnyH_take (i := 0) (oi := ?_) (v := ?_) ?_ ?_ ?_ ?_ ?_ ?_ (by exact hHeld) ?_
  rotate_left 2
  · (simp only [List.getElem?_toArray, List.getElem?_cons_zero]; try rfl)
  · kernel_rfl
  · kernel_rfl
  · kernel_rfl
  · exact fun _ _ _ h => h
  · refine Or.inl ⟨by rfl, ?_⟩
    (intro V hSV; (try dsimp only at hSV); obtain ⟨⟩ := hSV; go_simp; try with_reducible rfl)
  (try simp only [Act.put, List.setIfInBounds_toArray, List.set_cons_zero, List.set_cons_succ])
  refine wpAnyH_take (i := 1) (oi := ?_) (v := ?_) ?_ ?_ ?_ ?_ ?_ ?_ (by exact hHeld) ?_
  rotate_left 2
  · (simp only [List.getElem?_toArray, List.getElem?_cons_zero, List.getElem?_cons_succ]; try rfl)
  · kernel_rfl
  · kernel_rfl
  · kernel_rfl
  · exact fun _ _ _ h => h
  · refine Or.inl ⟨by rfl, ?_⟩
    (intro V hSV; (try dsimp only at hSV); obtain ⟨⟩ := hSV; go_simp; try with_reducible rfl)
  (try simp only [Act.put, List.setIfInBounds_toArray, List.set_cons_zero, List.set_cons_succ])
  refine wpAnyH_take (i := 2) (oi := ?_) (v := ?_) ?_ ?_ ?_ ?_ ?_ ?_ (by exact hHeld) ?_
  rotate_left 2
  · (simp only [List.getElem?_toArray, List.getElem?_cons_zero, List.getElem?_cons_succ]; try rfl)
  · kernel_rfl
  · kernel_rfl
  · kernel_rfl
  · exact fun _ _ _ h => h
  · refine Or.inl ⟨by rfl, ?_⟩
    (intro V hSV; (try dsimp only at hSV); obtain ⟨⟩ := hSV; go_simp; try with_reducible rfl)
  (try simp only [Act.put, List.setIfInBounds_toArray, List.set_cons_zero, List.set_cons_succ])
  refine wpAnyH_take (i := 3) (oi := ?_) (v := ?_) ?_ ?_ ?_ ?_ ?_ ?_ (by exact hHeld) ?_
  rotate_left 2
  · (simp only [List.getElem?_toArray, List.getElem?_cons_zero, List.getElem?_cons_succ]; try rfl)
  · kernel_rfl
  · kernel_rfl
  · kernel_rfl
  · exact fun _ _ _ h => h
  · refine Or.inl ⟨by rfl, ?_⟩
    (intro V hSV; (try dsimp only at hSV); obtain ⟨⟩ := hSV; go_simp; try with_reducible rfl)
  (try simp only [Act.put, List.setIfInBounds_toArray, List.set_cons_zero, List.set_cons_succ])
  refine wpAnyH_take (i := 4) (oi := ?_) (v := ?_) ?_ ?_ ?_ ?_ ?_ ?_ (by exact hHeld) ?_
  rotate_left 2
  · (simp only [List.getElem?_toArray, List.getElem?_cons_zero, List.getElem?_cons_succ]; try rfl)
  · kernel_rfl
  · kernel_rfl
  · kernel_rfl
  · exact fun _ _ _ h => h
  · refine Or.inl ⟨by rfl, ?_⟩
    (intro V hSV; (try dsimp only at hSV); obtain ⟨⟩ := hSV; go_simp; try with_reducible rfl)
  (try simp only [Act.put, List.setIfInBounds_toArray, List.set_cons_zero, List.set_cons_succ])
  refine wpAnyH_take (i := 5) (oi := ?_) (v := ?_) ?_ ?_ ?_ ?_ ?_ ?_ (by exact hHeld) ?_
  rotate_left 2
  · (simp only [List.getElem?_toArray, List.getElem?_cons_zero, List.getElem?_cons_succ]; try rfl)
  · kernel_rfl
  · kernel_rfl
  · kernel_rfl
  · exact fun _ _ _ h => h
  · refine Or.inl ⟨by rfl, ?_⟩
    (intro V hSV; (try dsimp only at hSV); obtain ⟨⟩ := hSV; go_simp; try with_reducible rfl)
  (try simp only [Act.put, List.setIfInBounds_toArray, List.set_cons_zero, List.set_cons_succ])
  refine wpAnyH_take (i := 6) (oi := ?_) (v := ?_) ?_ ?_ ?_ ?_ ?_ ?_ (by exact hHeld) ?_
  rotate_left 2
  · (simp only [List.getElem?_toArray, List.getElem?_cons_zero, List.getElem?_cons_succ]; try rfl)
  · kernel_rfl
  · kernel_rfl
  · kernel_rfl
  · exact fun _ _ _ h => h
  · refine Or.inl ⟨by rfl, ?_⟩
    (intro V hSV; (try dsimp only at hSV); obtain ⟨⟩ := hSV; go_simp; try with_reducible rfl)
  (try simp only [Act.put, List.setIfInBounds_toArray, List.set_cons_zero, List.set_cons_succ])
  refine wpAnyH_take (i := 7) (oi := ?_) (v := ?_) ?_ ?_ ?_ ?_ ?_ ?_ (by exact hHeld) ?_
  rotate_left 2
  · (simp only [List.getElem?_toArray, List.getElem?_cons_zero, List.getElem?_cons_succ]; try rfl)
  · kernel_rfl
  · kernel_rfl
  · kernel_rfl
  · exact fun _ _ _ h => h
  · refine Or.inl ⟨by rfl, ?_⟩
    (intro V hSV; (try dsimp only at hSV); obtain ⟨⟩ := hSV; go_simp; try with_reducible rfl)
  (try simp only [Act.put, List.setIfInBounds_toArray, List.set_cons_zero, List.set_cons_succ])
  refine wpAnyH_ready (rs := [8]) (by kernel_rfl) (by simp) ?_
  refine AllReadyH.cons (o := ?_) ?_ (fun K hK => ?_) AllReadyH.nil
  rotate_left 1
  · (simp only [List.getElem?_toArray, List.getElem?_cons_zero, List.getElem?_cons_succ]; try rfl)
  refine step_run_copy rfl (.tmp 50) (.tmp 53) _ _ rfl _ _ rfl rfl (hc2 _) ?_
  (try go_simp)
  refine hK.out _ _ (by exact trivial) (fun hHeld => ?_)
  clear hK K
  (try simp only [Act.put, List.setIfInBounds_toArray, List.set_cons_zero, List.set_cons_succ])
  refine wpAnyH_done (by kernel_rfl) ?_ _
  go_wp2
  go_ret
  exact ⟨_, rfl, HFIN.out, HG3.out⟩

set_option maxHeartbeats 8000000 in
theorem insert_room (g cap i : Nat) (cur : Array Value) (es : List Le) (l : Le) (base b : Nat) (w : World) (hl : es.length ≤ 100000) (hi : i < es.length) (hin : ∀ x ∈ es, leIn x) (hil : leIn l) (hbg : base ≤ g) (hh : Blk w g cur 34) (hnc : es.length + 1 ≤ cap) (hcm : cap ≤ maxLen) (hcs : cur.size = cap * 4)
    (htk : cur.toList.take (es.length * 4) = es.flatMap leCl) (hb : Blk w b (leC l) 34) (hbne : b ≠ g) :
    Calls Try.prog 126 #[.slice (some ⟨g, 0, none⟩) es.length cap, .int .i64 (i : Int), .slice (some ⟨b, 0, none⟩) 1 1] w (Inserts es i l base (.slice (some ⟨g, 0, none⟩) es.length cap) w) := by
  have hA : ((es.take i).flatMap leCl).length = i * 4 := by rw [leCl_flat, List.length_take]; omega
  have hBl : ((es.drop i).flatMap leCl).length = (es.length - i) * 4 := by rw [leCl_flat, List.length_drop]
  have hfl := leCl_flat es
  have hsplit : es.flatMap leCl = (es.take i).flatMap leCl ++ (es.drop i).flatMap leCl := by rw [← List.flatMap_append, List.take_append_drop]
  have hcur : ∀ (j : Nat) (u : Value), (es.flatMap leCl)[j]? = some u → cur[j]? = some u := by
    intro j u hu
    have hj : j < es.length * 4 := by
      have := (List.getElem?_eq_some_iff.1 hu).1
      omega
    rw [← htk, List.getElem?_take, if_pos hj] at hu
    simpa using hu
  have hct : cur.toList.take (i * 4) = (es.take i).flatMap leCl := by
    have h9 : (cur.toList.take (es.length * 4)).take (i * 4) = (es.flatMap leCl).take (i * 4) := by rw [htk]
    rw [List.take_take, Nat.min_eq_left (by omega)] at h9
    rw [h9, hsplit, List.take_append_of_le_length (by rw [hA]; omega), List.take_of_length_le (by rw [hA]; omega)]
  have hS1 := slcLe_fromN g es.length cap i (by omega) (by omega) (by omega) hcm
  have hS2 := slcLe_upto g es.length cap (es.length + 1) (by omega) hcm
  rw [Int.natCast_add, Int.natCast_one] at hS2
  have hS3 := slcLe_fromN g (es.length + 1) cap (i + 1) (by omega) (by omega) (by omega) hcm
  rw [Int.natCast_add, Int.natCast_one, Nat.add_sub_add_right] at hS3
  have hS4 := slcLe_fromN g (es.length + 1) cap i (by omega) (by omega) (by omega) hcm
  have hov : ∀ lb cb, (callFunc 149 #[.slice (some ⟨b, 0, none⟩) 1 1, .slice (some ⟨g, (i + 1) * 4, none⟩) lb cb]).run Try.prog w = .ok (.value (.bool false)) w := fun lb cb => by
    rw [run_callFunc_extern Try.func149 (by kernel_rfl) (by kernel_rfl) (by kernel_rfl) (e := Extern.SlicesOverlaps.overlaps #[24, 24] #[4]) (by kernel_rfl),
      Lib.run_overlaps_apart w 24 4 34 Try.underlying24 4 (fun W => by kernel_rfl) ⟨b, 0, none⟩ ⟨g, (i + 1) * 4, none⟩ 1 1 lb cb hbne 34 34 (leC l).size cur.size (by unfold World.shape?; rw [show w.heap[b]? = _ from hb]) (by unfold World.shape?; rw [show w.heap[g]? = _ from hh]) (by omega) (hb.frozen 0) (hb.frozen _)]
    rfl
  have hc1 := run_copy_le (W := w.drew) (g := g) (cur := cur) (o := (i + 1) * 4) (dLen := es.length - i) (dCap := cap - (i + 1)) (sLen := es.length + 1 - i) (sCap := cap - i) (k := es.length - i) (a := ⟨g, i * 4, none⟩) (cs := (es.drop i).flatMap leCl) hh (by simp only [Nat.min_def]; split <;> omega) hBl (fun j u hu => by
    rw [add_plain, show w.drew.cell? ⟨g, i * 4 + j, none⟩ = cur[i * 4 + j]? from Blk.cell (show Blk w.drew g cur 34 from hh) _]
    refine hcur _ u ?_
    rw [hsplit, List.getElem?_append_right (by omega), hA, Nat.add_sub_cancel_left]
    exact hu) (by rw [hBl, hcs]; omega) (leCl_one _)
  obtain ⟨R1, hR1⟩ : ∃ R1, (cur.toList.take ((i + 1) * 4) ++ (es.drop i).flatMap leCl ++ cur.toList.drop ((i + 1) * 4 + ((es.drop i).flatMap leCl).length)).toArray = R1 := ⟨_, rfl⟩
  rw [hR1] at hc1
  have hR1s : R1.size = cap * 4 := by
    rw [← hR1, List.size_toArray, List.length_append, List.length_append, List.length_take, List.length_drop, hBl, Array.length_toList]
    omega
  have hct1 : (cur.toList.take ((i + 1) * 4)).length = (i + 1) * 4 := by rw [List.length_take, Array.length_toList]; omega
  have hR1t : R1.toList.take (i * 4) = (es.take i).flatMap leCl := by
    rw [← hR1, List.toList_toArray, List.append_assoc, List.take_append_of_le_length (by omega), List.take_take, Nat.min_eq_left (by omega), hct]
  have hR1d : ∃ R, R1.toList.drop (i * 4 + (leCl l).length) = (es.drop i).flatMap leCl ++ R := by
    refine ⟨cur.toList.drop ((i + 1) * 4 + ((es.drop i).flatMap leCl).length), ?_⟩
    rw [← hR1, List.toList_toArray, leCl_length, List.append_assoc, List.drop_append_of_le_length (by omega), List.drop_eq_nil_of_le (by omega), List.nil_append]
  have hB1 := setRow_heap w.drew g cur R1 34 _ hh
  have hL1 : Blk (w.drew.setRow g R1) b (leC l) 34 := (show Blk w.drew b (leC l) 34 from hb).of_block (Go.setRow_other w.drew g b _ hbne)
  have hg1 : w.grownBy (w.drew.setRow g R1) (some g) := ⟨rfl, rfl, rfl, by rw [Go.setRow_size]; exact Nat.le_refl _, fun k hk hne => (Go.setRow_other w.drew g k _ (fun e => hne (by rw [e])))⟩
  generalize w.drew.setRow g R1 = W1 at *
  clear hR1
  have hc2 := run_copy_le (o := i * 4) (dLen := es.length + 1 - i) (dCap := cap - i) (sLen := 1) (sCap := 1) (k := 1) (a := ⟨b, 0, none⟩) (cs := leCl l) hB1 (by simp only [Nat.min_def]; split <;> omega) (leCl_length l) (fun j u hu => by rw [add_plain, Nat.zero_add, hL1.cell]; simpa [leCl] using hu) (by rw [leCl_length, hR1s]; omega) (leC_one l)
  have hfin : OwR (W1.setRow g (R1.toList.take (i * 4) ++ leCl l ++ R1.toList.drop (i * 4 + (leCl l).length)).toArray) base (.slice (some ⟨g, 0, none⟩) (es.length + 1) cap) (es.take i ++ l :: es.drop i) := by
    have hL : (es.take i ++ l :: es.drop i).length = es.length + 1 := by rw [List.length_append, List.length_cons, List.length_take, List.length_drop]; omega
    obtain ⟨R, hR⟩ := hR1d
    refine ⟨⟨by rw [leCl_flat], .inr ⟨g, cap, _, by rw [hL], hbg, setRow_heap W1 g R1 _ 34 _ hB1, by omega, hcm, ?_, ?_⟩⟩, fun x hx => ?_⟩
    · rw [List.size_toArray, List.length_append, List.length_append, List.length_take, List.length_drop, leCl_length, Array.length_toList]
      omega
    · rw [hL, List.toList_toArray, hR1t, hR, ← List.append_assoc, take_three _ _ _ _ _ (by rw [hA, leCl_length, hBl]; omega), List.flatMap_append, List.flatMap_cons, List.append_assoc]
    · rcases List.mem_append.1 hx with h | h
      · exact hin x (List.mem_of_mem_take h)
      · rcases List.mem_cons.1 h with h | h
        · subst h; exact hil
        · exact hin x (List.mem_of_mem_drop h)
  have hg2 : w.grownBy (W1.setRow g (R1.toList.take (i * 4) ++ leCl l ++ R1.toList.drop (i * 4 + (leCl l).length)).toArray) (some g) := ⟨hg1.os, hg1.tape, hg1.output, by rw [Go.setRow_size]; exact hg1.size, fun k hk hne => (Go.setRow_other W1 g k _ (fun e => hne (by rw [e]))).trans (hg1.block k hk hne)⟩
  generalize W1.setRow g (R1.toList.take (i * 4) ++ leCl l ++ R1.toList.drop (i * 4 + (leCl l).length)).toArray = W2 at *
  have HFIN := Lib.hid hfin
  have HG2 := Lib.hid hg2
  have hne1 : ((i : Int) == (es.length : Int)) = false := beq_eq_false_iff_ne.2 (by omega)
  have hroom : ¬ (cap : Int) < (es.length : Int) + 1 := by omega
  have hw1 : IntKind.i64.wrap ((es.length : Int) + 1) = (es.length : Int) + 1 := IntWalk.i64_in _ (by omega)
  have hw2 : IntKind.i64.wrap ((i : Int) + 1) = (i : Int) + 1 := IntWalk.i64_in _ (by omega)
  clear hB1 hL1 hg1 hfin hg2 hcur hsplit hA hBl hct hct1 hR1t hR1d hR1s htk hh hb hcs hfl hin hil
  go_enter Try.func126, Try.ntmps126
  go_wp2_with (simp only [hov])
  refine wp_region_held_drew (S := (fun V => True)) (by kernel_rfl) (by exact trivial) (fun hHeld => ?_)
  refine wpAnyH_take (i := 0) (oi := ?_) (v := ?_) ?_ ?_ ?_ ?_ ?_ ?_ (by exact hHeld) ?_
  rotate_left 2
  · (simp only [List.getElem?_toArray, List.getElem?_cons_zero]; try rfl)
  · kernel_rfl
  · kernel_rfl
  · kernel_rfl
  · exact fun _ _ _ h => h
  · refine Or.inl ⟨by rfl, ?_⟩
    (intro V hSV; (try dsimp only at hSV); obtain ⟨⟩ := hSV; go_simp; try with_reducible rfl)
  (try simp only [Act.put, List.setIfInBounds_toArray, List.set_cons_zero, List.set_cons_succ])
  refine wpAnyH_take (i := 1) (oi := ?_) (v := ?_) ?_ ?_ ?_ ?_ ?_ ?_ (by exact hHeld) ?_
  rotate_left 2
  · (simp only [List.getElem?_toArray, List.getElem?_cons_zero, List.getElem?_cons_succ]; try rfl)
  · kernel_rfl
  · kernel_rfl
  · kernel_rfl
  · exact fun _ _ _ h => h
  · refine Or.inl ⟨by rfl, ?_⟩
    (intro V hSV; (try dsimp only at hSV); obtain ⟨⟩ := hSV; go_simp; try with_reducible rfl)
  (try simp only [Act.put, List.setIfInBounds_toArray, List.set_cons_zero, List.set_cons_succ])
  refine wpAnyH_take (i := 2) (oi := ?_) (v := ?_) ?_ ?_ ?_ ?_ ?_ ?_ (by exact hHeld) ?_
  rotate_left 2
  · (simp only [List.getElem?_toArray, List.getElem?_cons_zero, List.getElem?_cons_succ]; try rfl)
  · kernel_rfl
  · kernel_rfl
  · kernel_rfl
  · exact fun _ _ _ h => h
  · refine Or.inl ⟨by rfl, ?_⟩
    (intro V hSV; (try dsimp only at hSV); obtain ⟨⟩ := hSV; go_simp; try with_reducible rfl)
  (try simp only [Act.put, List.setIfInBounds_toArray, List.set_cons_zero, List.set_cons_succ])
  refine wpAnyH_take (i := 3) (oi := ?_) (v := ?_) ?_ ?_ ?_ ?_ ?_ ?_ (by exact hHeld) ?_
  rotate_left 2
  · (simp only [List.getElem?_toArray, List.getElem?_cons_zero, List.getElem?_cons_succ]; try rfl)
  · kernel_rfl
  · kernel_rfl
  · kernel_rfl
  · exact fun _ _ _ h => h
  · refine Or.inl ⟨by rfl, ?_⟩
    (intro V hSV; (try dsimp only at hSV); obtain ⟨⟩ := hSV; go_simp; try with_reducible rfl)
  (try simp only [Act.put, List.setIfInBounds_toArray, List.set_cons_zero, List.set_cons_succ])
  refine wpAnyH_take (i := 4) (oi := ?_) (v := ?_) ?_ ?_ ?_ ?_ ?_ ?_ (by exact hHeld) ?_
  rotate_left 2
  · (simp only [List.getElem?_toArray, List.getElem?_cons_zero, List.getElem?_cons_succ]; try rfl)
  · kernel_rfl
  · kernel_rfl
  · kernel_rfl
  · exact fun _ _ _ h => h
  · refine Or.inl ⟨by rfl, ?_⟩
    (intro V hSV; (try dsimp only at hSV); obtain ⟨⟩ := hSV; go_simp; try with_reducible rfl)
  (try simp only [Act.put, List.setIfInBounds_toArray, List.set_cons_zero, List.set_cons_succ])
  refine wpAnyH_take (i := 5) (oi := ?_) (v := ?_) ?_ ?_ ?_ ?_ ?_ ?_ (by exact hHeld) ?_
  rotate_left 2
  · (simp only [List.getElem?_toArray, List.getElem?_cons_zero, List.getElem?_cons_succ]; try rfl)
  · kernel_rfl
  · kernel_rfl
  · kernel_rfl
  · exact fun _ _ _ h => h
  · refine Or.inl ⟨by rfl, ?_⟩
    (intro V hSV; (try dsimp only at hSV); obtain ⟨⟩ := hSV; go_simp; try with_reducible rfl)
  (try simp only [Act.put, List.setIfInBounds_toArray, List.set_cons_zero, List.set_cons_succ])
  refine wpAnyH_take (i := 6) (oi := ?_) (v := ?_) ?_ ?_ ?_ ?_ ?_ ?_ (by exact hHeld) ?_
  rotate_left 2
  · (simp only [List.getElem?_toArray, List.getElem?_cons_zero, List.getElem?_cons_succ]; try rfl)
  · kernel_rfl
  · kernel_rfl
  · kernel_rfl
  · exact fun _ _ _ h => h
  · refine Or.inl ⟨by rfl, ?_⟩
    (intro V hSV; (try dsimp only at hSV); obtain ⟨⟩ := hSV; go_simp; try with_reducible rfl)
  (try simp only [Act.put, List.setIfInBounds_toArray, List.set_cons_zero, List.set_cons_succ])
  refine wpAnyH_take (i := 7) (oi := ?_) (v := ?_) ?_ ?_ ?_ ?_ ?_ ?_ (by exact hHeld) ?_
  rotate_left 2
  · (simp only [List.getElem?_toArray, List.getElem?_cons_zero, List.getElem?_cons_succ]; try rfl)
  · kernel_rfl
  · kernel_rfl
  · kernel_rfl
  · exact fun _ _ _ h => h
  · refine Or.inl ⟨by rfl, ?_⟩
    (intro V hSV; (try dsimp only at hSV); obtain ⟨⟩ := hSV; go_simp; try with_reducible rfl)
  (try simp only [Act.put, List.setIfInBounds_toArray, List.set_cons_zero, List.set_cons_succ])
  refine wpAnyH_ready (rs := [8]) (by kernel_rfl) (by simp) ?_
  refine AllReadyH.cons (o := ?_) ?_ (fun K hK => ?_) AllReadyH.nil
  rotate_left 1
  · (simp only [List.getElem?_toArray, List.getElem?_cons_zero, List.getElem?_cons_succ]; try rfl)
  refine step_run_copy rfl (.tmp 73) (.tmp 76) _ _ rfl _ _ rfl rfl (hc1 _) ?_
  (try go_simp)
  refine hK.out _ _ (by exact trivial) (fun hHeld => ?_)
  clear hK K
  (try simp only [Act.put, List.setIfInBounds_toArray, List.set_cons_zero, List.set_cons_succ])
  refine wpAnyH_done (by kernel_rfl) ?_ _
  go_wp2_with (at_builtin; refine wpList_run_copy rfl _ _ _ _ rfl _ _ rfl rfl (hc2 _) ?_)
  go_ret
  exact ⟨_, rfl, HFIN.out, HG2.out⟩

theorem insert_any (v : Value) (es : List Le) (i : Nat) (l : Le) (base b : Nat) (w : World) (hl : es.length ≤ 100000) (hi : i ≤ es.length) (hO : OwR w base v es) (hil : leIn l) (hb : Blk w b (leC l) 34) (hL : Ll w (some ⟨b, 0, none⟩) [l]) (hne : ∀ k ∈ v.ownBlock.toList, b ≠ k) (hbase : base ≤ w.heap.size) :
    Calls Try.prog 126 #[v, .int .i64 (i : Int), .slice (some ⟨b, 0, none⟩) 1 1] w (Inserts es i l base v w) := by
  by_cases e : i = es.length
  · subst e
    exact insert_end v es l base b w hl hO hL hbase
  rcases hO.row.2 with ⟨_, h0⟩ | ⟨g, cap, cur, rfl, hbg, hh, hnc, hcm, hcs, htk⟩
  · omega
  by_cases hr : cap = es.length
  · exact insert_grow g cap i cur es l base b w hl (by omega) hO.in_ hil hh hr hcs htk hb hbase
  · exact insert_room g cap i cur es l base b w hl (by omega) hO.in_ hil hbg hh (by omega) hcm hcs htk hb (hne g (by simp [Value.ownBlock]))
end Go.Proofs.Ytalcjgmmlmhngaa
