/-
  Chapter 7, slices.Insert of one lease: contract. Own work.
  Chapter 7, putLease: contract. Own work.
  Chapter 7, a heap of leases emptied into a list; LeaseExpire in the program: contracts. Own work.
  Chapter 7, LeaseExpire in the program: contract. Own work.
  Chapter 7, isHeld and hasKey in the program: contracts. Own work.
-/
import Derived.Test.YtgpjjolgpppeeaaI14
import Derived.Lib.AppendZerosOnto
import Derived.Lib.Overlaps
import Derived.Test.YtgpjjolgpppeeaaP13
import Derived.Test.YtgpjjolgpppeeaaI15
import Derived.Test.YtgpjjolgpppeeaaS14
import Derived.Test.YtgpjjolgpppeeaaP14
namespace Go.Proofs.Ytgpjjolgpppeeaa
open Go.RowKit P
set_option linter.unusedVariables false
set_option linter.unusedSimpArgs false
set_option maxRecDepth 100000

theorem wpList_run_app2 {w : World} {ops : Array Oper} {rest : List Oper} {o : Oper} {a : Act} {Q : Exit → Act → World → Prop} (hgd : o.guard = none) (s x : Operand) (t t' : TypeId)
    (ho : o.op = .call { callee := .builtin .append, args := #[s, x], argTypes := #[t, t'] }) (v y : Value) (hs : a.eval s = v) (hx : a.eval x = y) {v' : Value} {w' : World}
    (hrun : (Builtin.append_ #[t, t'] o.type #[v, y]).run Try.prog w = .ok v' w') (h : wpList Try.prog ops Q rest (a.put o.dst v') w') : wpList Try.prog ops Q (o :: rest) a w :=
  wpList_plain hgd fun K hK => by
    unfold Oper.wp execOp
    simp only [ho, resolve, invoke, builtin, Sem.run_bind, Sem.run_pure, Result.andThen_ok, List.map_toArray, List.map_cons, List.map_nil, hs, hx, hrun]
    exact hK _ _ h
theorem wpList_run_copy {w : World} {ops : Array Oper} {rest : List Oper} {o : Oper} {a : Act} {Q : Exit → Act → World → Prop} (hgd : o.guard = none) (s x : Operand) (t t' : TypeId)
    (ho : o.op = .call { callee := .builtin .copy, args := #[s, x], argTypes := #[t, t'] }) (v y : Value) (hs : a.eval s = v) (hx : a.eval x = y) {v' : Value} {w' : World}
    (hrun : (Builtin.copy_ #[t, t'] o.type #[v, y]).run Try.prog w = .ok v' w') (h : wpList Try.prog ops Q rest (a.put o.dst v') w') : wpList Try.prog ops Q (o :: rest) a w :=
  wpList_plain hgd fun K hK => by
    unfold Oper.wp execOp
    simp only [ho, resolve, invoke, builtin, Sem.run_bind, Sem.run_pure, Result.andThen_ok, List.map_toArray, List.map_cons, List.map_nil, hs, hx, hrun]
    exact hK _ _ h
theorem step_run_copy {w : World} {ops : Array Oper} {o : Oper} {a : Act} {K : Act → World → Prop} {Q : Exit → Act → World → Prop} {X : Prop} (hgd : o.guard = none) (s x : Operand) (t t' : TypeId)
    (ho : o.op = .call { callee := .builtin .copy, args := #[s, x], argTypes := #[t, t'] })
    (v y : Value) (hs : a.eval s = v) (hx : a.eval x = y) {v' : Value} {w' : World} (hrun : (Builtin.copy_ #[t, t'] o.type #[v, y]).run Try.prog w = .ok v' w') (h : K (a.put o.dst v') w') :
    if Region.wanted o (yielded ops a.tmps) = true then Oper.wp Try.prog o a w K Q else X := by
  have hw : Region.wanted o (yielded ops a.tmps) = true := by simp [Region.wanted, hgd]
  rw [if_pos hw]
  unfold Oper.wp execOp
  simp only [ho, resolve, invoke, builtin, Sem.run_bind, Sem.run_pure, Result.andThen_ok, List.map_toArray, List.map_cons, List.map_nil, hs, hx, hrun]
  exact h

theorem slcLe_fromN (g n c j : Nat) (hj : j ≤ n) (hjc : j < c) (hc : n ≤ c) (hc9 : c ≤ maxLen) : ∀ W, (Instr.slice 35 (.slice (some ⟨g, 0, none⟩) n c) (some (.int .i64 (j : Int))) none none).run Try.prog W = .ok (.slice (some ⟨g, j * 4, none⟩) (n - j) (c - j)) W := by
  intro W
  rw [slcLe_from g n c j hj hc hc9 W, if_neg (by omega)]
theorem slcLe_nil0 : ∀ W, (Instr.slice 35 (.slice none 0 0) (some (.int .i64 0)) none none).run Try.prog W = .ok (.slice none 0 0) W := by
  intro W
  have hz : ∀ W, (Go.sizeOf 43).run Try.prog W = .ok 4 W := fun W => by kernel_rfl
  have ht' : Try.prog.underlying 35 = some (.slice (Try.prog.elem 35)) := by simp [Program.elem, Try.underlying35]
  have he : Try.prog.elem 35 = 43 := by simp [Program.elem, Try.underlying35]
  rw [run_slice_l W 35 _ _ _ ht' .i64 _ (by omega) (by omega), he, hz]
  simp [Result.andThen, sliced]
theorem slcLe_upto (g n c m : Nat) (hm : m ≤ c) (hc9 : c ≤ maxLen) : ∀ W, (Instr.slice 35 (.slice (some ⟨g, 0, none⟩) n c) none (some (.int .i64 (m : Int))) none).run Try.prog W = .ok (.slice (some ⟨g, 0, none⟩) m c) W := by
  intro W
  unfold maxLen at hc9
  have hz : ∀ W, (Go.sizeOf 43).run Try.prog W = .ok 4 W := fun W => by kernel_rfl
  have ht' : Try.prog.underlying 35 = some (.slice (Try.prog.elem 35)) := by simp [Program.elem, Try.underlying35]
  have he : Try.prog.elem 35 = 43 := by simp [Program.elem, Try.underlying35]
  rw [run_slice_h W 35 _ _ _ ht' .i64 _ (by omega) (by omega), he, hz]
  simp [Result.andThen, sliced, Addr.add]

/-- copy into a row of leases. -/
theorem run_copy_le {W : World} {g o dLen dCap sLen sCap k : Nat} {a : Addr} {cur : Array Value} {cs : List Value} (hB : Blk W g cur 43) (hk : Nat.min sLen dLen = k) (hcs : cs.length = k * 4)
    (hsrc : ∀ j v, cs[j]? = some v → W.cell? (a.add j) = some v) (hfit : o + cs.length ≤ cur.size) (h1 : ∀ v ∈ cs, v.oneCell' = true) (ty : TypeId) :
    (Builtin.copy_ #[35, 35] ty #[.slice (some ⟨g, o, none⟩) dLen dCap, .slice (some a) sLen sCap]).run Try.prog W = .ok (goInt k) (W.setRow g (cur.toList.take o ++ cs ++ cur.toList.drop (o + cs.length)).toArray) := by
  obtain ⟨inf, hif, hz, hsz, hby⟩ := info_parts Try.infoLe
  have hf := run_firstCells_some (P := Try.prog) W 4 k a sLen sCap cs hcs hsrc
  have hst := run_storeCells_at Try.prog g o 43 cs 0 cur W hB (by simpa using hfit) h1
  simp only [Nat.add_zero] at hst
  simp [Builtin.copy_, run_underlying Try.underlying35, Builtin.lenOf, sizeOf, typeInfo, hif, hsz, hk, hf, hst]

theorem leC_one (l : Le) : ∀ v ∈ leCl l, v.oneCell' = true := by
  intro v hv
  have h := leCl_one [l] v
  simp only [List.flatMap_cons, List.flatMap_nil, List.append_nil] at h
  exact h hv
theorem take_three (A L B R : List Value) (n : Nat) (h : A.length + L.length + B.length = n) : (A ++ L ++ B ++ R).take n = A ++ L ++ B := by
  rw [List.take_append_of_le_length (by simp only [List.length_append]; omega), List.take_of_length_le (by simp only [List.length_append]; omega)]

/-- What slices.Insert of the lease l at i gives. -/
def Inserts (es : List Le) (i : Nat) (l : Le) (base : Nat) (v : Value) (w : World) (e : Ending) (w' : World) : Prop := ∃ v', e = .returned v' ∧ OwR w' base v' (es.take i ++ l :: es.drop i) ∧ w.grownBy w' v.ownBlock

set_option maxHeartbeats 8000000 in
theorem insert_end (v : Value) (es : List Le) (l : Le) (base b : Nat) (w : World) (hl : es.length ≤ 100000) (hO : OwR w base v es) (hL : Ll w (some ⟨b, 0, none⟩) [l]) (hbase : base ≤ w.heap.size) :
    Calls Try.prog 133 #[v, .int .i64 (es.length : Int), .slice (some ⟨b, 0, none⟩) 1 1] w (Inserts es es.length l base v w) := by
  unfold Inserts
  rw [List.take_length, List.drop_length]
  have hsl : ∃ u, ∀ W, (Instr.slice 35 v (some (.int .i64 (es.length : Int))) none none).run Try.prog W = .ok u W := by
    rcases hO.row.2 with ⟨rfl, h0⟩ | ⟨g, cap, cur, rfl, hbg, hh, hnc, hcm, hcs, htk⟩
    · rw [h0]; exact ⟨_, slcLe_nil0⟩
    · exact ⟨_, slcLe_from g es.length cap es.length (Nat.le_refl _) hnc hcm⟩
  have hln : ∃ A c, v = .slice A es.length c := by
    obtain ⟨A, c, h, _⟩ := hO.owL
    exact ⟨A, c, h⟩
  obtain ⟨u, hS⟩ := hsl
  obtain ⟨A, c, rfl⟩ := hln
  have HO := Lib.hid hO
  have HL := Lib.hid hL
  clear hO hL
  go_enter Try.func133, Try.ntmps133
  go_wp2_with (at_builtin; go_must (refine wpList_app_le rfl _ _ rfl base _ es [l] _ 1 1 rfl rfl rfl HO.out (by have h9 := HL.out; exact h9) ?c1 ?c2 ?_))
  case c1 => simp; omega
  case c2 => exact hbase
  intro v4 w4 hown4 hg4 _
  have H4 := Lib.hid hown4
  have HG := Lib.hid hg4
  clear hown4 hg4
  go_wp2
  go_ret
  exact ⟨_, rfl, H4.out, HG.out⟩

set_option maxHeartbeats 8000000 in
theorem insert_grow (g cap i : Nat) (cur : Array Value) (es : List Le) (l : Le) (base b : Nat) (w : World) (hl : es.length ≤ 100000) (hi : i < es.length) (hin : ∀ x ∈ es, leIn x) (hil : leIn l) (hh : Blk w g cur 43) (hnc : cap = es.length) (hcs : cur.size = cap * 4)
    (htk : cur.toList.take (es.length * 4) = es.flatMap leCl) (hb : Blk w b (leC l) 43) (hbase : base ≤ w.heap.size) :
    Calls Try.prog 133 #[.slice (some ⟨g, 0, none⟩) es.length cap, .int .i64 (i : Int), .slice (some ⟨b, 0, none⟩) 1 1] w (Inserts es i l base (.slice (some ⟨g, 0, none⟩) es.length cap) w) := by
  obtain ⟨inf, hif, hz, hsz, hby⟩ := info_parts Try.infoLe
  have hfl := leCl_flat es
  have hcm : cap ≤ maxLen := by unfold maxLen; omega
  have hA : ((es.take i).flatMap leCl).length = i * 4 := by rw [leCl_flat, List.length_take]; omega
  have hBl : ((es.drop i).flatMap leCl).length = (es.length - i) * 4 := by rw [leCl_flat, List.length_drop]
  have hsplit : es.flatMap leCl = (es.take i).flatMap leCl ++ (es.drop i).flatMap leCl := by rw [← List.flatMap_append, List.take_append_drop]
  have hcells : ∀ j u, (es.flatMap leCl)[j]? = some u → w.cell? ⟨g, j, none⟩ = some u := by
    intro j u hu
    rw [hh.cell]
    have hj : j < es.length * 4 := by
      have := (List.getElem?_eq_some_iff.1 hu).1
      omega
    rw [← htk, List.getElem?_take, if_pos hj] at hu
    simpa using hu
  have hgw := hh.lt
  have hbw := hb.lt
  have hS1 := slcLe_fromN g es.length cap i (by omega) (by omega) (by omega) hcm
  have hS2 := slcLe_head g es.length cap i (by omega) (by omega) hcm
  -- the append of a make
  have hold : (Builtin.firstCells inf.size i (.slice (some ⟨g, 0, none⟩) i cap)).run Try.prog w.drew = .ok ((es.take i).flatMap leCl).toArray w.drew := by
    rw [hsz]
    refine run_firstCells_some w.drew 4 i ⟨g, 0, none⟩ i cap _ hA (fun j u hu => ?_)
    rw [add_plain, Nat.zero_add]
    refine hcells j u ?_
    rw [hsplit, List.getElem?_append_left (by rw [hA]; have := (List.getElem?_eq_some_iff.1 hu).1; omega)]
    exact hu
  have hkk : (es.length : Int) + 1 - (i : Int) = ((es.length + 1 - i : Nat) : Int) := by omega
  have hik : i + (es.length + 1 - i) = es.length + 1 := by omega
  have hap := fun ty => Lib.run_append_grow_zeros (P := Try.prog) w 35 3 ty 43 inf _ .i64 .i64 Try.underlying35 Try.underlying3 hif hz (some ⟨g, 0, none⟩) i cap ((es.take i).flatMap leCl) hold (es.length + 1 - i) (by omega) (by omega) (by omega) (by omega) (by rw [hby]; omega) (by rw [hby, hik]; exact growslice_fits (by omega) (by omega))
  rw [hik, ← hkk] at hap
  obtain ⟨G, hG⟩ : ∃ G, grownCap w (es.length + 1) cap 43 = G := ⟨_, rfl⟩
  have hG1 : es.length + 1 ≤ G := by rw [← hG]; exact grownCap_ge w _ _ _
  have hG2 : G ≤ maxLen := by rw [← hG]; exact grownCap_le_maxLen w _ _ _ (by unfold maxLen; omega)
  rw [hG] at hap
  obtain ⟨R0, hR0⟩ : ∃ R0, ((es.take i).flatMap leCl).toArray ++ Builtin.zeroCells (Value.agg #[.int .i64 0, .int .i64 0, .int .i64 0, .int .i64 0]).cells (es.length + 1 - i) ++ Builtin.zeroCells (Value.agg #[.int .i64 0, .int .i64 0, .int .i64 0, .int .i64 0]).cells (G - (es.length + 1)) = R0 := ⟨_, rfl⟩
  rw [hR0] at hap
  have hRs : R0.size = G * 4 := by
    rw [← hR0]
    simp only [Array.size_append, List.size_toArray, size_zeroCells, hA, Value.cells]
    simp
    omega
  have hRt : R0.toList.take (i * 4) = (es.take i).flatMap leCl := by
    rw [← hR0]
    simp only [Array.toList_append, List.append_assoc]
    rw [List.take_append_of_le_length (by rw [hA]; omega), List.take_of_length_le (by rw [hA]; omega)]
  have hB1 : Blk (w.drew.alloc (.cells R0 43)) w.heap.size R0 43 := Blk.new w.drew R0 _
  have hL1 : Blk (w.drew.alloc (.cells R0 43)) b (leC l) 43 := (show Blk w.drew b (leC l) 43 from hb).alloc _
  have hH1 : Blk (w.drew.alloc (.cells R0 43)) g cur 43 := (show Blk w.drew g cur 43 from hh).alloc _
  have hS3 := slcLe_fromN w.heap.size (es.length + 1) G i (by omega) (by omega) (by omega) hG2
  have hS4 := slcLe_fromN w.heap.size (es.length + 1) G (i + 1) (by omega) (by omega) (by omega) hG2
  rw [Int.natCast_add, Int.natCast_one, Nat.add_sub_add_right] at hS4
  have hg1 : w.grownBy (w.drew.alloc (.cells R0 43)) (some g) := ⟨rfl, rfl, rfl, by simp, fun k hk _ => heap_alloc_old w.drew _ hk⟩
  have hz1 : (w.drew.alloc (.cells R0 43)).heap.size = w.heap.size + 1 := by simp
  generalize w.drew.alloc (.cells R0 43) = W1 at *
  clear hR0 hold hG
  have hc1 := run_copy_le (o := i * 4) (dLen := es.length + 1 - i) (dCap := G - i) (sLen := 1) (sCap := 1) (k := 1) (a := ⟨b, 0, none⟩) (cs := leCl l) hB1 (by simp only [Nat.min_def]; split <;> omega) (leCl_length l) (fun j u hu => by rw [add_plain, Nat.zero_add, hL1.cell]; simpa [leCl] using hu) (by rw [leCl_length, hRs]; omega) (leC_one l)
  have hB2 := setRow_heap W1 w.heap.size R0 (R0.toList.take (i * 4) ++ leCl l ++ R0.toList.drop (i * 4 + (leCl l).length)).toArray 43 _ hB1
  have hH2 : Blk (W1.setRow w.heap.size (R0.toList.take (i * 4) ++ leCl l ++ R0.toList.drop (i * 4 + (leCl l).length)).toArray) g cur 43 := hH1.of_block (Go.setRow_other W1 w.heap.size g _ (by omega))
  have hg2 : w.grownBy (W1.setRow w.heap.size (R0.toList.take (i * 4) ++ leCl l ++ R0.toList.drop (i * 4 + (leCl l).length)).toArray) (some g) := ⟨hg1.os, hg1.tape, hg1.output, by rw [Go.setRow_size]; exact hg1.size, fun k hk hne => (Go.setRow_other W1 w.heap.size k _ (by omega)).trans (hg1.block k hk hne)⟩
  have hz2 : (W1.setRow w.heap.size (R0.toList.take (i * 4) ++ leCl l ++ R0.toList.drop (i * 4 + (leCl l).length)).toArray).heap.size = w.heap.size + 1 := by rw [Go.setRow_size]; exact hz1
  obtain ⟨R1, hR1⟩ : ∃ R1, (R0.toList.take (i * 4) ++ leCl l ++ R0.toList.drop (i * 4 + (leCl l).length)).toArray = R1 := ⟨_, rfl⟩
  have hR1s : R1.size = G * 4 := by
    rw [← hR1, List.size_toArray, List.length_append, List.length_append, List.length_take, List.length_drop, leCl_length, Array.length_toList]
    omega
  have hR1t : R1.toList.take ((i + 1) * 4) = (es.take i).flatMap leCl ++ leCl l := by
    rw [← hR1, hRt, List.toList_toArray, List.take_append_of_le_length (by rw [List.length_append, hA, leCl_length]; omega), List.take_of_length_le (by rw [List.length_append, hA, leCl_length]; omega)]
  rw [hR1] at hc1 hB2 hH2 hg2 hz2
  generalize W1.setRow w.heap.size R1 = W2 at *
  clear hR1
  have hc2 := run_copy_le (W := W2.drew) (o := (i + 1) * 4) (dLen := es.length - i) (dCap := G - (i + 1)) (sLen := es.length - i) (sCap := cap - i) (k := es.length - i) (a := ⟨g, i * 4, none⟩) (cs := (es.drop i).flatMap leCl) (g := w.heap.size) (cur := R1) hB2 (by simp only [Nat.min_def]; split <;> omega) hBl (fun j u hu => by
    rw [add_plain, show W2.drew.cell? ⟨g, i * 4 + j, none⟩ = cur[i * 4 + j]? from Blk.cell (show Blk W2.drew g cur 43 from hH2) _, ← hh.cell]
    refine hcells _ u ?_
    rw [hsplit, List.getElem?_append_right (by omega), hA, Nat.add_sub_cancel_left]
    exact hu) (by rw [hBl, hR1s]; omega) (leCl_one _)
  have hfin : OwR (W2.drew.setRow w.heap.size (R1.toList.take ((i + 1) * 4) ++ (es.drop i).flatMap leCl ++ R1.toList.drop ((i + 1) * 4 + ((es.drop i).flatMap leCl).length)).toArray) base (.slice (some ⟨w.heap.size, 0, none⟩) (es.length + 1) G) (es.take i ++ l :: es.drop i) := by
    have hL : (es.take i ++ l :: es.drop i).length = es.length + 1 := by rw [List.length_append, List.length_cons, List.length_take, List.length_drop]; omega
    refine ⟨⟨by rw [leCl_flat], .inr ⟨w.heap.size, G, _, by rw [hL], hbase, setRow_heap W2.drew w.heap.size R1 _ 43 _ hB2, by omega, hG2, ?_, ?_⟩⟩, fun x hx => ?_⟩
    · rw [List.size_toArray, List.length_append, List.length_append, List.length_take, List.length_drop, hBl, Array.length_toList]
      omega
    · rw [hL, List.toList_toArray, hR1t, take_three _ _ _ _ _ (by rw [hA, leCl_length, hBl]; omega), List.flatMap_append, List.flatMap_cons, List.append_assoc]
    · rcases List.mem_append.1 hx with h | h
      · exact hin x (List.mem_of_mem_take h)
      · rcases List.mem_cons.1 h with h | h
        · subst h; exact hil
        · exact hin x (List.mem_of_mem_drop h)
  have hg3 : w.grownBy (W2.drew.setRow w.heap.size (R1.toList.take ((i + 1) * 4) ++ (es.drop i).flatMap leCl ++ R1.toList.drop ((i + 1) * 4 + ((es.drop i).flatMap leCl).length)).toArray) (some g) := ⟨hg2.os, hg2.tape, hg2.output, by rw [Go.setRow_size]; exact hg2.size, fun k hk hne => (Go.setRow_other W2.drew w.heap.size k _ (by omega)).trans (hg2.block k hk hne)⟩
  generalize W2.drew.setRow w.heap.size (R1.toList.take ((i + 1) * 4) ++ (es.drop i).flatMap leCl ++ R1.toList.drop ((i + 1) * 4 + ((es.drop i).flatMap leCl).length)).toArray = W3 at *
  have HFIN := Lib.hid hfin
  have HG3 := Lib.hid hg3
  have hne1 : ((i : Int) == (es.length : Int)) = false := beq_eq_false_iff_ne.2 (by omega)
  have hroom : (cap : Int) < (es.length : Int) + 1 := by omega
  have hw1 : IntKind.i64.wrap ((es.length : Int) + 1) = (es.length : Int) + 1 := IntWalk.i64_in _ (by omega)
  have hw2 : IntKind.i64.wrap ((i : Int) + 1) = (i : Int) + 1 := IntWalk.i64_in _ (by omega)
  have hw3 : IntKind.i64.wrap ((es.length : Int) + 1 - (i : Int)) = (es.length : Int) + 1 - (i : Int) := IntWalk.i64_in _ (by omega)
  clear hB1 hL1 hH1 hg1 hz1 hB2 hH2 hg2 hz2 hfin hg3 hcells hsplit hA hBl hRt hRs hR1t hR1s hkk hik htk hh hb hcs hfl hif hz hsz hby hin hil hnc
  go_enter Try.func133, Try.ntmps133
  go_wp2_with (first
    | (at_builtin; refine wpList_run_app2 rfl _ _ _ _ rfl _ _ rfl rfl (hap _) ?_)
    | (at_builtin; refine wpList_run_copy rfl _ _ _ _ rfl _ _ rfl rfl (hc1 _) ?_))
  refine wp_region_held_drew (S := (fun V => True)) (by kernel_rfl) (by exact trivial) (fun hHeld => ?_)
  refine wpAnyH_take (i := 0) (oi := ?_) (v := ?_) ?_ ?_ ?_ ?_ ?_ ?_ (by exact hHeld) ?_
  rotate_left 2
  · (simp only [List.getElem?_toArray, List.getElem?_cons_zero]; try rfl)
  · kernel_rfl
  · kernel_rfl
  · kernel_rfl
  · exact fun _ _ _ h => h
  · refine Or.inl ⟨by rfl, ?_⟩
    (intro V hSV; (try dsimp only at hSV); obtain ⟨⟩ := hSV; go_simp; try with_reducible rfl)
  (try simp only [Act.put, List.setIfInBounds_toArray, List.set_cons_zero, List.set_cons_succ])
  refine wpAnyH_take (i := 1) (oi := ?_) (v := ?_) ?_ ?_ ?_ ?_ ?_ ?_ (by exact hHeld) ?_
  rotate_left 2
  · (simp only [List.getElem?_toArray, List.getElem?_cons_zero, List.getElem?_cons_succ]; try rfl)
  · kernel_rfl
  · kernel_rfl
  · kernel_rfl
  · exact fun _ _ _ h => h
  · refine Or.inl ⟨by rfl, ?_⟩
    (intro V hSV; (try dsimp only at hSV); obtain ⟨⟩ := hSV; go_simp; try with_reducible rfl)
  (try simp only [Act.put, List.setIfInBounds_toArray, List.set_cons_zero, List.set_cons_succ])
  refine wpAnyH_take (i := 2) (oi := ?_) (v := ?_) ?_ ?_ ?_ ?_ ?_ ?_ (by exact hHeld) ?_
  rotate_left 2
  · (simp only [List.getElem?_toArray, List.getElem?_cons_zero, List.getElem?_cons_succ]; try rfl)
  · kernel_rfl
  · kernel_rfl
  · kernel_rfl
  · exact fun _ _ _ h => h
  · refine Or.inl ⟨by rfl, ?_⟩
    (intro V hSV; (try dsimp only at hSV); obtain ⟨⟩ := hSV; go_simp; try with_reducible rfl)
  (try simp only [Act.put, List.setIfInBounds_toArray, List.set_cons_zero, List.set_cons_succ])
  refine wpAnyH_take (i := 3) (oi := ?_) (v := ?_) ?_ ?_ ?_ ?_ ?_ ?_ (by exact hHeld) ?_
  rotate_left 2
  · (simp only [List.getElem?_toArray, List.getElem?_cons_zero, List.getElem?_cons_succ]; try rfl)
  · kernel_rfl
  · kernel_rfl
  · kernel_rfl
  · exact fun _ _ _ h => h
  · refine Or.inl ⟨by rfl, ?_⟩
    (intro V hSV; (try dsimp only at hSV); obtain ⟨⟩ := hSV; go_simp; try with_reducible rfl)
  (try simp only [Act.put, List.setIfInBounds_toArray, List.set_cons_zero, List.set_cons_succ])
  refine wpAnyH_take (i := 4) (oi := ?_) (v := ?_) ?_ ?_ ?_ ?_ ?_ ?_ (by exact hHeld) ?_
  rotate_left 2
  · (simp only [List.getElem?_toArray, List.getElem?_cons_zero, List.getElem?_cons_succ]; try rfl)
  · kernel_rfl
  · kernel_rfl
  · kernel_rfl
  · exact fun _ _ _ h => h
  · refine Or.inl ⟨by rfl, ?_⟩
    (intro V hSV; (try dsimp only at hSV); obtain ⟨⟩ := hSV; go_simp; try with_reducible rfl)
  (try simp only [Act.put, List.setIfInBounds_toArray, List.set_cons_zero, List.set_cons_succ])
  refine wpAnyH_take (i := 5) (oi := ?_) (v := ?_) ?_ ?_ ?_ ?_ ?_ ?_ (by exact hHeld) ?_
  rotate_left 2
  · (simp only [List.getElem?_toArray, List.getElem?_cons_zero, List.getElem?_cons_succ]; try rfl)
  · kernel_rfl
  · kernel_rfl
  · kernel_rfl
  · exact fun _ _ _ h => h
  · refine Or.inl ⟨by rfl, ?_⟩
    (intro V hSV; (try dsimp only at hSV); obtain ⟨⟩ := hSV; go_simp; try with_reducible rfl)
  (try simp only [Act.put, List.setIfInBounds_toArray, List.set_cons_zero, List.set_cons_succ])
  refine wpAnyH_take (i := 6) (oi := ?_) (v := ?_) ?_ ?_ ?_ ?_ ?_ ?_ (by exact hHeld) ?_
  rotate_left 2
  · (simp only [List.getElem?_toArray, List.getElem?_cons_zero, List.getElem?_cons_succ]; try rfl)
  · kernel_rfl
  · kernel_rfl
  · kernel_rfl
  · exact fun _ _ _ h => h
  · refine Or.inl ⟨by rfl, ?_⟩
    (intro V hSV; (try dsimp only at hSV); obtain ⟨⟩ := hSV; go_simp; try with_reducible rfl)
  (try simp only [Act.put, List.setIfInBounds_toArray, List.set_cons_zero, List.set_cons_succ])
  refine wpAnyH_take (i := 7) (oi := ?_) (v := ?_) ?_ ?_ ?_ ?_ ?_ ?_ (by exact hHeld) ?_
  rotate_left 2
  · (simp only [List.getElem?_toArray, List.getElem?_cons_zero, List.getElem?_cons_succ]; try rfl)
  · kernel_rfl
  · kernel_rfl
  · kernel_rfl
  · exact fun _ _ _ h => h
  · refine Or.inl ⟨by rfl, ?_⟩
    (intro V hSV; (try dsimp only at hSV); obtain ⟨⟩ := hSV; go_simp; try with_reducible rfl)
  (try simp only [Act.put, List.setIfInBounds_toArray, List.set_cons_zero, List.set_cons_succ])
  refine wpAnyH_ready (rs := [8]) (by kernel_rfl) (by simp) ?_
  refine AllReadyH.cons (o := ?_) ?_ (fun K hK => ?_) AllReadyH.nil
  rotate_left 1
  · (simp only [List.getElem?_toArray, List.getElem?_cons_zero, List.getElem?_cons_succ]; try rfl)
  refine step_run_copy rfl (.tmp 50) (.tmp 53) _ _ rfl _ _ rfl rfl (hc2 _) ?_
  (try go_simp)
  refine hK.out _ _ (by exact trivial) (fun hHeld => ?_)
  clear hK K
  (try simp only [Act.put, List.setIfInBounds_toArray, List.set_cons_zero, List.set_cons_succ])
  refine wpAnyH_done (by kernel_rfl) ?_ _
  go_wp2
  go_ret
  exact ⟨_, rfl, HFIN.out, HG3.out⟩

set_option maxHeartbeats 8000000 in
theorem insert_room (g cap i : Nat) (cur : Array Value) (es : List Le) (l : Le) (base b : Nat) (w : World) (hl : es.length ≤ 100000) (hi : i < es.length) (hin : ∀ x ∈ es, leIn x) (hil : leIn l) (hbg : base ≤ g) (hh : Blk w g cur 43) (hnc : es.length + 1 ≤ cap) (hcm : cap ≤ maxLen) (hcs : cur.size = cap * 4)
    (htk : cur.toList.take (es.length * 4) = es.flatMap leCl) (hb : Blk w b (leC l) 43) (hbne : b ≠ g) :
    Calls Try.prog 133 #[.slice (some ⟨g, 0, none⟩) es.length cap, .int .i64 (i : Int), .slice (some ⟨b, 0, none⟩) 1 1] w (Inserts es i l base (.slice (some ⟨g, 0, none⟩) es.length cap) w) := by
  have hA : ((es.take i).flatMap leCl).length = i * 4 := by rw [leCl_flat, List.length_take]; omega
  have hBl : ((es.drop i).flatMap leCl).length = (es.length - i) * 4 := by rw [leCl_flat, List.length_drop]
  have hfl := leCl_flat es
  have hsplit : es.flatMap leCl = (es.take i).flatMap leCl ++ (es.drop i).flatMap leCl := by rw [← List.flatMap_append, List.take_append_drop]
  have hcur : ∀ (j : Nat) (u : Value), (es.flatMap leCl)[j]? = some u → cur[j]? = some u := by
    intro j u hu
    have hj : j < es.length * 4 := by
      have := (List.getElem?_eq_some_iff.1 hu).1
      omega
    rw [← htk, List.getElem?_take, if_pos hj] at hu
    simpa using hu
  have hct : cur.toList.take (i * 4) = (es.take i).flatMap leCl := by
    have h9 : (cur.toList.take (es.length * 4)).take (i * 4) = (es.flatMap leCl).take (i * 4) := by rw [htk]
    rw [List.take_take, Nat.min_eq_left (by omega)] at h9
    rw [h9, hsplit, List.take_append_of_le_length (by rw [hA]; omega), List.take_of_length_le (by rw [hA]; omega)]
  have hS1 := slcLe_fromN g es.length cap i (by omega) (by omega) (by omega) hcm
  have hS2 := slcLe_upto g es.length cap (es.length + 1) (by omega) hcm
  rw [Int.natCast_add, Int.natCast_one] at hS2
  have hS3 := slcLe_fromN g (es.length + 1) cap (i + 1) (by omega) (by omega) (by omega) hcm
  rw [Int.natCast_add, Int.natCast_one, Nat.add_sub_add_right] at hS3
  have hS4 := slcLe_fromN g (es.length + 1) cap i (by omega) (by omega) (by omega) hcm
  have hov : ∀ lb cb, (callFunc 161 #[.slice (some ⟨b, 0, none⟩) 1 1, .slice (some ⟨g, (i + 1) * 4, none⟩) lb cb]).run Try.prog w = .ok (.value (.bool false)) w := fun lb cb => by
    rw [run_callFunc_extern Try.func161 (by kernel_rfl) (by kernel_rfl) (by kernel_rfl) (e := Extern.SlicesOverlaps.overlaps #[35, 35] #[4]) (by kernel_rfl),
      Lib.run_overlaps_apart w 35 4 43 Try.underlying35 4 (fun W => by kernel_rfl) ⟨b, 0, none⟩ ⟨g, (i + 1) * 4, none⟩ 1 1 lb cb hbne 43 43 (leC l).size cur.size (by unfold World.shape?; rw [show w.heap[b]? = _ from hb]) (by unfold World.shape?; rw [show w.heap[g]? = _ from hh]) (by omega) (hb.frozen 0) (hb.frozen _)]
    rfl
  have hc1 := run_copy_le (W := w.drew) (g := g) (cur := cur) (o := (i + 1) * 4) (dLen := es.length - i) (dCap := cap - (i + 1)) (sLen := es.length + 1 - i) (sCap := cap - i) (k := es.length - i) (a := ⟨g, i * 4, none⟩) (cs := (es.drop i).flatMap leCl) hh (by simp only [Nat.min_def]; split <;> omega) hBl (fun j u hu => by
    rw [add_plain, show w.drew.cell? ⟨g, i * 4 + j, none⟩ = cur[i * 4 + j]? from Blk.cell (show Blk w.drew g cur 43 from hh) _]
    refine hcur _ u ?_
    rw [hsplit, List.getElem?_append_right (by omega), hA, Nat.add_sub_cancel_left]
    exact hu) (by rw [hBl, hcs]; omega) (leCl_one _)
  obtain ⟨R1, hR1⟩ : ∃ R1, (cur.toList.take ((i + 1) * 4) ++ (es.drop i).flatMap leCl ++ cur.toList.drop ((i + 1) * 4 + ((es.drop i).flatMap leCl).length)).toArray = R1 := ⟨_, rfl⟩
  rw [hR1] at hc1
  have hR1s : R1.size = cap * 4 := by
    rw [← hR1, List.size_toArray, List.length_append, List.length_append, List.length_take, List.length_drop, hBl, Array.length_toList]
    omega
  have hct1 : (cur.toList.take ((i + 1) * 4)).length = (i + 1) * 4 := by rw [List.length_take, Array.length_toList]; omega
  have hR1t : R1.toList.take (i * 4) = (es.take i).flatMap leCl := by
    rw [← hR1, List.toList_toArray, List.append_assoc, List.take_append_of_le_length (by omega), List.take_take, Nat.min_eq_left (by omega), hct]
  have hR1d : ∃ R, R1.toList.drop (i * 4 + (leCl l).length) = (es.drop i).flatMap leCl ++ R := by
    refine ⟨cur.toList.drop ((i + 1) * 4 + ((es.drop i).flatMap leCl).length), ?_⟩
    rw [← hR1, List.toList_toArray, leCl_length, List.append_assoc, List.drop_append_of_le_length (by omega), List.drop_eq_nil_of_le (by omega), List.nil_append]
  have hB1 := setRow_heap w.drew g cur R1 43 _ hh
  have hL1 : Blk (w.drew.setRow g R1) b (leC l) 43 := (show Blk w.drew b (leC l) 43 from hb).of_block (Go.setRow_other w.drew g b _ hbne)
  have hg1 : w.grownBy (w.drew.setRow g R1) (some g) := ⟨rfl, rfl, rfl, by rw [Go.setRow_size]; exact Nat.le_refl _, fun k hk hne => (Go.setRow_other w.drew g k _ (fun e => hne (by rw [e])))⟩
  generalize w.drew.setRow g R1 = W1 at *
  clear hR1
  have hc2 := run_copy_le (o := i * 4) (dLen := es.length + 1 - i) (dCap := cap - i) (sLen := 1) (sCap := 1) (k := 1) (a := ⟨b, 0, none⟩) (cs := leCl l) hB1 (by simp only [Nat.min_def]; split <;> omega) (leCl_length l) (fun j u hu => by rw [add_plain, Nat.zero_add, hL1.cell]; simpa [leCl] using hu) (by rw [leCl_length, hR1s]; omega) (leC_one l)
  have hfin : OwR (W1.setRow g (R1.toList.take (i * 4) ++ leCl l ++ R1.toList.drop (i * 4 + (leCl l).length)).toArray) base (.slice (some ⟨g, 0, none⟩) (es.length + 1) cap) (es.take i ++ l :: es.drop i) := by
    have hL : (es.take i ++ l :: es.drop i).length = es.length + 1 := by rw [List.length_append, List.length_cons, List.length_take, List.length_drop]; omega
    obtain ⟨R, hR⟩ := hR1d
    refine ⟨⟨by rw [leCl_flat], .inr ⟨g, cap, _, by rw [hL], hbg, setRow_heap W1 g R1 _ 43 _ hB1, by omega, hcm, ?_, ?_⟩⟩, fun x hx => ?_⟩
    · rw [List.size_toArray, List.length_append, List.length_append, List.length_take, List.length_drop, leCl_length, Array.length_toList]
      omega
    · rw [hL, List.toList_toArray, hR1t, hR, ← List.append_assoc, take_three _ _ _ _ _ (by rw [hA, leCl_length, hBl]; omega), List.flatMap_append, List.flatMap_cons, List.append_assoc]
    · rcases List.mem_append.1 hx with h | h
      · exact hin x (List.mem_of_mem_take h)
      · rcases List.mem_cons.1 h with h | h
        · subst h; exact hil
        · exact hin x (List.mem_of_mem_drop h)
  have hg2 : w.grownBy (W1.setRow g (R1.toList.take (i * 4) ++ leCl l ++ R1.toList.drop (i * 4 + (leCl l).length)).toArray) (some g) := ⟨hg1.os, hg1.tape, hg1.output, by rw [Go.setRow_size]; exact hg1.size, fun k hk hne => (Go.setRow_other W1 g k _ (fun e => hne (by rw [e]))).trans (hg1.block k hk hne)⟩
  generalize W1.setRow g (R1.toList.take (i * 4) ++ leCl l ++ R1.toList.drop (i * 4 + (leCl l).length)).toArray = W2 at *
  have HFIN := Lib.hid hfin
  have HG2 := Lib.hid hg2
  have hne1 : ((i : Int) == (es.length : Int)) = false := beq_eq_false_iff_ne.2 (by omega)
  have hroom : ¬ (cap : Int) < (es.length : Int) + 1 := by omega
  have hw1 : IntKind.i64.wrap ((es.length : Int) + 1) = (es.length : Int) + 1 := IntWalk.i64_in _ (by omega)
  have hw2 : IntKind.i64.wrap ((i : Int) + 1) = (i : Int) + 1 := IntWalk.i64_in _ (by omega)
  clear hB1 hL1 hg1 hfin hg2 hcur hsplit hA hBl hct hct1 hR1t hR1d hR1s htk hh hb hcs hfl hin hil
  go_enter Try.func133, Try.ntmps133
  go_wp2_with (simp only [hov])
  refine wp_region_held_drew (S := (fun V => True)) (by kernel_rfl) (by exact trivial) (fun hHeld => ?_)
  refine wpAnyH_take (i := 0) (oi := ?_) (v := ?_) ?_ ?_ ?_ ?_ ?_ ?_ (by exact hHeld) ?_
  rotate_left 2
  · (simp only [List.getElem?_toArray, List.getElem?_cons_zero]; try rfl)
  · kernel_rfl
  · kernel_rfl
  · kernel_rfl
  · exact fun _ _ _ h => h
  · refine Or.inl ⟨by rfl, ?_⟩
    (intro V hSV; (try dsimp only at hSV); obtain ⟨⟩ := hSV; go_simp; try with_reducible rfl)
  (try simp only [Act.put, List.setIfInBounds_toArray, List.set_cons_zero, List.set_cons_succ])
  refine wpAnyH_take (i := 1) (oi := ?_) (v := ?_) ?_ ?_ ?_ ?_ ?_ ?_ (by exact hHeld) ?_
  rotate_left 2
  · (simp only [List.getElem?_toArray, List.getElem?_cons_zero, List.getElem?_cons_succ]; try rfl)
  · kernel_rfl
  · kernel_rfl
  · kernel_rfl
  · exact fun _ _ _ h => h
  · refine Or.inl ⟨by rfl, ?_⟩
    (intro V hSV; (try dsimp only at hSV); obtain ⟨⟩ := hSV; go_simp; try with_reducible rfl)
  (try simp only [Act.put, List.setIfInBounds_toArray, List.set_cons_zero, List.set_cons_succ])
  refine wpAnyH_take (i := 2) (oi := ?_) (v := ?_) ?_ ?_ ?_ ?_ ?_ ?_ (by exact hHeld) ?_
  rotate_left 2
  · (simp only [List.getElem?_toArray, List.getElem?_cons_zero, List.getElem?_cons_succ]; try rfl)
  · kernel_rfl
  · kernel_rfl
  · kernel_rfl
  · exact fun _ _ _ h => h
  · refine Or.inl ⟨by rfl, ?_⟩
    (intro V hSV; (try dsimp only at hSV); obtain ⟨⟩ := hSV; go_simp; try with_reducible rfl)
  (try simp only [Act.put, List.setIfInBounds_toArray, List.set_cons_zero, List.set_cons_succ])
  refine wpAnyH_take (i := 3) (oi := ?_) (v := ?_) ?_ ?_ ?_ ?_ ?_ ?_ (by exact hHeld) ?_
  rotate_left 2
  · (simp only [List.getElem?_toArray, List.getElem?_cons_zero, List.getElem?_cons_succ]; try rfl)
  · kernel_rfl
  · kernel_rfl
  · kernel_rfl
  · exact fun _ _ _ h => h
  · refine Or.inl ⟨by rfl, ?_⟩
    (intro V hSV; (try dsimp only at hSV); obtain ⟨⟩ := hSV; go_simp; try with_reducible rfl)
  (try simp only [Act.put, List.setIfInBounds_toArray, List.set_cons_zero, List.set_cons_succ])
  refine wpAnyH_take (i := 4) (oi := ?_) (v := ?_) ?_ ?_ ?_ ?_ ?_ ?_ (by exact hHeld) ?_
  rotate_left 2
  · (simp only [List.getElem?_toArray, List.getElem?_cons_zero, List.getElem?_cons_succ]; try rfl)
  · kernel_rfl
  · kernel_rfl
  · kernel_rfl
  · exact fun _ _ _ h => h
  · refine Or.inl ⟨by rfl, ?_⟩
    (intro V hSV; (try dsimp only at hSV); obtain ⟨⟩ := hSV; go_simp; try with_reducible rfl)
  (try simp only [Act.put, List.setIfInBounds_toArray, List.set_cons_zero, List.set_cons_succ])
  refine wpAnyH_take (i := 5) (oi := ?_) (v := ?_) ?_ ?_ ?_ ?_ ?_ ?_ (by exact hHeld) ?_
  rotate_left 2
  · (simp only [List.getElem?_toArray, List.getElem?_cons_zero, List.getElem?_cons_succ]; try rfl)
  · kernel_rfl
  · kernel_rfl
  · kernel_rfl
  · exact fun _ _ _ h => h
  · refine Or.inl ⟨by rfl, ?_⟩
    (intro V hSV; (try dsimp only at hSV); obtain ⟨⟩ := hSV; go_simp; try with_reducible rfl)
  (try simp only [Act.put, List.setIfInBounds_toArray, List.set_cons_zero, List.set_cons_succ])
  refine wpAnyH_take (i := 6) (oi := ?_) (v := ?_) ?_ ?_ ?_ ?_ ?_ ?_ (by exact hHeld) ?_
  rotate_left 2
  · (simp only [List.getElem?_toArray, List.getElem?_cons_zero, List.getElem?_cons_succ]; try rfl)
  · kernel_rfl
  · kernel_rfl
  · kernel_rfl
  · exact fun _ _ _ h => h
  · refine Or.inl ⟨by rfl, ?_⟩
    (intro V hSV; (try dsimp only at hSV); obtain ⟨⟩ := hSV; go_simp; try with_reducible rfl)
  (try simp only [Act.put, List.setIfInBounds_toArray, List.set_cons_zero, List.set_cons_succ])
  refine wpAnyH_take (i := 7) (oi := ?_) (v := ?_) ?_ ?_ ?_ ?_ ?_ ?_ (by exact hHeld) ?_
  rotate_left 2
  · (simp only [List.getElem?_toArray, List.getElem?_cons_zero, List.getElem?_cons_succ]; try rfl)
  · kernel_rfl
  · kernel_rfl
  · kernel_rfl
  · exact fun _ _ _ h => h
  · refine Or.inl ⟨by rfl, ?_⟩
    (intro V hSV; (try dsimp only at hSV); obtain ⟨⟩ := hSV; go_simp; try with_reducible rfl)
  (try simp only [Act.put, List.setIfInBounds_toArray, List.set_cons_zero, List.set_cons_succ])
  refine wpAnyH_ready (rs := [8]) (by kernel_rfl) (by simp) ?_
  refine AllReadyH.cons (o := ?_) ?_ (fun K hK => ?_) AllReadyH.nil
  rotate_left 1
  · (simp only [List.getElem?_toArray, List.getElem?_cons_zero, List.getElem?_cons_succ]; try rfl)
  refine step_run_copy rfl (.tmp 73) (.tmp 76) _ _ rfl _ _ rfl rfl (hc1 _) ?_
  (try go_simp)
  refine hK.out _ _ (by exact trivial) (fun hHeld => ?_)
  clear hK K
  (try simp only [Act.put, List.setIfInBounds_toArray, List.set_cons_zero, List.set_cons_succ])
  refine wpAnyH_done (by kernel_rfl) ?_ _
  go_wp2_with (at_builtin; refine wpList_run_copy rfl _ _ _ _ rfl _ _ rfl rfl (hc2 _) ?_)
  go_ret
  exact ⟨_, rfl, HFIN.out, HG2.out⟩

theorem insert_any (v : Value) (es : List Le) (i : Nat) (l : Le) (base b : Nat) (w : World) (hl : es.length ≤ 100000) (hi : i ≤ es.length) (hO : OwR w base v es) (hil : leIn l) (hb : Blk w b (leC l) 43) (hL : Ll w (some ⟨b, 0, none⟩) [l]) (hne : ∀ k ∈ v.ownBlock.toList, b ≠ k) (hbase : base ≤ w.heap.size) :
    Calls Try.prog 133 #[v, .int .i64 (i : Int), .slice (some ⟨b, 0, none⟩) 1 1] w (Inserts es i l base v w) := by
  by_cases e : i = es.length
  · subst e
    exact insert_end v es l base b w hl hO hL hbase
  rcases hO.row.2 with ⟨_, h0⟩ | ⟨g, cap, cur, rfl, hbg, hh, hnc, hcm, hcs, htk⟩
  · omega
  by_cases hr : cap = es.length
  · exact insert_grow g cap i cur es l base b w hl (by omega) hO.in_ hil hh hr hcs htk hb hbase
  · exact insert_room g cap i cur es l base b w hl (by omega) hO.in_ hil hbg hh (by omega) hcm hcs htk hb (hne g (by simp [Value.ownBlock]))
end Go.Proofs.Ytgpjjolgpppeeaa

namespace Go.Proofs.Ytgpjjolgpppeeaa
open Go.RowKit P
set_option linter.unusedVariables false
set_option linter.unusedSimpArgs false
set_option maxRecDepth 100000

/-- One lease of a list of one's own is written anew. -/
theorem OwR.set4 {w : World} {base g cap : Nat} {es : List Le} (h : OwR w base (.slice (some ⟨g, 0, none⟩) es.length cap) es) (i : Nat) (hi : i < es.length) (a b c d : Int) (hin : leIn (a, b, c, d)) :
    OwR ((((w.setCell ⟨g, i * 4, none⟩ (.int .i64 a)).setCell ⟨g, i * 4 + 1, none⟩ (.int .i64 b)).setCell ⟨g, i * 4 + 2, none⟩ (.int .i64 c)).setCell ⟨g, i * 4 + 3, none⟩ (.int .i64 d)) base (.slice (some ⟨g, 0, none⟩) es.length cap) (es.set i (a, b, c, d)) := by
  obtain ⟨A, c9, e9, hOL⟩ := h.owL
  cases e9
  rcases rowL_of hOL with e | ⟨g', e, _, hrow, hall⟩
  · subst e; simp at hi
  cases e
  rcases h.row.2 with ⟨e, _⟩ | ⟨g', cap', cur, e, hbg, hh, hnc, hcm, hcs, htk⟩
  · cases e
  cases e
  have hsz : SzB w g (cap * 4) := ⟨cur, hh, hcs⟩
  have hr := hrow.set4 i hi a b c d
  have hs := (((hsz.set (i * 4) (.int .i64 a)).set (i * 4 + 1) (.int .i64 b)).set (i * 4 + 2) (.int .i64 c)).set (i * 4 + 3) (.int .i64 d)
  have hl : (es.set i (a, b, c, d)).length = es.length := List.length_set
  have h9 := own_of_row (base := base) (i := (es.set i (a, b, c, d)).length) hr hs hbg (Nat.le_refl _) List.take_length (fun l hm => by
    rcases List.mem_or_eq_of_mem_set hm with h | h
    · exact hall _ h
    · subst h; exact hin) (by rw [hl]; exact hnc) hcm
  rw [hl] at h9
  exact h9

theorem grown_set4 {w w1 : World} {g : Nat} (h : w.grownBy w1 (some g)) (i : Nat) (a b c d : Value) : w.grownBy ((((w1.setCell ⟨g, i * 4, none⟩ a).setCell ⟨g, i * 4 + 1, none⟩ b).setCell ⟨g, i * 4 + 2, none⟩ c).setCell ⟨g, i * 4 + 3, none⟩ d) (some g) :=
  ⟨h.os, h.tape, h.output, by simpa using h.size, fun k hk hne => by
    have hkg : k ≠ g := fun e => hne (by rw [e])
    rw [Below.heap_setCell _ _ _ _ hkg, Below.heap_setCell _ _ _ _ hkg, Below.heap_setCell _ _ _ _ hkg, Below.heap_setCell _ _ _ _ hkg]
    exact h.block k hk hne⟩
theorem grown_of_below {w w1 : World} {row : Option Nat} (h : Below w.heap.size w w1) : w.grownBy w1 row := ⟨h.os, h.tape, h.output, h.size, fun k hk _ => h.block k hk⟩

/-- What putLease gives. -/
def PutsL (es : List Le) (l : Le) (base : Nat) (v : Value) (w : World) (e : Ending) (w' : World) : Prop := ∃ v', e = .returned v' ∧ OwR w' base v' (putL es l) ∧ w.grownBy w' v.ownBlock

set_option maxHeartbeats 8000000 in
theorem putLease_any (v : Value) (es : List Le) (x y s t : Int) (base : Nat) (w : World) (hok : leOk es = true) (hO : OwR w base v es) (hin : leIn (x, y, s, t)) (hbase : base ≤ w.heap.size) :
    Calls Try.prog 80 #[v, .agg #[.int .i64 x, .int .i64 y, .int .i64 s, .int .i64 t]] w (PutsL es (x, y, s, t) base v w) := by
  have hal := (Below.refl w.heap.size w).alloc (Nat.le_refl _) (.cells #[.int .i64 x, .int .i64 y, .int .i64 s, .int .i64 t] 43)
  have hbx := Blk.new w #[.int .i64 x, .int .i64 y, .int .i64 s, .int .i64 t] 43
  have p0 := hbx.cell 0
  have p1 := hbx.cell 1
  have p2 := hbx.cell 2
  have p3 := hbx.cell 3
  have hlen := leOk_len hok
  have hO1 := hO.below hal
  obtain ⟨A, c, rfl, _, _, hA1⟩ := hO1.ll
  have HO1 := Lib.hid hO1
  have HA1 := Lib.hid hA1
  have HOK := Lib.hid hok
  have HIN := Lib.hid hin
  have hgr0 : w.grownBy (w.alloc (.cells #[.int .i64 x, .int .i64 y, .int .i64 s, .int .i64 t] 43)) (Value.slice A es.length c).ownBlock := grown_of_below hal
  have HG0 := Lib.hid hgr0
  clear hok hO hO1 hA1 hin hal hgr0
  unfold PutsL
  go_enter Try.func80, Try.ntmps80
  go_wp2_with fail
  refine (placeOfKey_any A es c x y s t _ HOK.out (by exact HA1.out)).mono ?_
  rintro e w1 ⟨i, f, rfl, hf, hfi, hh, hb1⟩
  have hbx1 := hbx.below hb1
  clear p0 p1 p2 p3
  have p0 := hbx1.cell 0
  have p1 := hbx1.cell 1
  have p2 := hbx1.cell 2
  have p3 := hbx1.cell 3
  have hO2 := HO1.out.below hb1
  have hgr1 := World.grownBy.trans HG0.out (grown_of_below (row := (Value.slice A es.length c).ownBlock) hb1)
  have hz1 := hb1.size
  have hbs1 : base ≤ w1.heap.size := by simp at hz1; omega
  cases f
  · have hno := Lib.hid (show ¬ keyIx es (x, y, s, t) < es.length from of_decide_eq_false hf.symm)
    have HH := Lib.hid hh
    have HO2 := Lib.hid hO2
    have HG1 := Lib.hid hgr1
    have HBX1 := Lib.hid hbx1
    have hil := hh.hi
    have hal2 := (Below.refl w1.heap.size w1).alloc (Nat.le_refl _) (.cells #[.int .i64 x, .int .i64 y, .int .i64 s, .int .i64 t] 43)
    have HO3 := Lib.hid (HO2.out.below hal2)
    have HG3 := Lib.hid (World.grownBy.trans HG1.out (grown_of_below (row := (Value.slice A es.length c).ownBlock) hal2))
    have hbn2 : ∀ k ∈ (Value.slice A es.length c).ownBlock.toList, w1.heap.size ≠ k := fun k hk e => by
      have h9 := (World.ownsRow.lt HO2.out.row k (by simpa using hk)).2
      omega
    have HN2 := Lib.hid hbn2
    clear hf hfi hh hO2 hgr1 hbx1 hbn2 hal2 hb1
    go_wp2_with fail
    refine (insert_any _ es i (x, y, s, t) base w1.heap.size _ (by omega) hil HO3.out HIN.out (Blk.new w1 _ _) (ll_new w1 HIN.out) HN2.out (by simp; omega)).mono ?_
    rintro e w2 ⟨v', rfl, hO4, hg4⟩
    rw [← putL_at HOK.out HH.out hno.out] at hO4
    have HO4 := Lib.hid hO4
    have HG4 := Lib.hid (World.grownBy.trans HG3.out hg4)
    clear hO4 hg4 p0 p1 p2 p3
    go_wp2
    go_ret
    exact ⟨_, rfl, HO4.out, HG4.out⟩
  · have hyes := show keyIx es (x, y, s, t) < es.length from of_decide_eq_true hf.symm
    have hi9 := hfi rfl
    subst hi9
    obtain ⟨g, rfl⟩ : ∃ g, A = some ⟨g, 0, none⟩ := by
      rcases hO2.row.2 with ⟨e, h0⟩ | ⟨g, cap, cur, e, _⟩
      · omega
      · cases e; exact ⟨g, rfl⟩
    have hse := keyIx_yes hyes
    have hput := Lib.hid (putL_set HOK.out hh hyes hse)
    obtain ⟨i, hi⟩ : ∃ i, keyIx es (x, y, s, t) = i := ⟨_, rfl⟩
    rw [hi] at hput hyes ⊢
    have hset := hO2.set4 i hyes x y s t HIN.out
    have hgs := grown_set4 (g := g) hgr1 i (.int .i64 x) (.int .i64 y) (.int .i64 s) (.int .i64 t)
    obtain ⟨A9, c9, e9, _, _, hA9⟩ := hO2.ll
    cases e9
    obtain ⟨b9, off9, x9, y9, s9, t9, e9, hbl9, _, k0, k1, k2, k3, _⟩ := hA9.at_ i hyes
    cases e9
    simp only [Nat.zero_add] at k0 k1 k2 k3
    obtain ⟨cur9, hB9⟩ : ∃ cur, Blk w1 g cur 43 := by
      rcases hO2.row.2 with ⟨e, h0⟩ | ⟨g', cap, cur, e, _, hh9, _⟩
      · omega
      · cases e; exact ⟨cur, hh9⟩
    have f0 := hB9.frozen (i * 4)
    have f1 := hB9.frozen (i * 4 + 1)
    have f2 := hB9.frozen (i * 4 + 2)
    have f3 := hB9.frozen (i * 4 + 3)
    have hil : (i : Int) < (es.length : Int) := by omega
    have HSE := Lib.hid hset
    have HGS := Lib.hid hgs
    clear hf hfi hh hO2 hgr1 hbx1 hb1 hse hset hgs hi hA9 hB9 hbx
    go_wp2
    go_ret
    exact ⟨_, rfl, by rw [hput.out]; exact HSE.out, HGS.out⟩
end Go.Proofs.Ytgpjjolgpppeeaa

namespace Go.Proofs.Ytgpjjolgpppeeaa
open Go.RowKit P
set_option linter.unusedVariables false
set_option linter.unusedSimpArgs false
set_option maxRecDepth 100000

theorem OwR.keeps {w w' : World} {base : Nat} {v : Value} {es : List Le} {fq : List Nat} (h : OwR w base v es) (hk : Keeps fq w w') (hd : ∀ k ∈ v.ownBlock.toList, k ∉ fq) : OwR w' base v es := by
  refine ⟨⟨h.row.1, ?_⟩, h.in_⟩
  rcases h.row.2 with h2 | ⟨g, cap, cur, rfl, hg, hh, r⟩
  · exact .inl h2
  · exact .inr ⟨g, cap, cur, rfl, hg, (hk.block g (Blk.lt (T := 43) hh) (hd g (by simp [Value.ownBlock]))).trans hh, r⟩
theorem OwR.range {w : World} {base : Nat} {v : Value} {es : List Le} (h : OwR w base v es) : ∀ k ∈ v.ownBlock.toList, base ≤ k ∧ k < w.heap.size := fun k hk => World.ownsRow.lt h.row k (by simpa using hk)
theorem Book.of_mem {D D' E : List Le} (h : Book D E) (hm : ∀ x, x ∈ D ↔ x ∈ D') : Book D' E := ⟨h.srt, fun l hl => (hm l).1 (h.sub l hl), fun l hl => h.all l ((hm l).2 hl)⟩

/-- How many the heap at hb holds. -/
def lenAt (hb : Nat) (w : World) : Nat := match w.cell? ⟨hb, 0, none⟩ with
  | some (.slice _ n _) => n
  | _ => 0
theorem Hq.form {w : World} {B hb : Nat} {v : Value} {H : List Le} (h : Hq w B hb v H) : ∃ A c, v = .slice A H.length c ∧ w.cell? ⟨hb, 0, none⟩ = some (.slice A H.length c) ∧ lenAt hb w = H.length := by
  obtain ⟨A, c, rfl, _⟩ := h.own.owL
  have h0 : w.cell? ⟨hb, 0, none⟩ = some (.slice A H.length c) := h.hd.cell 0
  exact ⟨A, c, rfl, h0, by unfold lenAt; rw [h0]⟩
set_option maxHeartbeats 1000000 in
theorem heapLenQ_any (B hb : Nat) (v : Value) (H : List Le) (w : World) (h : Hq w B hb v H) :
    Calls Try.prog 124 #[.pointer (some ⟨hb, 0, none⟩)] w fun e w' => e = .returned (.int .i64 (H.length : Int)) ∧ w' = w := by
  obtain ⟨A, c, rfl, h0, _⟩ := h.form
  clear h
  go_enter Try.func124, Try.ntmps124
  go_wp2
  go_ret
  exact ⟨rfl, rfl⟩

/-- While a heap of H is emptied: D has been taken off, E is what is left of it, G is still on the heap. -/
structure Empt (H : List Le) (B hb M : Nat) (w : World) (v : Value) (D E G : List Le) (vh : Value) (wr : World) : Prop where
  pm : (D ++ G).Perm H
  bk : Book D E
  td : ∀ d ∈ D, ∀ g ∈ G, d.2.2.2 ≤ g.2.2.2
  hp : IsHeap G G.length
  hq : Hq wr B hb vh G
  lo : ∀ k ∈ vh.ownBlock.toList, k < M
  ow : OwR wr M v E
  bl : Below B w wr
theorem Empt.ok {H : List Le} {B hb M : Nat} {w : World} {v : Value} {D E G : List Le} {vh : Value} {wr : World} (h : Empt H B hb M w v D E G vh wr) (hl : H.length ≤ 12) (hr : ∀ l ∈ H, leRight l = true) : leOk E = true := by
  have h1 := h.pm.length_eq
  rw [List.length_append] at h1
  exact h.bk.ok (by omega) (fun l hl => hr l (h.pm.mem_iff.1 (List.mem_append.2 (.inl hl))))

set_option maxHeartbeats 8000000 in
theorem emptied_any (B hb : Nat) (v : Value) (H : List Le) (w : World) (h : Hq w B hb v H) (hh : IsHeap H H.length) (hl : H.length ≤ 12) (hr : ∀ l ∈ H, leRight l = true) :
    Calls Try.prog 89 #[.pointer (some ⟨hb, 0, none⟩)] w fun e w' => ∃ v' E, e = .returned v' ∧ Book H E ∧ leOk E = true ∧ OwR w' w.heap.size v' E ∧ Below B w w' := by
  have hBh := h.hB
  have hhw := h.hd.lt
  have H0 := Lib.hid (show Empt H B hb w.heap.size w (.slice none 0 0) [] [] H v w from ⟨by simp, Book.nil, by simp, hh, h, fun k hk => (h.own.range k hk).2, OwR.nil w _, Below.refl _ _⟩)
  have HR := Lib.hid hr
  clear h hh hr
  go_enter Try.func89, Try.ntmps89
  go_wp2
  go_loopw [3] (fun lst wr => ∃ (v' : Value) (D E G : List Le) (vh : Value), v' = lst ∧ Hid (Empt H B hb w.heap.size w v' D E G vh wr)) (fun _ wr => lenAt hb wr)
  case atStart => exact ⟨_, [], [], H, v, rfl, H0⟩
  case round =>
    obtain ⟨v', D, E, G, vh, rfl, HE⟩ := hrel
    have hlen := heapLenQ_any B hb vh G wr HE.out.hq
    have HM := Lib.hid HE.out.hq.form
    by_cases h0 : 0 < G.length
    · have hgl : (0 : Int) < (G.length : Int) := by omega
      have hGl : G.length ≤ 12 := by
        have h1 := HE.out.pm.length_eq
        rw [List.length_append] at h1
        omega
      obtain ⟨g, cap, hvh, hbg, hp⟩ := hp_of_hq HE.out.hq h0
      have hpop := heapPop_any hb g cap G wr hp h0 HE.out.hp (by omega)
      have HVH := Lib.hid hvh
      clear hvh hp
      go_wp2_with fail
      refine hlen.mono ?_
      rintro e w1 ⟨rfl, rfl⟩
      clear hlen
      go_wp2_with fail
      refine hpop.mono ?_
      rintro e w2 ⟨x, y, s, t, G', rfl, hpm, _, hle, hih, hp2, hk2⟩
      have hTA : ∀ W, (Instr.typeAssert (.iface 43 (.agg #[.int .i64 x, .int .i64 y, .int .i64 s, .int .i64 t])) 20 43 false).run Try.prog W = .ok (.agg #[.int .i64 x, .int .i64 y, .int .i64 s, .int .i64 t]) W := fun W => by kernel_rfl
      have hmem : (x, y, s, t) ∈ G := hpm.mem_iff.1 (by simp)
      have hin := HE.out.hq.own.in_ _ hmem
      have hgM : g < w.heap.size := HE.out.lo g (by rw [HVH.out]; simp [Value.ownBlock])
      have hO2 := HE.out.ow.keeps hk2 (fun k hk => by
        have h9 := (HE.out.ow.range k hk).1
        intro hm
        have h8 : k = hb ∨ k = g := by simpa using hm
        omega)
      have hzw := HE.out.bl.size
      have hz2 := hk2.size
      have hput := putLease_any v' E x y s t w.heap.size w2 (HE.out.ok hl HR.out) hO2 hin (by omega)
      have HPM := Lib.hid hpm
      have HLE := Lib.hid hle
      have HIH := Lib.hid hih
      have HP2 := Lib.hid hp2
      have HK2 := Lib.hid hk2
      have HPUT := Lib.hid hput
      have HO2 := Lib.hid hO2
      clear hpop hpm hle hih hp2 hk2 hput hO2 hin hmem
      go_wp2_with fail
      refine HPUT.out.mono ?_
      rintro e w3 ⟨v3, rfl, hO3, hg3⟩
      have hr2 := HO2.out.range
      have hk3 := Keeps.of_grown hg3
      have hp3 : Hp w3 hb g cap G' := by
        have hq2 := hq_of_hp (B := B) HP2.out hBh hbg
        have b1 := hk3.block hb HP2.out.hd.lt (fun hm => by have := (hr2 hb hm).1; omega)
        have b2 := hk3.block g HP2.out.row.lt (fun hm => by have := (hr2 g hm).1; omega)
        refine ⟨HP2.out.hd.of_block b1, HP2.out.row.keep b2, ?_, HP2.out.ne, HP2.out.le, HP2.out.cm, HP2.out.in_⟩
        obtain ⟨cur, c1, c2⟩ := HP2.out.sz
        exact ⟨cur, c1.of_block b2, c2⟩
      have hE3 : Empt H B hb w.heap.size w v3 (D ++ [(x, y, s, t)]) (putL E (x, y, s, t)) G' (.slice (some ⟨g, 0, none⟩) G'.length cap) w3 := by
        have hm2 : ∀ z ∈ G', z ∈ G := fun z hz => HPM.out.mem_iff.1 (List.mem_cons_of_mem _ hz)
        have hm3 : (x, y, s, t) ∈ G := HPM.out.mem_iff.1 (by simp)
        refine ⟨?_, HE.out.bk.put (fun d hd _ => HE.out.td d hd _ hm3), fun d hd z hz => ?_, HIH.out, hq_of_hp hp3 hBh hbg, fun k hk => ?_, hO3, ?_⟩
        · rw [List.append_assoc, List.singleton_append]
          exact (HPM.out.append_left D).trans HE.out.pm
        · rcases List.mem_append.1 hd with h9 | h9
          · exact HE.out.td d h9 z (hm2 z hz)
          · rw [List.mem_singleton] at h9
            subst h9
            exact HLE.out z (hm2 z hz)
        · simp [Value.ownBlock] at hk
          omega
        · refine (HE.out.bl.trans (HK2.out.below (B := B) (by omega) (fun k hk => by
          have h8 : k = hb ∨ k = g := by simpa using hk
          omega))).trans (hk3.below (by omega) (fun k hk => by have := (hr2 k hk).1; omega))
      have HE3 := Lib.hid hE3
      have hm1 := HM.out
      obtain ⟨_, _, _, _, hm1⟩ := hm1
      have hm2 := (show Hq _ _ _ _ _ from HE3.out.hq).form
      obtain ⟨_, _, _, _, hm2⟩ := hm2
      have hGG : G'.length < G.length := by
        have h9 := HPM.out.length_eq
        rw [List.length_cons] at h9
        omega
      clear hE3 hp3 hO3 hg3 hk3 hr2
      go_wp2
      go_roundw
      case rel => exact ⟨v3, _, _, _, _, rfl, HE3⟩
      case measure => rw [hm1, hm2]; exact hGG
    · have hG : G = [] := List.eq_nil_of_length_eq_zero (by omega)
      have hgl : ¬ (0 : Int) < (G.length : Int) := by omega
      have HOK := Lib.hid (HE.out.ok hl HR.out)
      have HBK := Lib.hid (show Book H E from HE.out.bk.of_mem (fun x => by
        have h9 := HE.out.pm.mem_iff (a := x)
        rw [hG, List.append_nil] at h9
        exact h9))
      clear hG
      go_wp2_with fail
      refine hlen.mono ?_
      rintro e w1 ⟨rfl, rfl⟩
      clear hlen
      go_wp2
      go_ret
      exact ⟨_, E, rfl, HBK.out, HOK.out, HE.out.ow, HE.out.bl⟩
end Go.Proofs.Ytgpjjolgpppeeaa

namespace Go.Proofs.Ytgpjjolgpppeeaa
open Go.RowKit P
set_option linter.unusedVariables false
set_option linter.unusedSimpArgs false
set_option maxRecDepth 100000

set_option maxHeartbeats 1000000 in
theorem isActive_any (x y s t a : Int) (w : World) :
    Calls Try.prog 77 #[.agg #[.int .i64 x, .int .i64 y, .int .i64 s, .int .i64 t], .int .i64 a] w fun e w' => e = .returned (.bool (decide (a < t))) ∧ Below w.heap.size w w' := by
  have hal := (Below.refl w.heap.size w).alloc (Nat.le_refl _) (.cells #[.int .i64 x, .int .i64 y, .int .i64 s, .int .i64 t] 43)
  have bx := Blk.new w #[.int .i64 x, .int .i64 y, .int .i64 s, .int .i64 t] 43
  have p3 := bx.cell 3
  go_enter Try.func77, Try.ntmps77
  go_wp2
  go_ret
  exact ⟨rfl, hal⟩

/-- While the leases that have ended are taken off: D has been, G is still on the heap. -/
structure Pops (es : List Le) (a : Int) (B hb : Nat) (w : World) (D G : List Le) (vh : Value) (wr : World) : Prop where
  pm : (D ++ G).Perm es
  td : ∀ d ∈ D, d.2.2.2 ≤ a
  hp : IsHeap G G.length
  hq : Hq wr B hb vh G
  bl : Below B w wr
theorem Hq.below {w w' : World} {B hb : Nat} {v : Value} {H : List Le} (h : Hq w B hb v H) (b : Below w.heap.size w w') : Hq w' B hb v H := ⟨h.hd.below b, h.own.below b, h.ne, h.hB⟩
theorem Pops.below {es : List Le} {a : Int} {B hb : Nat} {w : World} {D G : List Le} {vh : Value} {wr w' : World} (h : Pops es a B hb w D G vh wr) (hB : B ≤ wr.heap.size) (b : Below wr.heap.size wr w') : Pops es a B hb w D G vh w' := ⟨h.pm, h.td, h.hp, h.hq.below b, h.bl.trans (b.mono hB)⟩
theorem Pops.done {es : List Le} {a : Int} {B hb : Nat} {w : World} {D G : List Le} {vh : Value} {wr : World} (h : Pops es a B hb w D G vh wr) (hok : leOk es = true) (hs : ∀ h0 : 0 < G.length, a < (G[0]'h0).2.2.2) {E : List Le} (hE : Book G E) : E = leExp es a := by
  unfold leExp
  rw [if_pos hok]
  refine hE.unique (Book.self ((leOk_srt hok).filter _)) (fun x => ?_)
  rw [List.mem_filter, decide_eq_true_eq, ← h.pm.mem_iff, List.mem_append]
  constructor
  · intro hx
    refine ⟨.inr hx, ?_⟩
    have h0 : 0 < G.length := List.length_pos_of_mem hx
    have h1 := h.hp.least x hx
    have h2 := hs h0
    rw [tl_at h0] at h1
    omega
  · rintro ⟨hx | hx, h2⟩
    · have := h.td x hx; omega
    · exact hx

set_option maxHeartbeats 8000000 in
theorem implLeaseExpire_any (A : Option Addr) (es : List Le) (c : Nat) (a : Int) (w : World) (hl : es.length ≤ 1048576) (hA : Ll w A es) :
    Calls Try.prog 65 #[.slice A es.length c, .int .i64 a] w fun e w' => ∃ v, e = .returned v ∧ OwR w' w.heap.size v (leExp es a) ∧ Below w.heap.size w w' := by
  have hn9 : es.length ≤ 9223372036854775807 := by omega
  obtain ⟨z, hz⟩ : ∃ z, leOk es = z := ⟨_, rfl⟩
  have HZ := Lib.hid hz
  have HA := Lib.hid hA
  clear hz hA
  cases z
  · have hAe : leExp es a = [] := by unfold leExp; rw [HZ.out]; rfl
    rw [hAe]
    clear hAe
    go_enter Try.func65, Try.ntmps65
    go_wp2_with fail
    refine (implLeasesOk_any A es c _ hn9 HA.out).mono ?_
    rintro e w1 ⟨rfl, hb1⟩
    rw [HZ.out]
    go_wp2
    go_ret
    exact ⟨_, rfl, OwR.nil _ _, hb1⟩
  have hlen := leOk_len HZ.out
  obtain ⟨R, hR⟩ : ∃ R, leExp es a = R := ⟨_, rfl⟩
  rw [hR]
  have HR := Lib.hid hR
  clear hR
  go_enter Try.func65, Try.ntmps65
  go_wp2_with fail
  refine (implLeasesOk_any A es c _ hn9 HA.out).mono ?_
  rintro e w1 ⟨rfl, hb1⟩
  rw [HZ.out]
  have HA1 := Lib.hid (HA.out.below hb1)
  go_wp2_with fail
  refine (endingHeap_any A es c _ (by omega) (by exact HA1.out)).mono ?_
  rintro e w2 ⟨hb, v2, G2, rfl, hp2, hi2, hq2, hb2⟩
  have hbB := hq2.hB
  have hbw := hq2.hd.lt
  have H0 := Lib.hid (show Pops es a w1.heap.size hb w1 [] G2 v2 w2 from ⟨hp2, (fun _ h => nomatch h), hi2, hq2, hb2⟩)
  have hz1 := hb1.size
  clear hp2 hi2 hq2
  go_wp2
  go_loopw [] (fun wr => ∃ (D G : List Le) (vh : Value), Hid (Pops es a w1.heap.size hb w1 D G vh wr)) (fun wr => lenAt hb wr)
  case atStart => exact ⟨_, _, _, H0⟩
  case round =>
    obtain ⟨D, G, vh, HP⟩ := hrel
    have hlen9 := heapLenQ_any w1.heap.size hb vh G wr HP.out.hq
    have HM := Lib.hid HP.out.hq.form
    have hGl : G.length ≤ 12 := by
      have h1 := HP.out.pm.length_eq
      rw [List.length_append] at h1
      omega
    have HRT := Lib.hid (show ∀ l ∈ G, leRight l = true from fun l hl => leOk_right HZ.out l (HP.out.pm.mem_iff.1 (List.mem_append.2 (.inr hl))))
    by_cases h0 : 0 < G.length
    · have hgl : (0 : Int) < (G.length : Int) := by omega
      obtain ⟨g, cap, hvh, hbg, hp⟩ := hp_of_hq HP.out.hq h0
      obtain ⟨x, y, s, t, hx, k0, k1, k2, k3, _⟩ := hp.at_ 0 h0
      simp only [Nat.zero_mul, Nat.zero_add] at k0 k1 k2 k3
      have hc0 : wr.cell? ⟨hb, 0, none⟩ = some (.slice (some ⟨g, 0, none⟩) G.length cap) := hp.hd.cell 0
      have HX := Lib.hid hx
      have hpop := Lib.hid (heapPop_any hb g cap G wr hp h0 HP.out.hp (by omega))
      have HVH := Lib.hid hvh
      have HHP := Lib.hid hp
      clear hx hvh hp
      by_cases hact : a < t
      · have hE := Lib.hid (fun w9 (h : Pops es a w1.heap.size hb w1 D G vh w9) E (hE : Book G E) => h.done HZ.out (fun h0 => by rw [HX.out]; exact hact) hE)
        have hbB3 := HP.out.hq.hB
        have hbw3 := HP.out.hq.hd.lt
        go_wp2_with fail
        refine hlen9.mono ?_
        rintro e w3 ⟨rfl, rfl⟩
        clear hlen9
        go_wp2_with fail
        refine (isActive_any x y s t a _).mono ?_
        rintro e w4 ⟨rfl, hb4⟩
        rw [decide_eq_true hact]
        have HP4 := Lib.hid (HP.out.below (by omega) hb4)
        have hem := Lib.hid (emptied_any w1.heap.size hb vh G w4 HP4.out.hq HP4.out.hp hGl HRT.out)
        clear k0 k1 k2 k3 hc0 hpop
        go_wp2_with fail
        refine hem.out.mono ?_
        rintro e w5 ⟨v5, E, rfl, hbk, _, hO5, hb5⟩
        have hEe := (hE.out w4 HP4.out E hbk).trans HR.out
        have hz4 := HP4.out.bl.size
        have HO5 := Lib.hid (hO5.mono (base' := w.heap.size) (by omega))
        have HB5 := Lib.hid (below_then hb1 (HP4.out.bl.trans hb5))
        rw [hEe] at HO5
        clear hO5 hb5 hbk hEe hb4
        go_wp2
        go_ret
        exact ⟨_, rfl, HO5.out, HB5.out⟩
      · have hbB3 := HP.out.hq.hB
        have hbw3 := HP.out.hq.hd.lt
        have HLO := Lib.hid hbg
        go_wp2_with fail
        refine hlen9.mono ?_
        rintro e w3 ⟨rfl, rfl⟩
        clear hlen9
        go_wp2_with fail
        refine (isActive_any x y s t a _).mono ?_
        rintro e w4 ⟨rfl, hb4⟩
        rw [decide_eq_false (show ¬ a < t by omega)]
        have hb4 := Lib.hid hb4
        have hpop4 := Lib.hid (heapPop_any hb g cap G w4 (HHP.out.below hb4.out) h0 HP.out.hp (by omega))
        clear k0 k1 k2 k3 hc0 hpop
        go_wp2_with fail
        refine hpop4.out.mono ?_
        rintro e w5 ⟨x5, y5, s5, t5, G5, rfl, hpm, hx5, hle, hih, hp5, hk5⟩
        have hP5 : Pops es a w1.heap.size hb w1 (D ++ [(x5, y5, s5, t5)]) G5 (.slice (some ⟨g, 0, none⟩) G5.length cap) w5 := by
          refine ⟨?_, fun d hd => ?_, hih, hq_of_hp hp5 hbB3 HLO.out, ?_⟩
          · rw [List.append_assoc, List.singleton_append]
            exact (hpm.append_left D).trans HP.out.pm
          · rcases List.mem_append.1 hd with h9 | h9
            · exact HP.out.td d h9
            · rw [List.mem_singleton] at h9
              subst h9
              rw [HX.out] at hx5
              cases hx5
              show t ≤ a
              omega
          · have hz4 := hb4.out.size
            exact (HP.out.below (by omega) hb4.out).bl.trans (hk5.below (B := w1.heap.size) (by omega) (fun k hk => by
              have h8 : k = hb ∨ k = g := by simpa using hk
              have := HLO.out
              omega))
        have HP5 := Lib.hid hP5
        have hm1 := HM.out
        obtain ⟨_, _, _, _, hm1⟩ := hm1
        have hm2 := (show Hq _ _ _ _ _ from HP5.out.hq).form
        obtain ⟨_, _, _, _, hm2⟩ := hm2
        have hGG : G5.length < G.length := by
          have h9 := hpm.length_eq
          rw [List.length_cons] at h9
          omega
        clear hP5 hpm hx5 hle hih hp5 hk5
        go_wp2
        go_roundw
        case rel => exact ⟨_, _, _, HP5⟩
        case measure => rw [hm1, hm2]; exact hGG
    · have hgl : ¬ (0 : Int) < (G.length : Int) := by omega
      have hbB3 := HP.out.hq.hB
      have hE := Lib.hid (fun w9 (h : Pops es a w1.heap.size hb w1 D G vh w9) E (hE : Book G E) => h.done HZ.out (fun h9 => absurd h9 h0) hE)
      have hem := Lib.hid (emptied_any w1.heap.size hb vh G wr HP.out.hq HP.out.hp hGl HRT.out)
      go_wp2_with fail
      refine hlen9.mono ?_
      rintro e w3 ⟨rfl, rfl⟩
      clear hlen9
      go_wp2_with fail
      refine hem.out.mono ?_
      rintro e w5 ⟨v5, E, rfl, hbk, _, hO5, hb5⟩
      have hEe := (hE.out _ HP.out E hbk).trans HR.out
      have hz4 := HP.out.bl.size
      have HO5 := Lib.hid (hO5.mono (base' := w.heap.size) (by omega))
      have HB5 := Lib.hid (below_then hb1 (HP.out.bl.trans hb5))
      rw [hEe] at HO5
      clear hO5 hb5 hbk hEe
      go_wp2
      go_ret
      exact ⟨_, rfl, HO5.out, HB5.out⟩
end Go.Proofs.Ytgpjjolgpppeeaa

namespace Go.Proofs.Ytgpjjolgpppeeaa
open Go.RowKit P
set_option linter.unusedVariables false
set_option linter.unusedSimpArgs false
set_option maxRecDepth 100000

set_option maxHeartbeats 2000000 in
theorem overlaps_any (i j s t x y u v : Int) (w : World) :
    Calls Try.prog 131 #[.agg #[.int .i64 i, .int .i64 j, .int .i64 s, .int .i64 t], .agg #[.int .i64 x, .int .i64 y, .int .i64 u, .int .i64 v]] w fun e w' => e = .returned (.bool (meet (i, j, s, t) (x, y, u, v))) ∧ Below w.heap.size w w' := by
  have hal := ((Below.refl w.heap.size w).alloc (Nat.le_refl _) (.cells #[.int .i64 i, .int .i64 j, .int .i64 s, .int .i64 t] 43)).alloc (by simp) (.cells #[.int .i64 x, .int .i64 y, .int .i64 u, .int .i64 v] 43)
  have b0 := (Blk.new w #[.int .i64 i, .int .i64 j, .int .i64 s, .int .i64 t] 43).alloc (.cells #[.int .i64 x, .int .i64 y, .int .i64 u, .int .i64 v] 43)
  have b1 := Blk.new (w.alloc (.cells #[.int .i64 i, .int .i64 j, .int .i64 s, .int .i64 t] 43)) #[.int .i64 x, .int .i64 y, .int .i64 u, .int .i64 v] 43
  simp only [World.size_alloc] at b1
  have p0 := b0.cell 0
  have p1 := b0.cell 1
  have q0 := b1.cell 0
  have q1 := b1.cell 1
  clear b0 b1
  go_enter Try.func131, Try.ntmps131
  go_wp2
  all_goals
    go_ret
    exact ⟨ret_bool (by unfold meet; rw [decide_eq_decide]; first | done | (show _ ↔ max i x < min j y; omega)), hal⟩

set_option maxHeartbeats 4000000 in
theorem heldBy_any (i j s0 t0 x y s t : Int) (g : Nat) (w : World) (hB : Blk w g #[.int .i64 x, .int .i64 y, .int .i64 s, .int .i64 t] 43) :
    Calls Try.prog 130 #[.agg #[.int .i64 i, .int .i64 j, .int .i64 s0, .int .i64 t0], .pointer (some ⟨g, 0, none⟩)] w fun e w' => e = .returned (.bool (barsL (x, y, s, t) (i, j, s0, t0))) ∧ Below w.heap.size w w' := by
  have hal := (Below.refl w.heap.size w).alloc (Nat.le_refl _) (.cells #[.int .i64 i, .int .i64 j, .int .i64 s0, .int .i64 t0] 43)
  have b1 := Blk.new w #[.int .i64 i, .int .i64 j, .int .i64 s0, .int .i64 t0] 43
  have b0 := hB.below hal
  have p0 := b0.cell 0
  have p1 := b0.cell 1
  have p2 := b0.cell 2
  have p3 := b0.cell 3
  have q0 := b1.cell 0
  have q1 := b1.cell 1
  have q2 := b1.cell 2
  have q3 := b1.cell 3
  clear b0 b1
  by_cases h : s0 = s
  · have hne : (s0 != s) = false := by simp [h]
    have hr : barsL (x, y, s, t) (i, j, s0, t0) = false := by unfold barsL; simp [h]
    rw [hr]
    clear h hr
    go_enter Try.func130, Try.ntmps130
    go_wp2
    go_ret
    exact ⟨rfl, hal⟩
  · have hne : (s0 != s) = true := by simp [h]
    have hr : barsL (x, y, s, t) (i, j, s0, t0) = meet (i, j, s0, t0) (x, y, s, t) := by unfold barsL; simp [h]
    rw [hr]
    clear h hr
    go_enter Try.func130, Try.ntmps130
    go_wp2_with fail
    refine (overlaps_any i j s0 t0 x y s t _).mono ?_
    rintro e w1 ⟨rfl, hb1⟩
    have hb9 := below_then hal hb1
    go_wp2
    go_ret
    exact ⟨rfl, hb9⟩

set_option maxHeartbeats 4000000 in
theorem heldIx_any (A : Option Addr) (es : List Le) (c : Nat) (g : Nat) (p : Le → Bool) (w : World) (hl : es.length ≤ 1048576) (hA : Ll w A es) (hcall : ∀ (W : World) (x y s t : Int), leIn (x, y, s, t) → Below w.heap.size w W → Calls Try.prog 130 #[.agg #[.int .i64 x, .int .i64 y, .int .i64 s, .int .i64 t], .pointer (some ⟨g, 0, none⟩)] W fun e w' => e = .returned (.bool (p (x, y, s, t))) ∧ Below W.heap.size W w') :
    Calls Try.prog 123 #[.slice A es.length c, .func (.func 130) #[] #[.pointer (some ⟨g, 0, none⟩)]] w fun e w' => (∃ r : Int, e = .returned (.int .i64 r) ∧ decide (0 ≤ r) = es.any p) ∧ Below w.heap.size w w' := by
  have hn9 : es.length ≤ 9223372036854775807 := by omega
  go_enter Try.func123, Try.ntmps123
  go_wp2
  go_loopw [8] (fun i wr => ∃ k : Nat, k ≤ es.length ∧ i = .int .i64 k ∧ Hid ((es.take k).any p = false) ∧ Below w.heap.size w wr)
    (fun i _ => es.length - (intOf i).toNat)
  case atStart => exact ⟨0, Nat.zero_le _, rfl, Lib.hid (by simp), Below.refl _ _⟩
  case round =>
    obtain ⟨k, hk, rfl, HALL, hb⟩ := hrel
    by_cases hlt : k < es.length
    · have hki : (k : Int) < (es.length : Int) := by omega
      obtain ⟨b, off, x, y, s, t, rfl, hbl, hek, k0, k1, k2, k3, hin⟩ := (hA.below hb).at_ k hlt
      have hc := Lib.hid (hcall wr x y s t hin hb)
      have hnx : (es.take (k + 1)).any p = ((es.take k).any p || p (x, y, s, t)) := by
        rw [List.take_succ_eq_append_getElem hlt, List.any_append, hek]; simp
      have hal : p (x, y, s, t) = true → es.any p = true := fun h => List.any_eq_true.2 ⟨_, List.getElem_mem hlt, by rw [hek]; exact h⟩
      have HNX := Lib.hid hnx
      have HAL := Lib.hid hal
      obtain ⟨q, hq⟩ : ∃ q, p (x, y, s, t) = q := ⟨_, rfl⟩
      have HQ := Lib.hid hq
      clear hnx hal hek hin hq
      go_wp2_with fail
      refine hc.out.mono ?_
      rintro e w1 ⟨rfl, hb1⟩
      rw [HQ.out]
      have hb9 := below_then hb hb1
      clear k0 k1 k2 k3
      cases q
      · have HN := Lib.hid (show (es.take (k + 1)).any p = false by rw [HNX.out, HALL.out, HQ.out]; rfl)
        go_wp2
        go_roundw
        case rel => exact ⟨k + 1, by omega, by go_num, HN, hb9⟩
        case measure => simp [intOf]; omega
      · have HN := Lib.hid (HAL.out HQ.out)
        go_wp2
        go_ret
        exact ⟨⟨_, rfl, by rw [HN.out]; exact decide_eq_true (by omega)⟩, hb9⟩
    · have e : k = es.length := by omega
      have HN := Lib.hid (show es.any p = false by have h9 := HALL.out; rw [e, List.take_length] at h9; exact h9)
      clear e
      go_wp2
      go_ret
      exact ⟨⟨_, rfl, by rw [HN.out]; rfl⟩, hb⟩

set_option maxHeartbeats 4000000 in
theorem held_any (A : Option Addr) (es : List Le) (c : Nat) (g : Nat) (p : Le → Bool) (w : World) (hl : es.length ≤ 1048576) (hA : Ll w A es) (hcall : ∀ (W : World) (x y s t : Int), leIn (x, y, s, t) → Below w.heap.size w W → Calls Try.prog 130 #[.agg #[.int .i64 x, .int .i64 y, .int .i64 s, .int .i64 t], .pointer (some ⟨g, 0, none⟩)] W fun e w' => e = .returned (.bool (p (x, y, s, t))) ∧ Below W.heap.size W w') :
    Calls Try.prog 64 #[.slice A es.length c, .func (.func 130) #[] #[.pointer (some ⟨g, 0, none⟩)]] w fun e w' => e = .returned (.bool (es.any p)) ∧ Below w.heap.size w w' := by
  have hix := Lib.hid (heldIx_any A es c g p w hl hA hcall)
  clear hcall hA
  go_enter Try.func64, Try.ntmps64
  go_wp2_with fail
  refine hix.out.mono ?_
  rintro e w1 ⟨⟨r, rfl, hr⟩, hb1⟩
  have HR := Lib.hid hr
  clear hr
  go_wp2
  go_ret
  exact ⟨ret_bool (by first | exact HR.out | simpa using HR.out), hb1⟩

set_option maxHeartbeats 4000000 in
theorem isHeld_any (A : Option Addr) (es : List Le) (c : Nat) (x y s t a : Int) (w : World) (hok : leOk es = true) (hA : Ll w A es) :
    Calls Try.prog 78 #[.slice A es.length c, .agg #[.int .i64 x, .int .i64 y, .int .i64 s, .int .i64 t], .int .i64 a] w fun e w' => e = .returned (.bool (heldL es (x, y, s, t) a)) ∧ Below w.heap.size w w' := by
  have hlen := leOk_len hok
  have hal := (Below.refl w.heap.size w).alloc (Nat.le_refl _) (.cells #[.int .i64 x, .int .i64 y, .int .i64 s, .int .i64 t] 43)
  have HBX := Lib.hid (Blk.new w #[.int .i64 x, .int .i64 y, .int .i64 s, .int .i64 t] 43)
  have HA := Lib.hid (hA.below hal)
  have HX := Lib.hid (heldL_exp (l := (x, y, s, t)) (now := a) hok)
  have hxl := leExp_len es a
  clear hA hok
  go_enter Try.func78, Try.ntmps78
  go_wp2_with fail
  refine (implLeaseExpire_any A es c a _ (by omega) HA.out).mono ?_
  rintro e w1 ⟨v, rfl, hO, hb1⟩
  obtain ⟨A1, c1, rfl, _, _, hA1⟩ := hO.ll
  have HA1 := Lib.hid hA1
  have HBX1 := Lib.hid (HBX.out.below hb1)
  have hb9 := below_then hal hb1
  clear hO hA1 hb1
  go_wp2_with fail
  refine (held_any A1 (leExp es a) c1 w.heap.size (barsL (x, y, s, t)) _ (by omega) HA1.out (fun W x1 y1 s1 t1 _ hW => heldBy_any x1 y1 s1 t1 x y s t w.heap.size W (HBX1.out.below hW))).mono ?_
  rintro e w2 ⟨rfl, hb2⟩
  rw [HX.out]
  have hb10 := below_then hb9 hb2
  go_wp2
  go_ret
  exact ⟨rfl, hb10⟩

set_option maxHeartbeats 2000000 in
theorem hasKey_any (A : Option Addr) (es : List Le) (c : Nat) (x y s t : Int) (w : World) (hok : leOk es = true) (hA : Ll w A es) :
    Calls Try.prog 79 #[.slice A es.length c, .agg #[.int .i64 x, .int .i64 y, .int .i64 s, .int .i64 t]] w fun e w' => e = .returned (.bool (decide (keyIx es (x, y, s, t) < es.length))) ∧ Below w.heap.size w w' := by
  have hal := (Below.refl w.heap.size w).alloc (Nat.le_refl _) (.cells #[.int .i64 x, .int .i64 y, .int .i64 s, .int .i64 t] 43)
  have bx := Blk.new w #[.int .i64 x, .int .i64 y, .int .i64 s, .int .i64 t] 43
  have p0 := bx.cell 0
  have p1 := bx.cell 1
  have p2 := bx.cell 2
  have p3 := bx.cell 3
  have HA := Lib.hid (hA.below hal)
  have HOK := Lib.hid hok
  clear hA hok bx
  go_enter Try.func79, Try.ntmps79
  go_wp2_with fail
  refine (placeOfKey_any A es c x y s t _ HOK.out HA.out).mono ?_
  rintro e w1 ⟨i, f, rfl, hf, _, _, hb1⟩
  have hb9 := below_then hal hb1
  have HF := Lib.hid hf
  clear hf
  go_wp2
  go_ret
  exact ⟨ret_bool HF.out, hb9⟩
end Go.Proofs.Ytgpjjolgpppeeaa
