/-
  Chapter 9, the program's packet: contracts. Own work.
-/
import Derived.Test.YtdmmdbapkogdhabP18
import Derived.Test.YtdmmdbapkogdhabEB
import Derived.Laws.CopyRow
import Derived.Laws.IdiomCopy
import Derived.Deep.RegionHeld3
namespace Go.Proofs.Ytdmmdbapkogdhab
open Go.RowKit P
set_option linter.unusedVariables false
set_option linter.unusedSimpArgs false
set_option maxRecDepth 100000

/-- A packet of N bytes in block pk, its bytes in block g, filled with L so far. -/
structure Pk (w : World) (pk g N : Nat) (L : List UInt8) : Prop where
  box : Blk w pk #[.slice (some ⟨g, 0, none⟩) N N, .int .i64 L.length] 48
  row : Blk w g (L.map bV ++ List.replicate (N - L.length) (Value.int .u8 0)).toArray 5
  len : L.length ≤ N
  ne : g ≠ pk
theorem Pk.below {w w' : World} {pk g N : Nat} {L : List UInt8} (h : Pk w pk g N L) (hb : Below w.heap.size w w') : Pk w' pk g N L := ⟨h.box.below hb, h.row.below hb, h.len, h.ne⟩
theorem Pk.own {w : World} {pk g N : Nat} {L : List UInt8} (h : Pk w pk g N L) (hN : L.length = N) (hm : N ≤ maxLen) (base : Nat) (hb : base ≤ g) : Own w base (.slice (some ⟨g, 0, none⟩) N N) L := by
  subst hN
  have hr := h.row
  rw [Nat.sub_self, List.replicate_zero, List.append_nil] at hr
  exact ⟨by simp, .inr ⟨g, L.length, _, rfl, hb, hr, Nat.le_refl _, hm, by simp, by simpa using List.take_of_length_le (by simp)⟩⟩

theorem step_run_copy9 {w : World} {ops : Array Oper} {o : Oper} {a : Act} {K : Act → World → Prop} {Q : Exit → Act → World → Prop} {X : Prop} (hgd : o.guard = none) (s x : Operand) (t t' : TypeId)
    (ho : o.op = .call { callee := .builtin .copy, args := #[s, x], argTypes := #[t, t'] })
    (v y : Value) (hs : a.eval s = v) (hx : a.eval x = y) {v' : Value} {w' : World} (hrun : (Builtin.copy_ #[t, t'] o.type #[v, y]).run Try.prog w = .ok v' w') (h : K (a.put o.dst v') w') :
    if Region.wanted o (yielded ops a.tmps) = true then Oper.wp Try.prog o a w K Q else X := by
  have hw : Region.wanted o (yielded ops a.tmps) = true := by simp [Region.wanted, hgd]
  rw [if_pos hw]
  unfold Oper.wp execOp
  simp only [ho, resolve, invoke, builtin, Sem.run_bind, Sem.run_pure, Result.andThen_ok, List.map_toArray, List.map_cons, List.map_nil, hs, hx, hrun]
  exact h
theorem splice9 (L l : List UInt8) (N : Nat) (h : L.length + l.length ≤ N) :
    (L.map bV ++ List.replicate (N - L.length) (Value.int .u8 0)).take L.length ++ l.map bV ++ (L.map bV ++ List.replicate (N - L.length) (Value.int .u8 0)).drop (L.length + l.length) = (L ++ l).map bV ++ List.replicate (N - (L ++ l).length) (Value.int .u8 0) := by
  rw [List.take_append_of_le_length (by simp), List.take_of_length_le (by simp), List.drop_append, List.drop_of_length_le (by simp), List.nil_append, List.drop_replicate, List.map_append, List.length_append]
  congr 2
  simp only [List.length_map]
  omega
/-- A copy into the packet's room. -/
theorem copy_pk {w : World} {pk g N : Nat} {L l : List UInt8} (h : Pk w pk g N L) {A D : Option Addr} (c cap : Nat) (hA : Bs w A l) (hfit : L.length + l.length ≤ N) (hD : 0 < l.length → D = some ⟨g, L.length, none⟩) :
    ∃ W2, (∀ ty, (Builtin.copy_ #[24, 24] ty #[.slice D (N - L.length) cap, .slice A l.length c]).run Try.prog w = .ok (.int .i64 l.length) W2) ∧
      Blk W2 g ((L ++ l).map bV ++ List.replicate (N - (L ++ l).length) (Value.int .u8 0)).toArray 5 ∧ (∀ k, k ≠ g → W2.heap[k]? = w.heap[k]?) ∧ W2.heap.size = w.heap.size ∧ W2.os = w.os ∧ W2.tape = w.tape ∧ W2.output = w.output := by
  obtain ⟨i, hi, hz, hs, hby⟩ := info_parts Try.infoB
  have hinfo : (Try.prog.info? 5).map (·.size) = some 1 := by rw [hi]; simp [hs]
  by_cases h0 : l = []
  · subst h0
    refine ⟨w, fun ty => ?_, ?_, fun _ _ => rfl, rfl, rfl, rfl, rfl⟩
    · have := run_copy_none (P := Try.prog) w 24 24 ty 5 D A (N - L.length) cap 0 c Try.underlying24 hinfo (Nat.zero_min _)
      exact this
    · rw [List.append_nil]; exact h.row
  · have hp : 0 < l.length := List.length_pos_iff.2 h0
    obtain ⟨b, off, rfl, _, _⟩ := hA 0 hp
    rw [hD hp]
    have hmin : Nat.min l.length (N - L.length) = l.length := Nat.min_eq_left (by omega)
    have hr := fun ty => run_copy_row (P := Try.prog) w 24 24 ty 5 g L.length (N - L.length) cap ⟨b, off, none⟩ l.length c _ 5 (l.map bV) Try.underlying24 hinfo h.row (by rw [List.length_map, hmin])
      (fun j v hv => by
        have hj : j < l.length := by
          have := (List.getElem?_eq_some_iff.1 hv).1
          simpa using this
        obtain ⟨b', off', e, _, hc⟩ := hA j hj
        cases e
        rw [add_plain, hc]
        have hv2 := (List.getElem?_eq_some_iff.1 hv).2
        rw [← hv2]
        simp [bV]) (by simp; omega) (by
        intro v hv
        obtain ⟨x, _, rfl⟩ := List.mem_map.1 hv
        rfl)
    refine ⟨_, fun ty => by rw [hr ty, List.length_map]; rfl, ?_, fun k hk => setRow_other w g k _ hk, by simp [World.setRow], rfl, rfl, rfl⟩
    have e := splice9 L l N hfit
    have hq := setRow_heap w g _ (((L.map bV ++ List.replicate (N - L.length) (Value.int .u8 0)).toArray.toList.take L.length ++ l.map bV ++ (L.map bV ++ List.replicate (N - L.length) (Value.int .u8 0)).toArray.toList.drop (L.length + l.length)).toArray) 5 _ h.row
    have e2 : ((L.map bV ++ List.replicate (N - L.length) (Value.int .u8 0)).toArray.toList.take L.length ++ l.map bV ++ (L.map bV ++ List.replicate (N - L.length) (Value.int .u8 0)).toArray.toList.drop (L.length + l.length)).toArray = ((L ++ l).map bV ++ List.replicate (N - (L ++ l).length) (Value.int .u8 0)).toArray := by
      rw [← e]
    rw [e2] at hq
    have e3 : (w.setRow g ((L.map bV ++ List.replicate (N - L.length) (Value.int .u8 0)).toArray.toList.take L.length ++ l.map bV ++ (L.map bV ++ List.replicate (N - L.length) (Value.int .u8 0)).toArray.toList.drop (L.length + l.length)).toArray) = w.setRow g ((L ++ l).map bV ++ List.replicate (N - (L ++ l).length) (Value.int .u8 0)).toArray := by rw [e2]
    rw [e3]
    exact hq

/-- What a packet's own slice gives from where it is filled on. -/
theorem slc_pk (g N k : Nat) (hk : k ≤ N) (hN : N ≤ 9223372036854775807) :
    ∃ D, (∀ W, (Instr.slice 24 (.slice (some ⟨g, 0, none⟩) N N) (some (.int .i64 (k : Int))) none none).run Try.prog W = .ok (.slice D (N - k) (N - k)) W) ∧ (k < N → D = some ⟨g, k, none⟩) := by
  have hz : ∀ W, (Go.sizeOf 5).run Try.prog W = .ok 1 W := fun W => by kernel_rfl
  have ht' : Try.prog.underlying 24 = some (.slice (Try.prog.elem 24)) := by simp [Program.elem, Try.underlying24]
  have he : Try.prog.elem 24 = 5 := by simp [Program.elem, Try.underlying24]
  refine ⟨some (if N = k then ⟨g, 0, none⟩ else ⟨g, 0 + k, none⟩), fun W => ?_, fun h => by rw [if_neg (by omega), Nat.zero_add]⟩
  rw [run_slice_l W 24 _ _ _ ht' .i64 _ (by omega) (by omega), he, hz]
  by_cases h0 : N = k
  · simp [Result.andThen, sliced, h0]
  · by_cases h1 : k = 0
    · subst h1; simp [Result.andThen, sliced, Addr.add, h0]
    · simp [Result.andThen, sliced, Addr.add, h0, h1]

set_option maxHeartbeats 4000000 in
theorem putBytes_any (pk g N : Nat) (L : List UInt8) (A : Option Addr) (l : List UInt8) (c : Nat) (w : World) (hP : Pk w pk g N L) (hA : Bs w A l) (hfit : L.length + l.length ≤ N) (hN : N ≤ 1000000000) :
    Calls Try.prog 23 #[.pointer (some ⟨pk, 0, none⟩), .slice A l.length c] w fun e w' => e = .returned (.tuple #[]) ∧ Pk w' pk g N (L ++ l) ∧ Keeps [g, pk] w w' := by
  obtain ⟨D, hsl, hD⟩ := slc_pk g N L.length hP.len (by omega)
  obtain ⟨W2, hrun, hrow, hoth, hsz, hos, htp, hou⟩ := copy_pk (w := w.drew) (hP.below (Below.refl w.heap.size w).drew) c (N - L.length) (hA.below (Below.refl w.heap.size w).drew) hfit (D := D) (fun h => hD (by omega))
  have hoth : ∀ k, k ≠ g → W2.heap[k]? = w.heap[k]? := hoth
  have hsz : W2.heap.size = w.heap.size := hsz
  have hos : W2.os = w.os := hos
  have htp : W2.tape = w.tape := htp
  have hou : W2.output = w.output := hou
  have c0 := hP.box.cell 0
  have c1 := hP.box.cell 1
  have zpk := hP.box.lt
  have bx2 : Blk W2 pk #[.slice (some ⟨g, 0, none⟩) N N, .int .i64 L.length] 48 := hP.box.of_block (hoth pk (fun e => hP.ne e.symm))
  have d0 := bx2.cell 0
  have d1 := bx2.cell 1
  have hwr : IntKind.i64.wrap ((L.length : Int) + (l.length : Int)) = (L.length : Int) + (l.length : Int) := IntWalk.i64_in _ ⟨by omega, by omega⟩
  have HFIN : Hid (Pk (W2.setCell ⟨pk, 1, none⟩ (.int .i64 ((L.length : Int) + (l.length : Int)))) pk g N (L ++ l) ∧ Keeps [g, pk] w (W2.setCell ⟨pk, 1, none⟩ (.int .i64 ((L.length : Int) + (l.length : Int))))) := by
    refine Lib.hid ⟨⟨?_, ?_, by rw [List.length_append]; exact hfit, hP.ne⟩, ⟨?_, ?_, ?_, ?_, fun k hk hn => ?_⟩⟩
    · have := bx2.set 1 (.int .i64 ((L.length : Int) + (l.length : Int)))
      have e : (((L ++ l).length : Nat) : Int) = (L.length : Int) + (l.length : Int) := by rw [List.length_append]; omega
      rw [e]
      simpa using this
    · exact hrow.setOther (a := ⟨pk, 1, none⟩) (fun e => hP.ne e) _
    · exact hos
    · exact htp
    · exact hou
    · simp [World.setCell, hsz]
    · rw [Below.heap_setCell W2 ⟨pk, 1, none⟩ _ k (fun e => hn (by simp [e]))]
      exact hoth k (fun e => hn (by simp [e]))
  have f1 := bx2.frozen 1
  have e0 : (W2.setCell ⟨pk, 1, none⟩ (.int .i64 ((L.length : Int) + (l.length : Int)))).cell? ⟨pk, 0, none⟩ = some (.slice (some ⟨g, 0, none⟩) N N) := by
    have := HFIN.out.1.box.cell 0
    simpa using this
  have HR := Lib.hid hrow
  have HX := Lib.hid bx2
  have HO := Lib.hid hoth
  have HPP := Lib.hid hP
  clear hrow bx2 hoth hP
  go_enter Try.func23, Try.ntmps23
  go_wp2_with fail
  refine wp_region_held_drew (S := (fun V => V.cell? ⟨pk, 0, none⟩ = some (.slice (some ⟨g, 0, none⟩) N N))) (by kernel_rfl) (by exact c0) (fun hHeld => ?_)
  refine wpAnyH_take (i := 0) (oi := ?_) (v := ?_) ?_ ?_ ?_ ?_ ?_ ?_ (by exact hHeld) ?_
  rotate_left 2
  · (simp only [List.getElem?_toArray, List.getElem?_cons_zero]; try rfl)
  · kernel_rfl
  · kernel_rfl
  · kernel_rfl
  · exact fun _ _ _ h => h
  · refine Or.inl ⟨by rfl, ?_⟩
    (intro V hSV; (try dsimp only at hSV); have q0 := hSV; go_simp; try with_reducible rfl)
  (try simp only [Act.put, List.setIfInBounds_toArray, List.set_cons_zero, List.set_cons_succ])
  refine wpAnyH_take (i := 1) (oi := ?_) (v := ?_) ?_ ?_ ?_ ?_ ?_ ?_ (by exact hHeld) ?_
  rotate_left 2
  · (simp only [List.getElem?_toArray, List.getElem?_cons_zero, List.getElem?_cons_succ]; try rfl)
  · kernel_rfl
  · kernel_rfl
  · kernel_rfl
  · exact fun _ _ _ h => h
  · refine Or.inl ⟨by rfl, ?_⟩
    (intro V hSV; (try dsimp only at hSV); have q0 := hSV; go_simp; try with_reducible rfl)
  (try simp only [Act.put, List.setIfInBounds_toArray, List.set_cons_zero, List.set_cons_succ])
  refine wpAnyH_take (i := 2) (oi := ?_) (v := ?_) ?_ ?_ ?_ ?_ ?_ ?_ (by exact hHeld) ?_
  rotate_left 2
  · (simp only [List.getElem?_toArray, List.getElem?_cons_zero, List.getElem?_cons_succ]; try rfl)
  · kernel_rfl
  · kernel_rfl
  · kernel_rfl
  · exact fun _ _ _ h => h
  · refine Or.inl ⟨by rfl, ?_⟩
    (intro V hSV; (try dsimp only at hSV); have q0 := hSV; go_simp; try with_reducible rfl)
  (try simp only [Act.put, List.setIfInBounds_toArray, List.set_cons_zero, List.set_cons_succ])
  refine wpAnyH_take (i := 4) (oi := ?_) (v := ?_) ?_ ?_ ?_ ?_ ?_ ?_ (by exact hHeld) ?_
  rotate_left 2
  · (simp only [List.getElem?_toArray, List.getElem?_cons_zero, List.getElem?_cons_succ]; try rfl)
  · kernel_rfl
  · kernel_rfl
  · kernel_rfl
  · exact fun _ _ _ h => h
  · refine Or.inl ⟨by rfl, ?_⟩
    (intro V hSV; (try dsimp only at hSV); have q0 := hSV; go_simp; try with_reducible rfl)
  (try simp only [Act.put, List.setIfInBounds_toArray, List.set_cons_zero, List.set_cons_succ])
  refine wpAnyH_take (i := 5) (oi := ?_) (v := ?_) ?_ ?_ ?_ ?_ ?_ ?_ (by exact hHeld) ?_
  rotate_left 2
  · (simp only [List.getElem?_toArray, List.getElem?_cons_zero, List.getElem?_cons_succ]; try rfl)
  · kernel_rfl
  · kernel_rfl
  · kernel_rfl
  · exact fun _ _ _ h => h
  · refine Or.inl ⟨by rfl, ?_⟩
    (intro V hSV; (try dsimp only at hSV); have q0 := hSV; go_simp; try with_reducible rfl)
  (try simp only [Act.put, List.setIfInBounds_toArray, List.set_cons_zero, List.set_cons_succ])
  refine wpAnyH_take (i := 6) (oi := ?_) (v := ?_) ?_ ?_ ?_ ?_ ?_ ?_ (by exact hHeld) ?_
  rotate_left 2
  · (simp only [List.getElem?_toArray, List.getElem?_cons_zero, List.getElem?_cons_succ]; try rfl)
  · kernel_rfl
  · kernel_rfl
  · kernel_rfl
  · exact fun _ _ _ h => h
  · refine Or.inl ⟨by rfl, ?_⟩
    (intro V hSV; (try dsimp only at hSV); have q0 := hSV; go_simp; try with_reducible rfl)
  (try simp only [Act.put, List.setIfInBounds_toArray, List.set_cons_zero, List.set_cons_succ])
  refine wpAnyH_take (i := 7) (oi := ?_) (v := ?_) ?_ ?_ ?_ ?_ ?_ ?_ (by exact hHeld) ?_
  rotate_left 2
  · (simp only [List.getElem?_toArray, List.getElem?_cons_zero, List.getElem?_cons_succ]; try rfl)
  · kernel_rfl
  · kernel_rfl
  · kernel_rfl
  · exact fun _ _ _ h => h
  · refine Or.inl ⟨by rfl, ?_⟩
    (intro V hSV; (try dsimp only at hSV); have q0 := hSV; go_simp; try with_reducible rfl)
  (try simp only [Act.put, List.setIfInBounds_toArray, List.set_cons_zero, List.set_cons_succ])
  refine wpAnyH_take (i := 8) (oi := ?_) (v := ?_) ?_ ?_ ?_ ?_ ?_ ?_ (by exact hHeld) ?_
  rotate_left 2
  · (simp only [List.getElem?_toArray, List.getElem?_cons_zero, List.getElem?_cons_succ]; try rfl)
  · kernel_rfl
  · kernel_rfl
  · kernel_rfl
  · exact fun _ _ _ h => h
  · refine Or.inl ⟨by rfl, ?_⟩
    (intro V hSV; (try dsimp only at hSV); have q0 := hSV; go_simp; try with_reducible rfl)
  (try simp only [Act.put, List.setIfInBounds_toArray, List.set_cons_zero, List.set_cons_succ])
  refine wpAnyH_take (i := 9) (oi := ?_) (v := ?_) ?_ ?_ ?_ ?_ ?_ ?_ (by exact hHeld) ?_
  rotate_left 2
  · (simp only [List.getElem?_toArray, List.getElem?_cons_zero, List.getElem?_cons_succ]; try rfl)
  · kernel_rfl
  · kernel_rfl
  · kernel_rfl
  · exact fun _ _ _ h => h
  · refine Or.inl ⟨by rfl, ?_⟩
    (intro V hSV; (try dsimp only at hSV); have q0 := hSV; go_simp; try with_reducible rfl)
  (try simp only [Act.put, List.setIfInBounds_toArray, List.set_cons_zero, List.set_cons_succ])
  refine wpAnyH_take (i := 10) (oi := ?_) (v := ?_) ?_ ?_ ?_ ?_ ?_ ?_ (by exact hHeld) ?_
  rotate_left 2
  · (simp only [List.getElem?_toArray, List.getElem?_cons_zero, List.getElem?_cons_succ]; try rfl)
  · kernel_rfl
  · kernel_rfl
  · kernel_rfl
  · exact fun _ _ _ h => h
  · refine Or.inl ⟨by rfl, ?_⟩
    (intro V hSV; (try dsimp only at hSV); have q0 := hSV; go_simp; try with_reducible rfl)
  (try simp only [Act.put, List.setIfInBounds_toArray, List.set_cons_zero, List.set_cons_succ])
  refine wpAnyH_take (i := 13) (oi := ?_) (v := ?_) ?_ ?_ ?_ ?_ ?_ ?_ (by exact hHeld) ?_
  rotate_left 2
  · (simp only [List.getElem?_toArray, List.getElem?_cons_zero, List.getElem?_cons_succ]; try rfl)
  · kernel_rfl
  · kernel_rfl
  · kernel_rfl
  · exact fun _ _ _ h => h
  · refine Or.inl ⟨by rfl, ?_⟩
    (intro V hSV; (try dsimp only at hSV); have q0 := hSV; go_simp; try with_reducible rfl)
  (try simp only [Act.put, List.setIfInBounds_toArray, List.set_cons_zero, List.set_cons_succ])
  refine wpAnyH_ready (rs := [3, 11]) (by kernel_rfl) (by simp) ?_
  refine AllReadyH.cons (o := ?_) ?_ (fun K hK => ?_) ?_
  rotate_left 1
  · (simp only [List.getElem?_toArray, List.getElem?_cons_zero, List.getElem?_cons_succ]; try rfl)
  · go_simp
    refine hK.out _ _ (by exact c0) (fun hHeld => ?_)
    clear hK K
    (try simp only [Act.put, List.setIfInBounds_toArray, List.set_cons_zero, List.set_cons_succ])
    refine wpAnyH_ready (rs := [11]) (by kernel_rfl) (by simp) ?_
    refine AllReadyH.cons (o := ?_) ?_ (fun K hK => ?_) AllReadyH.nil
    rotate_left 1
    · (simp only [List.getElem?_toArray, List.getElem?_cons_zero, List.getElem?_cons_succ]; try rfl)
    go_simp
    refine hK.out _ _ (by exact c0) (fun hHeld => ?_)
    clear hK K
    (try simp only [Act.put, List.setIfInBounds_toArray, List.set_cons_zero, List.set_cons_succ])
    refine wpAnyH_take (i := 12) (oi := ?_) (v := ?_) ?_ ?_ ?_ ?_ ?_ ?_ (by exact hHeld) ?_
    rotate_left 2
    · (simp only [List.getElem?_toArray, List.getElem?_cons_zero, List.getElem?_cons_succ]; try rfl)
    · kernel_rfl
    · kernel_rfl
    · kernel_rfl
    · exact fun _ _ _ h => h
    · refine Or.inl ⟨by rfl, ?_⟩
      (intro V hSV; (try dsimp only at hSV); have q0 := hSV; go_simp; try with_reducible rfl)
    (try simp only [Act.put, List.setIfInBounds_toArray, List.set_cons_zero, List.set_cons_succ])
    refine wpAnyH_ready (rs := [14]) (by kernel_rfl) (by simp) ?_
    refine AllReadyH.cons (o := ?_) ?_ (fun K hK => ?_) AllReadyH.nil
    rotate_left 1
    · (simp only [List.getElem?_toArray, List.getElem?_cons_zero, List.getElem?_cons_succ]; try rfl)
    refine step_run_copy9 rfl (.tmp 16) (.tmp 17) _ _ rfl _ _ rfl rfl (hrun _) ?_
    (try go_simp)
    refine hK.out _ _ (by exact d0) (fun hHeld => ?_)
    clear hK K
    (try simp only [Act.put, List.setIfInBounds_toArray, List.set_cons_zero, List.set_cons_succ])
    refine wpAnyH_take (i := 15) (oi := ?_) (v := ?_) ?_ ?_ ?_ ?_ ?_ ?_ (by exact hHeld) ?_
    rotate_left 2
    · (simp only [List.getElem?_toArray, List.getElem?_cons_zero, List.getElem?_cons_succ]; try rfl)
    · kernel_rfl
    · kernel_rfl
    · kernel_rfl
    · exact fun _ _ _ h => h
    · refine Or.inl ⟨by rfl, ?_⟩
      (intro V hSV; (try dsimp only at hSV); have q0 := hSV; go_simp; try with_reducible rfl)
    (try simp only [Act.put, List.setIfInBounds_toArray, List.set_cons_zero, List.set_cons_succ])
    refine wpAnyH_take (i := 16) (oi := ?_) (v := ?_) ?_ ?_ ?_ ?_ ?_ ?_ (by exact hHeld) ?_
    rotate_left 2
    · (simp only [List.getElem?_toArray, List.getElem?_cons_zero, List.getElem?_cons_succ]; try rfl)
    · kernel_rfl
    · kernel_rfl
    · kernel_rfl
    · exact fun _ _ _ h => h
    · refine Or.inl ⟨by rfl, ?_⟩
      (intro V hSV; (try dsimp only at hSV); have q0 := hSV; go_simp; try with_reducible rfl)
    (try simp only [Act.put, List.setIfInBounds_toArray, List.set_cons_zero, List.set_cons_succ])
    refine wpAnyH_take (i := 17) (oi := ?_) (v := ?_) ?_ ?_ ?_ ?_ ?_ ?_ (by exact hHeld) ?_
    rotate_left 2
    · (simp only [List.getElem?_toArray, List.getElem?_cons_zero, List.getElem?_cons_succ]; try rfl)
    · kernel_rfl
    · kernel_rfl
    · kernel_rfl
    · exact fun _ _ _ h => h
    · refine Or.inl ⟨by rfl, ?_⟩
      (intro V hSV; (try dsimp only at hSV); have q0 := hSV; go_simp; try with_reducible rfl)
    (try simp only [Act.put, List.setIfInBounds_toArray, List.set_cons_zero, List.set_cons_succ])
    refine wpAnyH_ready (rs := [18]) (by kernel_rfl) (by simp) ?_
    refine AllReadyH.cons (o := ?_) ?_ (fun K hK => ?_) AllReadyH.nil
    rotate_left 1
    · (simp only [List.getElem?_toArray, List.getElem?_cons_zero, List.getElem?_cons_succ]; try rfl)
    go_simp
    refine hK.out _ _ (by exact e0) (fun hHeld => ?_)
    clear hK K
    (try simp only [Act.put, List.setIfInBounds_toArray, List.set_cons_zero, List.set_cons_succ])
    refine wpAnyH_done (by kernel_rfl) ?_ _
    go_wp2
    go_end0
    exact ⟨rfl, HFIN.out.1, HFIN.out.2⟩
  refine AllReadyH.cons (o := ?_) ?_ (fun K hK => ?_) AllReadyH.nil
  rotate_left 1
  · (simp only [List.getElem?_toArray, List.getElem?_cons_zero, List.getElem?_cons_succ]; try rfl)
  go_simp
  refine hK.out _ _ (by exact c0) (fun hHeld => ?_)
  clear hK K
  (try simp only [Act.put, List.setIfInBounds_toArray, List.set_cons_zero, List.set_cons_succ])
  refine wpAnyH_take (i := 12) (oi := ?_) (v := ?_) ?_ ?_ ?_ ?_ ?_ ?_ (by exact hHeld) ?_
  rotate_left 2
  · (simp only [List.getElem?_toArray, List.getElem?_cons_zero, List.getElem?_cons_succ]; try rfl)
  · kernel_rfl
  · kernel_rfl
  · kernel_rfl
  · exact fun _ _ _ h => h
  · refine Or.inl ⟨by rfl, ?_⟩
    (intro V hSV; (try dsimp only at hSV); have q0 := hSV; go_simp; try with_reducible rfl)
  (try simp only [Act.put, List.setIfInBounds_toArray, List.set_cons_zero, List.set_cons_succ])
  refine wpAnyH_ready (rs := [3, 14]) (by kernel_rfl) (by simp) ?_
  refine AllReadyH.cons (o := ?_) ?_ (fun K hK => ?_) ?_
  rotate_left 1
  · (simp only [List.getElem?_toArray, List.getElem?_cons_zero, List.getElem?_cons_succ]; try rfl)
  · go_simp
    refine hK.out _ _ (by exact c0) (fun hHeld => ?_)
    clear hK K
    (try simp only [Act.put, List.setIfInBounds_toArray, List.set_cons_zero, List.set_cons_succ])
    refine wpAnyH_ready (rs := [14]) (by kernel_rfl) (by simp) ?_
    refine AllReadyH.cons (o := ?_) ?_ (fun K hK => ?_) AllReadyH.nil
    rotate_left 1
    · (simp only [List.getElem?_toArray, List.getElem?_cons_zero, List.getElem?_cons_succ]; try rfl)
    refine step_run_copy9 rfl (.tmp 16) (.tmp 17) _ _ rfl _ _ rfl rfl (hrun _) ?_
    (try go_simp)
    refine hK.out _ _ (by exact d0) (fun hHeld => ?_)
    clear hK K
    (try simp only [Act.put, List.setIfInBounds_toArray, List.set_cons_zero, List.set_cons_succ])
    refine wpAnyH_take (i := 15) (oi := ?_) (v := ?_) ?_ ?_ ?_ ?_ ?_ ?_ (by exact hHeld) ?_
    rotate_left 2
    · (simp only [List.getElem?_toArray, List.getElem?_cons_zero, List.getElem?_cons_succ]; try rfl)
    · kernel_rfl
    · kernel_rfl
    · kernel_rfl
    · exact fun _ _ _ h => h
    · refine Or.inl ⟨by rfl, ?_⟩
      (intro V hSV; (try dsimp only at hSV); have q0 := hSV; go_simp; try with_reducible rfl)
    (try simp only [Act.put, List.setIfInBounds_toArray, List.set_cons_zero, List.set_cons_succ])
    refine wpAnyH_take (i := 16) (oi := ?_) (v := ?_) ?_ ?_ ?_ ?_ ?_ ?_ (by exact hHeld) ?_
    rotate_left 2
    · (simp only [List.getElem?_toArray, List.getElem?_cons_zero, List.getElem?_cons_succ]; try rfl)
    · kernel_rfl
    · kernel_rfl
    · kernel_rfl
    · exact fun _ _ _ h => h
    · refine Or.inl ⟨by rfl, ?_⟩
      (intro V hSV; (try dsimp only at hSV); have q0 := hSV; go_simp; try with_reducible rfl)
    (try simp only [Act.put, List.setIfInBounds_toArray, List.set_cons_zero, List.set_cons_succ])
    refine wpAnyH_take (i := 17) (oi := ?_) (v := ?_) ?_ ?_ ?_ ?_ ?_ ?_ (by exact hHeld) ?_
    rotate_left 2
    · (simp only [List.getElem?_toArray, List.getElem?_cons_zero, List.getElem?_cons_succ]; try rfl)
    · kernel_rfl
    · kernel_rfl
    · kernel_rfl
    · exact fun _ _ _ h => h
    · refine Or.inl ⟨by rfl, ?_⟩
      (intro V hSV; (try dsimp only at hSV); have q0 := hSV; go_simp; try with_reducible rfl)
    (try simp only [Act.put, List.setIfInBounds_toArray, List.set_cons_zero, List.set_cons_succ])
    refine wpAnyH_ready (rs := [18]) (by kernel_rfl) (by simp) ?_
    refine AllReadyH.cons (o := ?_) ?_ (fun K hK => ?_) AllReadyH.nil
    rotate_left 1
    · (simp only [List.getElem?_toArray, List.getElem?_cons_zero, List.getElem?_cons_succ]; try rfl)
    go_simp
    refine hK.out _ _ (by exact e0) (fun hHeld => ?_)
    clear hK K
    (try simp only [Act.put, List.setIfInBounds_toArray, List.set_cons_zero, List.set_cons_succ])
    refine wpAnyH_done (by kernel_rfl) ?_ _
    go_wp2
    go_end0
    exact ⟨rfl, HFIN.out.1, HFIN.out.2⟩
  refine AllReadyH.cons (o := ?_) ?_ (fun K hK => ?_) AllReadyH.nil
  rotate_left 1
  · (simp only [List.getElem?_toArray, List.getElem?_cons_zero, List.getElem?_cons_succ]; try rfl)
  refine step_run_copy9 rfl (.tmp 16) (.tmp 17) _ _ rfl _ _ rfl rfl (hrun _) ?_
  (try go_simp)
  refine hK.out _ _ (by exact d0) (fun hHeld => ?_)
  clear hK K
  (try simp only [Act.put, List.setIfInBounds_toArray, List.set_cons_zero, List.set_cons_succ])
  refine wpAnyH_ready (rs := [3]) (by kernel_rfl) (by simp) ?_
  refine AllReadyH.cons (o := ?_) ?_ (fun K hK => ?_) AllReadyH.nil
  rotate_left 1
  · (simp only [List.getElem?_toArray, List.getElem?_cons_zero, List.getElem?_cons_succ]; try rfl)
  go_simp
  refine hK.out _ _ (by exact d0) (fun hHeld => ?_)
  clear hK K
  (try simp only [Act.put, List.setIfInBounds_toArray, List.set_cons_zero, List.set_cons_succ])
  refine wpAnyH_take (i := 15) (oi := ?_) (v := ?_) ?_ ?_ ?_ ?_ ?_ ?_ (by exact hHeld) ?_
  rotate_left 2
  · (simp only [List.getElem?_toArray, List.getElem?_cons_zero, List.getElem?_cons_succ]; try rfl)
  · kernel_rfl
  · kernel_rfl
  · kernel_rfl
  · exact fun _ _ _ h => h
  · refine Or.inl ⟨by rfl, ?_⟩
    (intro V hSV; (try dsimp only at hSV); have q0 := hSV; go_simp; try with_reducible rfl)
  (try simp only [Act.put, List.setIfInBounds_toArray, List.set_cons_zero, List.set_cons_succ])
  refine wpAnyH_take (i := 16) (oi := ?_) (v := ?_) ?_ ?_ ?_ ?_ ?_ ?_ (by exact hHeld) ?_
  rotate_left 2
  · (simp only [List.getElem?_toArray, List.getElem?_cons_zero, List.getElem?_cons_succ]; try rfl)
  · kernel_rfl
  · kernel_rfl
  · kernel_rfl
  · exact fun _ _ _ h => h
  · refine Or.inl ⟨by rfl, ?_⟩
    (intro V hSV; (try dsimp only at hSV); have q0 := hSV; go_simp; try with_reducible rfl)
  (try simp only [Act.put, List.setIfInBounds_toArray, List.set_cons_zero, List.set_cons_succ])
  refine wpAnyH_take (i := 17) (oi := ?_) (v := ?_) ?_ ?_ ?_ ?_ ?_ ?_ (by exact hHeld) ?_
  rotate_left 2
  · (simp only [List.getElem?_toArray, List.getElem?_cons_zero, List.getElem?_cons_succ]; try rfl)
  · kernel_rfl
  · kernel_rfl
  · kernel_rfl
  · exact fun _ _ _ h => h
  · refine Or.inl ⟨by rfl, ?_⟩
    (intro V hSV; (try dsimp only at hSV); have q0 := hSV; go_simp; try with_reducible rfl)
  (try simp only [Act.put, List.setIfInBounds_toArray, List.set_cons_zero, List.set_cons_succ])
  refine wpAnyH_ready (rs := [18]) (by kernel_rfl) (by simp) ?_
  refine AllReadyH.cons (o := ?_) ?_ (fun K hK => ?_) AllReadyH.nil
  rotate_left 1
  · (simp only [List.getElem?_toArray, List.getElem?_cons_zero, List.getElem?_cons_succ]; try rfl)
  go_simp
  refine hK.out _ _ (by exact e0) (fun hHeld => ?_)
  clear hK K
  (try simp only [Act.put, List.setIfInBounds_toArray, List.set_cons_zero, List.set_cons_succ])
  refine wpAnyH_done (by kernel_rfl) ?_ _
  go_wp2
  go_end0
  exact ⟨rfl, HFIN.out.1, HFIN.out.2⟩

set_option maxHeartbeats 4000000 in
theorem newPacket_any (N : Nat) (w : World) (hN : N ≤ 1000000000) :
    Calls Try.prog 21 #[.int .i64 N] w fun e w' => e = .returned (.pointer (some ⟨w.heap.size + 1, 0, none⟩)) ∧ Pk w' (w.heap.size + 1) w.heap.size N [] ∧ Below w.heap.size w w' := by
  have hmk := fun W => run_mk (P := Try.prog) 24 5 (.int .u8 0) 1 1 Try.underlying24 Try.infoB N (by omega) (by omega) W
  go_enter Try.func21, Try.ntmps21
  go_wp2
  go_ret
  refine ⟨rfl, ⟨?_, ?_, Nat.zero_le _, by omega⟩, by (repeat (first | exact Below.refl _ _ | assumption | refine Below.setCell ?_ (by first | (simp; done) | (simp; omega) | omega) _ | refine Below.drew ?_ | refine below_drewN ?_ _ | refine Below.alloc ?_ (by first | (simp; done) | (simp; omega) | omega) _))⟩
  · have := Blk.new (w.alloc (.cells (madeCells #[.int .u8 0] N) 5)) #[.slice (some ⟨w.heap.size, 0, none⟩) N N, .int .i64 0] 48
    simpa using this
  · have := (Blk.new w (madeCells #[.int .u8 0] N) 5).alloc (.cells #[.slice (some ⟨w.heap.size, 0, none⟩) N N, .int .i64 0] 48)
    have e : (([] : List UInt8).map bV ++ List.replicate (N - ([] : List UInt8).length) (Value.int .u8 0)).toArray = madeCells #[.int .u8 0] N := by
      apply Array.ext
      · simp [madeCells]
      · intro i h1 h2
        simp [madeCells, Nat.mod_one]
    rw [e]
    exact this

theorem bs_two {w : World} (x y : Int) (hx : 0 ≤ x ∧ x < 256) (hy : 0 ≤ y ∧ y < 256) : Bs (w.alloc (.cells #[.int .u8 x, .int .u8 y] 5)) (some ⟨w.heap.size, 0, none⟩) [u8 x, u8 y] := by
  intro k hk
  have h0 := (Blk.new w #[.int .u8 x, .int .u8 y] 5).cell k
  refine ⟨w.heap.size, 0, rfl, by simp, ?_⟩
  rw [Nat.zero_add, h0]
  match k, hk with
  | 0, _ => simp [u8_toNat x hx.1 hx.2]
  | 1, _ => simp [u8_toNat y hy.1 hy.2]

set_option maxHeartbeats 4000000 in
theorem putWords_any (pk g N : Nat) (L : List UInt8) (b : Nat) (ns : List Int) (c : Nat) (w : World) (hP : Pk w pk g N L) (hI : b < w.heap.size ∧ ∀ j (h : j < ns.length), w.cell? ⟨b, j, none⟩ = some (.int .i64 ns[j])) (hb1 : b ≠ pk) (hb2 : b ≠ g) (hns : ∀ n ∈ ns, isW n = true) (hfit : L.length + 2 * ns.length ≤ N) (hN : N ≤ 1000000000) :
    Calls Try.prog 22 #[.pointer (some ⟨pk, 0, none⟩), .slice (some ⟨b, 0, none⟩) ns.length c] w fun e w' => e = .returned (.tuple #[]) ∧ Pk w' pk g N (L ++ ns.flatMap w2) ∧ Keeps [g, pk] w w' := by
  have HI := Lib.hid hI
  have HNS := Lib.hid hns
  clear hI hns
  go_enter Try.func22, Try.ntmps22
  go_wp2
  go_loopw [8] (fun i wr => ∃ k : Nat, k ≤ ns.length ∧ i = .int .i64 k ∧ Pk wr pk g N (L ++ (ns.take k).flatMap w2) ∧ Keeps [g, pk] w wr) (fun i _ => ns.length - (intOf i).toNat)
  case atStart => exact ⟨0, Nat.zero_le _, rfl, by simpa using hP, Keeps.refl _ _⟩
  case round =>
    obtain ⟨k, hk, rfl, hp, hke⟩ := hrel
    by_cases hlt : k < ns.length
    · have hck : wr.cell? ⟨b, k, none⟩ = some (.int .i64 ns[k]) := by
        rw [World.cell?_of_block (w := w) (hke.block b HI.out.1 (by simp [hb1, hb2]))]
        exact HI.out.2 k hlt
      have hbl : b < wr.heap.size := Nat.lt_of_lt_of_le HI.out.1 hke.size
      have hw := HNS.out _ (List.getElem_mem hlt)
      have htk : (ns.take (k + 1)).flatMap w2 = (ns.take k).flatMap w2 ++ w2 ns[k] := by rw [List.take_succ_eq_append_getElem hlt, List.flatMap_append]; simp
      have hlen : ((ns.take k).flatMap w2).length = 2 * k := by
        have : ∀ l : List Int, (l.flatMap w2).length = 2 * l.length := fun l => by induction l with
          | nil => rfl
          | cons a t ih => rw [List.flatMap_cons, List.length_append, ih, w2_len, List.length_cons]; omega
        rw [this, List.length_take]; omega
      generalize hx : ns[k] = x at *
      have hx0 : 0 ≤ x ∧ x ≤ 65535 := by unfold isW at hw; exact of_decide_eq_true hw
      have HTK := Lib.hid htk
      have HP := Lib.hid hp
      have HKE := Lib.hid hke
      have hki : (k : Int) < (ns.length : Int) := by omega
      clear hx hw htk hp hke
      go_wp2_with fail
      have hbn := (Below.refl wr.heap.size wr).alloc (Nat.le_refl _) (.cells #[.int .u8 (x / 256), .int .u8 (x % 256)] 5)
      refine (putBytes_any pk g N (L ++ (ns.take k).flatMap w2) _ (w2 x) 2 _ (HP.out.below hbn) (by exact bs_two (x / 256) (x % 256) (by omega) (by omega)) (by rw [List.length_append, w2_len]; omega) hN).mono ?_
      rintro e w2' ⟨rfl, hp2, hk2⟩
      have HP2 := Lib.hid (show Pk w2' pk g N (L ++ (ns.take (k + 1)).flatMap w2) by rw [HTK.out, ← List.append_assoc]; exact hp2)
      have HK2 := Lib.hid (HKE.out.trans ((Keeps.of_below hbn).trans hk2))
      clear hp2 hk2 hbn
      go_wp2
      go_roundw
      case rel => exact ⟨k + 1, by omega, by go_num, HP2.out, HK2.out⟩
      case measure => simp [intOf]; omega
    · have e : k = ns.length := by omega
      subst e
      rw [List.take_length] at hp
      have HP := Lib.hid hp
      clear hp
      go_wp2
      go_end0
      exact ⟨rfl, HP.out, hke⟩
end Go.Proofs.Ytdmmdbapkogdhab
