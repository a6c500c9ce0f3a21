/-
  Chapter 7, slices.DeleteFunc on leases, LeaseAll in the program: contracts. Own work.
-/
import Derived.Test.YtgbmobepnhhldaaI11
import Derived.Laws.CopyRow
namespace Go.Proofs.Ytgbmobepnhhldaa
open Go.RowKit P
set_option linter.unusedVariables false
set_option linter.unusedSimpArgs false
set_option maxRecDepth 100000

/-- The size of a block of leases. -/
def SzB (w : World) (g N : Nat) : Prop := ∃ cur, Blk w g cur 26 ∧ cur.size = N
theorem SzB.below {w w' : World} {g N : Nat} (h : SzB w g N) (hb : Below w.heap.size w w') : SzB w' g N := by
  obtain ⟨cur, h1, h2⟩ := h
  exact ⟨cur, h1.below hb, h2⟩
theorem SzB.set {w : World} {g N : Nat} (h : SzB w g N) (i : Nat) (u : Value) : SzB (w.setCell ⟨g, i, none⟩ u) g N := by
  obtain ⟨cur, h1, h2⟩ := h
  exact ⟨_, h1.set i u, by simpa using h2⟩

/-- A front part of a row, as a slice of the call's own. -/
theorem own_of_row {w : World} {g cap i base : Nat} {R L : List Le} (h : RowL w g R) (hs : SzB w g (cap * 4)) (hb : base ≤ g) (hi : i ≤ R.length) (hL : R.take i = L) (hin : ∀ l ∈ R, leIn l) (hc : R.length ≤ cap) (hm : cap ≤ maxLen) :
    OwR w base (.slice (some ⟨g, 0, none⟩) i cap) L := by
  obtain ⟨cur, h1, h2⟩ := hs
  obtain ⟨cur', h3, h4, h5⟩ := h
  have e : cur' = cur := by
    unfold Blk at h1 h3
    rw [h1] at h3
    injection h3 with h3
    injection h3 with h3
    exact h3.symm
  subst e
  have hLl : L.length = i := by rw [← hL, List.length_take]; omega
  refine ⟨⟨by rw [leCl_flat], .inr ⟨g, cap, cur', by rw [hLl], hb, h1, by omega, hm, h2, ?_⟩⟩, fun l hl => hin l (by rw [← hL] at hl; exact List.mem_of_mem_take hl)⟩
  apply List.ext_getElem?
  intro j
  rw [List.getElem?_take]
  by_cases hj : j < L.length * 4
  · rw [if_pos hj]
    have hk : j / 4 < L.length := by omega
    have hkR : j / 4 < R.length := by omega
    have hg := leCl_get L (j / 4) hk (j % 4) (by omega)
    rw [show j / 4 * 4 + j % 4 = j by omega] at hg
    rw [hg]
    have heq : L[j / 4] = R[j / 4] := by simp only [← hL, List.getElem_take]
    rw [heq]
    obtain ⟨c0, c1, c2, c3⟩ := h5 (j / 4) hkR
    simp only [Array.getElem?_toList]
    have h4 : j % 4 = 0 ∨ j % 4 = 1 ∨ j % 4 = 2 ∨ j % 4 = 3 := by omega
    rcases h4 with h4 | h4 | h4 | h4
    · rw [h4]; rw [show cur'[j]? = cur'[j / 4 * 4]? by congr 1; omega, c0]; rfl
    · rw [h4]; rw [show cur'[j]? = cur'[j / 4 * 4 + 1]? by congr 1; omega, c1]; rfl
    · rw [h4]; rw [show cur'[j]? = cur'[j / 4 * 4 + 2]? by congr 1; omega, c2]; rfl
    · rw [h4]; rw [show cur'[j]? = cur'[j / 4 * 4 + 3]? by congr 1; omega, c3]; rfl
  · rw [if_neg hj]
    exact (List.getElem?_eq_none (by rw [leCl_flat]; omega)).symm

theorem slcLe_tail (g n c i : Nat) (hi : i < n) (hc : n ≤ c) (hc9 : c ≤ maxLen) : ∀ W, (Instr.slice 24 (.slice (some ⟨g, 0, none⟩) n c) (some (.int .i64 (i : Int))) none none).run Try.prog W = .ok (.slice (some ⟨g, i * 4, none⟩) (n - i) (c - i)) W := by
  intro W
  unfold maxLen at hc9
  have hz : ∀ W, (Go.sizeOf 26).run Try.prog W = .ok 4 W := fun W => by kernel_rfl
  have ht' : Try.prog.underlying 24 = some (.slice (Try.prog.elem 24)) := by simp [Program.elem, Try.underlying24]
  have he : Try.prog.elem 24 = 26 := by simp [Program.elem, Try.underlying24]
  rw [run_slice_l W 24 _ _ _ ht' .i64 _ (by omega) (by omega), he, hz]
  have h0 : ¬ c = i := by omega
  by_cases h1 : i = 0
  · subst h1; simp [Result.andThen, sliced, Addr.add, h0]
  · have h2 : ¬ i * 4 = 0 := by omega
    simp [Result.andThen, sliced, Addr.add, h0, h1, h2]
theorem slcLe_head (g n c i : Nat) (hi : i ≤ n) (hc : n ≤ c) (hc9 : c ≤ maxLen) : ∀ W, (Instr.slice 24 (.slice (some ⟨g, 0, none⟩) n c) none (some (.int .i64 (i : Int))) none).run Try.prog W = .ok (.slice (some ⟨g, 0, none⟩) i c) W := by
  intro W
  unfold maxLen at hc9
  have hz : ∀ W, (Go.sizeOf 26).run Try.prog W = .ok 4 W := fun W => by kernel_rfl
  have ht' : Try.prog.underlying 24 = some (.slice (Try.prog.elem 24)) := by simp [Program.elem, Try.underlying24]
  have he : Try.prog.elem 24 = 26 := by simp [Program.elem, Try.underlying24]
  rw [run_slice_h W 24 _ _ _ ht' .i64 _ (by omega) (by omega), he, hz]
  simp [Result.andThen, sliced, Addr.add]

/-- clear on a back part of a row of leases. -/
theorem run_clear_le {W : World} {g o n c : Nat} {cur : Array Value} (hB : Blk W g cur 26) (hn : 0 < n) (hfit : o + n * 4 ≤ cur.size) :
    ∃ W9 cur9, (∀ ty, (Builtin.clear_ #[24] ty #[.slice (some ⟨g, o, none⟩) n c]).run Try.prog W = .ok (.tuple #[]) W9) ∧ Blk W9 g cur9 26 ∧ cur9.size = cur.size ∧ (∀ k, k < o → cur9[k]? = cur[k]?) ∧ Keeps [g] W W9 := by
  have hv : ∀ w, (zeroValue 26).run Try.prog w = .ok (.agg #[.int .i64 0, .int .i64 0, .int .i64 0, .int .i64 0]) w := fun w => by kernel_rfl
  have hlen : (Builtin.zeroCells (Value.agg #[.int .i64 0, .int .i64 0, .int .i64 0, .int .i64 0]).cells n).toList.length = n * 4 := by
    rw [Array.length_toList, size_zeroCells]; rfl
  have hst := run_storeCells_at Try.prog g o 26 (Builtin.zeroCells (Value.agg #[.int .i64 0, .int .i64 0, .int .i64 0, .int .i64 0]).cells n).toList 0 cur W hB (by rw [hlen]; omega) (by
    intro v hv'
    simp only [Builtin.zeroCells, Array.toList_map, List.mem_map] at hv'
    obtain ⟨x, _, rfl⟩ := hv'
    have hx : x % 4 < 4 := Nat.mod_lt _ (by decide)
    have h4 : x % 4 = 0 ∨ x % 4 = 1 ∨ x % 4 = 2 ∨ x % 4 = 3 := by omega
    show (#[Value.int .i64 0, .int .i64 0, .int .i64 0, .int .i64 0] : Array Value)[x % 4]!.oneCell' = true
    rcases h4 with h4 | h4 | h4 | h4 <;> rw [h4] <;> rfl)
  rw [hlen, Nat.add_zero] at hst
  obtain ⟨m, rfl⟩ : ∃ m, n = m + 1 := ⟨n - 1, by omega⟩
  generalize hZ : (Builtin.zeroCells (Value.agg #[.int .i64 0, .int .i64 0, .int .i64 0, .int .i64 0]).cells (m + 1)).toList = Z at *
  refine ⟨W.setRow g (cur.toList.take o ++ Z ++ cur.toList.drop (o + (m + 1) * 4)).toArray, (cur.toList.take o ++ Z ++ cur.toList.drop (o + (m + 1) * 4)).toArray, fun ty => ?_, setRow_heap W g cur _ 26 _ hB, ?_, fun k hk => ?_, ?_⟩
  · simp only [Builtin.clear_, Sem.run_bind]
    simp [run_underlying Try.underlying24, hv, hZ, hst]
  · rw [List.size_toArray, List.length_append, List.length_append, List.length_take, List.length_drop, hlen, Array.length_toList]
    omega
  · rw [List.getElem?_toArray, List.append_assoc, List.getElem?_append_left (by rw [List.length_take, Array.length_toList]; omega), List.getElem?_take, if_pos hk, Array.getElem?_toList]
  · exact ⟨rfl, rfl, rfl, by rw [Go.setRow_size]; exact Nat.le_refl _, fun k _ hk => Go.setRow_other W g k _ (fun e => hk (by rw [e]; simp))⟩

theorem RowL.of_cur {W : World} {g : Nat} {cur cur9 : Array Value} {R : List Le} {W9 : World} {i : Nat} (h : RowL W g R) (hB : Blk W g cur 26) (h9 : Blk W9 g cur9 26) (hs : cur9.size = cur.size) (hk : ∀ k, k < i * 4 → cur9[k]? = cur[k]?) (hi : i ≤ R.length) : RowL W9 g (R.take i) := by
  obtain ⟨cur', h3, h4, h5⟩ := h
  have e : cur' = cur := by
    unfold Blk at hB h3
    rw [hB] at h3
    injection h3 with h3
    injection h3 with h3
    exact h3.symm
  subst e
  refine ⟨cur9, h9, by rw [List.length_take]; omega, fun j hj => ?_⟩
  rw [List.length_take] at hj
  obtain ⟨c0, c1, c2, c3⟩ := h5 j (by omega)
  rw [List.getElem_take]
  exact ⟨(hk _ (by omega)).trans c0, (hk _ (by omega)).trans c1, (hk _ (by omega)).trans c2, (hk _ (by omega)).trans c3⟩

theorem RowL.keep {w w' : World} {g : Nat} {es : List Le} (h : RowL w g es) (hb : w'.heap[g]? = w.heap[g]?) : RowL w' g es := by
  obtain ⟨cur, hc, r⟩ := h
  exact ⟨cur, hc.of_block hb, r⟩

set_option maxHeartbeats 8000000 in
theorem deleteOf_any (v : Value) (es : List Le) (a : Int) (b base : Nat) (w : World) (hl : es.length ≤ 1000000) (hO : OwR w base v es) (hB : Blk w b #[.int .i64 a] 3) (hne : ∀ k ∈ v.ownBlock.toList, k ≠ b) :
    Calls Try.prog 59 #[v, .func (.func 60) #[] #[.pointer (some ⟨b, 0, none⟩)]] w fun e w' =>
      ∃ v', e = .returned v' ∧ OwR w' base v' (es.filter (fun l => decide (l.2.2.1 = a))) ∧ Keeps v.ownBlock.toList w w' := by
  obtain ⟨A, c, rfl, hc, hcm, hA⟩ := hO.ll
  have hix := indexOf_any A es c a b w (by omega) hA hB
  obtain ⟨F, hF⟩ : ∃ F, es.filter (fun l => decide (l.2.2.1 = a)) = F := ⟨_, rfl⟩
  rw [hF]
  have HF := Lib.hid hF
  clear hF
  go_enter Try.func59, Try.ntmps59
  go_wp2_with fail
  refine hix.mono ?_
  rintro e w1 ⟨⟨r, rfl, hr⟩, hb1⟩
  have hO1 := hO.below hb1
  have hB1 := hB.below hb1
  rcases hr with ⟨rfl, hall⟩ | ⟨k, rfl, hk, hnk, hall⟩
  · have hf : es.filter (fun l => decide (l.2.2.1 = a)) = es := by
      rw [List.filter_eq_self]
      intro l hl
      obtain ⟨j, hj, rfl⟩ := List.getElem_of_mem hl
      exact decide_eq_true (hall j hj)
    have HO1 := Lib.hid hO1
    have hF2 := Lib.hid (HF.out.symm.trans hf)
    clear hf hall hO1
    go_wp2
    go_ret
    exact ⟨_, rfl, by rw [hF2.out]; exact HO1.out, Keeps.of_below hb1⟩
  · obtain ⟨A', c', e', hOL⟩ := hO1.owL
    simp only [Value.slice.injEq] at e'
    obtain ⟨rfl, _, rfl⟩ := e'
    rcases rowL_of hOL with h0 | ⟨g, rfl, hfp, hrow, hin⟩
    · subst h0; simp at hk
    have hsz : SzB w1 g (c * 4) ∧ base ≤ g := by
      rcases hO1.row.2 with ⟨e9, _⟩ | ⟨g', cap, cur, e9, hbg, hh, _, _, hs, _⟩
      · cases e9
      · cases e9
        exact ⟨⟨cur, hh, hs⟩, hbg⟩
    obtain ⟨hsz, hbg⟩ := hsz
    have hgb : g ≠ b := hne g (by simp [Value.ownBlock])
    have hst := Kept.start hk hnk hall hin
    have HST := Lib.hid hst
    have HB0 := Lib.hid hb1
    have hkne : ((k : Int) == -1) = false := beq_eq_false_iff_ne.2 (by omega)
    have hke1 : Keeps [g] w w1 := Keeps.of_below hb1
    clear hst hfp hO hO1 hOL hA hix hall hnk hin hB
    go_wp2
    go_loopw [5, 6] (fun s5 s6 wr => ∃ (i j : Nat) (R : List Le), s5 = .int .i64 i ∧ s6 = .int .i64 j ∧ Kept a es R i j ∧ RowL wr g R ∧ SzB wr g (c * 4) ∧ Blk wr b #[.int .i64 a] 3 ∧ Keeps [g] w wr)
      (fun _ s6 _ => es.length - (intOf s6).toNat)
    case atStart => exact ⟨k, k + 1, es, rfl, by go_num, HST.out, hrow, hsz, hB1, hke1⟩
    case round =>
      obtain ⟨i, j, R, rfl, rfl, hkp, hrw, hsb, hbx, hke⟩ := hrel
      have hij := hkp.lt
      have hje := hkp.le
      have hln := hkp.ln
      have HKP := Lib.hid hkp
      by_cases hlt : j < es.length
      · have hji : (j : Int) < (es.length : Int) := by omega
        have hii : (i : Int) < (es.length : Int) := by omega
        obtain ⟨⟨x, y, s, t⟩, hej⟩ : ∃ e, es[j] = e := ⟨_, rfl⟩
        have HEJ := Lib.hid hej
        have hRj : R[j]'(by omega) = (x, y, s, t) := (hkp.at_ hlt).trans hej
        obtain ⟨k0, k1, k2, k3⟩ := hrw.cells j (by omega)
        rw [hRj] at k0 k1 k2 k3
        simp only at k0 k1 k2 k3
        have hal := (Below.refl wr.heap.size wr).alloc (Nat.le_refl _) (.cells #[.int .i64 x, .int .i64 y, .int .i64 s, .int .i64 t] 26)
        have bx := Blk.new wr #[.int .i64 x, .int .i64 y, .int .i64 s, .int .i64 t] 26
        have p0 := bx.cell 0
        have p1 := bx.cell 1
        have p2 := bx.cell 2
        have p3 := bx.cell 3
        have hcall := notOf_any x y s t a b _ (hbx.below hal)
        have HRW := Lib.hid (hrw.below hal)
        have HSB := Lib.hid (hsb.below hal)
        have HBX := Lib.hid (hbx.below hal)
        have HKE := Lib.hid (hke.trans (Keeps.of_below hal))
        have hgl := hrw.lt
        clear hrw hsb hbx hke hkp hej hRj
        go_wp2_with fail
        refine hcall.mono ?_
        rintro e w2 ⟨rfl, hb2⟩
        have hb2 : Below (wr.alloc (.cells #[.int .i64 x, .int .i64 y, .int .i64 s, .int .i64 t] 26)).heap.size (wr.alloc (.cells #[.int .i64 x, .int .i64 y, .int .i64 s, .int .i64 t] 26)) w2 := ⟨hb2.os, hb2.tape, hb2.output, hb2.size, hb2.block⟩
        have bx2 := bx.below hb2
        have hrw2 := HRW.out.below hb2
        have hsb2 := HSB.out.below hb2
        have hbx2 := HBX.out.below hb2
        have hke2 := HKE.out.trans (Keeps.of_below hb2)
        by_cases hs : s = a
        · have hd : decide (s = a) = true := decide_eq_true hs
          have HS := Lib.hid hs
          have hiR : i < R.length := by omega
          obtain ⟨u0, u1, u2, u3⟩ := hrw2.cells i hiR
          have f0 := hrw2.frozen (i * 4)
          have f1 := hrw2.frozen (i * 4 + 1)
          have f2 := hrw2.frozen (i * 4 + 2)
          have f3 := hrw2.frozen (i * 4 + 3)
          have z0 := bx2.cell 0
          have z1 := bx2.cell 1
          have z2 := bx2.cell 2
          have z3 := bx2.cell 3
          have hnew := hrw2.set4 i hiR x y s t
          have hsn := (((hsb2.set (i * 4) (.int .i64 x)).set (i * 4 + 1) (.int .i64 y)).set (i * 4 + 2) (.int .i64 s)).set (i * 4 + 3) (.int .i64 t)
          have hbn := (((hbx2.setOther (a := ⟨g, i * 4, none⟩) (fun e => hgb e.symm) (.int .i64 x)).setOther (a := ⟨g, i * 4 + 1, none⟩) (fun e => hgb e.symm) (.int .i64 y)).setOther (a := ⟨g, i * 4 + 2, none⟩) (fun e => hgb e.symm) (.int .i64 s)).setOther (a := ⟨g, i * 4 + 3, none⟩) (fun e => hgb e.symm) (.int .i64 t)
          have hkn := (((hke2.put (List.mem_singleton.2 rfl) (i * 4) (.int .i64 x)).put (List.mem_singleton.2 rfl) (i * 4 + 1) (.int .i64 y)).put (List.mem_singleton.2 rfl) (i * 4 + 2) (.int .i64 s)).put (List.mem_singleton.2 rfl) (i * 4 + 3) (.int .i64 t)
          have HN := Lib.hid hnew
          have HSN := Lib.hid hsn
          have HBN := Lib.hid hbn
          have HKN := Lib.hid hkn
          generalize R[i] = o at *
          clear hnew hsn hbn hkn hrw2 hsb2 hbx2 hke2 bx bx2 p0 p1 p2 p3 k0 k1 k2 k3 hs hcall
          go_wp2
          go_roundw
          case rel => exact ⟨i + 1, j + 1, _, by go_num, by go_num, HKP.out.keep hlt HEJ.out HS.out, HN.out, HSN.out, HBN.out, HKN.out⟩
          case measure => simp [intOf]; omega
        · have hd : decide (s = a) = false := decide_eq_false hs
          have HS := Lib.hid hs
          clear bx bx2 p0 p1 p2 p3 k0 k1 k2 k3 hs hcall
          go_wp2
          go_roundw
          case rel => exact ⟨i, j + 1, R, rfl, by go_num, HKP.out.skip hlt (by rw [HEJ.out]; exact HS.out), hrw2, hsb2, hbx2, hke2⟩
          case measure => simp [intOf]; omega
      · have hje2 : j = es.length := by omega
        obtain ⟨cur, hcu, hcs⟩ := hsb
        obtain ⟨W9, cur9, hcl, hB9, hs9, hk9, hke9⟩ := run_clear_le (n := es.length - i) (c := c - i) (o := i * 4) hcu (by omega) (by omega)
        have hS1 := slcLe_tail g es.length c i (by omega) hc hcm
        have hS2 := slcLe_head g es.length c i (by omega) hc hcm
        have hrow9 := hrw.of_cur (i := i) hcu hB9 hs9 hk9 (by omega)
        have hown9 : OwR W9 base (.slice (some ⟨g, 0, none⟩) i c) F :=
          own_of_row (i := i) hrow9 ⟨cur9, hB9, by omega⟩ hbg (by rw [List.length_take]; omega) (by rw [List.take_take, Nat.min_self, hkp.fr, hje2, List.take_length]; exact HF.out) (fun l hl => hkp.in_ l (List.mem_of_mem_take hl)) (by rw [List.length_take]; omega) hcm
        have HO9 := Lib.hid hown9
        have HK9 := Lib.hid (hke.trans hke9)
        clear hown9 hrow9 hB9 hs9 hk9 hke9 hcu hcs hkp hrw hbx hke
        go_wp2
        go_ret
        exact ⟨_, rfl, HO9.out, HK9.out⟩

set_option maxHeartbeats 4000000 in
theorem implLeaseAll_any (A : Option Addr) (es : List Le) (c : Nat) (a : Int) (w : World) (hl : es.length ≤ 1048576) (hA : Ll w A es) :
    Calls Try.prog 22 #[.slice A es.length c, .int .i64 a] w fun e w' => ∃ v, e = .returned v ∧ OwR w' w.heap.size v (leAll es a) ∧ Below w.heap.size w w' := by
  have hn9 : es.length ≤ 9223372036854775807 := by omega
  obtain ⟨z, hz⟩ : ∃ z, leOk es = z := ⟨_, rfl⟩
  have HZ := Lib.hid hz
  have hAe : leAll es a = if z = true then es.filter (fun l => decide (l.2.2.1 = a)) else [] := by unfold leAll; rw [hz]
  rw [hAe]
  clear hz hAe
  have hal := (Below.refl w.heap.size w).alloc (Nat.le_refl _) (.cells #[.int .i64 a] 3)
  have hbx := Blk.new w #[.int .i64 a] 3
  have hA1 := hA.below hal
  have zb := hbx.lt
  cases z
  · go_enter Try.func22, Try.ntmps22
    go_wp2_with fail
    refine (implLeasesOk_any A es c _ hn9 hA1).mono ?_
    rintro e w1 ⟨rfl, hb1⟩
    rw [HZ.out]
    have hb9 := below_then hal hb1
    go_wp2
    go_ret
    exact ⟨_, rfl, OwR.nil _ _, hb9⟩
  · rw [if_pos rfl]
    have hlen := leOk_len HZ.out
    go_enter Try.func22, Try.ntmps22
    go_wp2_with fail
    refine (implLeasesOk_any A es c _ hn9 hA1).mono ?_
    rintro e w1 ⟨rfl, hb1⟩
    rw [HZ.out]
    have hb9 := below_then hal hb1
    have HA2 := Lib.hid (hA1.below hb1)
    have HBX := Lib.hid (hbx.below hb1)
    go_wp2_with fail
    refine (cloneLe_any A es _ c _ rfl (by omega) (by exact HA2.out)).mono ?_
    rintro e w2 ⟨v, rfl, hown, hb2⟩
    have hz1 := hb1.size
    have hb3 := below_then hb9 hb2
    have HBX2 := Lib.hid (HBX.out.below hb2)
    have HO := Lib.hid hown
    have hdis : ∀ k ∈ v.ownBlock.toList, k ≠ w.heap.size := fun k hk e => by
      have h9 := (World.ownsRow.lt hown.row k (by simpa using hk)).1
      simp only [World.size_alloc] at hz1
      omega
    have HDIS := Lib.hid hdis
    clear hown hdis
    go_wp2_with fail
    refine (deleteOf_any v es a w.heap.size _ _ (by omega) (by exact HO.out) (by exact HBX2.out) HDIS.out).mono ?_
    rintro e w3 ⟨v', rfl, hown3, hke⟩
    have hb4 := hb3.trans (hke.below (B := w.heap.size) hb3.size (fun k hk => by
      have h9 := (World.ownsRow.lt HO.out.row k (by simpa using hk)).1
      simp only [World.size_alloc] at hz1
      omega))
    go_wp2
    go_ret
    exact ⟨_, rfl, hown3.mono (by simp only [World.size_alloc] at hz1; omega), hb4⟩
end Go.Proofs.Ytgbmobepnhhldaa
