/-
  Texts of one claim in one: C26, C27, C28. Own work.
-/
import Derived.Test.YtgpjjolgpppeeaaDoorC25
import Derived.Test.YtgpjjolgpppeeaaDoorQTop0itness
import Derived.Test.YtgpjjolgpppeeaaDoorC24
import Derived.Test.YtgpjjolgpppeeaaDoorC23
import Derived.Test.YtgpjjolgpppeeaaDoorQTop1itness

/-
  Chapter 12, the laws' marks on lists of replies and of outputs, told as owning; the reading of marks on replies; equality of lists of replies: contracts. Own work.
-/
namespace Go.Proofs.YtgpjjolgpppeeaaDoor
open Go.RowKit P
set_option linter.unusedVariables false
set_option linter.unusedSimpArgs false
set_option maxRecDepth 100000

/-- What the replies of a list say. -/
def rputs (es : List Rp) : List (List UInt8) := es.map (·.2.2.2)
def rtot (ls : List (List UInt8)) : Nat := ls.flatten.length
theorem rputs_len (es : List Rp) : (rputs es).flatten.length = sumB ebt es := by
  unfold rputs sumB ebt
  induction es with
  | nil => rfl
  | cons a t ih => simp [ih]
theorem rpL_ow_inv {w : World} {cs : List Value} {d : Rp} {fp : List Nat} (h : Lay.rpL.ow w cs d fp) : ∃ v, cs = [.int .i64 d.1, .int .i64 d.2.1, .int .i64 d.2.2.1, v] ∧ isI d.1 ∧ isI d.2.1 ∧ isI d.2.2.1 ∧ Own w 0 v d.2.2.2 ∧ fp = v.ownBlock.toList := by
  obtain ⟨c0, c9, f0, f9, rfl, ⟨rfl, i0, rfl⟩, ⟨c1, c2, f1, f2, rfl, ⟨rfl, i1, rfl⟩, ⟨c3, c4, f3, f4, rfl, ⟨rfl, i2, rfl⟩, ⟨v, rfl, ho, rfl⟩, rfl⟩, rfl⟩, rfl⟩ := h
  exact ⟨v, rfl, i0, i1, i2, ho, by simp⟩
theorem own_rpv {w : World} {base : Nat} {x s p : Int} {v : Value} {l : List UInt8} (h0 : isI x) (h1 : isI s) (h2 : isI p) (h : Own w base v l) : Lay.rpL.ow w [.int .i64 x, .int .i64 s, .int .i64 p, v] (x, s, p, l) v.ownBlock.toList :=
  ⟨[.int .i64 x], [.int .i64 s, .int .i64 p, v], [], _, rfl, ⟨rfl, h0, rfl⟩, ⟨[.int .i64 s], [.int .i64 p, v], [], _, rfl, ⟨rfl, h1, rfl⟩, ⟨[.int .i64 p], [v], [], _, rfl, ⟨rfl, h2, rfl⟩, h.ow, rfl⟩, rfl⟩, rfl⟩

/-- A list behind markReplyS. -/
def mkR (k : Nat) (c : Rp) : Rp := ((k : Int), (k : Int) + 1, (k : Int) + 2, marks (k + 3) c.2.2.2.length)
def nR (k : Nat) (es : List Rp) : Nat := k + 3 * es.length + rtot (rputs es)
def markedR (k : Nat) : List Rp → List Rp
  | [] => []
  | c :: t => mkR k c :: markedR (k + 3 + c.2.2.2.length) t
theorem markedR_length (es : List Rp) : ∀ k, (markedR k es).length = es.length := by
  induction es with
  | nil => intro k; rfl
  | cons c t ih => intro k; simp [markedR, ih]
theorem nR_take (k : Nat) (es : List Rp) (j : Nat) (h : j < es.length) : nR k (es.take (j + 1)) = nR k (es.take j) + 3 + es[j].2.2.2.length := by
  have h1 : rputs (es.take (j + 1)) = rputs (es.take j) ++ [es[j].2.2.2] := by
    unfold rputs
    rw [List.take_succ_eq_append_getElem h, List.map_append]
    rfl
  have h2 : (es.take (j + 1)).length = j + 1 := by rw [List.length_take]; omega
  have h3 : (es.take j).length = j := by rw [List.length_take]; omega
  unfold nR rtot
  rw [h1, h2, h3, List.flatten_append, List.length_append]
  simp only [List.flatten_cons, List.flatten_nil, List.append_nil]
  omega
theorem nR_le (k : Nat) (es : List Rp) (j : Nat) : nR k (es.take j) ≤ nR k es := by
  unfold nR
  have h2 : (rputs es).flatten = (rputs (es.take j)).flatten ++ (rputs (es.drop j)).flatten := by
    unfold rputs
    rw [← List.flatten_append, ← List.map_append, List.take_append_drop]
  have h3 : (es.take j).length ≤ es.length := by rw [List.length_take]; omega
  unfold rtot
  rw [h2, List.length_append]
  omega
theorem markedR_snoc (es : List Rp) : ∀ (k j : Nat) (h : j < es.length), markedR k (es.take (j + 1)) = markedR k (es.take j) ++ [mkR (nR k (es.take j)) es[j]] := by
  induction es with
  | nil => intro k j h; simp at h
  | cons c t ih =>
    intro k j h
    cases j with
    | zero => simp [markedR, nR, rtot, rputs]
    | succ j =>
      have h9 := ih (k + 3 + c.2.2.2.length) j (by simpa using h)
      have hn : nR (k + 3 + c.2.2.2.length) (t.take j) = nR k ((c :: t).take (j + 1)) := by
        unfold nR rtot rputs
        simp
        omega
      rw [List.take_succ_cons, List.take_succ_cons]
      simp only [markedR, List.getElem_cons_succ, List.cons_append, h9]
      rw [hn]
      rfl
theorem markedR_step (k : Nat) (es : List Rp) (j : Nat) (h : j < es.length) : (markedR k (es.take j) ++ es.drop j).set j (mkR (nR k (es.take j)) es[j]) = markedR k (es.take (j + 1)) ++ es.drop (j + 1) := by
  have hl : (markedR k (es.take j)).length = j := by rw [markedR_length, List.length_take]; omega
  rw [List.drop_eq_getElem_cons h, List.set_append_right _ _ (by omega), hl, Nat.sub_self, List.set_cons_zero, markedR_snoc es k j h, List.append_assoc, List.singleton_append]

theorem markedR_get (es : List Rp) : ∀ (k j : Nat) (h : j < es.length), (markedR k es)[j]'(by rw [markedR_length]; exact h) = mkR (nR k (es.take j)) es[j] := by
  intro k j h
  have hs := markedR_snoc es k j h
  have h2 : markedR k (es.take (j + 1)) = (markedR k es).take (j + 1) := by
    clear hs h
    induction es generalizing k j with
    | nil => simp [markedR]
    | cons c t ih =>
      rw [List.take_succ_cons]
      simp only [markedR, List.take_succ_cons]
      cases j with
      | zero => simp [markedR]
      | succ j => rw [ih (k + 3 + c.2.2.2.length) j]
  have h3 : (markedR k (es.take (j + 1)))[j]? = some (mkR (nR k (es.take j)) es[j]) := by
    rw [hs, List.getElem?_append_right (by rw [markedR_length, List.length_take]; omega)]
    simp [markedR_length, List.length_take, show min j es.length = j by omega]
  rw [h2, List.getElem?_take, if_pos (by omega), List.getElem?_eq_getElem (by rw [markedR_length]; exact h)] at h3
  exact Option.some.inj h3

theorem eqReply_e (x s p : Int) (A B : Option Addr) (l : List UInt8) (c d : Nat) (w : World) (hl : l.length ≤ 9223372036854775807) (hA : Bs w A l) (hB : Bs w B l) :
    Calls Tryd.prog 96 #[.agg #[.int .i64 x, .int .i64 s, .int .i64 p, .slice A l.length c], .agg #[.int .i64 x, .int .i64 s, .int .i64 p, .slice B l.length d]] w fun e w' => e = .returned (.bool true) ∧ Below w.heap.size w w' :=
  eqReply_same x s p A B l c d w hl hA hB

/-- The lengths of an output's texts. -/
def txl (o : Ot) : Nat × Nat := (o.2.2.1.2.2.2.2.2.length, o.2.2.2.2.2.2.2.length)
theorem out_ow_inv {w : World} {cs : List Value} {o : Ot} {fp : List Nat} (h : Lay.out.ow w cs o fp) : ∃ v v', cs = [.int .i64 o.1, .int .i64 o.2.1, .int .i64 o.2.2.1.1, .int .i64 o.2.2.1.2.1, .int .i64 o.2.2.1.2.2.1, .int .i64 o.2.2.1.2.2.2.1, .int .i64 o.2.2.1.2.2.2.2.1, v, .int .i64 o.2.2.2.1, .int .i64 o.2.2.2.2.1, .int .i64 o.2.2.2.2.2.1, .int .i64 o.2.2.2.2.2.2.1, v'] ∧ Own w 0 v o.2.2.1.2.2.2.2.2 ∧ Own w 0 v' o.2.2.2.2.2.2.2 ∧ fp = v.ownBlock.toList ++ v'.ownBlock.toList := by
  obtain ⟨_, _, _, _, rfl, ⟨rfl, _, rfl⟩, ⟨_, _, _, _, rfl, ⟨rfl, _, rfl⟩, ⟨_, _, _, _, rfl, ⟨_, _, _, _, rfl, ⟨rfl, _, rfl⟩, ⟨_, _, _, _, rfl, ⟨rfl, _, rfl⟩, ⟨_, _, _, _, rfl, ⟨rfl, _, rfl⟩, ⟨_, _, _, _, rfl, ⟨rfl, _, rfl⟩, ⟨_, _, _, _, rfl, ⟨rfl, _, rfl⟩, ⟨v, rfl, ho, rfl⟩, rfl⟩, rfl⟩, rfl⟩, rfl⟩, rfl⟩, ⟨_, _, _, _, rfl, ⟨rfl, _, rfl⟩, ⟨_, _, _, _, rfl, ⟨rfl, _, rfl⟩, ⟨_, _, _, _, rfl, ⟨rfl, _, rfl⟩, ⟨_, _, _, _, rfl, ⟨rfl, _, rfl⟩, ⟨v', rfl, ho', rfl⟩, rfl⟩, rfl⟩, rfl⟩, rfl⟩, rfl⟩, rfl⟩, rfl⟩ := h
  exact ⟨v, v', rfl, ho, ho', by simp⟩
theorem own_rqv {w : World} {base : Nat} {x s p q r : Int} {v : Value} {l : List UInt8} (h0 : isI x) (h1 : isI s) (h2 : isI p) (h3 : isI q) (h4 : isI r) (h : Own w base v l) :
    Lay.rqL.ow w [.int .i64 x, .int .i64 s, .int .i64 p, .int .i64 q, .int .i64 r, v] (x, s, p, q, r, l) v.ownBlock.toList :=
  ⟨[.int .i64 x], [.int .i64 s, .int .i64 p, .int .i64 q, .int .i64 r, v], [], _, rfl, ⟨rfl, h0, rfl⟩, ⟨[.int .i64 s], [.int .i64 p, .int .i64 q, .int .i64 r, v], [], _, rfl, ⟨rfl, h1, rfl⟩, ⟨[.int .i64 p], [.int .i64 q, .int .i64 r, v], [], _, rfl, ⟨rfl, h2, rfl⟩, ⟨[.int .i64 q], [.int .i64 r, v], [], _, rfl, ⟨rfl, h3, rfl⟩, ⟨[.int .i64 r], [v], [], _, rfl, ⟨rfl, h4, rfl⟩, h.ow, rfl⟩, rfl⟩, rfl⟩, rfl⟩, rfl⟩
theorem own_outv {w : World} {base : Nat} {a u x s p q r f y i j : Int} {v v' : Value} {l m : List UInt8} (h0 : isI a) (h1 : isI u) (h2 : isI x) (h3 : isI s) (h4 : isI p) (h5 : isI q) (h6 : isI r) (h7 : isI f) (h8 : isI y) (h9 : isI i) (h10 : isI j) (h : Own w base v l) (h' : Own w base v' m) :
    Lay.out.ow w [.int .i64 a, .int .i64 u, .int .i64 x, .int .i64 s, .int .i64 p, .int .i64 q, .int .i64 r, v, .int .i64 f, .int .i64 y, .int .i64 i, .int .i64 j, v'] (a, u, (x, s, p, q, r, l), f, (y, i, j, m)) (v.ownBlock.toList ++ v'.ownBlock.toList) :=
  ⟨[.int .i64 a], [.int .i64 u, .int .i64 x, .int .i64 s, .int .i64 p, .int .i64 q, .int .i64 r, v, .int .i64 f, .int .i64 y, .int .i64 i, .int .i64 j, v'], [], _, rfl, ⟨rfl, h0, rfl⟩, ⟨[.int .i64 u], [.int .i64 x, .int .i64 s, .int .i64 p, .int .i64 q, .int .i64 r, v, .int .i64 f, .int .i64 y, .int .i64 i, .int .i64 j, v'], [], _, rfl, ⟨rfl, h1, rfl⟩, ⟨[.int .i64 x, .int .i64 s, .int .i64 p, .int .i64 q, .int .i64 r, v], [.int .i64 f, .int .i64 y, .int .i64 i, .int .i64 j, v'], _, _, rfl, own_rqv h2 h3 h4 h5 h6 h, ⟨[.int .i64 f], [.int .i64 y, .int .i64 i, .int .i64 j, v'], [], _, rfl, ⟨rfl, h7, rfl⟩, own_rpv h8 h9 h10 h', rfl⟩, rfl⟩, rfl⟩, rfl⟩
/-- The number behind markOutS. -/
def nOt (k : Nat) (es : List Ot) : Nat := k + 11 * es.length + sumB obt es
theorem nOt_take (k : Nat) (es : List Ot) (j : Nat) (h : j < es.length) : nOt k (es.take (j + 1)) = nOt k (es.take j) + 11 + (txl es[j]).1 + (txl es[j]).2 := by
  have h1 := sumB_take obt es j h
  have h2 : (es.take (j + 1)).length = j + 1 := by rw [List.length_take]; omega
  have h3 : (es.take j).length = j := by rw [List.length_take]; omega
  have h4 : obt es[j] = (txl es[j]).1 + (txl es[j]).2 := rfl
  unfold nOt
  rw [h1, h2, h3, h4]
  omega
theorem sumB_take_le {α : Type} (f : α → Nat) (es : List α) (j : Nat) : sumB f (es.take j) ≤ sumB f es := by
  unfold sumB
  have h : es.map f = (es.take j).map f ++ (es.drop j).map f := by rw [← List.map_append, List.take_append_drop]
  rw [h, List.sum_append]
  omega
theorem nOt_le (k : Nat) (es : List Ot) (j : Nat) : nOt k (es.take j) ≤ nOt k es := by
  have h1 := sumB_take_le obt es j
  have h2 : (es.take j).length ≤ es.length := by rw [List.length_take]; omega
  unfold nOt
  omega


set_option maxHeartbeats 8000000 in
theorem markOutS_any (A0 : Option Addr) (c0 : Nat) (es : List Ot) (fp : List Nat) (k : Nat) (w : World) (hk : k + 11 * es.length + sumB obt es ≤ 40000000) (hn : fp.Nodup) (h : Lay.outs.ow w [.slice A0 es.length c0] es fp) :
    Calls Tryd.prog 27 #[.slice A0 es.length c0, .int .i64 (k : Int)] w fun e w' => e = .returned (.int .i64 (nOt k es : Int)) ∧ Keeps fp w w' := by
  go_enter Tryd.func27, Tryd.ntmps27
  go_wp2
  go_loopw [1, 5] (fun kk i' wr => ∃ (j : Nat) (L : List Ot), j ≤ es.length ∧ i' = .int .i64 j ∧ kk = .int .i64 (nOt k (es.take j) : Int) ∧ L.map txl = es.map txl ∧ Lay.outs.ow wr [.slice A0 es.length c0] L fp ∧ Keeps fp w wr) (fun _ i' _ => es.length - (intOf i').toNat)
  case atStart => exact ⟨0, es, Nat.zero_le _, rfl, by simp [nOt, sumB], rfl, h, Keeps.refl _ _⟩
  case round =>
    obtain ⟨j, L, hj, rfl, rfl, hmap, how, hke⟩ := hrel
    by_cases hlt : j < es.length
    · have hlE : L.length = es.length := by have h9 := congrArg List.length hmap; simpa using h9
      have hll : j < L.length := by rw [hlE]; exact hlt
      obtain ⟨g, c', cur, us, fi, hv, hus, hblk, hcz, hcell, hoe, hni, hgf, hfi, hput⟩ := Lay.put (E := Lay.out) how hn (by decide) j hll
      rw [hlE] at hv hcz
      simp only [Value.slice.injEq, true_and] at hv
      obtain ⟨rfl, rfl⟩ := hv
      obtain ⟨v, v', hcs, hown, hown', hfp⟩ := out_ow_inv hoe
      have htx0 : txl L[j] = txl es[j] := by
        have h9 : (L.map txl)[j]? = (es.map txl)[j]? := by rw [hmap]
        rw [List.getElem?_map, List.getElem?_map, List.getElem?_eq_getElem hll, List.getElem?_eq_getElem hlt] at h9
        exact Option.some.inj h9
      have hntk0 := nOt_take k es j hlt
      rw [← htx0] at hntk0
      have hnle := nOt_le k es (j + 1)
      have hnb : nOt k es ≤ 40000000 := hk
      obtain ⟨m0, hm⟩ : ∃ m, nOt k (es.take j) = m := ⟨_, rfl⟩
      rw [hm] at hntk0 ⊢
      obtain ⟨o, ho⟩ : ∃ o, L[j] = o := ⟨_, rfl⟩
      rw [ho] at hntk0 hown hown' hcs htx0
      obtain ⟨l, hl⟩ : ∃ l, o.2.2.1.2.2.2.2.2 = l := ⟨_, rfl⟩
      obtain ⟨m, hm9⟩ : ∃ m, o.2.2.2.2.2.2.2 = m := ⟨_, rfl⟩
      have hntk : nOt k (es.take (j + 1)) = m0 + 11 + l.length + m.length := by rw [hntk0]; unfold txl; rw [hl, hm9]
      have htx : ∀ q : Ot, q.2.2.1.2.2.2.2.2.length = l.length → q.2.2.2.2.2.2.2.length = m.length → (L.set j q).map txl = es.map txl := fun q h1 h2 => by
        have h3 : txl q = txl es[j] := by rw [← htx0]; unfold txl; rw [h1, h2, hl, hm9]
        rw [List.map_set, hmap, h3]
        apply List.ext_getElem?
        intro z
        rw [List.getElem?_set]
        by_cases hz : j = z
        · subst hz; simp [List.getElem?_eq_getElem hlt, hlt]
        · rw [if_neg hz]
      rw [hl] at hown
      rw [hm9] at hown'
      obtain ⟨A1, c1, rfl, _, _, _⟩ := hown.form
      obtain ⟨C1, d1, rfl, _, _, _⟩ := hown'.form
      have e0 := hcell 0 (by rw [hcs]; simp)
      have e1 := hcell 1 (by rw [hcs]; simp)
      have e2 := hcell 2 (by rw [hcs]; simp)
      have e3 := hcell 3 (by rw [hcs]; simp)
      have e4 := hcell 4 (by rw [hcs]; simp)
      have e5 := hcell 5 (by rw [hcs]; simp)
      have e6 := hcell 6 (by rw [hcs]; simp)
      have e7 := hcell 7 (by rw [hcs]; simp)
      have e8 := hcell 8 (by rw [hcs]; simp)
      have e9 := hcell 9 (by rw [hcs]; simp)
      have e10 := hcell 10 (by rw [hcs]; simp)
      have e11 := hcell 11 (by rw [hcs]; simp)
      have e12 := hcell 12 (by rw [hcs]; simp)
      simp only [hcs, List.getElem_cons_zero, List.getElem_cons_succ] at e0 e1 e2 e3 e4 e5 e6 e7 e8 e9 e10 e11 e12
      have hsz4 : Lay.out.sz = 13 := rfl
      rw [hsz4] at e0 e1 e2 e3 e4 e5 e6 e7 e8 e9 e10 e11 e12 hput hcz
      have hb4 : j * 13 + 13 ≤ cur.size := by omega
      obtain ⟨y0, hy0⟩ : ∃ y, wr.cell? ⟨g, j * 13, none⟩ = some y := ⟨_, (hblk.cell _).trans (by simpa using e0)⟩
      obtain ⟨y1, hy1⟩ : ∃ y, wr.cell? ⟨g, j * 13 + 1, none⟩ = some y := ⟨_, (hblk.cell _).trans (by simpa using e1)⟩
      obtain ⟨y2, hy2⟩ : ∃ y, wr.cell? ⟨g, j * 13 + 2, none⟩ = some y := ⟨_, (hblk.cell _).trans (by simpa using e2)⟩
      obtain ⟨y3, hy3⟩ : ∃ y, wr.cell? ⟨g, j * 13 + 3, none⟩ = some y := ⟨_, (hblk.cell _).trans (by simpa using e3)⟩
      obtain ⟨y4, hy4⟩ : ∃ y, wr.cell? ⟨g, j * 13 + 4, none⟩ = some y := ⟨_, (hblk.cell _).trans (by simpa using e4)⟩
      obtain ⟨y5, hy5⟩ : ∃ y, wr.cell? ⟨g, j * 13 + 5, none⟩ = some y := ⟨_, (hblk.cell _).trans (by simpa using e5)⟩
      obtain ⟨y6, hy6⟩ : ∃ y, wr.cell? ⟨g, j * 13 + 6, none⟩ = some y := ⟨_, (hblk.cell _).trans (by simpa using e6)⟩
      have u7 : wr.cell? ⟨g, j * 13 + 7, none⟩ = some (.slice A1 l.length c1) := (hblk.cell _).trans e7
      have f0 := hblk.frozen (j * 13)
      have f1 := hblk.frozen (j * 13 + 1)
      have f2 := hblk.frozen (j * 13 + 2)
      have f3 := hblk.frozen (j * 13 + 3)
      have f4 := hblk.frozen (j * 13 + 4)
      have f5 := hblk.frozen (j * 13 + 5)
      have f6 := hblk.frozen (j * 13 + 6)
      have hb2 := (((((((hblk.set (j * 13) (.int .i64 ((m0 : Int)))).set (j * 13 + 1) (.int .i64 ((m0 : Int) + 1))).set (j * 13 + 2) (.int .i64 ((m0 : Int) + 2))).set (j * 13 + 3) (.int .i64 ((m0 : Int) + 3))).set (j * 13 + 4) (.int .i64 ((m0 : Int) + 4))).set (j * 13 + 5) (.int .i64 ((m0 : Int) + 5))).set (j * 13 + 6) (.int .i64 ((m0 : Int) + 6)))
      have hk3 : Keeps [g] wr (((((((wr.setCell ⟨g, j * 13, none⟩ (.int .i64 ((m0 : Int)))).setCell ⟨g, j * 13 + 1, none⟩ (.int .i64 ((m0 : Int) + 1))).setCell ⟨g, j * 13 + 2, none⟩ (.int .i64 ((m0 : Int) + 2))).setCell ⟨g, j * 13 + 3, none⟩ (.int .i64 ((m0 : Int) + 3))).setCell ⟨g, j * 13 + 4, none⟩ (.int .i64 ((m0 : Int) + 4))).setCell ⟨g, j * 13 + 5, none⟩ (.int .i64 ((m0 : Int) + 5))).setCell ⟨g, j * 13 + 6, none⟩ (.int .i64 ((m0 : Int) + 6))) := ((((((((Keeps.refl [g] wr).put1 (List.mem_singleton.2 rfl) (j * 13) (.int .i64 ((m0 : Int)))).put1 (List.mem_singleton.2 rfl) (j * 13 + 1) (.int .i64 ((m0 : Int) + 1))).put1 (List.mem_singleton.2 rfl) (j * 13 + 2) (.int .i64 ((m0 : Int) + 2))).put1 (List.mem_singleton.2 rfl) (j * 13 + 3) (.int .i64 ((m0 : Int) + 3))).put1 (List.mem_singleton.2 rfl) (j * 13 + 4) (.int .i64 ((m0 : Int) + 4))).put1 (List.mem_singleton.2 rfl) (j * 13 + 5) (.int .i64 ((m0 : Int) + 5))).put1 (List.mem_singleton.2 rfl) (j * 13 + 6) (.int .i64 ((m0 : Int) + 6)))
      have hgn : g ∉ fi := fun hq => (hfi g hq).2 rfl
      have ho2 := hown.keeps hk3 (fun q hq h9 => hgn (by rw [hfp, ← List.mem_singleton.1 h9]; exact List.mem_append.2 (.inl hq)))
      have ho3 := hown'.keeps hk3 (fun q hq h9 => hgn (by rw [hfp, ← List.mem_singleton.1 h9]; exact List.mem_append.2 (.inr hq)))
      have hgl : g < (((((((wr.setCell ⟨g, j * 13, none⟩ (.int .i64 ((m0 : Int)))).setCell ⟨g, j * 13 + 1, none⟩ (.int .i64 ((m0 : Int) + 1))).setCell ⟨g, j * 13 + 2, none⟩ (.int .i64 ((m0 : Int) + 2))).setCell ⟨g, j * 13 + 3, none⟩ (.int .i64 ((m0 : Int) + 3))).setCell ⟨g, j * 13 + 4, none⟩ (.int .i64 ((m0 : Int) + 4))).setCell ⟨g, j * 13 + 5, none⟩ (.int .i64 ((m0 : Int) + 5))).setCell ⟨g, j * 13 + 6, none⟩ (.int .i64 ((m0 : Int) + 6))).heap.size := hb2.lt
      have hnd := hni
      rw [hfp, List.nodup_append] at hnd
      obtain ⟨_, _, hdj⟩ := hnd
      have hmb : m0 ≤ 40000000 := by omega
      have hl9 : l.length ≤ 40000000 := by omega
      have hm9 : m.length ≤ 40000000 := by omega
      have hlb : m0 + l.length + m.length ≤ 40000000 := by omega
      have hji : (j : Int) < (es.length : Int) := by omega
      have hw1 : IntKind.i64.wrap ((m0 : Int) + 1) = (m0 : Int) + 1 := by rw [IntWalk.i64_in _ ⟨by omega, by omega⟩]; try omega
      have hw2 : IntKind.i64.wrap ((m0 : Int) + 1 + 1) = (m0 : Int) + 2 := by rw [IntWalk.i64_in _ ⟨by omega, by omega⟩]; try omega
      have hw3 : IntKind.i64.wrap ((m0 : Int) + 2 + 1) = (m0 : Int) + 3 := by rw [IntWalk.i64_in _ ⟨by omega, by omega⟩]; try omega
      have hw4 : IntKind.i64.wrap ((m0 : Int) + 3 + 1) = (m0 : Int) + 4 := by rw [IntWalk.i64_in _ ⟨by omega, by omega⟩]; try omega
      have hw5 : IntKind.i64.wrap ((m0 : Int) + 4 + 1) = (m0 : Int) + 5 := by rw [IntWalk.i64_in _ ⟨by omega, by omega⟩]; try omega
      have hw6 : IntKind.i64.wrap ((m0 : Int) + 5 + 1) = (m0 : Int) + 6 := by rw [IntWalk.i64_in _ ⟨by omega, by omega⟩]; try omega
      have hw7 : IntKind.i64.wrap ((m0 : Int) + 6 + 1) = ((m0 + 7 : Nat) : Int) := by rw [IntWalk.i64_in _ ⟨by omega, by omega⟩]; try omega
      have HO2 := Lib.hid ho2
      have HO3 := Lib.hid ho3
      have HB2 := Lib.hid hb2
      have HK3 := Lib.hid (hk3.mono (fun x hx => by rw [List.mem_singleton.1 hx]; exact List.mem_cons_self ..) : Keeps (g :: fi) wr _)
      have HPUT := Lib.hid hput
      have HNT := Lib.hid hntk
      have HKE := Lib.hid hke
      have HFI := Lib.hid hfi
      have HFP := Lib.hid hfp
      have HTX := Lib.hid htx
      have HDJ := Lib.hid hdj
      have HGN := Lib.hid hgn
      have EE7 := Lib.hid e7
      have EE8 := Lib.hid e8
      have EE9 := Lib.hid e9
      have EE10 := Lib.hid e10
      have EE11 := Lib.hid e11
      have EE12 := Lib.hid e12
      clear e0 e1 e2 e3 e4 e5 e6 e7 e8 e9 e10 e11 e12 ho2 ho3 hb2 hk3 hput hntk hke hcell hoe hown hown' how hm ho hl hcs hfi hfp hblk hni htx hmap hdj hgn hntk0 htx0
      go_wp2_with fail
      refine (markByteS_wide (.slice A1 l.length c1) l 0 (m0 + 7) _ (by omega) (by omega) (by exact HO2.out)).mono ?_
      rintro e w1 ⟨rfl, how1, hgr⟩
      have hkb := Keeps.of_grown hgr
      have hgu : g ∉ (Value.slice A1 l.length c1).ownBlock.toList := fun hq => HGN.out (by rw [HFP.out]; exact List.mem_append.2 (.inl hq))
      have B1 := Lib.hid (HB2.out.of_block (hkb.block g hgl hgu))
      have O1 := Lib.hid how1
      have O3 := Lib.hid (HO3.out.keeps hkb (fun q hq h9 => HDJ.out q h9 q hq rfl))
      have KK1 := Lib.hid (HK3.out.trans (hkb.mono (fun x hx => List.mem_cons_of_mem _ (by rw [HFP.out]; exact List.mem_append.2 (.inl hx)))))
      clear hkb hgr how1 hy0 f0 hy1 f1 hy2 f2 hy3 f3 hy4 f4 hy5 f5 hy6 f6 u7 hgl HB2 HK3 HO2 HO3 hw1 hw2 hw3 hw4 hw5 hw6 hw7
      obtain ⟨m1, hm1⟩ : ∃ z, m0 + 7 + l.length = z := ⟨_, rfl⟩
      rw [hm1]
      have HM1 := Lib.hid hm1
      have hm1b : m1 ≤ 50000000 := by omega
      obtain ⟨y8, hy8⟩ : ∃ y, w1.cell? ⟨g, j * 13 + 8, none⟩ = some y := ⟨_, (B1.out.cell _).trans (by rw [Array.getElem?_setIfInBounds, if_neg (by omega), Array.getElem?_setIfInBounds, if_neg (by omega), Array.getElem?_setIfInBounds, if_neg (by omega), Array.getElem?_setIfInBounds, if_neg (by omega), Array.getElem?_setIfInBounds, if_neg (by omega), Array.getElem?_setIfInBounds, if_neg (by omega), Array.getElem?_setIfInBounds, if_neg (by omega)]; exact EE8.out)⟩
      obtain ⟨y9, hy9⟩ : ∃ y, w1.cell? ⟨g, j * 13 + 9, none⟩ = some y := ⟨_, (B1.out.cell _).trans (by rw [Array.getElem?_setIfInBounds, if_neg (by omega), Array.getElem?_setIfInBounds, if_neg (by omega), Array.getElem?_setIfInBounds, if_neg (by omega), Array.getElem?_setIfInBounds, if_neg (by omega), Array.getElem?_setIfInBounds, if_neg (by omega), Array.getElem?_setIfInBounds, if_neg (by omega), Array.getElem?_setIfInBounds, if_neg (by omega)]; exact EE9.out)⟩
      obtain ⟨y10, hy10⟩ : ∃ y, w1.cell? ⟨g, j * 13 + 10, none⟩ = some y := ⟨_, (B1.out.cell _).trans (by rw [Array.getElem?_setIfInBounds, if_neg (by omega), Array.getElem?_setIfInBounds, if_neg (by omega), Array.getElem?_setIfInBounds, if_neg (by omega), Array.getElem?_setIfInBounds, if_neg (by omega), Array.getElem?_setIfInBounds, if_neg (by omega), Array.getElem?_setIfInBounds, if_neg (by omega), Array.getElem?_setIfInBounds, if_neg (by omega)]; exact EE10.out)⟩
      obtain ⟨y11, hy11⟩ : ∃ y, w1.cell? ⟨g, j * 13 + 11, none⟩ = some y := ⟨_, (B1.out.cell _).trans (by rw [Array.getElem?_setIfInBounds, if_neg (by omega), Array.getElem?_setIfInBounds, if_neg (by omega), Array.getElem?_setIfInBounds, if_neg (by omega), Array.getElem?_setIfInBounds, if_neg (by omega), Array.getElem?_setIfInBounds, if_neg (by omega), Array.getElem?_setIfInBounds, if_neg (by omega), Array.getElem?_setIfInBounds, if_neg (by omega)]; exact EE11.out)⟩
      have u12 : w1.cell? ⟨g, j * 13 + 12, none⟩ = some (.slice C1 m.length d1) := (B1.out.cell _).trans (by rw [Array.getElem?_setIfInBounds, if_neg (by omega), Array.getElem?_setIfInBounds, if_neg (by omega), Array.getElem?_setIfInBounds, if_neg (by omega), Array.getElem?_setIfInBounds, if_neg (by omega), Array.getElem?_setIfInBounds, if_neg (by omega), Array.getElem?_setIfInBounds, if_neg (by omega), Array.getElem?_setIfInBounds, if_neg (by omega)]; exact EE12.out)
      have f8 := B1.out.frozen (j * 13 + 8)
      have f9 := B1.out.frozen (j * 13 + 9)
      have f10 := B1.out.frozen (j * 13 + 10)
      have f11 := B1.out.frozen (j * 13 + 11)
      have hb5 := ((((B1.out.set (j * 13 + 8) (.int .i64 ((m1 : Int)))).set (j * 13 + 9) (.int .i64 ((m1 : Int) + 1))).set (j * 13 + 10) (.int .i64 ((m1 : Int) + 2))).set (j * 13 + 11) (.int .i64 ((m1 : Int) + 3)))
      have hk5 : Keeps [g] w1 ((((w1.setCell ⟨g, j * 13 + 8, none⟩ (.int .i64 ((m1 : Int)))).setCell ⟨g, j * 13 + 9, none⟩ (.int .i64 ((m1 : Int) + 1))).setCell ⟨g, j * 13 + 10, none⟩ (.int .i64 ((m1 : Int) + 2))).setCell ⟨g, j * 13 + 11, none⟩ (.int .i64 ((m1 : Int) + 3))) := (((((Keeps.refl [g] w1).put1 (List.mem_singleton.2 rfl) (j * 13 + 8) (.int .i64 ((m1 : Int)))).put1 (List.mem_singleton.2 rfl) (j * 13 + 9) (.int .i64 ((m1 : Int) + 1))).put1 (List.mem_singleton.2 rfl) (j * 13 + 10) (.int .i64 ((m1 : Int) + 2))).put1 (List.mem_singleton.2 rfl) (j * 13 + 11) (.int .i64 ((m1 : Int) + 3)))
      have ho5 := O3.out.keeps hk5 (fun q hq h9 => HGN.out (by rw [HFP.out, ← List.mem_singleton.1 h9]; exact List.mem_append.2 (.inr hq)))
      have ho6 := O1.out.keeps hk5 (fun q hq h9 => HGN.out (by rw [HFP.out, ← List.mem_singleton.1 h9]; exact List.mem_append.2 (.inl hq)))
      have hgl : g < ((((w1.setCell ⟨g, j * 13 + 8, none⟩ (.int .i64 ((m1 : Int)))).setCell ⟨g, j * 13 + 9, none⟩ (.int .i64 ((m1 : Int) + 1))).setCell ⟨g, j * 13 + 10, none⟩ (.int .i64 ((m1 : Int) + 2))).setCell ⟨g, j * 13 + 11, none⟩ (.int .i64 ((m1 : Int) + 3))).heap.size := hb5.lt
      have hx1 : IntKind.i64.wrap ((m1 : Int) + 1) = (m1 : Int) + 1 := by rw [IntWalk.i64_in _ ⟨by omega, by omega⟩]; try omega
      have hx2 : IntKind.i64.wrap ((m1 : Int) + 1 + 1) = (m1 : Int) + 2 := by rw [IntWalk.i64_in _ ⟨by omega, by omega⟩]; try omega
      have hx3 : IntKind.i64.wrap ((m1 : Int) + 2 + 1) = (m1 : Int) + 3 := by rw [IntWalk.i64_in _ ⟨by omega, by omega⟩]; try omega
      have hx4 : IntKind.i64.wrap ((m1 : Int) + 3 + 1) = ((m1 + 4 : Nat) : Int) := by rw [IntWalk.i64_in _ ⟨by omega, by omega⟩]; try omega
      have HB5 := Lib.hid hb5
      have HK5 := Lib.hid (KK1.out.trans (hk5.mono (fun x hx => by rw [List.mem_singleton.1 hx]; exact List.mem_cons_self ..)))
      have HO5 := Lib.hid ho5
      have HO6 := Lib.hid ho6
      clear hb5 hk5 ho5 ho6 hm1
      go_wp2_with fail
      refine (markByteS_wide (.slice C1 m.length d1) m 0 (m1 + 4) _ (by omega) (by omega) (by exact HO5.out)).mono ?_
      rintro e w2 ⟨rfl, how2, hgr⟩
      have hkb := Keeps.of_grown hgr
      have hgr2 : g ∉ (Value.slice C1 m.length d1).ownBlock.toList := fun hq => HGN.out (by rw [HFP.out]; exact List.mem_append.2 (.inr hq))
      have hb7 := HB5.out.of_block (hkb.block g hgl hgr2)
      have ho7 := HO6.out.keeps hkb (fun q hq h9 => HDJ.out q hq q h9 rfl)
      have hk7 := HK5.out.trans (hkb.mono (fun x hx => List.mem_cons_of_mem _ (by rw [HFP.out]; exact List.mem_append.2 (.inr hx))))
      have hmem : ∀ x ∈ g :: fi, x ∈ fp := fun x hx => by
        rcases List.mem_cons.1 hx with e | hx
        · rw [e]; exact hgf
        · exact (HFI.out x hx).1
      have hla : l.length = (marks (m0 + 7) l.length).length := (marks_length _ _).symm
      have hma : m.length = (marks (m1 + 4) m.length).length := (marks_length _ _).symm
      have hnew := HPUT.out w2 ((m0 : Int), (m0 : Int) + 1, ((m0 : Int) + 2, (m0 : Int) + 3, (m0 : Int) + 4, (m0 : Int) + 5, (m0 : Int) + 6, marks (m0 + 7) l.length), (m1 : Int), ((m1 : Int) + 1, (m1 : Int) + 2, (m1 : Int) + 3, marks (m1 + 4) m.length)) [.int .i64 ((m0 : Int)), .int .i64 ((m0 : Int) + 1), .int .i64 ((m0 : Int) + 2), .int .i64 ((m0 : Int) + 3), .int .i64 ((m0 : Int) + 4), .int .i64 ((m0 : Int) + 5), .int .i64 ((m0 : Int) + 6), .slice A1 l.length c1, .int .i64 ((m1 : Int)), .int .i64 ((m1 : Int) + 1), .int .i64 ((m1 : Int) + 2), .int .i64 ((m1 : Int) + 3), .slice C1 m.length d1] _ rfl hk7 hb7 (by simp) (by
          intro q hq
          have hq4 : q < 13 := hq
          match q, hq4 with
          | 0, _ => (first | (simp [Array.getElem?_setIfInBounds]; done) | (simp [Array.getElem?_setIfInBounds]; omega))
          | 1, _ => (first | (simp [Array.getElem?_setIfInBounds]; done) | (simp [Array.getElem?_setIfInBounds]; omega))
          | 2, _ => (first | (simp [Array.getElem?_setIfInBounds]; done) | (simp [Array.getElem?_setIfInBounds]; omega))
          | 3, _ => (first | (simp [Array.getElem?_setIfInBounds]; done) | (simp [Array.getElem?_setIfInBounds]; omega))
          | 4, _ => (first | (simp [Array.getElem?_setIfInBounds]; done) | (simp [Array.getElem?_setIfInBounds]; omega))
          | 5, _ => (first | (simp [Array.getElem?_setIfInBounds]; done) | (simp [Array.getElem?_setIfInBounds]; omega))
          | 6, _ => (first | (simp [Array.getElem?_setIfInBounds]; done) | (simp [Array.getElem?_setIfInBounds]; omega))
          | 7, _ => rw [Array.getElem?_setIfInBounds, if_neg (by omega), Array.getElem?_setIfInBounds, if_neg (by omega), Array.getElem?_setIfInBounds, if_neg (by omega), Array.getElem?_setIfInBounds, if_neg (by omega), Array.getElem?_setIfInBounds, if_neg (by omega), Array.getElem?_setIfInBounds, if_neg (by omega), Array.getElem?_setIfInBounds, if_neg (by omega), Array.getElem?_setIfInBounds, if_neg (by omega), Array.getElem?_setIfInBounds, if_neg (by omega), Array.getElem?_setIfInBounds, if_neg (by omega), Array.getElem?_setIfInBounds, if_neg (by omega)]; exact EE7.out
          | 8, _ => (first | (simp [Array.getElem?_setIfInBounds]; done) | (simp [Array.getElem?_setIfInBounds]; omega))
          | 9, _ => (first | (simp [Array.getElem?_setIfInBounds]; done) | (simp [Array.getElem?_setIfInBounds]; omega))
          | 10, _ => (first | (simp [Array.getElem?_setIfInBounds]; done) | (simp [Array.getElem?_setIfInBounds]; omega))
          | 11, _ => (first | (simp [Array.getElem?_setIfInBounds]; done) | (simp [Array.getElem?_setIfInBounds]; omega))
          | 12, _ => rw [Array.getElem?_setIfInBounds, if_neg (by omega), Array.getElem?_setIfInBounds, if_neg (by omega), Array.getElem?_setIfInBounds, if_neg (by omega), Array.getElem?_setIfInBounds, if_neg (by omega), Array.getElem?_setIfInBounds, if_neg (by omega), Array.getElem?_setIfInBounds, if_neg (by omega), Array.getElem?_setIfInBounds, if_neg (by omega), Array.getElem?_setIfInBounds, if_neg (by omega), Array.getElem?_setIfInBounds, if_neg (by omega), Array.getElem?_setIfInBounds, if_neg (by omega), Array.getElem?_setIfInBounds, if_neg (by omega)]; exact EE12.out) (by
          intro q hq
          rw [Array.getElem?_setIfInBounds, if_neg (by omega), Array.getElem?_setIfInBounds, if_neg (by omega), Array.getElem?_setIfInBounds, if_neg (by omega), Array.getElem?_setIfInBounds, if_neg (by omega), Array.getElem?_setIfInBounds, if_neg (by omega), Array.getElem?_setIfInBounds, if_neg (by omega), Array.getElem?_setIfInBounds, if_neg (by omega), Array.getElem?_setIfInBounds, if_neg (by omega), Array.getElem?_setIfInBounds, if_neg (by omega), Array.getElem?_setIfInBounds, if_neg (by omega), Array.getElem?_setIfInBounds, if_neg (by omega)]) (by
          rw [HFP.out]
          exact own_outv (base := 0) ⟨by omega, by omega⟩ ⟨by omega, by omega⟩ ⟨by omega, by omega⟩ ⟨by omega, by omega⟩ ⟨by omega, by omega⟩ ⟨by omega, by omega⟩ ⟨by omega, by omega⟩ ⟨by omega, by omega⟩ ⟨by omega, by omega⟩ ⟨by omega, by omega⟩ ⟨by omega, by omega⟩ ho7 how2)
      have HN := Lib.hid hnew
      have HMP := Lib.hid (HTX.out ((m0 : Int), (m0 : Int) + 1, ((m0 : Int) + 2, (m0 : Int) + 3, (m0 : Int) + 4, (m0 : Int) + 5, (m0 : Int) + 6, marks (m0 + 7) l.length), (m1 : Int), ((m1 : Int) + 1, (m1 : Int) + 2, (m1 : Int) + 3, marks (m1 + 4) m.length)) hla.symm hma.symm)
      have HK9 := Lib.hid (HKE.out.trans (hk7.mono hmem))
      have hnx : m1 + 4 + m.length = nOt k (es.take (j + 1)) := by have h1 : nOt k (es.take (j + 1)) = m0 + 11 + l.length + m.length := HNT.out; have h2 : m0 + 7 + l.length = m1 := HM1.out; omega
      rw [hnx]
      clear hy8 f8 hy9 f9 hy10 f10 hy11 f11 u12 hb7 hk7 hnew hkb how2 hgr hnx hmem ho7 hla hma hx1 hx2 hx3 hx4
      go_wp2
      go_roundw
      case rel => exact ⟨j + 1, _, by omega, by go_num, by first | rfl | go_num, HMP.out, HN.out, HK9.out⟩
      case measure => simp [intOf]; omega
    · have e : j = es.length := by omega
      subst e
      rw [List.take_length]
      go_wp2
      go_ret
      exact ⟨rfl, hke⟩

end Go.Proofs.YtgpjjolgpppeeaaDoor

/-
  Chapter 12, the laws' marks on lists of actions, told as owning; the reading of the marks; equality of lists of actions: contracts. Own work.
-/
namespace Go.Proofs.YtgpjjolgpppeeaaDoor
open Go.RowKit P
set_option linter.unusedVariables false
set_option linter.unusedSimpArgs false
set_option maxRecDepth 100000

theorem sumB_take_le27 {α : Type} (f : α → Nat) (es : List α) (j : Nat) : sumB f (es.take j) ≤ sumB f es := by
  unfold sumB
  have h : es.map f = (es.take j).map f ++ (es.drop j).map f := by rw [← List.map_append, List.take_append_drop]
  rw [h, List.sum_append]
  omega
def abt (a : At) : Nat := a.2.2.2.2.2.2.2.2.length
def Acs (w : World) (A : Option Addr) (es : List At) : Prop := Sl 9 Lay.actL.rd w A es
theorem Acs.below {w w' : World} {A : Option Addr} {es : List At} (h : Acs w A es) (hb : Below w.heap.size w w') : Acs w' A es := Sl.below (E := Lay.actL) h hb
theorem Lay.actL_rd {w : World} {cs : List Value} {k n b x s p q r : Int} {l : List UInt8} (h : Lay.actL.rd w cs (k, n, b, x, s, p, q, r, l)) : ∃ A c, cs = [.int .i64 k, .int .i64 n, .int .i64 b, .int .i64 x, .int .i64 s, .int .i64 p, .int .i64 q, .int .i64 r, .slice A l.length c] ∧ l.length ≤ c ∧ c ≤ maxLen ∧ Bs w A l := by
  obtain ⟨_, _, rfl, ⟨rfl, _⟩, _, _, rfl, ⟨rfl, _⟩, _, _, rfl, ⟨rfl, _⟩, _, _, rfl, ⟨rfl, _⟩, _, _, rfl, ⟨rfl, _⟩, _, _, rfl, ⟨rfl, _⟩, _, _, rfl, ⟨rfl, _⟩, _, _, rfl, ⟨rfl, _⟩, A, c, rfl, h1, h2, hB⟩ := h
  exact ⟨A, c, rfl, h1, h2, hB⟩
theorem Acs.at_ {w : World} {A0 : Option Addr} {es : List At} (h : Acs w A0 es) (z : Nat) (hk : z < es.length) :
    ∃ g off k n b x s p q r A l c, A0 = some ⟨g, off, none⟩ ∧ g < w.heap.size ∧ es[z] = (k, n, b, x, s, p, q, r, l) ∧ w.cell? ⟨g, off + z * 9, none⟩ = some (.int .i64 k) ∧ w.cell? ⟨g, off + z * 9 + 1, none⟩ = some (.int .i64 n) ∧ w.cell? ⟨g, off + z * 9 + 2, none⟩ = some (.int .i64 b) ∧ w.cell? ⟨g, off + z * 9 + 3, none⟩ = some (.int .i64 x) ∧ w.cell? ⟨g, off + z * 9 + 4, none⟩ = some (.int .i64 s) ∧ w.cell? ⟨g, off + z * 9 + 5, none⟩ = some (.int .i64 p) ∧ w.cell? ⟨g, off + z * 9 + 6, none⟩ = some (.int .i64 q) ∧ w.cell? ⟨g, off + z * 9 + 7, none⟩ = some (.int .i64 r) ∧ w.cell? ⟨g, off + z * 9 + 8, none⟩ = some (.slice A l.length c) ∧ l.length ≤ c ∧ c ≤ maxLen ∧ Bs w A l := by
  obtain ⟨g, off, us, hA, hlt, hus, hc, hr⟩ := h z hk
  obtain ⟨⟨k, n, b, x, s, p, q, r, l⟩, he⟩ : ∃ e, es[z] = e := ⟨_, rfl⟩
  rw [he] at hr
  obtain ⟨A, c, rfl, hl0, hc0, hb0⟩ := Lay.actL_rd hr
  refine ⟨g, off, k, n, b, x, s, p, q, r, A, l, c, hA, hlt, he, ?_, ?_, ?_, ?_, ?_, ?_, ?_, ?_, ?_, hl0, hc0, hb0⟩
  · have := hc 0 (by simp); simpa using this
  · have := hc 1 (by simp); simpa [Nat.add_assoc] using this
  · have := hc 2 (by simp); simpa [Nat.add_assoc] using this
  · have := hc 3 (by simp); simpa [Nat.add_assoc] using this
  · have := hc 4 (by simp); simpa [Nat.add_assoc] using this
  · have := hc 5 (by simp); simpa [Nat.add_assoc] using this
  · have := hc 6 (by simp); simpa [Nat.add_assoc] using this
  · have := hc 7 (by simp); simpa [Nat.add_assoc] using this
  · have := hc 8 (by simp); simpa [Nat.add_assoc] using this
theorem actL_inv {w : World} {cs : List Value} {d : At} {fp : List Nat} (h : Lay.actL.ow w cs d fp) : ∃ v, cs = [.int .i64 d.1, .int .i64 d.2.1, .int .i64 d.2.2.1, .int .i64 d.2.2.2.1, .int .i64 d.2.2.2.2.1, .int .i64 d.2.2.2.2.2.1, .int .i64 d.2.2.2.2.2.2.1, .int .i64 d.2.2.2.2.2.2.2.1, v] ∧ Own w 0 v d.2.2.2.2.2.2.2.2 ∧ fp = v.ownBlock.toList := by
  obtain ⟨_, _, _, _, rfl, ⟨rfl, _, rfl⟩, ⟨_, _, _, _, rfl, ⟨rfl, _, rfl⟩, ⟨_, _, _, _, rfl, ⟨rfl, _, rfl⟩, ⟨_, _, _, _, rfl, ⟨rfl, _, rfl⟩, ⟨_, _, _, _, rfl, ⟨rfl, _, rfl⟩, ⟨_, _, _, _, rfl, ⟨rfl, _, rfl⟩, ⟨_, _, _, _, rfl, ⟨rfl, _, rfl⟩, ⟨_, _, _, _, rfl, ⟨rfl, _, rfl⟩, ⟨v, rfl, ho, rfl⟩, rfl⟩, rfl⟩, rfl⟩, rfl⟩, rfl⟩, rfl⟩, rfl⟩, rfl⟩ := h
  exact ⟨v, rfl, ho, by simp⟩
theorem own_actv {w : World} {base : Nat} {k n b x s p q r : Int} {v : Value} {l : List UInt8} (g0 : isI k) (g1 : isI n) (g2 : isI b) (h0 : isI x) (h1 : isI s) (h2 : isI p) (h3 : isI q) (h4 : isI r) (h : Own w base v l) : Lay.actL.ow w [.int .i64 k, .int .i64 n, .int .i64 b, .int .i64 x, .int .i64 s, .int .i64 p, .int .i64 q, .int .i64 r, v] (k, n, b, x, s, p, q, r, l) v.ownBlock.toList := by
  obtain ⟨A, c, rfl, _, _, _⟩ := h.form
  exact own_act g0 g1 g2 h0 h1 h2 h3 h4 h
/-- A list behind markActS. -/
def mkA (m : Nat) (c : At) : At := ((m : Int), (m : Int) + 1, (m : Int) + 2, (m : Int) + 3, (m : Int) + 4, (m : Int) + 5, (m : Int) + 6, (m : Int) + 7, marks (m + 8) c.2.2.2.2.2.2.2.2.length)
def nA (k : Nat) (es : List At) : Nat := k + 8 * es.length + sumB abt es
def markedA (k : Nat) : List At → List At
  | [] => []
  | c :: t => mkA k c :: markedA (k + 8 + c.2.2.2.2.2.2.2.2.length) t
theorem markedA_length (es : List At) : ∀ k, (markedA k es).length = es.length := by
  induction es with
  | nil => intro k; rfl
  | cons c t ih => intro k; simp [markedA, ih]
theorem nA_take (k : Nat) (es : List At) (j : Nat) (h : j < es.length) : nA k (es.take (j + 1)) = nA k (es.take j) + 8 + es[j].2.2.2.2.2.2.2.2.length := by
  have h1 := sumB_take abt es j h
  have h2 : (es.take (j + 1)).length = j + 1 := by rw [List.length_take]; omega
  have h3 : (es.take j).length = j := by rw [List.length_take]; omega
  have h4 : abt es[j] = es[j].2.2.2.2.2.2.2.2.length := rfl
  unfold nA
  rw [h1, h2, h3, h4]
  omega
theorem nA_le (k : Nat) (es : List At) (j : Nat) : nA k (es.take j) ≤ nA k es := by
  have h1 := sumB_take_le27 abt es j
  have h2 : (es.take j).length ≤ es.length := by rw [List.length_take]; omega
  unfold nA
  omega
theorem markedA_snoc (es : List At) : ∀ (k j : Nat) (h : j < es.length), markedA k (es.take (j + 1)) = markedA k (es.take j) ++ [mkA (nA k (es.take j)) es[j]] := by
  induction es with
  | nil => intro k j h; simp at h
  | cons c t ih =>
    intro k j h
    cases j with
    | zero => simp [markedA, nA, sumB]
    | succ j =>
      have h9 := ih (k + 8 + c.2.2.2.2.2.2.2.2.length) j (by simpa using h)
      have hn : nA (k + 8 + c.2.2.2.2.2.2.2.2.length) (t.take j) = nA k ((c :: t).take (j + 1)) := by
        unfold nA sumB abt
        simp
        omega
      rw [List.take_succ_cons, List.take_succ_cons]
      simp only [markedA, List.getElem_cons_succ, List.cons_append, h9]
      rw [hn]
      rfl
theorem markedA_step (k : Nat) (es : List At) (j : Nat) (h : j < es.length) : (markedA k (es.take j) ++ es.drop j).set j (mkA (nA k (es.take j)) es[j]) = markedA k (es.take (j + 1)) ++ es.drop (j + 1) := by
  have hl : (markedA k (es.take j)).length = j := by rw [markedA_length, List.length_take]; omega
  rw [List.drop_eq_getElem_cons h, List.set_append_right _ _ (by omega), hl, Nat.sub_self, List.set_cons_zero, markedA_snoc es k j h, List.append_assoc, List.singleton_append]

set_option maxHeartbeats 8000000 in
theorem markActS_any (A : Option Addr) (c : Nat) (es : List At) (fp : List Nat) (k : Nat) (w : World) (hk : k + 8 * es.length + sumB abt es ≤ 8000000) (hn : fp.Nodup) (h : Lay.acts.ow w [.slice A es.length c] es fp) :
    Calls Tryd.prog 28 #[.slice A es.length c, .int .i64 (k : Int)] w fun e w' => e = .returned (.int .i64 (nA k es : Int)) ∧ Lay.acts.ow w' [.slice A es.length c] (markedA k es) fp ∧ Keeps fp w w' := by
  go_enter Tryd.func28, Tryd.ntmps28
  go_wp2
  go_loopw [1, 5] (fun kk i wr => ∃ j : Nat, j ≤ es.length ∧ i = .int .i64 j ∧ kk = .int .i64 (nA k (es.take j) : Int) ∧ Lay.acts.ow wr [.slice A es.length c] (markedA k (es.take j) ++ es.drop j) fp ∧ Keeps fp w wr) (fun _ i _ => es.length - (intOf i).toNat)
  case atStart => exact ⟨0, Nat.zero_le _, rfl, by simp [nA, sumB], by simpa [markedA] using h, Keeps.refl _ _⟩
  case round =>
    obtain ⟨j, hj, rfl, rfl, how, hke⟩ := hrel
    by_cases hlt : j < es.length
    · have hlE : (markedA k (es.take j) ++ es.drop j).length = es.length := by rw [List.length_append, markedA_length, List.length_take, List.length_drop]; omega
      have hll : j < (markedA k (es.take j) ++ es.drop j).length := by rw [hlE]; exact hlt
      obtain ⟨g, c', cur, us, fi, hv, hus, hblk, hcz, hcell, hoe, hni, hgf, hfi, hput⟩ := Lay.put (E := Lay.actL) how hn (by decide) j hll
      have hmid : (markedA k (es.take j) ++ es.drop j)[j] = es[j] := by
        rw [List.getElem_append_right (by rw [markedA_length, List.length_take]; omega)]
        simp [markedA_length, List.length_take, show min j es.length = j by omega]
      rw [hmid] at hoe
      rw [hlE] at hv hcz
      simp only [Value.slice.injEq, true_and] at hv
      obtain ⟨rfl, rfl⟩ := hv
      obtain ⟨v, hcs, hown, hfp⟩ := actL_inv hoe
      have hstep := markedA_step k es j hlt
      have hntk := nA_take k es j hlt
      have hnle := nA_le k es (j + 1)
      have hnb : nA k es ≤ 8000000 := hk
      obtain ⟨m, hm⟩ : ∃ m, nA k (es.take j) = m := ⟨_, rfl⟩
      rw [hm] at hstep hntk ⊢
      obtain ⟨p, hp⟩ : ∃ p, es[j].2.2.2.2.2.2.2.2 = p := ⟨_, rfl⟩
      have hmk : mkA m es[j] = ((m : Int), (m : Int) + 1, (m : Int) + 2, (m : Int) + 3, (m : Int) + 4, (m : Int) + 5, (m : Int) + 6, (m : Int) + 7, marks (m + 8) p.length) := by unfold mkA; rw [hp]
      rw [hmk] at hstep
      rw [hp] at hown hntk
      have c0 := hcell 0 (by rw [hcs]; simp)
      have c1 := hcell 1 (by rw [hcs]; simp)
      have c2 := hcell 2 (by rw [hcs]; simp)
      have c3 := hcell 3 (by rw [hcs]; simp)
      have c4 := hcell 4 (by rw [hcs]; simp)
      have c5 := hcell 5 (by rw [hcs]; simp)
      have c6 := hcell 6 (by rw [hcs]; simp)
      have c7 := hcell 7 (by rw [hcs]; simp)
      have c8 := hcell 8 (by rw [hcs]; simp)
      simp only [hcs, List.getElem_cons_zero, List.getElem_cons_succ] at c0 c1 c2 c3 c4 c5 c6 c7 c8
      have hsz4 : Lay.actL.sz = 9 := rfl
      rw [hsz4] at c0 c1 c2 c3 c4 c5 c6 c7 c8 hput hcz
      have hb4 : j * 9 + 9 ≤ cur.size := by omega
      obtain ⟨y0, hy0⟩ : ∃ y, wr.cell? ⟨g, j * 9, none⟩ = some y := ⟨_, (hblk.cell _).trans (by simpa using c0)⟩
      obtain ⟨y1, hy1⟩ : ∃ y, wr.cell? ⟨g, j * 9 + 1, none⟩ = some y := ⟨_, (hblk.cell _).trans (by simpa using c1)⟩
      obtain ⟨y2, hy2⟩ : ∃ y, wr.cell? ⟨g, j * 9 + 2, none⟩ = some y := ⟨_, (hblk.cell _).trans (by simpa using c2)⟩
      obtain ⟨y3, hy3⟩ : ∃ y, wr.cell? ⟨g, j * 9 + 3, none⟩ = some y := ⟨_, (hblk.cell _).trans (by simpa using c3)⟩
      obtain ⟨y4, hy4⟩ : ∃ y, wr.cell? ⟨g, j * 9 + 4, none⟩ = some y := ⟨_, (hblk.cell _).trans (by simpa using c4)⟩
      obtain ⟨y5, hy5⟩ : ∃ y, wr.cell? ⟨g, j * 9 + 5, none⟩ = some y := ⟨_, (hblk.cell _).trans (by simpa using c5)⟩
      obtain ⟨y6, hy6⟩ : ∃ y, wr.cell? ⟨g, j * 9 + 6, none⟩ = some y := ⟨_, (hblk.cell _).trans (by simpa using c6)⟩
      obtain ⟨y7, hy7⟩ : ∃ y, wr.cell? ⟨g, j * 9 + 7, none⟩ = some y := ⟨_, (hblk.cell _).trans (by simpa using c7)⟩
      have u8 : wr.cell? ⟨g, j * 9 + 8, none⟩ = some v := (hblk.cell _).trans c8
      have f0 := hblk.frozen (j * 9)
      have f1 := hblk.frozen (j * 9 + 1)
      have f2 := hblk.frozen (j * 9 + 2)
      have f3 := hblk.frozen (j * 9 + 3)
      have f4 := hblk.frozen (j * 9 + 4)
      have f5 := hblk.frozen (j * 9 + 5)
      have f6 := hblk.frozen (j * 9 + 6)
      have f7 := hblk.frozen (j * 9 + 7)
      have hb2 := ((((((((hblk.set (j * 9) (.int .i64 (m : Int))).set (j * 9 + 1) (.int .i64 ((m : Int) + 1))).set (j * 9 + 2) (.int .i64 ((m : Int) + 2))).set (j * 9 + 3) (.int .i64 ((m : Int) + 3))).set (j * 9 + 4) (.int .i64 ((m : Int) + 4))).set (j * 9 + 5) (.int .i64 ((m : Int) + 5))).set (j * 9 + 6) (.int .i64 ((m : Int) + 6))).set (j * 9 + 7) (.int .i64 ((m : Int) + 7)))
      have hk2 := (((((((((Keeps.refl (g :: fi) wr).put1 (List.mem_cons_self ..) (j * 9) (.int .i64 (m : Int))).put1 (List.mem_cons_self ..) (j * 9 + 1) (.int .i64 ((m : Int) + 1))).put1 (List.mem_cons_self ..) (j * 9 + 2) (.int .i64 ((m : Int) + 2))).put1 (List.mem_cons_self ..) (j * 9 + 3) (.int .i64 ((m : Int) + 3))).put1 (List.mem_cons_self ..) (j * 9 + 4) (.int .i64 ((m : Int) + 4))).put1 (List.mem_cons_self ..) (j * 9 + 5) (.int .i64 ((m : Int) + 5))).put1 (List.mem_cons_self ..) (j * 9 + 6) (.int .i64 ((m : Int) + 6))).put1 (List.mem_cons_self ..) (j * 9 + 7) (.int .i64 ((m : Int) + 7)))
      have ho2 : Own ((((((((wr.setCell ⟨g, j * 9, none⟩ (.int .i64 (m : Int))).setCell ⟨g, j * 9 + 1, none⟩ (.int .i64 ((m : Int) + 1))).setCell ⟨g, j * 9 + 2, none⟩ (.int .i64 ((m : Int) + 2))).setCell ⟨g, j * 9 + 3, none⟩ (.int .i64 ((m : Int) + 3))).setCell ⟨g, j * 9 + 4, none⟩ (.int .i64 ((m : Int) + 4))).setCell ⟨g, j * 9 + 5, none⟩ (.int .i64 ((m : Int) + 5))).setCell ⟨g, j * 9 + 6, none⟩ (.int .i64 ((m : Int) + 6))).setCell ⟨g, j * 9 + 7, none⟩ (.int .i64 ((m : Int) + 7))) 0 v p := hown.heap (fun q hq => by
        have hne : q ≠ g := (hfi q (by rw [hfp]; exact hq)).2
        rw [Below.heap_setCell _ _ _ _ (by simpa using hne), Below.heap_setCell _ _ _ _ (by simpa using hne), Below.heap_setCell _ _ _ _ (by simpa using hne), Below.heap_setCell _ _ _ _ (by simpa using hne), Below.heap_setCell _ _ _ _ (by simpa using hne), Below.heap_setCell _ _ _ _ (by simpa using hne), Below.heap_setCell _ _ _ _ (by simpa using hne), Below.heap_setCell _ _ _ _ (by simpa using hne)])
      have hgl : g < ((((((((wr.setCell ⟨g, j * 9, none⟩ (.int .i64 (m : Int))).setCell ⟨g, j * 9 + 1, none⟩ (.int .i64 ((m : Int) + 1))).setCell ⟨g, j * 9 + 2, none⟩ (.int .i64 ((m : Int) + 2))).setCell ⟨g, j * 9 + 3, none⟩ (.int .i64 ((m : Int) + 3))).setCell ⟨g, j * 9 + 4, none⟩ (.int .i64 ((m : Int) + 4))).setCell ⟨g, j * 9 + 5, none⟩ (.int .i64 ((m : Int) + 5))).setCell ⟨g, j * 9 + 6, none⟩ (.int .i64 ((m : Int) + 6))).setCell ⟨g, j * 9 + 7, none⟩ (.int .i64 ((m : Int) + 7))).heap.size := hb2.lt
      have hmb : m ≤ 8000000 := by omega
      have hpb : p.length ≤ 8000000 := by omega
      have hji : (j : Int) < (es.length : Int) := by omega
      have hw0 : IntKind.i64.wrap ((m : Int) + 1) = (m : Int) + 1 := by rw [IntWalk.i64_in _ ⟨by omega, by omega⟩]; try omega
      have hw1 : IntKind.i64.wrap ((m : Int) + 1 + 1) = (m : Int) + 2 := by rw [IntWalk.i64_in _ ⟨by omega, by omega⟩]; try omega
      have hw2 : IntKind.i64.wrap ((m : Int) + 2 + 1) = (m : Int) + 3 := by rw [IntWalk.i64_in _ ⟨by omega, by omega⟩]; try omega
      have hw3 : IntKind.i64.wrap ((m : Int) + 3 + 1) = (m : Int) + 4 := by rw [IntWalk.i64_in _ ⟨by omega, by omega⟩]; try omega
      have hw4 : IntKind.i64.wrap ((m : Int) + 4 + 1) = (m : Int) + 5 := by rw [IntWalk.i64_in _ ⟨by omega, by omega⟩]; try omega
      have hw5 : IntKind.i64.wrap ((m : Int) + 5 + 1) = (m : Int) + 6 := by rw [IntWalk.i64_in _ ⟨by omega, by omega⟩]; try omega
      have hw6 : IntKind.i64.wrap ((m : Int) + 6 + 1) = (m : Int) + 7 := by rw [IntWalk.i64_in _ ⟨by omega, by omega⟩]; try omega
      have hw7 : IntKind.i64.wrap ((m : Int) + 7 + 1) = ((m + 8 : Nat) : Int) := by rw [IntWalk.i64_in _ ⟨by omega, by omega⟩]; try omega
      have hcv : ((((((((cur.setIfInBounds (j * 9) (.int .i64 (m : Int))).setIfInBounds (j * 9 + 1) (.int .i64 ((m : Int) + 1))).setIfInBounds (j * 9 + 2) (.int .i64 ((m : Int) + 2))).setIfInBounds (j * 9 + 3) (.int .i64 ((m : Int) + 3))).setIfInBounds (j * 9 + 4) (.int .i64 ((m : Int) + 4))).setIfInBounds (j * 9 + 5) (.int .i64 ((m : Int) + 5))).setIfInBounds (j * 9 + 6) (.int .i64 ((m : Int) + 6))).setIfInBounds (j * 9 + 7) (.int .i64 ((m : Int) + 7)))[j * 9 + 8]? = some v := by
        rw [Array.getElem?_setIfInBounds, if_neg (by omega), Array.getElem?_setIfInBounds, if_neg (by omega), Array.getElem?_setIfInBounds, if_neg (by omega), Array.getElem?_setIfInBounds, if_neg (by omega), Array.getElem?_setIfInBounds, if_neg (by omega), Array.getElem?_setIfInBounds, if_neg (by omega), Array.getElem?_setIfInBounds, if_neg (by omega), Array.getElem?_setIfInBounds, if_neg (by omega)]; exact c8
      have HC3 := Lib.hid hcv
      have HO2 := Lib.hid ho2
      have HB2 := Lib.hid hb2
      have HK2 := Lib.hid hk2
      have HPUT := Lib.hid hput
      have HST := Lib.hid hstep
      have HNT := Lib.hid hntk
      have HKE := Lib.hid hke
      have HFI := Lib.hid hfi
      have HFP := Lib.hid hfp
      clear c0 c1 c2 c3 c4 c5 c6 c7 c8 ho2 hb2 hk2 hput hstep hntk hke hcell hoe hown how hmid hmk hp hcs hfi hfp hblk hm hcv
      go_wp2_with fail
      refine (markByteS_wide v p 0 (m + 8) _ (by omega) (by omega) (by exact HO2.out)).mono ?_
      rintro e w1 ⟨rfl, how1, hgr⟩
      have hkb := Keeps.of_grown hgr
      have hgv : g ∉ v.ownBlock.toList := fun hq => (HFI.out g (by rw [HFP.out]; exact hq)).2 rfl
      have hb1 := HB2.out.of_block (hkb.block g hgl hgv)
      have hk1 := HK2.out.trans (hkb.mono (fun x hx => List.mem_cons_of_mem _ (by rw [HFP.out]; exact hx)))
      have hmem : ∀ x ∈ g :: fi, x ∈ fp := fun x hx => by
        rcases List.mem_cons.1 hx with e | hx
        · rw [e]; exact hgf
        · exact (HFI.out x hx).1
      have hnew := HPUT.out w1 ((m : Int), (m : Int) + 1, (m : Int) + 2, (m : Int) + 3, (m : Int) + 4, (m : Int) + 5, (m : Int) + 6, (m : Int) + 7, marks (m + 8) p.length) [.int .i64 (m : Int), .int .i64 ((m : Int) + 1), .int .i64 ((m : Int) + 2), .int .i64 ((m : Int) + 3), .int .i64 ((m : Int) + 4), .int .i64 ((m : Int) + 5), .int .i64 ((m : Int) + 6), .int .i64 ((m : Int) + 7), v] _ rfl hk1 hb1 (by simp) (by
          intro q hq
          have hq4 : q < 9 := hq
          match q, hq4 with
          | 0, _ => (first | (simp [Array.getElem?_setIfInBounds]; done) | (simp [Array.getElem?_setIfInBounds]; omega))
          | 1, _ => (first | (simp [Array.getElem?_setIfInBounds]; done) | (simp [Array.getElem?_setIfInBounds]; omega))
          | 2, _ => (first | (simp [Array.getElem?_setIfInBounds]; done) | (simp [Array.getElem?_setIfInBounds]; omega))
          | 3, _ => (first | (simp [Array.getElem?_setIfInBounds]; done) | (simp [Array.getElem?_setIfInBounds]; omega))
          | 4, _ => (first | (simp [Array.getElem?_setIfInBounds]; done) | (simp [Array.getElem?_setIfInBounds]; omega))
          | 5, _ => (first | (simp [Array.getElem?_setIfInBounds]; done) | (simp [Array.getElem?_setIfInBounds]; omega))
          | 6, _ => (first | (simp [Array.getElem?_setIfInBounds]; done) | (simp [Array.getElem?_setIfInBounds]; omega))
          | 7, _ => (first | (simp [Array.getElem?_setIfInBounds]; done) | (simp [Array.getElem?_setIfInBounds]; omega))
          | 8, _ => exact HC3.out) (by
          intro q hq
          rw [Array.getElem?_setIfInBounds, if_neg (by omega), Array.getElem?_setIfInBounds, if_neg (by omega), Array.getElem?_setIfInBounds, if_neg (by omega), Array.getElem?_setIfInBounds, if_neg (by omega), Array.getElem?_setIfInBounds, if_neg (by omega), Array.getElem?_setIfInBounds, if_neg (by omega), Array.getElem?_setIfInBounds, if_neg (by omega), Array.getElem?_setIfInBounds, if_neg (by omega)]) (by
          rw [HFP.out]
          exact own_actv (l := marks (m + 8) p.length) (base := 0) ⟨by omega, by omega⟩ ⟨by omega, by omega⟩ ⟨by omega, by omega⟩ ⟨by omega, by omega⟩ ⟨by omega, by omega⟩ ⟨by omega, by omega⟩ ⟨by omega, by omega⟩ ⟨by omega, by omega⟩ how1)
      rw [HST.out] at hnew
      have HN := Lib.hid hnew
      have HK9 := Lib.hid (HKE.out.trans (hk1.mono hmem))
      have hnx : m + 8 + p.length = nA k (es.take (j + 1)) := HNT.out.symm
      rw [hnx]
      clear hy0 f0 hy1 f1 hy2 f2 hy3 f3 hy4 f4 hy5 f5 hy6 f6 hy7 f7 u8 hb1 hk1 hnew hkb how1 hgr hnx hmem
      go_wp2
      go_roundw
      case rel => exact ⟨j + 1, by omega, by go_num, by first | rfl | go_num, HN.out, HK9.out⟩
      case measure => simp [intOf]; omega
    · have e : j = es.length := by omega
      subst e
      rw [List.take_length, List.drop_length, List.append_nil] at how
      rw [List.take_length]
      go_wp2
      go_ret
      exact ⟨rfl, how, hke⟩

theorem markedA_get (es : List At) : ∀ (k j : Nat) (h : j < es.length), (markedA k es)[j]'(by rw [markedA_length]; exact h) = mkA (nA k (es.take j)) es[j] := by
  intro k j h
  have hs := markedA_snoc es k j h
  have h2 : markedA k (es.take (j + 1)) = (markedA k es).take (j + 1) := by
    clear hs h
    induction es generalizing k j with
    | nil => simp [markedA]
    | cons c t ih =>
      rw [List.take_succ_cons]
      simp only [markedA, List.take_succ_cons]
      cases j with
      | zero => simp [markedA]
      | succ j => rw [ih (k + 8 + c.2.2.2.2.2.2.2.2.length) j]
  have h3 : (markedA k (es.take (j + 1)))[j]? = some (mkA (nA k (es.take j)) es[j]) := by
    rw [hs, List.getElem?_append_right (by rw [markedA_length, List.length_take]; omega)]
    simp [markedA_length, List.length_take, show min j es.length = j by omega]
  rw [h2, List.getElem?_take, if_pos (by omega), List.getElem?_eq_getElem (by rw [markedA_length]; exact h)] at h3
  exact Option.some.inj h3

set_option maxHeartbeats 8000000 in
theorem heldActS_any (A : Option Addr) (es : List At) (c k : Nat) (w : World) (hk : nA k es ≤ 1900000) (hE : Acs w A (markedA k es)) :
    Calls Tryd.prog 29 #[.slice A es.length c, .int .i64 (k : Int)] w fun e w' => e = .returned (.int .i64 (nA k es : Int)) ∧ Below w.heap.size w w' := by
  have hlen9 : es.length ≤ 1900000 := by
    have h9 := hk
    unfold nA at h9
    omega
  go_enter Tryd.func29, Tryd.ntmps29
  go_wp2
  go_loopw [1, 5] (fun kk i wr => ∃ j : Nat, j ≤ es.length ∧ i = .int .i64 j ∧ kk = .int .i64 (nA k (es.take j) : Int) ∧ Below w.heap.size w wr) (fun _ i _ => es.length - (intOf i).toNat)
  case atStart => exact ⟨0, Nat.zero_le _, rfl, by simp [nA, sumB], Below.refl _ _⟩
  case round =>
    obtain ⟨j, hj, rfl, rfl, hb⟩ := hrel
    by_cases hlt : j < es.length
    · obtain ⟨b, off, a0, a1, a2, a3, a4, a5, a6, a7, P, p, ep, rfl, hbl, hek, k0, k1, k2, k3, k4, k5, k6, k7, k8, hpd, hdm, hBp⟩ := (hE.below hb).at_ j (by rw [markedA_length]; exact hlt)
      rw [markedA_get es k j hlt] at hek
      unfold mkA at hek
      simp only [Prod.mk.injEq] at hek
      obtain ⟨rfl, rfl, rfl, rfl, rfl, rfl, rfl, rfl, rfl⟩ := hek
      have hntk := nA_take k es j hlt
      have hnle := nA_le k es (j + 1)
      obtain ⟨q, hq⟩ : ∃ q, nA k (es.take j) = q := ⟨_, rfl⟩
      rw [hq] at k0 k1 k2 k3 k4 k5 k6 k7 k8 hBp hntk ⊢
      rw [marks_length] at k8
      obtain ⟨n, hnn⟩ : ∃ n, es[j].2.2.2.2.2.2.2.2.length = n := ⟨_, rfl⟩
      rw [hnn] at k8 hBp hntk
      have HBP := Lib.hid hBp
      have HB := Lib.hid hb
      have hji : (j : Int) < (es.length : Int) := by omega
      have hqb : q + 8 ≤ 2000000 := by omega
      have hnb : n ≤ 2000000 := by omega
      have hw0 : IntKind.i64.wrap ((q : Int) + 1) = (q : Int) + 1 := by rw [IntWalk.i64_in _ ⟨by omega, by omega⟩]; try omega
      have hw1 : IntKind.i64.wrap ((q : Int) + 1 + 1) = (q : Int) + 2 := by rw [IntWalk.i64_in _ ⟨by omega, by omega⟩]; try omega
      have hw2 : IntKind.i64.wrap ((q : Int) + 2 + 1) = (q : Int) + 3 := by rw [IntWalk.i64_in _ ⟨by omega, by omega⟩]; try omega
      have hw3 : IntKind.i64.wrap ((q : Int) + 3 + 1) = (q : Int) + 4 := by rw [IntWalk.i64_in _ ⟨by omega, by omega⟩]; try omega
      have hw4 : IntKind.i64.wrap ((q : Int) + 4 + 1) = (q : Int) + 5 := by rw [IntWalk.i64_in _ ⟨by omega, by omega⟩]; try omega
      have hw5 : IntKind.i64.wrap ((q : Int) + 5 + 1) = (q : Int) + 6 := by rw [IntWalk.i64_in _ ⟨by omega, by omega⟩]; try omega
      have hw6 : IntKind.i64.wrap ((q : Int) + 6 + 1) = (q : Int) + 7 := by rw [IntWalk.i64_in _ ⟨by omega, by omega⟩]; try omega
      have hw7 : IntKind.i64.wrap ((q : Int) + 7 + 1) = ((q + 8 : Nat) : Int) := by rw [IntWalk.i64_in _ ⟨by omega, by omega⟩]; try omega
      have hnx : q + 8 + n = nA k (es.take (j + 1)) := hntk.symm
      have HNX := Lib.hid hnx
      have hneg : ¬ ((nA k (es.take (j + 1)) : Nat) : Int) < 0 := by omega
      have e0 : ((q : Int) != (q : Int)) = false := by simp
      have e1 : ((q : Int) + 1 != (q : Int) + 1) = false := by simp
      have e2 : ((q : Int) + 2 != (q : Int) + 2) = false := by simp
      have e3 : ((q : Int) + 3 != (q : Int) + 3) = false := by simp
      have e4 : ((q : Int) + 4 != (q : Int) + 4) = false := by simp
      have e5 : ((q : Int) + 5 != (q : Int) + 5) = false := by simp
      have e6 : ((q : Int) + 6 != (q : Int) + 6) = false := by simp
      have e7 : ((q : Int) + 7 != (q : Int) + 7) = false := by simp
      clear hBp hb hntk hnx hnn hq hpd hdm
      go_wp2_with fail
      refine (heldByteS_any P n ep (q + 8) _ hqb hnb HBP.out).mono ?_
      rintro e w1 ⟨rfl, rfl⟩
      rw [HNX.out]
      go_wp2
      go_roundw
      case rel => exact ⟨j + 1, by omega, by go_num, by first | rfl | go_num, HB.out⟩
      case measure => simp [intOf]; omega
    · have e : j = es.length := by omega
      subst e
      rw [List.take_length]
      go_wp2
      go_ret
      exact ⟨rfl, hb⟩

set_option maxHeartbeats 8000000 in
theorem eqActS_same (A0 B0 : Option Addr) (es : List At) (c d : Nat) (w : World) (hn : es.length ≤ 9223372036854775807) (hA : Acs w A0 es) (hB : Acs w B0 es) :
    Calls Tryd.prog 25 #[.slice A0 es.length c, .slice B0 es.length d] w fun e w' => e = .returned (.bool true) ∧ Below w.heap.size w w' := by
  have e1 : ((es.length : Int) != (es.length : Int)) = false := by simp
  go_enter Tryd.func25, Tryd.ntmps25
  go_wp2
  go_loopw [5] (fun i wr => ∃ j : Nat, j ≤ es.length ∧ i = .int .i64 j ∧ Below w.heap.size w wr) (fun i _ => es.length - (intOf i).toNat)
  case atStart => exact ⟨0, Nat.zero_le _, rfl, Below.refl _ _⟩
  case round =>
    obtain ⟨j, hj, rfl, hb⟩ := hrel
    have HB := Lib.hid hb
    by_cases hlt : j < es.length
    · obtain ⟨b, off, a0, a1, a2, a3, a4, a5, a6, a7, P, p, ep, rfl, hbl, hek, k0, k1, k2, k3, k4, k5, k6, k7, k8, hpd, hdm, hBp⟩ := (hA.below hb).at_ j hlt
      obtain ⟨b', off', z0, z1, z2, z3, z4, z5, z6, z7, P', p', ep', rfl, hbl', hek', l0, l1, l2, l3, l4, l5, l6, l7, l8, hpd', hdm', hBp'⟩ := (hB.below hb).at_ j hlt
      rw [hek] at hek'
      simp only [Prod.mk.injEq] at hek'
      obtain ⟨rfl, rfl, rfl, rfl, rfl, rfl, rfl, rfl, rfl⟩ := hek'
      have HP := Lib.hid hBp
      have HP' := Lib.hid hBp'
      have hji : (j : Int) < (es.length : Int) := by omega
      have hj0 : (0 : Int) ≤ (j : Int) := by omega
      have hp9 : p.length ≤ 9223372036854775807 := by unfold maxLen at hdm; omega
      clear hBp hBp' hek hb hpd hdm hpd' hdm'
      go_wp2_with fail
      refine wp_region_held_drew (S := (fun V => V.cell? ⟨b, off + j * 9, none⟩ = some (.int .i64 a0) ∧ V.cell? ⟨b, off + j * 9 + 1, none⟩ = some (.int .i64 a1) ∧ V.cell? ⟨b, off + j * 9 + 2, none⟩ = some (.int .i64 a2) ∧ V.cell? ⟨b, off + j * 9 + 3, none⟩ = some (.int .i64 a3) ∧ V.cell? ⟨b, off + j * 9 + 4, none⟩ = some (.int .i64 a4) ∧ V.cell? ⟨b, off + j * 9 + 5, none⟩ = some (.int .i64 a5) ∧ V.cell? ⟨b, off + j * 9 + 6, none⟩ = some (.int .i64 a6) ∧ V.cell? ⟨b, off + j * 9 + 7, none⟩ = some (.int .i64 a7) ∧ V.cell? ⟨b, off + j * 9 + 8, none⟩ = some (.slice P p.length ep) ∧ V.cell? ⟨b', off' + j * 9, none⟩ = some (.int .i64 a0) ∧ V.cell? ⟨b', off' + j * 9 + 1, none⟩ = some (.int .i64 a1) ∧ V.cell? ⟨b', off' + j * 9 + 2, none⟩ = some (.int .i64 a2) ∧ V.cell? ⟨b', off' + j * 9 + 3, none⟩ = some (.int .i64 a3) ∧ V.cell? ⟨b', off' + j * 9 + 4, none⟩ = some (.int .i64 a4) ∧ V.cell? ⟨b', off' + j * 9 + 5, none⟩ = some (.int .i64 a5) ∧ V.cell? ⟨b', off' + j * 9 + 6, none⟩ = some (.int .i64 a6) ∧ V.cell? ⟨b', off' + j * 9 + 7, none⟩ = some (.int .i64 a7) ∧ V.cell? ⟨b', off' + j * 9 + 8, none⟩ = some (.slice P' p.length ep'))) (by kernel_rfl) (by exact ⟨k0, k1, k2, k3, k4, k5, k6, k7, k8, l0, l1, l2, l3, l4, l5, l6, l7, l8⟩) (fun hHeld => ?_)
      refine wpAnyH_take (i := 0) (oi := ?_) (v := ?_) ?_ ?_ ?_ ?_ ?_ ?_ (by exact hHeld) ?_
      rotate_left 2
      · (simp only [List.getElem?_toArray, List.getElem?_cons_zero]; try rfl)
      · kernel_rfl
      · kernel_rfl
      · kernel_rfl
      · exact fun _ _ _ h => h
      · refine Or.inl ⟨by rfl, ?_⟩
        (intro V hSV; (try dsimp only at hSV); obtain ⟨q0, q1, q2, q3, q4, q5, q6, q7, q8, q9, q10, q11, q12, q13, q14, q15, q16, q17⟩ := hSV; go_simp; try with_reducible rfl)
      (try simp only [Act.put, List.setIfInBounds_toArray, List.set_cons_zero, List.set_cons_succ])
      refine wpAnyH_take (i := 1) (oi := ?_) (v := ?_) ?_ ?_ ?_ ?_ ?_ ?_ (by exact hHeld) ?_
      rotate_left 2
      · (simp only [List.getElem?_toArray, List.getElem?_cons_zero, List.getElem?_cons_succ]; try rfl)
      · kernel_rfl
      · kernel_rfl
      · kernel_rfl
      · exact fun _ _ _ h => h
      · refine Or.inl ⟨by rfl, ?_⟩
        (intro V hSV; (try dsimp only at hSV); obtain ⟨q0, q1, q2, q3, q4, q5, q6, q7, q8, q9, q10, q11, q12, q13, q14, q15, q16, q17⟩ := hSV; go_simp; try with_reducible rfl)
      (try simp only [Act.put, List.setIfInBounds_toArray, List.set_cons_zero, List.set_cons_succ])
      refine wpAnyH_take (i := 2) (oi := ?_) (v := ?_) ?_ ?_ ?_ ?_ ?_ ?_ (by exact hHeld) ?_
      rotate_left 2
      · (simp only [List.getElem?_toArray, List.getElem?_cons_zero, List.getElem?_cons_succ]; try rfl)
      · kernel_rfl
      · kernel_rfl
      · kernel_rfl
      · exact fun _ _ _ h => h
      · refine Or.inl ⟨by rfl, ?_⟩
        (intro V hSV; (try dsimp only at hSV); obtain ⟨q0, q1, q2, q3, q4, q5, q6, q7, q8, q9, q10, q11, q12, q13, q14, q15, q16, q17⟩ := hSV; go_simp; try with_reducible rfl)
      (try simp only [Act.put, List.setIfInBounds_toArray, List.set_cons_zero, List.set_cons_succ])
      refine wpAnyH_take (i := 3) (oi := ?_) (v := ?_) ?_ ?_ ?_ ?_ ?_ ?_ (by exact hHeld) ?_
      rotate_left 2
      · (simp only [List.getElem?_toArray, List.getElem?_cons_zero, List.getElem?_cons_succ]; try rfl)
      · kernel_rfl
      · kernel_rfl
      · kernel_rfl
      · exact fun _ _ _ h => h
      · refine Or.inl ⟨by rfl, ?_⟩
        (intro V hSV; (try dsimp only at hSV); obtain ⟨q0, q1, q2, q3, q4, q5, q6, q7, q8, q9, q10, q11, q12, q13, q14, q15, q16, q17⟩ := hSV; go_simp; try with_reducible rfl)
      (try simp only [Act.put, List.setIfInBounds_toArray, List.set_cons_zero, List.set_cons_succ])
      refine wpAnyH_take (i := 4) (oi := ?_) (v := ?_) ?_ ?_ ?_ ?_ ?_ ?_ (by exact hHeld) ?_
      rotate_left 2
      · (simp only [List.getElem?_toArray, List.getElem?_cons_zero, List.getElem?_cons_succ]; try rfl)
      · kernel_rfl
      · kernel_rfl
      · kernel_rfl
      · exact fun _ _ _ h => h
      · refine Or.inl ⟨by rfl, ?_⟩
        (intro V hSV; (try dsimp only at hSV); obtain ⟨q0, q1, q2, q3, q4, q5, q6, q7, q8, q9, q10, q11, q12, q13, q14, q15, q16, q17⟩ := hSV; go_simp; try with_reducible rfl)
      (try simp only [Act.put, List.setIfInBounds_toArray, List.set_cons_zero, List.set_cons_succ])
      refine wpAnyH_take (i := 5) (oi := ?_) (v := ?_) ?_ ?_ ?_ ?_ ?_ ?_ (by exact hHeld) ?_
      rotate_left 2
      · (simp only [List.getElem?_toArray, List.getElem?_cons_zero, List.getElem?_cons_succ]; try rfl)
      · kernel_rfl
      · kernel_rfl
      · kernel_rfl
      · exact fun _ _ _ h => h
      · refine Or.inl ⟨by rfl, ?_⟩
        (intro V hSV; (try dsimp only at hSV); obtain ⟨q0, q1, q2, q3, q4, q5, q6, q7, q8, q9, q10, q11, q12, q13, q14, q15, q16, q17⟩ := hSV; go_simp; try with_reducible rfl)
      (try simp only [Act.put, List.setIfInBounds_toArray, List.set_cons_zero, List.set_cons_succ])
      refine wpAnyH_take (i := 6) (oi := ?_) (v := ?_) ?_ ?_ ?_ ?_ ?_ ?_ (by exact hHeld) ?_
      rotate_left 2
      · (simp only [List.getElem?_toArray, List.getElem?_cons_zero, List.getElem?_cons_succ]; try rfl)
      · kernel_rfl
      · kernel_rfl
      · kernel_rfl
      · exact fun _ _ _ h => h
      · refine Or.inl ⟨by rfl, ?_⟩
        (intro V hSV; (try dsimp only at hSV); obtain ⟨q0, q1, q2, q3, q4, q5, q6, q7, q8, q9, q10, q11, q12, q13, q14, q15, q16, q17⟩ := hSV; go_simp; try with_reducible rfl)
      (try simp only [Act.put, List.setIfInBounds_toArray, List.set_cons_zero, List.set_cons_succ])
      refine wpAnyH_take (i := 7) (oi := ?_) (v := ?_) ?_ ?_ ?_ ?_ ?_ ?_ (by exact hHeld) ?_
      rotate_left 2
      · (simp only [List.getElem?_toArray, List.getElem?_cons_zero, List.getElem?_cons_succ]; try rfl)
      · kernel_rfl
      · kernel_rfl
      · kernel_rfl
      · exact fun _ _ _ h => h
      · refine Or.inl ⟨by rfl, ?_⟩
        (intro V hSV; (try dsimp only at hSV); obtain ⟨q0, q1, q2, q3, q4, q5, q6, q7, q8, q9, q10, q11, q12, q13, q14, q15, q16, q17⟩ := hSV; go_simp; try with_reducible rfl)
      (try simp only [Act.put, List.setIfInBounds_toArray, List.set_cons_zero, List.set_cons_succ])
      refine wpAnyH_ready (rs := [8]) (by kernel_rfl) (by simp) ?_
      refine AllReadyH.cons rfl (fun K hK => ?_) AllReadyH.nil
      go_simp
      refine (eqAct_same a0 a1 a2 a3 a4 a5 a6 a7 P P' p ep ep' _ hp9 (by exact HP.out) (by exact HP'.out)).mono ?_
      rintro e w1 ⟨rfl, hbw1⟩
      have hbw1 : Below wr.heap.size wr w1 := ⟨hbw1.os, hbw1.tape, hbw1.output, hbw1.size, hbw1.block⟩
      have hbR := hbw1
      have HB1 := Lib.hid (below_then HB.out hbw1)
      go_wp2_with fail
      refine hK.out _ _ (by exact ⟨((hbR).cell (p := ⟨b, off + j * 9, none⟩) hbl).trans k0, ((hbR).cell (p := ⟨b, off + j * 9 + 1, none⟩) hbl).trans k1, ((hbR).cell (p := ⟨b, off + j * 9 + 2, none⟩) hbl).trans k2, ((hbR).cell (p := ⟨b, off + j * 9 + 3, none⟩) hbl).trans k3, ((hbR).cell (p := ⟨b, off + j * 9 + 4, none⟩) hbl).trans k4, ((hbR).cell (p := ⟨b, off + j * 9 + 5, none⟩) hbl).trans k5, ((hbR).cell (p := ⟨b, off + j * 9 + 6, none⟩) hbl).trans k6, ((hbR).cell (p := ⟨b, off + j * 9 + 7, none⟩) hbl).trans k7, ((hbR).cell (p := ⟨b, off + j * 9 + 8, none⟩) hbl).trans k8, ((hbR).cell (p := ⟨b', off' + j * 9, none⟩) hbl').trans l0, ((hbR).cell (p := ⟨b', off' + j * 9 + 1, none⟩) hbl').trans l1, ((hbR).cell (p := ⟨b', off' + j * 9 + 2, none⟩) hbl').trans l2, ((hbR).cell (p := ⟨b', off' + j * 9 + 3, none⟩) hbl').trans l3, ((hbR).cell (p := ⟨b', off' + j * 9 + 4, none⟩) hbl').trans l4, ((hbR).cell (p := ⟨b', off' + j * 9 + 5, none⟩) hbl').trans l5, ((hbR).cell (p := ⟨b', off' + j * 9 + 6, none⟩) hbl').trans l6, ((hbR).cell (p := ⟨b', off' + j * 9 + 7, none⟩) hbl').trans l7, ((hbR).cell (p := ⟨b', off' + j * 9 + 8, none⟩) hbl').trans l8⟩) (fun hHeld => ?_)
      clear hK K
      (try simp only [Act.put, List.setIfInBounds_toArray, List.set_cons_zero, List.set_cons_succ])
      refine wpAnyH_take (i := 9) (oi := ?_) (v := ?_) ?_ ?_ ?_ ?_ ?_ ?_ (by exact hHeld) ?_
      rotate_left 2
      · (simp only [List.getElem?_toArray, List.getElem?_cons_zero, List.getElem?_cons_succ]; try rfl)
      · kernel_rfl
      · kernel_rfl
      · kernel_rfl
      · exact fun _ _ _ h => h
      · refine Or.inl ⟨by rfl, ?_⟩
        (intro V hSV; (try dsimp only at hSV); obtain ⟨q0, q1, q2, q3, q4, q5, q6, q7, q8, q9, q10, q11, q12, q13, q14, q15, q16, q17⟩ := hSV; go_simp; try with_reducible rfl)
      (try simp only [Act.put, List.setIfInBounds_toArray, List.set_cons_zero, List.set_cons_succ])
      refine wpAnyH_done (by kernel_rfl) ?_ _

      clear hHeld k0 l0 k1 l1 k2 l2 k3 l3 k4 l4 k5 l5 k6 l6 k7 l7 k8 l8
      go_wp2
      go_roundw
      case rel => exact ⟨j + 1, by omega, by go_num, HB1.out⟩
      case measure => simp [intOf]; omega
    · have e : j = es.length := by omega
      subst e
      go_wp2
      go_ret
      exact ⟨rfl, hb⟩
end Go.Proofs.YtgpjjolgpppeeaaDoor

/-
  Chapter 12, the laws' marks on lists of events; the sizes of the actions that a run shows. Own work.
-/
namespace Go.Proofs.YtgpjjolgpppeeaaDoor
open Go.RowKit P
set_option linter.unusedVariables false
set_option linter.unusedSimpArgs false
set_option maxRecDepth 100000

set_option maxHeartbeats 4000000 in
theorem markEventS_any (A : Option Addr) (c : Nat) (es : List Rp) (fp : List Nat) (k : Nat) (w : World) (hk : k + 3 * es.length + rtot (rputs es) ≤ 8000000) (hn : fp.Nodup) (h : Lay.evts.ow w [.slice A es.length c] es fp) :
    Calls Tryd.prog 26 #[.slice A es.length c, .int .i64 (k : Int)] w fun e w' => e = .returned (.int .i64 (nR k es : Int)) ∧ Lay.evts.ow w' [.slice A es.length c] (markedR k es) fp ∧ Keeps fp w w' := by
  go_enter Tryd.func26, Tryd.ntmps26
  go_wp2
  go_loopw [1, 5] (fun kk i wr => ∃ j : Nat, j ≤ es.length ∧ i = .int .i64 j ∧ kk = .int .i64 (nR k (es.take j) : Int) ∧ Lay.evts.ow wr [.slice A es.length c] (markedR k (es.take j) ++ es.drop j) fp ∧ Keeps fp w wr) (fun _ i _ => es.length - (intOf i).toNat)
  case atStart => exact ⟨0, Nat.zero_le _, rfl, by simp [nR, rtot, rputs], by simpa [markedR] using h, Keeps.refl _ _⟩
  case round =>
    obtain ⟨j, hj, rfl, rfl, how, hke⟩ := hrel
    by_cases hlt : j < es.length
    · have hlE : (markedR k (es.take j) ++ es.drop j).length = es.length := by rw [List.length_append, markedR_length, List.length_take, List.length_drop]; omega
      have hll : j < (markedR k (es.take j) ++ es.drop j).length := by rw [hlE]; exact hlt
      obtain ⟨g, c', cur, us, fi, hv, hus, hblk, hcz, hcell, hoe, hni, hgf, hfi, hput⟩ := Lay.put (E := Lay.rpL) how hn (by decide) j hll
      have hmid : (markedR k (es.take j) ++ es.drop j)[j] = es[j] := by
        rw [List.getElem_append_right (by rw [markedR_length, List.length_take]; omega)]
        simp [markedR_length, List.length_take, show min j es.length = j by omega]
      rw [hmid] at hoe
      rw [hlE] at hv hcz
      simp only [Value.slice.injEq, true_and] at hv
      obtain ⟨rfl, rfl⟩ := hv
      obtain ⟨v, hcs, i0, i1, i2, hown, hfp⟩ := rpL_ow_inv hoe
      have hstep := markedR_step k es j hlt
      have hntk := nR_take k es j hlt
      have hnle := nR_le k es (j + 1)
      have hnb : nR k es ≤ 8000000 := hk
      obtain ⟨m, hm⟩ : ∃ m, nR k (es.take j) = m := ⟨_, rfl⟩
      rw [hm] at hstep hntk ⊢
      obtain ⟨p, hp⟩ : ∃ p, es[j].2.2.2 = p := ⟨_, rfl⟩
      have hmk : mkR m es[j] = ((m : Int), (m : Int) + 1, (m : Int) + 2, marks (m + 3) p.length) := by unfold mkR; rw [hp]
      rw [hmk] at hstep
      rw [hp] at hown hntk
      have c0 := hcell 0 (by rw [hcs]; simp)
      have c1 := hcell 1 (by rw [hcs]; simp)
      have c2 := hcell 2 (by rw [hcs]; simp)
      have c3 := hcell 3 (by rw [hcs]; simp)
      simp only [hcs, List.getElem_cons_zero, List.getElem_cons_succ] at c0 c1 c2 c3
      have hsz4 : Lay.rpL.sz = 4 := rfl
      rw [hsz4] at c0 c1 c2 c3 hput hcz
      have hb4 : j * 4 + 4 ≤ cur.size := by omega
      have u0 : wr.cell? ⟨g, j * 4, none⟩ = some (.int .i64 es[j].1) := (hblk.cell _).trans (by simpa using c0)
      have u1 : wr.cell? ⟨g, j * 4 + 1, none⟩ = some (.int .i64 es[j].2.1) := (hblk.cell _).trans c1
      have u2 : wr.cell? ⟨g, j * 4 + 2, none⟩ = some (.int .i64 es[j].2.2.1) := (hblk.cell _).trans c2
      have u3 : wr.cell? ⟨g, j * 4 + 3, none⟩ = some v := (hblk.cell _).trans c3
      have f0 := hblk.frozen (j * 4)
      have f1 := hblk.frozen (j * 4 + 1)
      have f2 := hblk.frozen (j * 4 + 2)
      have hb2 := (((hblk.set (j * 4) (.int .i64 (m : Int))).set (j * 4 + 1) (.int .i64 ((m : Int) + 1))).set (j * 4 + 2) (.int .i64 ((m : Int) + 2)))
      have hk2 := ((((Keeps.refl (g :: fi) wr).put1 (List.mem_cons_self ..) (j * 4) (.int .i64 (m : Int))).put1 (List.mem_cons_self ..) (j * 4 + 1) (.int .i64 ((m : Int) + 1))).put1 (List.mem_cons_self ..) (j * 4 + 2) (.int .i64 ((m : Int) + 2)))
      have ho2 : Own (((wr.setCell ⟨g, j * 4, none⟩ (.int .i64 (m : Int))).setCell ⟨g, j * 4 + 1, none⟩ (.int .i64 ((m : Int) + 1))).setCell ⟨g, j * 4 + 2, none⟩ (.int .i64 ((m : Int) + 2))) 0 v p := hown.heap (fun q hq => by
        have hne : q ≠ g := (hfi q (by rw [hfp]; exact hq)).2
        rw [Below.heap_setCell _ _ _ _ (by simpa using hne), Below.heap_setCell _ _ _ _ (by simpa using hne), Below.heap_setCell _ _ _ _ (by simpa using hne)])
      have hgl : g < (((wr.setCell ⟨g, j * 4, none⟩ (.int .i64 (m : Int))).setCell ⟨g, j * 4 + 1, none⟩ (.int .i64 ((m : Int) + 1))).setCell ⟨g, j * 4 + 2, none⟩ (.int .i64 ((m : Int) + 2))).heap.size := hb2.lt
      have hmb : m ≤ 8000000 := by omega
      have hpb : p.length ≤ 8000000 := by omega
      have hji : (j : Int) < (es.length : Int) := by omega
      have hw0 : IntKind.i64.wrap ((m : Int) + 1) = (m : Int) + 1 := by rw [IntWalk.i64_in _ ⟨by omega, by omega⟩]; try omega
      have hw1 : IntKind.i64.wrap ((m : Int) + 1 + 1) = (m : Int) + 2 := by rw [IntWalk.i64_in _ ⟨by omega, by omega⟩]; try omega
      have hw2 : IntKind.i64.wrap ((m : Int) + 2 + 1) = ((m + 3 : Nat) : Int) := by rw [IntWalk.i64_in _ ⟨by omega, by omega⟩]; try omega
      have hcv : (((cur.setIfInBounds (j * 4) (.int .i64 (m : Int))).setIfInBounds (j * 4 + 1) (.int .i64 ((m : Int) + 1))).setIfInBounds (j * 4 + 2) (.int .i64 ((m : Int) + 2)))[j * 4 + 3]? = some v := by
        rw [Array.getElem?_setIfInBounds, if_neg (by omega), Array.getElem?_setIfInBounds, if_neg (by omega), Array.getElem?_setIfInBounds, if_neg (by omega)]; exact c3
      have HC3 := Lib.hid hcv
      have HO2 := Lib.hid ho2
      have HB2 := Lib.hid hb2
      have HK2 := Lib.hid hk2
      have HPUT := Lib.hid hput
      have HST := Lib.hid hstep
      have HNT := Lib.hid hntk
      have HKE := Lib.hid hke
      have HFI := Lib.hid hfi
      have HFP := Lib.hid hfp
      clear c0 c1 c2 c3 ho2 hb2 hk2 hput hstep hntk hke hcell hoe hown how hmid hmk hp hcs hfi hfp hblk hm hcv i0 i1 i2
      generalize es[j].1 = y0 at *
      generalize es[j].2.1 = y1 at *
      generalize es[j].2.2.1 = y2 at *
      go_wp2_with fail
      refine (markByteS_wide v p 0 (m + 3) _ (by omega) (by omega) (by exact HO2.out)).mono ?_
      rintro e w1 ⟨rfl, how1, hgr⟩
      have hkb := Keeps.of_grown hgr
      have hgv : g ∉ v.ownBlock.toList := fun hq => (HFI.out g (by rw [HFP.out]; exact hq)).2 rfl
      have hb1 := HB2.out.of_block (hkb.block g hgl hgv)
      have hk1 := HK2.out.trans (hkb.mono (fun x hx => List.mem_cons_of_mem _ (by rw [HFP.out]; exact hx)))
      have hmem : ∀ x ∈ g :: fi, x ∈ fp := fun x hx => by
        rcases List.mem_cons.1 hx with e | hx
        · rw [e]; exact hgf
        · exact (HFI.out x hx).1
      have hnew := HPUT.out w1 ((m : Int), (m : Int) + 1, (m : Int) + 2, marks (m + 3) p.length) [.int .i64 (m : Int), .int .i64 ((m : Int) + 1), .int .i64 ((m : Int) + 2), v] _ rfl hk1 hb1 (by simp) (by
          intro q hq
          have hq4 : q < 4 := hq
          match q, hq4 with
          | 0, _ => simp [Array.getElem?_setIfInBounds]; omega
          | 1, _ => simp [Array.getElem?_setIfInBounds]; omega
          | 2, _ => simp [Array.getElem?_setIfInBounds]; omega
          | 3, _ => exact HC3.out) (by
          intro q hq
          rw [Array.getElem?_setIfInBounds, if_neg (by omega), Array.getElem?_setIfInBounds, if_neg (by omega), Array.getElem?_setIfInBounds, if_neg (by omega)]) (by
          rw [HFP.out]
          exact own_rpv (l := marks (m + 3) p.length) (base := 0) ⟨by omega, by omega⟩ ⟨by omega, by omega⟩ ⟨by omega, by omega⟩ how1)
      rw [HST.out] at hnew
      have HN := Lib.hid hnew
      have HK9 := Lib.hid (HKE.out.trans (hk1.mono hmem))
      have hnx : m + 3 + p.length = nR k (es.take (j + 1)) := HNT.out.symm
      rw [hnx]
      clear u0 u1 u2 u3 f0 f1 f2 hb1 hk1 hnew hkb how1 hgr hnx hmem
      go_wp2
      go_roundw
      case rel => exact ⟨j + 1, by omega, by go_num, by first | rfl | go_num, HN.out, HK9.out⟩
      case measure => simp [intOf]; omega
    · have e : j = es.length := by omega
      subst e
      rw [List.take_length, List.drop_length, List.append_nil] at how
      rw [List.take_length]
      go_wp2
      go_ret
      exact ⟨rfl, how, hke⟩



theorem sumB_app {α : Type} (f : α → Nat) (a b : List α) : sumB f (a ++ b) = sumB f a + sumB f b := by
  unfold sumB
  rw [List.map_append, List.sum_append]
/-- What the actions of the first k events hold: no more than the outputs that came before. -/
theorem wit_size {es : List Evt} {os : List Ot} (h : outsOk es os = true) : ∀ k, ∃ m, Came os k m ∧ sumB abt ((List.range k).flatMap (wAt es os)) ≤ sumB obt (os.take m) ∧ ((List.range k).flatMap (wAt es os)).length ≤ k + m := by
  intro k
  induction k with
  | zero => exact ⟨0, Came.start h, by simp [sumB], by simp⟩
  | succ k ih =>
    obtain ⟨m, hc, hs, hl⟩ := ih
    have ht : sumB abt (tkOf (es.getD k dEv)) = 0 ∧ (tkOf (es.getD k dEv)).length ≤ 1 := by
      unfold tkOf
      split
      · exact ⟨by simp [sumB, abt], by simp⟩
      · exact ⟨by simp [sumB], by simp⟩
    by_cases hm : ∃ hm : m < os.length, os[m].1 = (k : Int)
    · obtain ⟨hm, he⟩ := hm
      obtain ⟨h1, h2⟩ := hc.one hm he h
      refine ⟨m + 1, h1, ?_, ?_⟩
      · rw [wit_succ, sumB_app, sumB_take obt os m hm]
        unfold wAt
        rw [sumB_app, ht.1, h2]
        have h3 : obt os[m] = os[m].2.2.1.2.2.2.2.2.length + os[m].2.2.2.2.2.2.2.length := rfl
        have h4 : sumB abt (List.map actOf (if dn os[m].2.2.2.2.1 = true then [os[m]] else [])) ≤ os[m].2.2.1.2.2.2.2.2.length := by
          split
          · simp [sumB, abt, actOf]
          · simp [sumB]
        unfold wAt at hs
        omega
      · rw [wit_succ, List.length_append]
        have h5 : (wAt es os k).length ≤ 2 := by
          unfold wAt
          rw [h2, List.length_append, List.length_map]
          have h6 : (if dn os[m].2.2.2.2.1 = true then [os[m]] else []).length ≤ 1 := by split <;> simp
          omega
        omega
    · obtain ⟨h1, h2⟩ := hc.none (fun hm' he => hm ⟨hm', he⟩) h
      refine ⟨m, h1, ?_, ?_⟩
      · rw [wit_succ, sumB_app]
        have h4 : sumB abt (wAt es os k) = 0 := by
          unfold wAt
          rw [h2, sumB_app, ht.1]
          simp [sumB]
        omega
      · rw [wit_succ, List.length_append]
        have h5 : (wAt es os k).length ≤ 1 := by
          unfold wAt
          rw [h2]
          simpa using ht.2
        omega
theorem witV_size {es : List Evt} {os : List Ot} : (witV es os).length ≤ 600 ∧ sumB abt (witV es os) ≤ sumB obt os := by
  unfold witV
  split
  · rename_i h
    have ho : outsOk es os = true := by
      unfold witOk at h
      simp only [Bool.and_eq_true] at h
      exact h.1
    obtain ⟨m, hc, hs, hl⟩ := wit_size ho es.length
    have h1 := outsOk_le ho
    have h2 := hc.le
    have h3 := sumB_take_le27 obt os m
    unfold witL
    exact ⟨by omega, by omega⟩
  · simp [sumB]
end Go.Proofs.YtgpjjolgpppeeaaDoor
