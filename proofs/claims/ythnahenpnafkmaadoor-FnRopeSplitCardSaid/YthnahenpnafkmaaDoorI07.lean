/-
  Chapter 4, toward the program's RopeEdit: an append to a row of single cells keeps every lone variable of that type. Own work.
-/
import Derived.Test.YthnahenpnafkmaaDoorI06
import Derived.Test.YthnahenpnafkmaaDoorCat3
namespace Go.Proofs.YthnahenpnafkmaaDoor
open Go Go.RowKit Go.Shelf P
set_option linter.unusedVariables false

theorem append_one_boxed {P : Program} {w : World} (base : Nat) (t ty e : TypeId) (i : TypeInfo) (z : Value) (bytes : Nat) (ht : P.underlying t = some (.slice e)) (hi : P.info? e = some i) (hz : i.zero = some z)
    (hsize : i.size = 1) (hby : i.bytes = bytes) (hzs : z.cells.size = 1) (v : Value) (n : Nat) (xs : List Value) (hown : w.ownsRow base e 1 v n xs) (hnil : n = 0 → v = .slice none 0 0)
    (a : Addr) (c : Nat) (u : Value) (ha : w.cell? a = some u) (h1 : u.oneCell' = true) (h63 : n + 1 ≤ maxLen) (hbytes : (n + 1) * bytes ≤ 140737488355328) (hbase : base ≤ w.heap.size) :
    ∃ v' w', (Builtin.append_ #[t, t] ty #[v, .slice (some a) 1 c]).run P w = .ok v' w' ∧ w'.ownsRow base e 1 v' (n + 1) (xs ++ [u]) ∧ w.grownBy w' v.ownBlock ∧ v' ≠ .slice none 0 0 ∧ (v'.ownBlock = v.ownBlock ∨ v'.ownBlock = some w.heap.size) ∧ ∀ b x, Boxed w b e x → Boxed w' b e x := by
  have hnews : ∀ j x, ([u] : List Value)[j]? = some x → w.cell? (a.add j) = some x := by
    intro j x hx
    match j, hx with
    | 0, hx => simp only [List.getElem?_cons_zero, Option.some.injEq] at hx; subst hx; rw [show a.add 0 = a from by cases a; rfl]; exact ha
  obtain ⟨v', w', hrun, r1, r2, r3⟩ := run_append_own (P := P) w base t ty e i z 1 bytes ht hi hz hsize hby hzs (by decide) v n xs hown a 1 c [u] (by simp) hnews (by simpa using h1) h63 hbytes hbase
  have hown' := hown
  refine ⟨v', w', hrun, r1, r2, fun e => by have := r3.1 e; omega, ?_, fun b x hb => ?_⟩
  · obtain ⟨hl, hcase⟩ := hown
    rcases hcase with ⟨rfl, rfl⟩ | ⟨g, cap, cur, rfl, hbg, hg, hnc, hcm, hcs, htk⟩
    · have hr := run_append_nil (P := P) w t ty e i z ht hi hz a 1 c [u] (by simp [hsize]) hnews (by omega) (by omega) (by rw [hby]; omega)
      have h3 := hr.symm.trans hrun
      simp only [Result.ok.injEq] at h3
      rw [← h3.1]
      exact .inr rfl
    · by_cases hroom : n + 1 ≤ cap
      · have hr := run_append_room (P := P) w t ty e i ht hi g n cap cur hg a 1 c [u] (by simp [hsize]) hnews (by simpa using h1) hroom (by rw [hsize, hcs]; simp; omega)
        have h3 := hr.symm.trans hrun
        simp only [Result.ok.injEq] at h3
        rw [← h3.1]
        exact .inl rfl
      · have holds : ∀ j u, xs[j]? = some u → w.cell? ((⟨g, 0, none⟩ : Addr).add j) = some u := hown'.cells (g := g) rfl
        have hr := run_append_grow (P := P) w t ty e i z ht hi hz ⟨g, 0, none⟩ n cap xs (by rw [hsize]; exact hl) holds a 1 c [u] (by simp [hsize]) hnews (by omega) (by unfold maxLen at h63; omega) (growslice_fits (by omega) (by rw [hby]; exact hbytes))
        have h3 := hr.symm.trans hrun
        simp only [Result.ok.injEq] at h3
        rw [← h3.1]
        exact .inr rfl
  obtain ⟨hl, hcase⟩ := hown
  rcases hcase with ⟨rfl, _⟩ | ⟨g, cap, cur, rfl, hbg, hg, hnc, hcm, hcs, htk⟩
  · exact hb.kept r2 (by simp [Value.ownBlock])
  · by_cases hbg' : b = g
    · subst hbg'
      have h2 := hg.symm.trans hb
      simp only [Option.some.injEq, Obj.cells.injEq] at h2
      obtain ⟨rfl, _⟩ := h2
      have hcap : cap = 1 := by simp at hcs; omega
      have hn1 : n = 1 := by
        by_cases h0 : n = 0
        · have := hnil h0; simp at this
        · omega
      subst hcap hn1
      have holds : ∀ j u, xs[j]? = some u → w.cell? ((⟨b, 0, none⟩ : Addr).add j) = some u := hown'.cells (g := b) rfl
      have hr := run_append_grow (P := P) w t ty e i z ht hi hz ⟨b, 0, none⟩ 1 1 xs (by rw [hsize]; exact hl) holds a 1 c [u] (by simp [hsize]) hnews (by omega) (by omega) (growslice_fits (by omega) (by rw [hby]; exact hbytes))
      have h3 := hr.symm.trans hrun
      simp only [Result.ok.injEq] at h3
      rw [← h3.2]
      exact (heap_alloc_old w.drew _ b (Array.getElem?_eq_some_iff.1 hg).1).trans hg
    · exact hb.kept r2 (by simp [Value.ownBlock, hbg'])

/-- The same as a step of a plain region. -/
theorem wpListIn_append_one {F : Fence} {n : Nat} {P : Program} (w : World) {ops : Array Oper} {rest : List Oper} {o : Oper} {a : Act} {Q : Exit → Act → World → Prop}
    (hg : o.guard = none) (s x : Operand) (t : TypeId) (hop : o.op = Op.call { callee := Callee.builtin Builtin.append, args := #[s, x], argTypes := #[t, t] })
    (base : Nat) (e : TypeId) (i : TypeInfo) (z : Value) (bytes : Nat) (h1 : P.underlying t = some (.slice e)) (h2 : P.info? e = some i) (h3 : i.zero = some z) (h4 : i.size = 1) (h5 : i.bytes = bytes) (h6 : z.cells.size = 1)
    (v : Value) (k : Nat) (xs : List Value) (hs : a.eval s = v) (hown : w.ownsRow base e 1 v k xs) (hnil : k = 0 → v = .slice none 0 0) (ad : Addr) (c : Nat) (u : Value) (hx : a.eval x = .slice (some ad) 1 c)
    (hc : w.cell? ad = some u) (h1c : u.oneCell' = true) (b1 : k + 1 ≤ maxLen) (b2 : (k + 1) * bytes ≤ 140737488355328) (b3 : base ≤ w.heap.size)
    (hK : ∀ v' w', w'.ownsRow base e 1 v' (k + 1) (xs ++ [u]) → w.grownBy w' v.ownBlock → v' ≠ .slice none 0 0 → (v'.ownBlock = v.ownBlock ∨ v'.ownBlock = some w.heap.size) → (∀ b x, Boxed w b e x → Boxed w' b e x) → wpListIn F n P ops Q rest (a.put o.dst v') w') :
    wpListIn F n P ops Q (o :: rest) a w := by
  refine wpListIn_plain hg fun K hK' => ?_
  obtain ⟨v', w', hrun, r1, r2, r3, r5, r4⟩ := append_one_boxed (P := P) (w := w) base t o.type e i z bytes h1 h2 h3 h4 h5 h6 v k xs hown hnil ad c u hc h1c b1 b2 b3
  unfold Oper.wpIn
  refine ⟨?_, ?_⟩
  · simp [Oper.about, hop, resolve, Target.leads, Sem.run_pure]
  · rw [Oper.semAt_plain F _ _ (by rw [hop]; intro c hc'; cases hc')]
    simp [execOp, hop, resolve, invoke, builtin, hs, hx, hrun, Result.andThen]
    exact hK' _ _ (hK v' w' r1 r2 r3 r5 r4)

/-! ### The two cuts -/
def cutFn (i j : Nat) : Value := .func (.func 63) #[] #[.pointer (some ⟨i, 0, none⟩), .pointer (some ⟨j, 0, none⟩)]
/-- A variable that holds a function, at or behind lo. -/
def BoxO (X : World) (lo : Nat) : Option (Nat × Value) → Prop
  | none => True
  | some q => Boxed X q.1 67 q.2 ∧ lo ≤ q.1
/-- A cut of x..y - 1, its two variables at or behind lo. -/
def CutO (X : World) (lo : Nat) (x y : Int) : Option (Nat × Nat) → Prop
  | none => True
  | some q => Boxed X q.1 3 (.int .i64 x) ∧ Boxed X q.2 3 (.int .i64 y) ∧ lo ≤ q.1 ∧ lo ≤ q.2
/-- What has been made on the way to the two cuts. -/
structure E7 (w7 X : World) (a b N : Int) (o12 o13 : Option (Nat × Value)) (f1 f2 : Option (Nat × Nat)) : Prop where
  bel : Below w7.heap.size w7 X
  x12 : BoxO X w7.heap.size o12
  x13 : BoxO X w7.heap.size o13
  c1 : CutO X w7.heap.size 0 a f1
  c2 : CutO X w7.heap.size b N f2
  ne : ∀ p q, o12 = some p → o13 = some q → p.1 ≠ q.1

theorem BoxO.below {X Y : World} {lo : Nat} {o : Option (Nat × Value)} (h : BoxO X lo o) (hb : Below X.heap.size X Y) : BoxO Y lo o := by
  cases o with
  | none => trivial
  | some q => exact ⟨boxed_belowAll h.1 hb, h.2⟩
theorem CutO.below {X Y : World} {lo : Nat} {x y : Int} {o : Option (Nat × Nat)} (h : CutO X lo x y o) (hb : Below X.heap.size X Y) : CutO Y lo x y o := by
  cases o with
  | none => trivial
  | some q => exact ⟨boxed_belowAll h.1 hb, boxed_belowAll h.2.1 hb, h.2.2⟩
theorem Boxed.types {X : World} {b d : Nat} {t u : TypeId} {x y : Value} (h : Boxed X b t x) (k : Boxed X d u y) (hn : t ≠ u) : b ≠ d := fun e => by
  subst e
  have h2 := h.symm.trans k
  simp only [Option.some.injEq, Obj.cells.injEq] at h2
  exact hn h2.2.1
theorem CutO.set {X : World} {lo : Nat} {x y : Int} {o : Option (Nat × Nat)} (h : CutO X lo x y o) {d : Nat} {v : Value} (hd : Boxed X d 67 v) (u : Value) : CutO (X.setCell ⟨d, 0, none⟩ u) lo x y o := by
  cases o with
  | none => trivial
  | some q => exact ⟨h.1.other (Boxed.types h.1 hd (by decide)) u, h.2.1.other (Boxed.types h.2.1 hd (by decide)) u, h.2.2⟩
theorem E7.new {w7 : World} {a b N : Int} : E7 w7 w7.drew a b N none none none none := ⟨(Below.refl _ _).drew, trivial, trivial, trivial, trivial, fun p q h => by cases h⟩
theorem E7.a12 {w7 X : World} {a b N : Int} {o13 : Option (Nat × Value)} {f1 f2 : Option (Nat × Nat)} (h : E7 w7 X a b N none o13 f1 f2) (v : Value) : E7 w7 (X.alloc (.cells #[v] 67)) a b N (some (X.heap.size, v)) o13 f1 f2 := by
  have hb := (Below.refl X.heap.size X).alloc (Nat.le_refl _) (.cells #[v] 67)
  refine ⟨h.bel.alloc h.bel.size _, ⟨Boxed.new _ _ _, h.bel.size⟩, h.x13.below hb, h.c1.below hb, h.c2.below hb, fun p q hp hq => ?_⟩
  cases hp
  have := h.x13
  subst hq
  exact Nat.ne_of_gt this.1.lt
theorem E7.a13 {w7 X : World} {a b N : Int} {o12 : Option (Nat × Value)} {f1 f2 : Option (Nat × Nat)} (h : E7 w7 X a b N o12 none f1 f2) (v : Value) : E7 w7 (X.alloc (.cells #[v] 67)) a b N o12 (some (X.heap.size, v)) f1 f2 := by
  have hb := (Below.refl X.heap.size X).alloc (Nat.le_refl _) (.cells #[v] 67)
  refine ⟨h.bel.alloc h.bel.size _, h.x12.below hb, ⟨Boxed.new _ _ _, h.bel.size⟩, h.c1.below hb, h.c2.below hb, fun p q hp hq => ?_⟩
  cases hq
  have := h.x12
  subst hp
  exact Nat.ne_of_lt this.1.lt
theorem cutO_new {X : World} {lo : Nat} (hlo : lo ≤ X.heap.size) (x y : Int) : CutO ((X.alloc (.cells #[.int .i64 x] 3)).alloc (.cells #[.int .i64 y] 3)) lo x y (some (X.heap.size, X.heap.size + 1)) :=
  ⟨(Boxed.new X _ _).alloc _, by have := Boxed.new (X.alloc (.cells #[.int .i64 x] 3)) 3 (.int .i64 y); rw [World.size_alloc] at this; exact this, hlo, by simp; omega⟩
theorem E7.k1 {w7 X : World} {a b N : Int} {o12 o13 : Option (Nat × Value)} {f2 : Option (Nat × Nat)} (h : E7 w7 X a b N o12 o13 none f2) : E7 w7 ((X.alloc (.cells #[.int .i64 0] 3)).alloc (.cells #[.int .i64 a] 3)) a b N o12 o13 (some (X.heap.size, X.heap.size + 1)) f2 := by
  have hb := ((Below.refl X.heap.size X).alloc (Nat.le_refl _) (.cells #[.int .i64 0] 3)).alloc (by simp) (.cells #[.int .i64 a] 3)
  exact ⟨h.bel.trans (hb.mono h.bel.size), h.x12.below hb, h.x13.below hb, cutO_new h.bel.size 0 a, h.c2.below hb, h.ne⟩
theorem E7.k2 {w7 X : World} {a b N : Int} {o12 o13 : Option (Nat × Value)} {f1 : Option (Nat × Nat)} (h : E7 w7 X a b N o12 o13 f1 none) : E7 w7 ((X.alloc (.cells #[.int .i64 b] 3)).alloc (.cells #[.int .i64 N] 3)) a b N o12 o13 f1 (some (X.heap.size, X.heap.size + 1)) := by
  have hb := ((Below.refl X.heap.size X).alloc (Nat.le_refl _) (.cells #[.int .i64 b] 3)).alloc (by simp) (.cells #[.int .i64 N] 3)
  exact ⟨h.bel.trans (hb.mono h.bel.size), h.x12.below hb, h.x13.below hb, h.c1.below hb, cutO_new h.bel.size b N, h.ne⟩
theorem E7.s12 {w7 X : World} {a b N : Int} {p : Nat × Value} {o13 : Option (Nat × Value)} {f1 f2 : Option (Nat × Nat)} (h : E7 w7 X a b N (some p) o13 f1 f2) (v : Value) : E7 w7 (X.setCell ⟨p.1, 0, none⟩ v) a b N (some (p.1, v)) o13 f1 f2 := by
  refine ⟨h.bel.setCell h.x12.2 v, ⟨h.x12.1.set v, h.x12.2⟩, ?_, h.c1.set h.x12.1 v, h.c2.set h.x12.1 v, fun x y hx hy => ?_⟩
  · cases o13 with
    | none => trivial
    | some q => exact ⟨h.x13.1.other (Ne.symm (h.ne _ _ rfl rfl)) v, h.x13.2⟩
  · cases hx; exact h.ne p y rfl hy
theorem E7.s13 {w7 X : World} {a b N : Int} {p : Nat × Value} {o12 : Option (Nat × Value)} {f1 f2 : Option (Nat × Nat)} (h : E7 w7 X a b N o12 (some p) f1 f2) (v : Value) : E7 w7 (X.setCell ⟨p.1, 0, none⟩ v) a b N o12 (some (p.1, v)) f1 f2 := by
  refine ⟨h.bel.setCell h.x13.2 v, ?_, ⟨h.x13.1.set v, h.x13.2⟩, h.c1.set h.x13.1 v, h.c2.set h.x13.1 v, fun x y hx hy => ?_⟩
  · cases o12 with
    | none => trivial
    | some q => exact ⟨h.x12.1.other (h.ne _ _ rfl rfl) v, h.x12.2⟩
  · cases hy; exact h.ne x p hx rfl

/-- append of bytes inside a region that draws its order. -/
theorem step_app_bytes {w : World} {ops : Array Oper} {o : Oper} {a : Act} {K : Act → World → Prop} {Q : Exit → Act → World → Prop} {X : Prop} (hgd : o.guard = none) (s x : Operand)
    (ho : o.op = .call { callee := .builtin .append, args := #[s, x], argTypes := #[22, 22] })
    (base : Nat) (v : Value) (l r : List UInt8) (A : Option Addr) (n c : Nat) (hs : a.eval s = v) (hx : a.eval x = .slice A n c) (hn : n = r.length) (hown : _root_.Go.Proofs.YthnahenpnafkmaaDoor.Own w base v l) (hr : Bs w A r)
    (hlen : l.length + r.length ≤ 1000000000) (hbase : base ≤ w.heap.size)
    (h : ∀ v' w', _root_.Go.Proofs.YthnahenpnafkmaaDoor.Own w' base v' (l ++ r) → w.grownBy w' v.ownBlock → (v'.ownBlock = v.ownBlock ∨ v'.ownBlock = some w.heap.size) → K (a.put o.dst v') w') :
    if Region.wanted o (yielded ops a.tmps) = true then Oper.wp Tryd.prog o a w K Q else X := by
  obtain ⟨v', w', hrun, h2, h3, h4⟩ := run_app_bytes c n o.type hn hown hr hlen hbase
  have hw : Region.wanted o (yielded ops a.tmps) = true := by simp [Region.wanted, hgd]
  rw [if_pos hw]
  unfold Oper.wp execOp
  simp only [ho, resolve, invoke, builtin, Sem.run_bind, Sem.run_pure, Result.andThen_ok, List.map_toArray, List.map_cons, List.map_nil, hs, hx, hrun]
  exact h v' w' h2 h3 h4

/-- Rows of two types lie in two blocks. -/
theorem rows_types {W : World} {n₀ : Nat} {e f : TypeId} (hn : e ≠ f) {s1 s2 k m : Nat} {v u : Value} {xs ys : List Value} (h : W.ownsRow n₀ e s1 v k xs) (g : W.ownsRow n₀ f s2 u m ys) : v.ownBlock = none ∨ v.ownBlock ≠ u.ownBlock := by
  rcases h.2 with ⟨rfl, _⟩ | ⟨b, cap, cur, rfl, _, hb, _⟩
  · exact .inl rfl
  · refine .inr fun he => ?_
    rcases g.2 with ⟨rfl, _⟩ | ⟨d, cap', cur', rfl, _, hd, _⟩
    · simp [Value.ownBlock] at he
    · have : b = d := by simpa [Value.ownBlock] using he
      subst this
      have h2 := hb.symm.trans hd
      simp only [Option.some.injEq, Obj.cells.injEq] at h2
      exact hn h2.2.1
theorem row_lt {W : World} {n₀ : Nat} {e : TypeId} {s k : Nat} {v : Value} {xs : List Value} (h : W.ownsRow n₀ e s v k xs) {b : Nat} (hb : v.ownBlock = some b) : b < W.heap.size := (World.ownsRow.lt h b hb).2

/-- The four variables of RopeEdit's loop, and what they own. -/
structure R4 (W : World) (n₀ z : Nat) (fr bk : List Value) (hd tl : List UInt8) (vF vK vH vL : Value) : Prop where
  bF : Boxed W z 24 vF
  bK : Boxed W (z + 1) 24 vK
  bH : Boxed W (z + 1 + 1) 22 vH
  bL : Boxed W (z + 1 + 1 + 1) 22 vL
  rF : W.ownsRow n₀ 46 1 vF fr.length fr
  rK : W.ownsRow n₀ 46 1 vK bk.length bk
  rH : W.ownsRow n₀ 5 1 vH hd.length (hd.map bV)
  rL : W.ownsRow n₀ 5 1 vL tl.length (tl.map bV)
  nF : fr.length = 0 → vF = .slice none 0 0
  nK : bk.length = 0 → vK = .slice none 0 0
  dF : ∀ k, vF.ownBlock = some k → vK.ownBlock ≠ some k
  dH : ∀ k, vH.ownBlock = some k → vL.ownBlock ≠ some k

theorem row_kept_far {W W' : World} {n₀ : Nat} {e : TypeId} {s k : Nat} {v : Value} {xs : List Value} (h : W.ownsRow n₀ e s v k xs) {row : Option Nat} (hg : W.grownBy W' row) (hr : ∀ r, row = some r → ∃ o : Obj, W.heap[r]? = some o ∧ o.isCells = false) : W'.ownsRow n₀ e s v k xs := by
  refine h.kept hg ?_
  rcases h.2 with ⟨rfl, _⟩ | ⟨g, cap, cur, rfl, _, hgb, _⟩
  · exact .inl rfl
  · refine .inr fun e' => ?_
    obtain ⟨o, ho, hc⟩ := hr g (by simpa [Value.ownBlock] using e'.symm)
    rw [hgb] at ho; cases ho; cases hc
theorem box_kept_far {W W' : World} {b : Nat} {t : TypeId} {v : Value} (h : Boxed W b t v) {row : Option Nat} (hg : W.grownBy W' row) (hr : ∀ r, row = some r → ∃ o : Obj, W.heap[r]? = some o ∧ o.isCells = false) : Boxed W' b t v := by
  refine h.kept hg fun e' => ?_
  obtain ⟨o, ho, hc⟩ := hr b e'.symm
  rw [show W.heap[b]? = _ from h] at ho; cases ho; cases hc

theorem R4.far {W W' : World} {n₀ z : Nat} {fr bk : List Value} {hd tl : List UInt8} {vF vK vH vL : Value} (h : R4 W n₀ z fr bk hd tl vF vK vH vL) {row : Option Nat} (hg : W.grownBy W' row) (hr : ∀ r, row = some r → ∃ o : Obj, W.heap[r]? = some o ∧ o.isCells = false) : R4 W' n₀ z fr bk hd tl vF vK vH vL :=
  ⟨box_kept_far h.bF hg hr, box_kept_far h.bK hg hr, box_kept_far h.bH hg hr, box_kept_far h.bL hg hr, row_kept_far h.rF hg hr, row_kept_far h.rK hg hr, row_kept_far h.rH hg hr, row_kept_far h.rL hg hr, h.nF, h.nK, h.dF, h.dH⟩
theorem R4.below {W W' : World} {n₀ z : Nat} {fr bk : List Value} {hd tl : List UInt8} {vF vK vH vL : Value} (h : R4 W n₀ z fr bk hd tl vF vK vH vL) (hb : Below W.heap.size W W') : R4 W' n₀ z fr bk hd tl vF vK vH vL :=
  h.far (row := none) ⟨hb.os, hb.tape, hb.output, hb.size, fun k hk _ => hb.block k hk⟩ (fun r e => by cases e)
theorem row_set {W : World} {n₀ : Nat} {e : TypeId} {k : Nat} {v : Value} {xs : List Value} (h : W.ownsRow n₀ e 1 v k xs) {B : Nat} {t : TypeId} {u : Value} (hv : Boxed W B t u) (hte : t ≠ e) (u' : Value) : (W.setCell ⟨B, 0, none⟩ u').ownsRow n₀ e 1 v k xs :=
  h.kept (grownBy_setCell' W B u') (.inr (hv.not_row hte h).symm)

theorem R4.pushF {W w1 : World} {n₀ z : Nat} {fr bk : List Value} {hd tl : List UInt8} {vF vK vH vL : Value} (h : R4 W n₀ z fr bk hd tl vF vK vH vL) {v' u : Value} (r1 : w1.ownsRow n₀ 46 1 v' (fr.length + 1) (fr ++ [u])) (hg : W.grownBy w1 vF.ownBlock) (hbk : v'.ownBlock = vF.ownBlock ∨ v'.ownBlock = some W.heap.size) :
    R4 (w1.setCell ⟨z, 0, none⟩ v') n₀ z (fr ++ [u]) bk hd tl v' vK vH vL := by
  have hv1 := h.bF.kept hg (h.bF.not_row (by decide) h.rF)
  have hk1 := h.bK.kept hg (h.bK.not_row (by decide) h.rF)
  have hh1 := h.bH.kept hg (h.bH.not_row (by decide) h.rF)
  have hl1 := h.bL.kept hg (h.bL.not_row (by decide) h.rF)
  have rk1 : w1.ownsRow n₀ 46 1 vK bk.length bk := h.rK.kept hg (by
    cases he : vK.ownBlock with
    | none => exact .inl rfl
    | some k => exact .inr fun e => h.dF k e.symm he)
  have rh1 := h.rH.kept hg (rows_types (by decide) h.rH h.rF)
  have rl1 := h.rL.kept hg (rows_types (by decide) h.rL h.rF)
  refine ⟨hv1.set v', hk1.other (by omega) v', hh1.other (by omega) v', hl1.other (by omega) v', ?_, row_set rk1 hv1 (by decide) v', row_set rh1 hv1 (by decide) v', row_set rl1 hv1 (by decide) v', fun e => by simp at e, h.nK, fun k hk hk' => ?_, h.dH⟩
  · rw [List.length_append, List.length_singleton]; exact row_set r1 hv1 (by decide) v'
  · rcases hbk with e | e
    · exact h.dF k (e ▸ hk) hk'
    · rw [e] at hk; cases hk; exact Nat.lt_irrefl _ (row_lt h.rK hk')
theorem R4.pushK {W w1 : World} {n₀ z : Nat} {fr bk : List Value} {hd tl : List UInt8} {vF vK vH vL : Value} (h : R4 W n₀ z fr bk hd tl vF vK vH vL) {v' u : Value} (r1 : w1.ownsRow n₀ 46 1 v' (bk.length + 1) (bk ++ [u])) (hg : W.grownBy w1 vK.ownBlock) (hbk : v'.ownBlock = vK.ownBlock ∨ v'.ownBlock = some W.heap.size) :
    R4 (w1.setCell ⟨z + 1, 0, none⟩ v') n₀ z fr (bk ++ [u]) hd tl vF v' vH vL := by
  have hv1 := h.bK.kept hg (h.bK.not_row (by decide) h.rK)
  have hf1 := h.bF.kept hg (h.bF.not_row (by decide) h.rK)
  have hh1 := h.bH.kept hg (h.bH.not_row (by decide) h.rK)
  have hl1 := h.bL.kept hg (h.bL.not_row (by decide) h.rK)
  have rf1 : w1.ownsRow n₀ 46 1 vF fr.length fr := h.rF.kept hg (by
    cases he : vF.ownBlock with
    | none => exact .inl rfl
    | some k => exact .inr fun e => h.dF k he e.symm)
  have rh1 := h.rH.kept hg (rows_types (by decide) h.rH h.rK)
  have rl1 := h.rL.kept hg (rows_types (by decide) h.rL h.rK)
  refine ⟨hf1.other (by omega) v', hv1.set v', hh1.other (by omega) v', hl1.other (by omega) v', row_set rf1 hv1 (by decide) v', ?_, row_set rh1 hv1 (by decide) v', row_set rl1 hv1 (by decide) v', h.nF, fun e => by simp at e, fun k hk hk' => ?_, h.dH⟩
  · rw [List.length_append, List.length_singleton]; exact row_set r1 hv1 (by decide) v'
  · rcases hbk with e | e
    · exact h.dF k hk (e ▸ hk')
    · rw [e] at hk'; cases hk'; exact Nat.lt_irrefl _ (row_lt h.rF hk)
theorem R4.pushH {W w1 : World} {n₀ z : Nat} {fr bk : List Value} {hd tl : List UInt8} {vF vK vH vL : Value} (h : R4 W n₀ z fr bk hd tl vF vK vH vL) {v' : Value} {r : List UInt8} (r1 : _root_.Go.Proofs.YthnahenpnafkmaaDoor.Own w1 n₀ v' (hd ++ r)) (hg : W.grownBy w1 vH.ownBlock) (hbk : v'.ownBlock = vH.ownBlock ∨ v'.ownBlock = some W.heap.size) :
    R4 (w1.setCell ⟨z + 1 + 1, 0, none⟩ v') n₀ z fr bk (hd ++ r) tl vF vK v' vL := by
  have hv1 := h.bH.kept hg (h.bH.not_row (by decide) h.rH)
  have hf1 := h.bF.kept hg (h.bF.not_row (by decide) h.rH)
  have hk1 := h.bK.kept hg (h.bK.not_row (by decide) h.rH)
  have hl1 := h.bL.kept hg (h.bL.not_row (by decide) h.rH)
  have rl1 : w1.ownsRow n₀ 5 1 vL tl.length (tl.map bV) := h.rL.kept hg (by
    cases he : vL.ownBlock with
    | none => exact .inl rfl
    | some k => exact .inr fun e => h.dH k e.symm he)
  have rf1 := h.rF.kept hg (rows_types (by decide) h.rF h.rH)
  have rk1 := h.rK.kept hg (rows_types (by decide) h.rK h.rH)
  refine ⟨hf1.other (by omega) v', hk1.other (by omega) v', hv1.set v', hl1.other (by omega) v', row_set rf1 hv1 (by decide) v', row_set rk1 hv1 (by decide) v', row_set r1 hv1 (by decide) v', row_set rl1 hv1 (by decide) v', h.nF, h.nK, h.dF, fun k hk hk' => ?_⟩
  rcases hbk with e | e
  · exact h.dH k (e ▸ hk) hk'
  · rw [e] at hk; cases hk; exact Nat.lt_irrefl _ (row_lt h.rL hk')
theorem R4.pushL {W w1 : World} {n₀ z : Nat} {fr bk : List Value} {hd tl : List UInt8} {vF vK vH vL : Value} (h : R4 W n₀ z fr bk hd tl vF vK vH vL) {v' : Value} {r : List UInt8} (r1 : _root_.Go.Proofs.YthnahenpnafkmaaDoor.Own w1 n₀ v' (tl ++ r)) (hg : W.grownBy w1 vL.ownBlock) (hbk : v'.ownBlock = vL.ownBlock ∨ v'.ownBlock = some W.heap.size) :
    R4 (w1.setCell ⟨z + 1 + 1 + 1, 0, none⟩ v') n₀ z fr bk hd (tl ++ r) vF vK vH v' := by
  have hv1 := h.bL.kept hg (h.bL.not_row (by decide) h.rL)
  have hf1 := h.bF.kept hg (h.bF.not_row (by decide) h.rL)
  have hk1 := h.bK.kept hg (h.bK.not_row (by decide) h.rL)
  have hh1 := h.bH.kept hg (h.bH.not_row (by decide) h.rL)
  have rh1 : w1.ownsRow n₀ 5 1 vH hd.length (hd.map bV) := h.rH.kept hg (by
    cases he : vH.ownBlock with
    | none => exact .inl rfl
    | some k => exact .inr fun e => h.dH k he e.symm)
  have rf1 := h.rF.kept hg (rows_types (by decide) h.rF h.rL)
  have rk1 := h.rK.kept hg (rows_types (by decide) h.rK h.rL)
  refine ⟨hf1.other (by omega) v', hk1.other (by omega) v', hh1.other (by omega) v', hv1.set v', row_set rf1 hv1 (by decide) v', row_set rk1 hv1 (by decide) v', row_set rh1 hv1 (by decide) v', row_set r1 hv1 (by decide) v', h.nF, h.nK, h.dF, fun k hk hk' => ?_⟩
  rcases hbk with e | e
  · exact h.dH k hk (e ▸ hk')
  · rw [e] at hk'; cases hk'; exact Nat.lt_irrefl _ (row_lt h.rH hk)

/-- The other variables of RopeEdit's loop. -/
structure K5 (W : World) (B1 B2 : Nat) (f1 f2 : Nat × Nat) (a b N : Int) (bt be br : Nat) : Prop where
  c1 : Boxed W B1 67 (cutFn f1.1 f1.2)
  c2 : Boxed W B2 67 (cutFn f2.1 f2.2)
  p1 : Boxed W f1.1 3 (.int .i64 0)
  p2 : Boxed W f1.2 3 (.int .i64 a)
  p3 : Boxed W f2.1 3 (.int .i64 b)
  p4 : Boxed W f2.2 3 (.int .i64 N)
  t : Boxed W bt 3 (.int .i64 a)
  e : Boxed W be 3 (.int .i64 b)
  r : Boxed W br 26 (.slice none 0 0)
theorem K5.far {W W' : World} {B1 B2 : Nat} {f1 f2 : Nat × Nat} {a b N : Int} {bt be br : Nat} (h : K5 W B1 B2 f1 f2 a b N bt be br) {row : Option Nat} (hg : W.grownBy W' row) (hr : ∀ r, row = some r → ∃ o : Obj, W.heap[r]? = some o ∧ o.isCells = false) : K5 W' B1 B2 f1 f2 a b N bt be br :=
  ⟨box_kept_far h.c1 hg hr, box_kept_far h.c2 hg hr, box_kept_far h.p1 hg hr, box_kept_far h.p2 hg hr, box_kept_far h.p3 hg hr, box_kept_far h.p4 hg hr, box_kept_far h.t hg hr, box_kept_far h.e hg hr, box_kept_far h.r hg hr⟩
theorem K5.below {W W' : World} {B1 B2 : Nat} {f1 f2 : Nat × Nat} {a b N : Int} {bt be br : Nat} (h : K5 W B1 B2 f1 f2 a b N bt be br) (hb : Below W.heap.size W W') : K5 W' B1 B2 f1 f2 a b N bt be br :=
  h.far (row := none) ⟨hb.os, hb.tape, hb.output, hb.size, fun k hk _ => hb.block k hk⟩ (fun r e => by cases e)
theorem K5.push {W W' : World} {B1 B2 : Nat} {f1 f2 : Nat × Nat} {a b N : Int} {bt be br : Nat} (h : K5 W B1 B2 f1 f2 a b N bt be br) {B : Nat} {t e : TypeId} {v : Value} (hv : Boxed W B t v) (ht : t = 24 ∨ t = 22) (he : e = 46 ∨ e = 5)
    (ho : ∀ b T' u, T' ≠ e → b ≠ B → Boxed W b T' u → Boxed W' b T' u) : K5 W' B1 B2 f1 f2 a b N bt be br := by
  have g : ∀ {d : Nat} {T' : TypeId} {u : Value}, T' ≠ 46 → T' ≠ 5 → T' ≠ 24 → T' ≠ 22 → Boxed W d T' u → Boxed W' d T' u := fun h1 h2 h3 h4 hd =>
    ho _ _ _ (by rcases he with rfl | rfl <;> assumption) (Boxed.types hd hv (by rcases ht with rfl | rfl <;> assumption)) hd
  exact ⟨g (by decide) (by decide) (by decide) (by decide) h.c1, g (by decide) (by decide) (by decide) (by decide) h.c2, g (by decide) (by decide) (by decide) (by decide) h.p1, g (by decide) (by decide) (by decide) (by decide) h.p2, g (by decide) (by decide) (by decide) (by decide) h.p3, g (by decide) (by decide) (by decide) (by decide) h.p4, g (by decide) (by decide) (by decide) (by decide) h.t, g (by decide) (by decide) (by decide) (by decide) h.e, g (by decide) (by decide) (by decide) (by decide) h.r⟩
theorem E7.k5 {w7 X : World} {a b N : Int} {B1 B2 : Nat} {f1 f2 : Nat × Nat} {bt be br : Nat} (h : E7 w7 X a b N (some (B1, cutFn f1.1 f1.2)) (some (B2, cutFn f2.1 f2.2)) (some f1) (some f2)) (ht : Boxed w7 bt 3 (.int .i64 a)) (he : Boxed w7 be 3 (.int .i64 b)) (hr : Boxed w7 br 26 (.slice none 0 0)) : K5 X B1 B2 f1 f2 a b N bt be br :=
  ⟨h.x12.1, h.x13.1, h.c1.1, h.c1.2.1, h.c2.1, h.c2.2.1, boxed_belowAll ht h.bel, boxed_belowAll he h.bel, boxed_belowAll hr h.bel⟩
theorem R4.new (w : World) (n₀ : Nat) : R4 ((((w.alloc (.cells #[.slice none 0 0] 24)).alloc (.cells #[.slice none 0 0] 24)).alloc (.cells #[.slice none 0 0] 22)).alloc (.cells #[.slice none 0 0] 22)) n₀ w.heap.size [] [] [] [] (.slice none 0 0) (.slice none 0 0) (.slice none 0 0) (.slice none 0 0) := by
  have b1 := (((Boxed.new w 24 (.slice none 0 0)).alloc (.cells #[.slice none 0 0] 24)).alloc (.cells #[.slice none 0 0] 22)).alloc (.cells #[.slice none 0 0] 22)
  have b2 := ((Boxed.new (w.alloc (.cells #[.slice none 0 0] 24)) 24 (.slice none 0 0)).alloc (.cells #[.slice none 0 0] 22)).alloc (.cells #[.slice none 0 0] 22)
  have b3 := (Boxed.new ((w.alloc (.cells #[.slice none 0 0] 24)).alloc (.cells #[.slice none 0 0] 24)) 22 (.slice none 0 0)).alloc (.cells #[.slice none 0 0] 22)
  have b4 := Boxed.new (((w.alloc (.cells #[.slice none 0 0] 24)).alloc (.cells #[.slice none 0 0] 24)).alloc (.cells #[.slice none 0 0] 22)) 22 (.slice none 0 0)
  simp only [World.size_alloc] at b2 b3 b4
  exact ⟨b1, b2, b3, b4, World.ownsRow_nil _ _ _ _, World.ownsRow_nil _ _ _ _, World.ownsRow_nil _ _ _ _, World.ownsRow_nil _ _ _ _, fun _ => rfl, fun _ => rfl, fun k h => by simp [Value.ownBlock] at h, fun k h => by simp [Value.ownBlock] at h⟩

/-- slices.Concat of three slices of chunks. -/
theorem concatCh3_any (A B C : Option Addr) (ls ms rs : List (List UInt8)) (c d f : Nat) (w : World) (h1 : ls.length ≤ c) (h2 : ms.length ≤ d) (h3 : rs.length ≤ f) (hl : ls.length + ms.length + rs.length ≤ 2000000) (hC : Cs w A ls) (hD : Cs w B ms) (hE : Cs w C rs) :
    Calls Tryd.prog 19 #[.slice (some ⟨w.heap.size, 0, none⟩) 3 3] (w.alloc (.cells #[.slice A ls.length c, .slice B ms.length d, .slice C rs.length f] 24)) fun e w' => ∃ Q q, e = .returned (.slice Q (ls ++ (ms ++ rs)).length q) ∧ (ls ++ (ms ++ rs)).length ≤ q ∧ Cs w' Q (ls ++ (ms ++ rs)) ∧ Below w.heap.size w w' := by
  have hal := (Below.refl w.heap.size w).alloc (Nat.le_refl _) (.cells #[.slice A ls.length c, .slice B ms.length d, .slice C rs.length f] 24)
  have bk := Blk.new w #[.slice A ls.length c, .slice B ms.length d, .slice C rs.length f] 24
  obtain ⟨xs, hx1, hx2, hx3⟩ := (hC.below hal).vals
  obtain ⟨ys, hy1, hy2, hy3⟩ := (hD.below hal).vals
  obtain ⟨zs, hz1, hz2, hz3⟩ := (hE.below hal).vals
  have hv : VVs (w.alloc (.cells #[.slice A ls.length c, .slice B ms.length d, .slice C rs.length f] 24)) (some ⟨w.heap.size, 0, none⟩) [xs, ys, zs] := by
    intro k hk
    match k, hk with
    | 0, _ => exact ⟨_, 0, A, c, rfl, bk.lt, by rw [Nat.zero_add, bk.cell]; simp [hx2.1], by simp [hx2.1, h1], hx1⟩
    | 1, _ => exact ⟨_, 0, B, d, rfl, bk.lt, by rw [Nat.zero_add, bk.cell]; simp [hy2.1], by simp [hy2.1, h2], hy1⟩
    | 2, _ => exact ⟨_, 0, C, f, rfl, bk.lt, by rw [Nat.zero_add, bk.cell]; simp [hz2.1], by simp [hz2.1, h3], hz1⟩
  have hs : vsums [xs, ys, zs] ≤ 1000000000 := by unfold vsums; simp [hx2.1, hy2.1, hz2.1]; omega
  refine (ch_concat_any (some ⟨w.heap.size, 0, none⟩) [xs, ys, zs] 3 _ (by simp) hs (by
    intro l hl u hu
    simp only [List.mem_cons, List.not_mem_nil, or_false] at hl
    rcases hl with rfl | rfl | rfl
    · exact hx3 u hu
    · exact hy3 u hu
    · exact hz3 u hu) hv).mono ?_
  rintro e w' ⟨v, rfl, hown, hb⟩
  obtain ⟨Q, q, rfl, g1, _, hV⟩ := hown.form
  have hflat : [xs, ys, zs].flatten = xs ++ (ys ++ zs) := by simp
  rw [hflat] at g1 hV ⊢
  have hlen : (xs ++ (ys ++ zs)).length = (ls ++ (ms ++ rs)).length := by simp [hx2.1, hy2.1, hz2.1]
  rw [hlen] at g1 ⊢
  exact ⟨Q, q, rfl, g1, Cs.of_vals hV ((hx2.append (hy2.append hz2)).below hb), below_then hal hb⟩

theorem Bs.vs {w : World} {A : Option Addr} {l : List UInt8} (h : Bs w A l) : Vs w A (l.map bV) := by
  intro k hk
  rw [List.length_map] at hk
  obtain ⟨b, off, e, hb, hc⟩ := h k hk
  exact ⟨b, off, e, hb, by rw [hc, List.getElem_map]; rfl⟩

/-- slices.Concat of three slices of bytes. -/
theorem concatBy3_any (A B C : Option Addr) (l m r : List UInt8) (c d f : Nat) (w : World) (h1 : l.length ≤ c) (h2 : m.length ≤ d) (h3 : r.length ≤ f) (hl : l.length + m.length + r.length ≤ 2000000) (hA : Bs w A l) (hB : Bs w B m) (hC : Bs w C r) :
    Calls Tryd.prog 45 #[.slice (some ⟨w.heap.size, 0, none⟩) 3 3] (w.alloc (.cells #[.slice A l.length c, .slice B m.length d, .slice C r.length f] 22)) fun e w' => ∃ v, e = .returned v ∧ _root_.Go.Proofs.YthnahenpnafkmaaDoor.Own w' w.heap.size v (l ++ (m ++ r)) ∧ Below w.heap.size w w' := by
  have hal := (Below.refl w.heap.size w).alloc (Nat.le_refl _) (.cells #[.slice A l.length c, .slice B m.length d, .slice C r.length f] 22)
  have bk := Blk.new w #[.slice A l.length c, .slice B m.length d, .slice C r.length f] 22
  have hv : VVs (w.alloc (.cells #[.slice A l.length c, .slice B m.length d, .slice C r.length f] 22)) (some ⟨w.heap.size, 0, none⟩) [l.map bV, m.map bV, r.map bV] := by
    intro k hk
    match k, hk with
    | 0, _ => exact ⟨_, 0, A, c, rfl, bk.lt, by rw [Nat.zero_add, bk.cell]; simp, by simp [h1], (hA.below hal).vs⟩
    | 1, _ => exact ⟨_, 0, B, d, rfl, bk.lt, by rw [Nat.zero_add, bk.cell]; simp, by simp [h2], (hB.below hal).vs⟩
    | 2, _ => exact ⟨_, 0, C, f, rfl, bk.lt, by rw [Nat.zero_add, bk.cell]; simp, by simp [h3], (hC.below hal).vs⟩
  have hs : vsums [l.map bV, m.map bV, r.map bV] ≤ 1000000000 := by unfold vsums; simp; omega
  refine (by_concat_any (some ⟨w.heap.size, 0, none⟩) [l.map bV, m.map bV, r.map bV] 3 _ (by simp) hs (by
    intro q hq u hu
    simp only [List.mem_cons, List.not_mem_nil, or_false] at hq
    have : ∀ t : List UInt8, u ∈ t.map bV → u.oneCell' = true := fun t ht => by obtain ⟨x, _, rfl⟩ := List.mem_map.1 ht; rfl
    rcases hq with rfl | rfl | rfl <;> exact this _ hu) hv).mono ?_
  rintro e w' ⟨v, rfl, hown, hb⟩
  have hflat : [l.map bV, m.map bV, r.map bV].flatten = (l ++ (m ++ r)).map bV := by simp
  have hrow := hown.row
  rw [hflat, List.length_map] at hrow
  refine ⟨v, rfl, ?_, below_then hal hb⟩
  have h9 : _root_.Go.Proofs.YthnahenpnafkmaaDoor.Own w' (w.alloc (.cells #[.slice A l.length c, .slice B m.length d, .slice C r.length f] 22)).heap.size v (l ++ (m ++ r)) := hrow
  exact h9.mono (by simp)
end Go.Proofs.YthnahenpnafkmaaDoor
