/-
  Chapter 8, four things apart in memory; changed, StackPush in the program: contracts. Own work.
  Chapter 8, StackPush and StackTurn in the program: contracts. Own work.
-/
import Derived.Test.YtdmmdbapkogdhaaK01
import Derived.Test.YtdmmdbapkogdhaaC11
namespace Go.Proofs.Ytdmmdbapkogdhaa
open Go.RowKit P
set_option linter.unusedVariables false
set_option linter.unusedSimpArgs false
set_option maxRecDepth 100000

/-- Something that lies in the blocks fp. -/
structure It where
  fp : List Nat
  P : World → Prop
  st : ∀ Y Y' : World, P Y → (∀ k ∈ fp, Y'.heap[k]? = Y.heap[k]?) → Y.heap.size ≤ Y'.heap.size → P Y'
  lt : ∀ Y, P Y → ∀ k ∈ fp, k < Y.heap.size
def It.emp : It := ⟨[], fun _ => True, fun _ _ _ _ _ => trivial, fun _ _ k hk => nomatch hk⟩
def It.blk (b : Nat) (x : Value) : It := ⟨[b], fun Y => Blk Y b #[x] 139, fun Y Y' h hk _ => Blk.of_block h (hk b (by simp)), fun Y h k hk => by
  have e : k = b := by simpa using hk
  subst e
  exact Blk.lt h⟩
def It.own (v : Value) (es : List Ed) (f : List Nat) : It := ⟨f, fun Y => Lay.edits.ow Y [v] es f ∧ f.Nodup, fun Y Y' h hk hs => ⟨Lay.edits.kept h.1 hk hs, h.2⟩, fun Y h k hk => Lay.edits.lt h.1 k hk⟩
structure Sep4 (W0 Y : World) (a b c d : It) : Prop where
  bel : Below W0.heap.size W0 Y
  p : a.P Y ∧ b.P Y ∧ c.P Y ∧ d.P Y
  g : (∀ k ∈ a.fp, W0.heap.size ≤ k) ∧ (∀ k ∈ b.fp, W0.heap.size ≤ k) ∧ (∀ k ∈ c.fp, W0.heap.size ≤ k) ∧ (∀ k ∈ d.fp, W0.heap.size ≤ k)
  ab : ∀ k ∈ a.fp, k ∉ b.fp
  ac : ∀ k ∈ a.fp, k ∉ c.fp
  ad : ∀ k ∈ a.fp, k ∉ d.fp
  bc : ∀ k ∈ b.fp, k ∉ c.fp
  bd : ∀ k ∈ b.fp, k ∉ d.fp
  cd : ∀ k ∈ c.fp, k ∉ d.fp
theorem Sep4.new (W0 : World) : Sep4 W0 W0.drew It.emp It.emp It.emp It.emp := by
  refine ⟨(Below.refl _ _).drew, ⟨trivial, trivial, trivial, trivial⟩, ⟨?_, ?_, ?_, ?_⟩, ?_, ?_, ?_, ?_, ?_, ?_⟩ <;> exact fun k hk => nomatch hk
theorem Sep4.rot {W0 Y : World} {a b c d : It} (h : Sep4 W0 Y a b c d) : Sep4 W0 Y b c d a :=
  ⟨h.bel, ⟨h.p.2.1, h.p.2.2.1, h.p.2.2.2, h.p.1⟩, ⟨h.g.2.1, h.g.2.2.1, h.g.2.2.2, h.g.1⟩, h.bc, h.bd, fun k hk h2 => h.ab k h2 hk, h.cd, fun k hk h2 => h.ac k h2 hk, fun k hk h2 => h.ad k h2 hk⟩
theorem Sep4.fresh {W0 Y Y' : World} {a b c d : It} (h : Sep4 W0 Y It.emp b c d) (hb : Below Y.heap.size Y Y') (hp : a.P Y') (hg : ∀ k ∈ a.fp, Y.heap.size ≤ k) : Sep4 W0 Y' a b c d := by
  have hz := h.bel.size
  have k1 := fun k hk => b.lt _ h.p.2.1 k hk
  have k2 := fun k hk => c.lt _ h.p.2.2.1 k hk
  have k3 := fun k hk => d.lt _ h.p.2.2.2 k hk
  exact ⟨below_then h.bel hb, ⟨hp, b.st _ _ h.p.2.1 (fun k hk => hb.block k (k1 k hk)) hb.size, c.st _ _ h.p.2.2.1 (fun k hk => hb.block k (k2 k hk)) hb.size, d.st _ _ h.p.2.2.2 (fun k hk => hb.block k (k3 k hk)) hb.size⟩,
    ⟨fun k hk => Nat.le_trans hz (hg k hk), h.g.2.1, h.g.2.2.1, h.g.2.2.2⟩, fun k hk h2 => by have := hg k hk; have := k1 k h2; omega, fun k hk h2 => by have := hg k hk; have := k2 k h2; omega, fun k hk h2 => by have := hg k hk; have := k3 k h2; omega, h.bc, h.bd, h.cd⟩
theorem Sep4.upd {W0 Y Y' : World} {a a' b c d : It} (h : Sep4 W0 Y a b c d) (hk : Keeps a.fp Y Y') (hp : a'.P Y') (hs : ∀ k ∈ a'.fp, k ∈ a.fp) : Sep4 W0 Y' a' b c d :=
  ⟨h.bel.trans (hk.below (B := W0.heap.size) h.bel.size h.g.1), ⟨hp, b.st _ _ h.p.2.1 (fun k hkb => hk.block k (b.lt _ h.p.2.1 k hkb) (fun h2 => h.ab k h2 hkb)) hk.size, c.st _ _ h.p.2.2.1 (fun k hkb => hk.block k (c.lt _ h.p.2.2.1 k hkb) (fun h2 => h.ac k h2 hkb)) hk.size, d.st _ _ h.p.2.2.2 (fun k hkb => hk.block k (d.lt _ h.p.2.2.2 k hkb) (fun h2 => h.ad k h2 hkb)) hk.size⟩,
    ⟨fun k hk2 => h.g.1 k (hs k hk2), h.g.2.1, h.g.2.2.1, h.g.2.2.2⟩, fun k hk2 => h.ab k (hs k hk2), fun k hk2 => h.ac k (hs k hk2), fun k hk2 => h.ad k (hs k hk2), h.bc, h.bd, h.cd⟩

/-- Two lists in variables beside each other. -/
structure Two (w : World) (B ub rb : Nat) (uv : Value) (u : List Ed) (fu : List Nat) (rv : Value) (r : List Ed) (fr : List Nat) : Prop where
  u : Lb w B ub uv u fu
  r : Lb w B rb rv r fr
  ne : ub ≠ rb
  nu : ub ∉ fr
  nr : rb ∉ fu
  dis : ∀ k ∈ fu, k ∉ fr
theorem Two.of_sep {W0 Y : World} {b8 b9 : Nat} {uv rv : Value} {u r : List Ed} {fu fr : List Nat} (h : Sep4 W0 Y (It.own uv u fu) (It.own rv r fr) (It.blk b8 uv) (It.blk b9 rv)) : Two Y W0.heap.size b8 b9 uv u fu rv r fr :=
  ⟨⟨h.p.2.2.1, h.p.1.1, h.p.1.2, fun k hk e => h.ac k hk (by simp [It.blk, e]), h.g.1, h.g.2.2.1 b8 (by simp [It.blk])⟩, ⟨h.p.2.2.2, h.p.2.1.1, h.p.2.1.2, fun k hk e => h.bd k hk (by simp [It.blk, e]), h.g.2.1, h.g.2.2.2 b9 (by simp [It.blk])⟩,
    fun e => h.cd b8 (by simp [It.blk]) (by simp [It.blk, e]), fun h2 => h.bc b8 h2 (by simp [It.blk]), fun h2 => h.ad b9 h2 (by simp [It.blk]), h.ab⟩

/-- What a change of two lists leaves. -/
def Changed (w : World) (B ub rb : Nat) (ok : Bool) (u r : List Ed) (e : Ending) (w' : World) : Prop := e = .returned (.bool ok) ∧ ∃ uv fu rv fr, Two w' B ub rb uv u fu rv r fr ∧ Below B w w'

/-- What changed gives: a stack of the call's own, and the flag. -/
def GivesSt (u r : List Ed) (ok : Bool) (w : World) (e : Ending) (w' : World) : Prop := ∃ A c fp B d gp, e = .returned (.tuple #[.agg #[.slice A u.length c, .slice B r.length d], .bool ok]) ∧ OwS w' w.heap.size A u c fp B r d gp ∧ Below w.heap.size w w'
theorem ows_nil (w : World) (base : Nat) : OwS w base none [] 0 [] none [] 0 [] := ⟨⟨Lay.slice_nil _ _ _, List.nodup_nil, fun _ h => nomatch h⟩, ⟨Lay.slice_nil _ _ _, List.nodup_nil, fun _ h => nomatch h⟩, fun _ h => nomatch h⟩

set_option maxHeartbeats 32000000 in
theorem changedPush_any (A : Option Addr) (u : List Ed) (c : Nat) (B : Option Addr) (r : List Ed) (d : Nat) (a m : Int) (P : Option Addr) (p : List UInt8) (ep : Nat) (h : Nat) (ok : Bool) (U R : List Ed) (w : World) (hu9 : u.length ≤ 9223372036854775807) (hr9 : r.length ≤ 9223372036854775807) (hp9 : p.length ≤ 9223372036854775807) (hU : Es w A u) (hR : Es w B r)
    (hno : (stOk u r && edSmall a m p) = true → ok = false → U = [] ∧ R = []) (hbad : (stOk u r && edSmall a m p) = false → ok = false ∧ U = [] ∧ R = [])
    (hch : ∀ (W : World) (ub rb : Nat) (B9 : Nat) (uv : Value) (fu : List Nat) (rv : Value) (fr : List Nat) (gp : (stOk u r && edSmall a m p) = true), Below w.heap.size w W → w.heap.size ≤ B9 → B9 ≤ W.heap.size → Two W B9 ub rb uv u fu rv r fr → Calls Try.prog 120 #[.pointer (some ⟨ub, 0, none⟩), .pointer (some ⟨rb, 0, none⟩), .pointer (some ⟨h, 0, none⟩)] W fun x W' => ∃ U' R', Changed W B9 ub rb ok U' R' x W' ∧ (ok = true → U' = U ∧ R' = R)) :
    Calls Try.prog 119 #[.agg #[.slice A u.length c, .slice B r.length d], .agg #[.int .i64 a, .int .i64 m, .slice P p.length ep], .func (.func 120) #[] #[.pointer (some ⟨h, 0, none⟩)]] w (GivesSt U R ok w) := by
  have hal := ((Below.refl w.heap.size w).alloc (Nat.le_refl _) (.cells #[.slice A u.length c, .slice B r.length d] 46)).alloc (by simp) (.cells #[.int .i64 a, .int .i64 m, .slice P p.length ep] 30)
  have hal3 := hal.alloc (by simp; omega) (.cells #[.slice none 0 0, .slice none 0 0] 46)
  have hbx := ((Blk.new w #[.slice A u.length c, .slice B r.length d] 46).alloc (.cells #[.int .i64 a, .int .i64 m, .slice P p.length ep] 30)).alloc (.cells #[.slice none 0 0, .slice none 0 0] 46)
  have hex := (Blk.new (w.alloc (.cells #[.slice A u.length c, .slice B r.length d] 46)) #[.int .i64 a, .int .i64 m, .slice P p.length ep] 30).alloc (.cells #[.slice none 0 0, .slice none 0 0] 46)
  have hrx := Blk.new ((w.alloc (.cells #[.slice A u.length c, .slice B r.length d] 46)).alloc (.cells #[.int .i64 a, .int .i64 m, .slice P p.length ep] 30)) #[.slice none 0 0, .slice none 0 0] 46
  simp only [World.size_alloc] at hex hrx
  have BX := Lib.hid hbx
  have EX := Lib.hid hex
  have RX := Lib.hid hrx
  have HB := Lib.hid hal3
  have hzw : (((w.alloc (.cells #[.slice A u.length c, .slice B r.length d] 46)).alloc (.cells #[.int .i64 a, .int .i64 m, .slice P p.length ep] 30)).alloc (.cells #[.slice none 0 0, .slice none 0 0] 46)).heap.size ≥ w.heap.size + 3 := by simp
  have HU := Lib.hid (show ∀ W, Below w.heap.size w W → Es W A u from fun W h => hU.below h)
  have HR := Lib.hid (show ∀ W, Below w.heap.size w W → Es W B r from fun W h => hR.below h)
  obtain ⟨y, hy⟩ : ∃ y, stOk u r = y := ⟨_, rfl⟩
  obtain ⟨z, hz⟩ : ∃ z, edSmall a m p = z := ⟨_, rfl⟩
  have HY := Lib.hid hy
  have HZ := Lib.hid hz
  have HNO := Lib.hid hno
  have HBAD := Lib.hid hbad
  have HCH := Lib.hid hch
  clear hy hz hal hal3 hbx hex hrx hU hR hno hbad hch
  go_enter Try.func119, Try.ntmps119
  have p0 := BX.out.cell 0
  have p1 := BX.out.cell 1
  have hU1 := HU.out _ HB.out
  have hR1 := HR.out _ HB.out
  go_wp2_with fail
  generalize ((w.alloc (.cells #[.slice A u.length c, .slice B r.length d] 46)).alloc (.cells #[.int .i64 a, .int .i64 m, .slice P p.length ep] 30)).alloc (.cells #[.slice none 0 0, .slice none 0 0] 46) = W0 at *
  refine (implStackOk_any A B u r c d _ hu9 hr9 hU1 hR1).mono ?_
  rintro x W1 ⟨rfl, hb⟩
  rw [HY.out]
  have BX := Lib.hid (BX.out.below hb)
  have EX := Lib.hid (EX.out.below hb)
  have RX := Lib.hid (RX.out.below hb)
  have HB := Lib.hid (below_then HB.out hb)
  have hzw := Nat.le_trans hzw hb.size
  clear p0 p1 hU1 hR1 hb
  cases y
  · obtain ⟨hok, hU0, hR0⟩ := HBAD.out (by rw [HY.out]; rfl)
    subst hok hU0 hR0
    have f0 := RX.out.frozen 0
    have f1 := RX.out.frozen 1
    have c0 := RX.out.cell 0
    have c1 := RX.out.cell 1
    have hltR := RX.out.lt
    go_wp2
    refine bodyPost_ret (v := .tuple #[.agg #[.slice none 0 0, .slice none 0 0], .bool false]) (by simp [results, Try.results119, go_sem, c0, c1]) rfl ?_
    exact ⟨none, 0, [], none, 0, [], rfl, ows_nil _ _, (HB.out.setCell (p := ⟨w.heap.size + 2, 0, none⟩) (by simp) _).setCell (p := ⟨w.heap.size + 2, 1, none⟩) (by simp) _⟩
  have p0 := EX.out.cell 0
  have p1 := EX.out.cell 1
  have p2 := EX.out.cell 2
  go_wp2_with fail
  refine (isSmall_any a m P p ep _ hp9).mono ?_
  rintro x W2 ⟨rfl, hb⟩
  rw [HZ.out]
  have BX := Lib.hid (BX.out.below hb)
  have EX := Lib.hid (EX.out.below hb)
  have RX := Lib.hid (RX.out.below hb)
  have HB := Lib.hid (below_then HB.out hb)
  have hzw := Nat.le_trans hzw hb.size
  clear p0 p1 p2 hb
  cases z
  · obtain ⟨hok, hU0, hR0⟩ := HBAD.out (by rw [HY.out, HZ.out]; rfl)
    subst hok hU0 hR0
    have f0 := RX.out.frozen 0
    have f1 := RX.out.frozen 1
    have c0 := RX.out.cell 0
    have c1 := RX.out.cell 1
    have hltR := RX.out.lt
    go_wp2
    refine bodyPost_ret (v := .tuple #[.agg #[.slice none 0 0, .slice none 0 0], .bool false]) (by simp [results, Try.results119, go_sem, c0, c1]) rfl ?_
    exact ⟨none, 0, [], none, 0, [], rfl, ows_nil _ _, (HB.out.setCell (p := ⟨w.heap.size + 2, 0, none⟩) (by simp) _).setCell (p := ⟨w.heap.size + 2, 1, none⟩) (by simp) _⟩
  have hgood : (stOk u r && edSmall a m p) = true := by rw [HY.out, HZ.out]; rfl
  have hfu : stFit u = true := by have h9 := HY.out; unfold stOk at h9; rw [Bool.and_eq_true] at h9; exact h9.1
  have hfr : stFit r = true := by have h9 := HY.out; unfold stOk at h9; rw [Bool.and_eq_true] at h9; exact h9.2
  have hlu := stFit_len hfu
  have hlr := stFit_len hfr
  have hsu : ∀ e ∈ u, e.2.2.length ≤ 1000 := fun e he => by have h9 := (edSmall_iff _ _ _).1 (show edSmall e.1 e.2.1 e.2.2 = true from stFit_all hfu e he); omega
  have hsr : ∀ e ∈ r, e.2.2.length ≤ 1000 := fun e he => by have h9 := (edSmall_iff _ _ _).1 (show edSmall e.1 e.2.1 e.2.2 = true from stFit_all hfr e he); omega
  have HG := Lib.hid hgood
  have HSU := Lib.hid hsu
  have HSR := Lib.hid hsr
  have zs := BX.out.lt
  have p0 := BX.out.cell 0
  have p1 := BX.out.cell 1
  clear hgood hfu hfr HBAD
  go_upto_region 3 with fail
  go_cut [8, 9] (fun x y wx => ∃ (b8 b9 : Nat) (A1 : Option Addr) (c1 : Nat) (f1 : List Nat) (A2 : Option Addr) (c2 : Nat) (f2 : List Nat), x = .pointer (some ⟨b8, 0, none⟩) ∧ y = .pointer (some ⟨b9, 0, none⟩) ∧ Sep4 W2 wx (It.own (.slice A1 u.length c1) u f1) (It.own (.slice A2 r.length c2) r f2) (It.blk b8 (.slice A1 u.length c1)) (It.blk b9 (.slice A2 r.length c2)))
  case first =>
    refine wp_region_noPanic ?_
    refine wp_region_held_drew (S := fun V => V.cell? ⟨w.heap.size, 0, none⟩ = some (.slice A u.length c) ∧ V.cell? ⟨w.heap.size, 1, none⟩ = some (.slice B r.length d)) (by kernel_rfl) ⟨p0, p1⟩ (fun hHeld => ?_)
    have HE0 : Hid (Sep4 W2 W2.drew It.emp It.emp It.emp It.emp) := Lib.hid (Sep4.new W2)
    refine wpAnyH_take (i := 0) (oi := ?_) (v := ?_) ?_ ?_ ?_ ?_ ?_ ?_ (by exact hHeld) ?_
    rotate_left 2
    · (simp only [List.getElem?_toArray, List.getElem?_cons_zero]; try rfl)
    · kernel_rfl
    · kernel_rfl
    · kernel_rfl
    · exact fun _ _ _ h => h
    · refine Or.inl ⟨by rfl, ?_⟩
      (intro V hSV; (try dsimp only at hSV); obtain ⟨q0, q1⟩ := hSV; go_simp; try with_reducible rfl)
    (try simp only [Act.put, List.setIfInBounds_toArray, List.set_cons_zero, List.set_cons_succ])
    refine wpAnyH_take (i := 1) (oi := ?_) (v := ?_) ?_ ?_ ?_ ?_ ?_ ?_ (by exact hHeld) ?_
    rotate_left 2
    · (simp only [List.getElem?_toArray, List.getElem?_cons_zero, List.getElem?_cons_succ]; try rfl)
    · kernel_rfl
    · kernel_rfl
    · kernel_rfl
    · exact fun _ _ _ h => h
    · refine Or.inl ⟨by rfl, ?_⟩
      (intro V hSV; (try dsimp only at hSV); obtain ⟨q0, q1⟩ := hSV; go_simp; try with_reducible rfl)
    (try simp only [Act.put, List.setIfInBounds_toArray, List.set_cons_zero, List.set_cons_succ])
    refine wpAnyH_take (i := 3) (oi := ?_) (v := ?_) ?_ ?_ ?_ ?_ ?_ ?_ (by exact hHeld) ?_
    rotate_left 2
    · (simp only [List.getElem?_toArray, List.getElem?_cons_zero, List.getElem?_cons_succ]; try rfl)
    · kernel_rfl
    · kernel_rfl
    · kernel_rfl
    · exact fun _ _ _ h => h
    · refine Or.inl ⟨by rfl, ?_⟩
      (intro V hSV; (try dsimp only at hSV); obtain ⟨q0, q1⟩ := hSV; go_simp; try with_reducible rfl)
    (try simp only [Act.put, List.setIfInBounds_toArray, List.set_cons_zero, List.set_cons_succ])
    refine wpAnyH_take (i := 4) (oi := ?_) (v := ?_) ?_ ?_ ?_ ?_ ?_ ?_ (by exact hHeld) ?_
    rotate_left 2
    · (simp only [List.getElem?_toArray, List.getElem?_cons_zero, List.getElem?_cons_succ]; try rfl)
    · kernel_rfl
    · kernel_rfl
    · kernel_rfl
    · exact fun _ _ _ h => h
    · refine Or.inl ⟨by rfl, ?_⟩
      (intro V hSV; (try dsimp only at hSV); obtain ⟨q0, q1⟩ := hSV; go_simp; try with_reducible rfl)
    (try simp only [Act.put, List.setIfInBounds_toArray, List.set_cons_zero, List.set_cons_succ])
    generalize W2.drew = Y0 at *
    refine wpAnyH_ready (rs := [2, 6, 7]) (by kernel_rfl) (by simp) ?_
    refine AllReadyH.cons (o := ?_) ?_ (fun K hK => ?_) ?_
    rotate_left 1
    · (simp only [List.getElem?_toArray, List.getElem?_cons_zero, List.getElem?_cons_succ]; try rfl)
    · go_simp
      refine (newEditStack_any A u c _ (by omega) hsu (HU.out _ (below_then HB.out HE0.out.bel))).mono ?_
      rintro e Y1 ⟨v1, f1, rfl, ho1, hn1, hl1, hb1⟩
      obtain ⟨A1, c1, e1, _, _, _⟩ := Lay.edits.read ho1
      simp only [List.cons.injEq, and_true] at e1
      subst e1
      have HE1 := Lib.hid ((HE0.out.fresh (a := It.own (.slice A1 u.length c1) u f1) hb1 ⟨ho1, hn1⟩ hl1))
      clear ho1 hn1 hl1 hb1
      go_wp2_with fail
      refine hK.out _ _ ⟨(HE1.out.bel.cell (p := ⟨w.heap.size, 0, none⟩) zs).trans p0, (HE1.out.bel.cell (p := ⟨w.heap.size, 1, none⟩) zs).trans p1⟩ (fun hHeld => ?_)
      clear hK K
      (try simp only [Act.put, List.setIfInBounds_toArray, List.set_cons_zero, List.set_cons_succ])
      refine wpAnyH_ready (rs := [5, 6, 7]) (by kernel_rfl) (by simp) ?_
      refine AllReadyH.cons (o := ?_) ?_ (fun K hK => ?_) ?_
      rotate_left 1
      · (simp only [List.getElem?_toArray, List.getElem?_cons_zero, List.getElem?_cons_succ]; try rfl)
      · go_simp
        refine (newEditStack_any B r d _ (by omega) hsr (HR.out _ (below_then HB.out HE1.out.bel))).mono ?_
        rintro e Y2 ⟨v2, f2, rfl, ho2, hn2, hl2, hb2⟩
        obtain ⟨A2, c2, e2, _, _, _⟩ := Lay.edits.read ho2
        simp only [List.cons.injEq, and_true] at e2
        subst e2
        have HE2 := Lib.hid ((HE1.out.rot.fresh (a := It.own (.slice A2 r.length c2) r f2) hb2 ⟨ho2, hn2⟩ hl2).rot.rot.rot)
        clear ho2 hn2 hl2 hb2
        go_wp2_with fail
        refine hK.out _ _ ⟨(HE2.out.bel.cell (p := ⟨w.heap.size, 0, none⟩) zs).trans p0, (HE2.out.bel.cell (p := ⟨w.heap.size, 1, none⟩) zs).trans p1⟩ (fun hHeld => ?_)
        clear hK K
        (try simp only [Act.put, List.setIfInBounds_toArray, List.set_cons_zero, List.set_cons_succ])
        refine wpAnyH_ready (rs := [6, 7]) (by kernel_rfl) (by simp) ?_
        refine AllReadyH.cons (o := ?_) ?_ (fun K hK => ?_) ?_
        rotate_left 1
        · (simp only [List.getElem?_toArray, List.getElem?_cons_zero, List.getElem?_cons_succ]; try rfl)
        · have HE3 := Lib.hid ((HE2.out.rot.rot.fresh (a := It.blk Y2.heap.size (.slice none 0 0)) ((Below.refl Y2.heap.size Y2).alloc (Nat.le_refl _) (.cells #[.slice none 0 0] 139)) (Blk.new Y2 _ _) (fun k hk => by simp [It.blk] at hk; omega)).rot.rot)
          have hz3 := HE2.out.bel.size
          go_simp
          generalize Y2.alloc (.cells #[.slice none 0 0] 139) = Y3 at *
          refine hK.out _ _ ⟨(HE3.out.bel.cell (p := ⟨w.heap.size, 0, none⟩) zs).trans p0, (HE3.out.bel.cell (p := ⟨w.heap.size, 1, none⟩) zs).trans p1⟩ (fun hHeld => ?_)
          clear hK K
          (try simp only [Act.put, List.setIfInBounds_toArray, List.set_cons_zero, List.set_cons_succ])
          refine wpAnyH_ready (rs := [7]) (by kernel_rfl) (by simp) ?_
          refine AllReadyH.cons (o := ?_) ?_ (fun K hK => ?_) AllReadyH.nil
          rotate_left 1
          · (simp only [List.getElem?_toArray, List.getElem?_cons_zero, List.getElem?_cons_succ]; try rfl)
          have HE4 := Lib.hid ((HE3.out.rot.rot.rot.fresh (a := It.blk Y3.heap.size (.slice none 0 0)) ((Below.refl Y3.heap.size Y3).alloc (Nat.le_refl _) (.cells #[.slice none 0 0] 139)) (Blk.new Y3 _ _) (fun k hk => by simp [It.blk] at hk; omega)).rot)
          have hz4 := HE3.out.bel.size
          go_simp
          generalize Y3.alloc (.cells #[.slice none 0 0] 139) = Y4 at *
          refine hK.out _ _ ⟨(HE4.out.bel.cell (p := ⟨w.heap.size, 0, none⟩) zs).trans p0, (HE4.out.bel.cell (p := ⟨w.heap.size, 1, none⟩) zs).trans p1⟩ (fun hHeld => ?_)
          clear hK K
          (try simp only [Act.put, List.setIfInBounds_toArray, List.set_cons_zero, List.set_cons_succ])
          refine wpAnyH_ready (rs := [8]) (by kernel_rfl) (by simp) ?_
          refine AllReadyH.cons (o := ?_) ?_ (fun K hK => ?_) AllReadyH.nil
          rotate_left 1
          · (simp only [List.getElem?_toArray, List.getElem?_cons_zero, List.getElem?_cons_succ]; try rfl)
          have qb := HE4.out.p.2.2.1
          have qc := Blk.cell (show Blk Y4 (Y2.heap.size) #[.slice none 0 0] 139 from qb) 0
          have qf := Blk.frozen (show Blk Y4 (Y2.heap.size) #[.slice none 0 0] 139 from qb) 0
          have HE5 := Lib.hid ((HE4.out.rot.rot.upd (a' := It.blk (Y2.heap.size) (.slice A1 u.length c1)) ((Keeps.refl [Y2.heap.size] Y4).set (List.mem_singleton.2 rfl) 0 (.slice A1 u.length c1)) (show Blk _ _ _ _ by simpa using (show Blk Y4 (Y2.heap.size) #[.slice none 0 0] 139 from qb).set 0 (.slice A1 u.length c1)) (fun k hk => hk)).rot.rot)
          go_simp
          clear qb qc qf
          generalize Y4.setCell ⟨Y2.heap.size, 0, none⟩ (.slice A1 u.length c1) = Y5 at *
          refine hK.out _ _ ⟨(HE5.out.bel.cell (p := ⟨w.heap.size, 0, none⟩) zs).trans p0, (HE5.out.bel.cell (p := ⟨w.heap.size, 1, none⟩) zs).trans p1⟩ (fun hHeld => ?_)
          clear hK K
          (try simp only [Act.put, List.setIfInBounds_toArray, List.set_cons_zero, List.set_cons_succ])
          refine wpAnyH_ready (rs := [9]) (by kernel_rfl) (by simp) ?_
          refine AllReadyH.cons (o := ?_) ?_ (fun K hK => ?_) AllReadyH.nil
          rotate_left 1
          · (simp only [List.getElem?_toArray, List.getElem?_cons_zero, List.getElem?_cons_succ]; try rfl)
          have qb := HE5.out.p.2.2.2
          have qc := Blk.cell (show Blk Y5 (Y3.heap.size) #[.slice none 0 0] 139 from qb) 0
          have qf := Blk.frozen (show Blk Y5 (Y3.heap.size) #[.slice none 0 0] 139 from qb) 0
          have HE6 := Lib.hid ((HE5.out.rot.rot.rot.upd (a' := It.blk (Y3.heap.size) (.slice A2 r.length c2)) ((Keeps.refl [Y3.heap.size] Y5).set (List.mem_singleton.2 rfl) 0 (.slice A2 r.length c2)) (show Blk _ _ _ _ by simpa using (show Blk Y5 (Y3.heap.size) #[.slice none 0 0] 139 from qb).set 0 (.slice A2 r.length c2)) (fun k hk => hk)).rot)
          go_simp
          clear qb qc qf
          generalize Y5.setCell ⟨Y3.heap.size, 0, none⟩ (.slice A2 r.length c2) = Y6 at *
          refine hK.out _ _ ⟨(HE6.out.bel.cell (p := ⟨w.heap.size, 0, none⟩) zs).trans p0, (HE6.out.bel.cell (p := ⟨w.heap.size, 1, none⟩) zs).trans p1⟩ (fun hHeld => ?_)
          clear hK K
          (try simp only [Act.put, List.setIfInBounds_toArray, List.set_cons_zero, List.set_cons_succ])
          refine wpAnyH_done (by kernel_rfl) ?_ _
          refine NoPanic.normal ?_
          go_wp2_with fail
          go_meet
          exact ⟨_, _, A1, c1, f1, A2, c2, f2, rfl, rfl, HE6.out⟩
        refine AllReadyH.cons (o := ?_) ?_ (fun K hK => ?_) AllReadyH.nil
        rotate_left 1
        · (simp only [List.getElem?_toArray, List.getElem?_cons_zero, List.getElem?_cons_succ]; try rfl)
        have HE7 := Lib.hid ((HE2.out.rot.rot.rot.fresh (a := It.blk Y2.heap.size (.slice none 0 0)) ((Below.refl Y2.heap.size Y2).alloc (Nat.le_refl _) (.cells #[.slice none 0 0] 139)) (Blk.new Y2 _ _) (fun k hk => by simp [It.blk] at hk; omega)).rot)
        have hz7 := HE2.out.bel.size
        go_simp
        generalize Y2.alloc (.cells #[.slice none 0 0] 139) = Y7 at *
        refine hK.out _ _ ⟨(HE7.out.bel.cell (p := ⟨w.heap.size, 0, none⟩) zs).trans p0, (HE7.out.bel.cell (p := ⟨w.heap.size, 1, none⟩) zs).trans p1⟩ (fun hHeld => ?_)
        clear hK K
        (try simp only [Act.put, List.setIfInBounds_toArray, List.set_cons_zero, List.set_cons_succ])
        refine wpAnyH_ready (rs := [6]) (by kernel_rfl) (by simp) ?_
        refine AllReadyH.cons (o := ?_) ?_ (fun K hK => ?_) AllReadyH.nil
        rotate_left 1
        · (simp only [List.getElem?_toArray, List.getElem?_cons_zero, List.getElem?_cons_succ]; try rfl)
        have HE8 := Lib.hid ((HE7.out.rot.rot.fresh (a := It.blk Y7.heap.size (.slice none 0 0)) ((Below.refl Y7.heap.size Y7).alloc (Nat.le_refl _) (.cells #[.slice none 0 0] 139)) (Blk.new Y7 _ _) (fun k hk => by simp [It.blk] at hk; omega)).rot.rot)
        have hz8 := HE7.out.bel.size
        go_simp
        generalize Y7.alloc (.cells #[.slice none 0 0] 139) = Y8 at *
        refine hK.out _ _ ⟨(HE8.out.bel.cell (p := ⟨w.heap.size, 0, none⟩) zs).trans p0, (HE8.out.bel.cell (p := ⟨w.heap.size, 1, none⟩) zs).trans p1⟩ (fun hHeld => ?_)
        clear hK K
        (try simp only [Act.put, List.setIfInBounds_toArray, List.set_cons_zero, List.set_cons_succ])
        refine wpAnyH_ready (rs := [8]) (by kernel_rfl) (by simp) ?_
        refine AllReadyH.cons (o := ?_) ?_ (fun K hK => ?_) AllReadyH.nil
        rotate_left 1
        · (simp only [List.getElem?_toArray, List.getElem?_cons_zero, List.getElem?_cons_succ]; try rfl)
        have qb := HE8.out.p.2.2.1
        have qc := Blk.cell (show Blk Y8 (Y7.heap.size) #[.slice none 0 0] 139 from qb) 0
        have qf := Blk.frozen (show Blk Y8 (Y7.heap.size) #[.slice none 0 0] 139 from qb) 0
        have HE9 := Lib.hid ((HE8.out.rot.rot.upd (a' := It.blk (Y7.heap.size) (.slice A1 u.length c1)) ((Keeps.refl [Y7.heap.size] Y8).set (List.mem_singleton.2 rfl) 0 (.slice A1 u.length c1)) (show Blk _ _ _ _ by simpa using (show Blk Y8 (Y7.heap.size) #[.slice none 0 0] 139 from qb).set 0 (.slice A1 u.length c1)) (fun k hk => hk)).rot.rot)
        go_simp
        clear qb qc qf
        generalize Y8.setCell ⟨Y7.heap.size, 0, none⟩ (.slice A1 u.length c1) = Y9 at *
        refine hK.out _ _ ⟨(HE9.out.bel.cell (p := ⟨w.heap.size, 0, none⟩) zs).trans p0, (HE9.out.bel.cell (p := ⟨w.heap.size, 1, none⟩) zs).trans p1⟩ (fun hHeld => ?_)
        clear hK K
        (try simp only [Act.put, List.setIfInBounds_toArray, List.set_cons_zero, List.set_cons_succ])
        refine wpAnyH_ready (rs := [9]) (by kernel_rfl) (by simp) ?_
        refine AllReadyH.cons (o := ?_) ?_ (fun K hK => ?_) AllReadyH.nil
        rotate_left 1
        · (simp only [List.getElem?_toArray, List.getElem?_cons_zero, List.getElem?_cons_succ]; try rfl)
        have qb := HE9.out.p.2.2.2
        have qc := Blk.cell (show Blk Y9 (Y2.heap.size) #[.slice none 0 0] 139 from qb) 0
        have qf := Blk.frozen (show Blk Y9 (Y2.heap.size) #[.slice none 0 0] 139 from qb) 0
        have HE10 := Lib.hid ((HE9.out.rot.rot.rot.upd (a' := It.blk (Y2.heap.size) (.slice A2 r.length c2)) ((Keeps.refl [Y2.heap.size] Y9).set (List.mem_singleton.2 rfl) 0 (.slice A2 r.length c2)) (show Blk _ _ _ _ by simpa using (show Blk Y9 (Y2.heap.size) #[.slice none 0 0] 139 from qb).set 0 (.slice A2 r.length c2)) (fun k hk => hk)).rot)
        go_simp
        clear qb qc qf
        generalize Y9.setCell ⟨Y2.heap.size, 0, none⟩ (.slice A2 r.length c2) = Y10 at *
        refine hK.out _ _ ⟨(HE10.out.bel.cell (p := ⟨w.heap.size, 0, none⟩) zs).trans p0, (HE10.out.bel.cell (p := ⟨w.heap.size, 1, none⟩) zs).trans p1⟩ (fun hHeld => ?_)
        clear hK K
        (try simp only [Act.put, List.setIfInBounds_toArray, List.set_cons_zero, List.set_cons_succ])
        refine wpAnyH_done (by kernel_rfl) ?_ _
        refine NoPanic.normal ?_
        go_wp2_with fail
        go_meet
        exact ⟨_, _, A1, c1, f1, A2, c2, f2, rfl, rfl, HE10.out⟩
      refine AllReadyH.cons (o := ?_) ?_ (fun K hK => ?_) ?_
      rotate_left 1
      · (simp only [List.getElem?_toArray, List.getElem?_cons_zero, List.getElem?_cons_succ]; try rfl)
      · have HE11 := Lib.hid ((HE1.out.rot.rot.fresh (a := It.blk Y1.heap.size (.slice none 0 0)) ((Below.refl Y1.heap.size Y1).alloc (Nat.le_refl _) (.cells #[.slice none 0 0] 139)) (Blk.new Y1 _ _) (fun k hk => by simp [It.blk] at hk; omega)).rot.rot)
        have hz11 := HE1.out.bel.size
        go_simp
        generalize Y1.alloc (.cells #[.slice none 0 0] 139) = Y11 at *
        refine hK.out _ _ ⟨(HE11.out.bel.cell (p := ⟨w.heap.size, 0, none⟩) zs).trans p0, (HE11.out.bel.cell (p := ⟨w.heap.size, 1, none⟩) zs).trans p1⟩ (fun hHeld => ?_)
        clear hK K
        (try simp only [Act.put, List.setIfInBounds_toArray, List.set_cons_zero, List.set_cons_succ])
        refine wpAnyH_ready (rs := [5, 7]) (by kernel_rfl) (by simp) ?_
        refine AllReadyH.cons (o := ?_) ?_ (fun K hK => ?_) ?_
        rotate_left 1
        · (simp only [List.getElem?_toArray, List.getElem?_cons_zero, List.getElem?_cons_succ]; try rfl)
        · go_simp
          refine (newEditStack_any B r d _ (by omega) hsr (HR.out _ (below_then HB.out HE11.out.bel))).mono ?_
          rintro e Y12 ⟨v12, f12, rfl, ho12, hn12, hl12, hb12⟩
          obtain ⟨A12, c12, e12, _, _, _⟩ := Lay.edits.read ho12
          simp only [List.cons.injEq, and_true] at e12
          subst e12
          have HE12 := Lib.hid ((HE11.out.rot.fresh (a := It.own (.slice A12 r.length c12) r f12) hb12 ⟨ho12, hn12⟩ hl12).rot.rot.rot)
          clear ho12 hn12 hl12 hb12
          go_wp2_with fail
          refine hK.out _ _ ⟨(HE12.out.bel.cell (p := ⟨w.heap.size, 0, none⟩) zs).trans p0, (HE12.out.bel.cell (p := ⟨w.heap.size, 1, none⟩) zs).trans p1⟩ (fun hHeld => ?_)
          clear hK K
          (try simp only [Act.put, List.setIfInBounds_toArray, List.set_cons_zero, List.set_cons_succ])
          refine wpAnyH_ready (rs := [7]) (by kernel_rfl) (by simp) ?_
          refine AllReadyH.cons (o := ?_) ?_ (fun K hK => ?_) AllReadyH.nil
          rotate_left 1
          · (simp only [List.getElem?_toArray, List.getElem?_cons_zero, List.getElem?_cons_succ]; try rfl)
          have HE13 := Lib.hid ((HE12.out.rot.rot.rot.fresh (a := It.blk Y12.heap.size (.slice none 0 0)) ((Below.refl Y12.heap.size Y12).alloc (Nat.le_refl _) (.cells #[.slice none 0 0] 139)) (Blk.new Y12 _ _) (fun k hk => by simp [It.blk] at hk; omega)).rot)
          have hz13 := HE12.out.bel.size
          go_simp
          generalize Y12.alloc (.cells #[.slice none 0 0] 139) = Y13 at *
          refine hK.out _ _ ⟨(HE13.out.bel.cell (p := ⟨w.heap.size, 0, none⟩) zs).trans p0, (HE13.out.bel.cell (p := ⟨w.heap.size, 1, none⟩) zs).trans p1⟩ (fun hHeld => ?_)
          clear hK K
          (try simp only [Act.put, List.setIfInBounds_toArray, List.set_cons_zero, List.set_cons_succ])
          refine wpAnyH_ready (rs := [8]) (by kernel_rfl) (by simp) ?_
          refine AllReadyH.cons (o := ?_) ?_ (fun K hK => ?_) AllReadyH.nil
          rotate_left 1
          · (simp only [List.getElem?_toArray, List.getElem?_cons_zero, List.getElem?_cons_succ]; try rfl)
          have qb := HE13.out.p.2.2.1
          have qc := Blk.cell (show Blk Y13 (Y1.heap.size) #[.slice none 0 0] 139 from qb) 0
          have qf := Blk.frozen (show Blk Y13 (Y1.heap.size) #[.slice none 0 0] 139 from qb) 0
          have HE14 := Lib.hid ((HE13.out.rot.rot.upd (a' := It.blk (Y1.heap.size) (.slice A1 u.length c1)) ((Keeps.refl [Y1.heap.size] Y13).set (List.mem_singleton.2 rfl) 0 (.slice A1 u.length c1)) (show Blk _ _ _ _ by simpa using (show Blk Y13 (Y1.heap.size) #[.slice none 0 0] 139 from qb).set 0 (.slice A1 u.length c1)) (fun k hk => hk)).rot.rot)
          go_simp
          clear qb qc qf
          generalize Y13.setCell ⟨Y1.heap.size, 0, none⟩ (.slice A1 u.length c1) = Y14 at *
          refine hK.out _ _ ⟨(HE14.out.bel.cell (p := ⟨w.heap.size, 0, none⟩) zs).trans p0, (HE14.out.bel.cell (p := ⟨w.heap.size, 1, none⟩) zs).trans p1⟩ (fun hHeld => ?_)
          clear hK K
          (try simp only [Act.put, List.setIfInBounds_toArray, List.set_cons_zero, List.set_cons_succ])
          refine wpAnyH_ready (rs := [9]) (by kernel_rfl) (by simp) ?_
          refine AllReadyH.cons (o := ?_) ?_ (fun K hK => ?_) AllReadyH.nil
          rotate_left 1
          · (simp only [List.getElem?_toArray, List.getElem?_cons_zero, List.getElem?_cons_succ]; try rfl)
          have qb := HE14.out.p.2.2.2
          have qc := Blk.cell (show Blk Y14 (Y12.heap.size) #[.slice none 0 0] 139 from qb) 0
          have qf := Blk.frozen (show Blk Y14 (Y12.heap.size) #[.slice none 0 0] 139 from qb) 0
          have HE15 := Lib.hid ((HE14.out.rot.rot.rot.upd (a' := It.blk (Y12.heap.size) (.slice A12 r.length c12)) ((Keeps.refl [Y12.heap.size] Y14).set (List.mem_singleton.2 rfl) 0 (.slice A12 r.length c12)) (show Blk _ _ _ _ by simpa using (show Blk Y14 (Y12.heap.size) #[.slice none 0 0] 139 from qb).set 0 (.slice A12 r.length c12)) (fun k hk => hk)).rot)
          go_simp
          clear qb qc qf
          generalize Y14.setCell ⟨Y12.heap.size, 0, none⟩ (.slice A12 r.length c12) = Y15 at *
          refine hK.out _ _ ⟨(HE15.out.bel.cell (p := ⟨w.heap.size, 0, none⟩) zs).trans p0, (HE15.out.bel.cell (p := ⟨w.heap.size, 1, none⟩) zs).trans p1⟩ (fun hHeld => ?_)
          clear hK K
          (try simp only [Act.put, List.setIfInBounds_toArray, List.set_cons_zero, List.set_cons_succ])
          refine wpAnyH_done (by kernel_rfl) ?_ _
          refine NoPanic.normal ?_
          go_wp2_with fail
          go_meet
          exact ⟨_, _, A1, c1, f1, A12, c12, f12, rfl, rfl, HE15.out⟩
        refine AllReadyH.cons (o := ?_) ?_ (fun K hK => ?_) AllReadyH.nil
        rotate_left 1
        · (simp only [List.getElem?_toArray, List.getElem?_cons_zero, List.getElem?_cons_succ]; try rfl)
        have HE16 := Lib.hid ((HE11.out.rot.rot.rot.fresh (a := It.blk Y11.heap.size (.slice none 0 0)) ((Below.refl Y11.heap.size Y11).alloc (Nat.le_refl _) (.cells #[.slice none 0 0] 139)) (Blk.new Y11 _ _) (fun k hk => by simp [It.blk] at hk; omega)).rot)
        have hz16 := HE11.out.bel.size
        go_simp
        generalize Y11.alloc (.cells #[.slice none 0 0] 139) = Y16 at *
        refine hK.out _ _ ⟨(HE16.out.bel.cell (p := ⟨w.heap.size, 0, none⟩) zs).trans p0, (HE16.out.bel.cell (p := ⟨w.heap.size, 1, none⟩) zs).trans p1⟩ (fun hHeld => ?_)
        clear hK K
        (try simp only [Act.put, List.setIfInBounds_toArray, List.set_cons_zero, List.set_cons_succ])
        refine wpAnyH_ready (rs := [5]) (by kernel_rfl) (by simp) ?_
        refine AllReadyH.cons (o := ?_) ?_ (fun K hK => ?_) AllReadyH.nil
        rotate_left 1
        · (simp only [List.getElem?_toArray, List.getElem?_cons_zero, List.getElem?_cons_succ]; try rfl)
        go_simp
        refine (newEditStack_any B r d _ (by omega) hsr (HR.out _ (below_then HB.out HE16.out.bel))).mono ?_
        rintro e Y17 ⟨v17, f17, rfl, ho17, hn17, hl17, hb17⟩
        obtain ⟨A17, c17, e17, _, _, _⟩ := Lay.edits.read ho17
        simp only [List.cons.injEq, and_true] at e17
        subst e17
        have HE17 := Lib.hid ((HE16.out.rot.fresh (a := It.own (.slice A17 r.length c17) r f17) hb17 ⟨ho17, hn17⟩ hl17).rot.rot.rot)
        clear ho17 hn17 hl17 hb17
        go_wp2_with fail
        refine hK.out _ _ ⟨(HE17.out.bel.cell (p := ⟨w.heap.size, 0, none⟩) zs).trans p0, (HE17.out.bel.cell (p := ⟨w.heap.size, 1, none⟩) zs).trans p1⟩ (fun hHeld => ?_)
        clear hK K
        (try simp only [Act.put, List.setIfInBounds_toArray, List.set_cons_zero, List.set_cons_succ])
        refine wpAnyH_ready (rs := [8]) (by kernel_rfl) (by simp) ?_
        refine AllReadyH.cons (o := ?_) ?_ (fun K hK => ?_) AllReadyH.nil
        rotate_left 1
        · (simp only [List.getElem?_toArray, List.getElem?_cons_zero, List.getElem?_cons_succ]; try rfl)
        have qb := HE17.out.p.2.2.1
        have qc := Blk.cell (show Blk Y17 (Y1.heap.size) #[.slice none 0 0] 139 from qb) 0
        have qf := Blk.frozen (show Blk Y17 (Y1.heap.size) #[.slice none 0 0] 139 from qb) 0
        have HE18 := Lib.hid ((HE17.out.rot.rot.upd (a' := It.blk (Y1.heap.size) (.slice A1 u.length c1)) ((Keeps.refl [Y1.heap.size] Y17).set (List.mem_singleton.2 rfl) 0 (.slice A1 u.length c1)) (show Blk _ _ _ _ by simpa using (show Blk Y17 (Y1.heap.size) #[.slice none 0 0] 139 from qb).set 0 (.slice A1 u.length c1)) (fun k hk => hk)).rot.rot)
        go_simp
        clear qb qc qf
        generalize Y17.setCell ⟨Y1.heap.size, 0, none⟩ (.slice A1 u.length c1) = Y18 at *
        refine hK.out _ _ ⟨(HE18.out.bel.cell (p := ⟨w.heap.size, 0, none⟩) zs).trans p0, (HE18.out.bel.cell (p := ⟨w.heap.size, 1, none⟩) zs).trans p1⟩ (fun hHeld => ?_)
        clear hK K
        (try simp only [Act.put, List.setIfInBounds_toArray, List.set_cons_zero, List.set_cons_succ])
        refine wpAnyH_ready (rs := [9]) (by kernel_rfl) (by simp) ?_
        refine AllReadyH.cons (o := ?_) ?_ (fun K hK => ?_) AllReadyH.nil
        rotate_left 1
        · (simp only [List.getElem?_toArray, List.getElem?_cons_zero, List.getElem?_cons_succ]; try rfl)
        have qb := HE18.out.p.2.2.2
        have qc := Blk.cell (show Blk Y18 (Y11.heap.size) #[.slice none 0 0] 139 from qb) 0
        have qf := Blk.frozen (show Blk Y18 (Y11.heap.size) #[.slice none 0 0] 139 from qb) 0
        have HE19 := Lib.hid ((HE18.out.rot.rot.rot.upd (a' := It.blk (Y11.heap.size) (.slice A17 r.length c17)) ((Keeps.refl [Y11.heap.size] Y18).set (List.mem_singleton.2 rfl) 0 (.slice A17 r.length c17)) (show Blk _ _ _ _ by simpa using (show Blk Y18 (Y11.heap.size) #[.slice none 0 0] 139 from qb).set 0 (.slice A17 r.length c17)) (fun k hk => hk)).rot)
        go_simp
        clear qb qc qf
        generalize Y18.setCell ⟨Y11.heap.size, 0, none⟩ (.slice A17 r.length c17) = Y19 at *
        refine hK.out _ _ ⟨(HE19.out.bel.cell (p := ⟨w.heap.size, 0, none⟩) zs).trans p0, (HE19.out.bel.cell (p := ⟨w.heap.size, 1, none⟩) zs).trans p1⟩ (fun hHeld => ?_)
        clear hK K
        (try simp only [Act.put, List.setIfInBounds_toArray, List.set_cons_zero, List.set_cons_succ])
        refine wpAnyH_done (by kernel_rfl) ?_ _
        refine NoPanic.normal ?_
        go_wp2_with fail
        go_meet
        exact ⟨_, _, A1, c1, f1, A17, c17, f17, rfl, rfl, HE19.out⟩
      refine AllReadyH.cons (o := ?_) ?_ (fun K hK => ?_) AllReadyH.nil
      rotate_left 1
      · (simp only [List.getElem?_toArray, List.getElem?_cons_zero, List.getElem?_cons_succ]; try rfl)
      have HE20 := Lib.hid ((HE1.out.rot.rot.rot.fresh (a := It.blk Y1.heap.size (.slice none 0 0)) ((Below.refl Y1.heap.size Y1).alloc (Nat.le_refl _) (.cells #[.slice none 0 0] 139)) (Blk.new Y1 _ _) (fun k hk => by simp [It.blk] at hk; omega)).rot)
      have hz20 := HE1.out.bel.size
      go_simp
      generalize Y1.alloc (.cells #[.slice none 0 0] 139) = Y20 at *
      refine hK.out _ _ ⟨(HE20.out.bel.cell (p := ⟨w.heap.size, 0, none⟩) zs).trans p0, (HE20.out.bel.cell (p := ⟨w.heap.size, 1, none⟩) zs).trans p1⟩ (fun hHeld => ?_)
      clear hK K
      (try simp only [Act.put, List.setIfInBounds_toArray, List.set_cons_zero, List.set_cons_succ])
      refine wpAnyH_ready (rs := [5, 6]) (by kernel_rfl) (by simp) ?_
      refine AllReadyH.cons (o := ?_) ?_ (fun K hK => ?_) ?_
      rotate_left 1
      · (simp only [List.getElem?_toArray, List.getElem?_cons_zero, List.getElem?_cons_succ]; try rfl)
      · go_simp
        refine (newEditStack_any B r d _ (by omega) hsr (HR.out _ (below_then HB.out HE20.out.bel))).mono ?_
        rintro e Y21 ⟨v21, f21, rfl, ho21, hn21, hl21, hb21⟩
        obtain ⟨A21, c21, e21, _, _, _⟩ := Lay.edits.read ho21
        simp only [List.cons.injEq, and_true] at e21
        subst e21
        have HE21 := Lib.hid ((HE20.out.rot.fresh (a := It.own (.slice A21 r.length c21) r f21) hb21 ⟨ho21, hn21⟩ hl21).rot.rot.rot)
        clear ho21 hn21 hl21 hb21
        go_wp2_with fail
        refine hK.out _ _ ⟨(HE21.out.bel.cell (p := ⟨w.heap.size, 0, none⟩) zs).trans p0, (HE21.out.bel.cell (p := ⟨w.heap.size, 1, none⟩) zs).trans p1⟩ (fun hHeld => ?_)
        clear hK K
        (try simp only [Act.put, List.setIfInBounds_toArray, List.set_cons_zero, List.set_cons_succ])
        refine wpAnyH_ready (rs := [6]) (by kernel_rfl) (by simp) ?_
        refine AllReadyH.cons (o := ?_) ?_ (fun K hK => ?_) AllReadyH.nil
        rotate_left 1
        · (simp only [List.getElem?_toArray, List.getElem?_cons_zero, List.getElem?_cons_succ]; try rfl)
        have HE22 := Lib.hid ((HE21.out.rot.rot.fresh (a := It.blk Y21.heap.size (.slice none 0 0)) ((Below.refl Y21.heap.size Y21).alloc (Nat.le_refl _) (.cells #[.slice none 0 0] 139)) (Blk.new Y21 _ _) (fun k hk => by simp [It.blk] at hk; omega)).rot.rot)
        have hz22 := HE21.out.bel.size
        go_simp
        generalize Y21.alloc (.cells #[.slice none 0 0] 139) = Y22 at *
        refine hK.out _ _ ⟨(HE22.out.bel.cell (p := ⟨w.heap.size, 0, none⟩) zs).trans p0, (HE22.out.bel.cell (p := ⟨w.heap.size, 1, none⟩) zs).trans p1⟩ (fun hHeld => ?_)
        clear hK K
        (try simp only [Act.put, List.setIfInBounds_toArray, List.set_cons_zero, List.set_cons_succ])
        refine wpAnyH_ready (rs := [8]) (by kernel_rfl) (by simp) ?_
        refine AllReadyH.cons (o := ?_) ?_ (fun K hK => ?_) AllReadyH.nil
        rotate_left 1
        · (simp only [List.getElem?_toArray, List.getElem?_cons_zero, List.getElem?_cons_succ]; try rfl)
        have qb := HE22.out.p.2.2.1
        have qc := Blk.cell (show Blk Y22 (Y21.heap.size) #[.slice none 0 0] 139 from qb) 0
        have qf := Blk.frozen (show Blk Y22 (Y21.heap.size) #[.slice none 0 0] 139 from qb) 0
        have HE23 := Lib.hid ((HE22.out.rot.rot.upd (a' := It.blk (Y21.heap.size) (.slice A1 u.length c1)) ((Keeps.refl [Y21.heap.size] Y22).set (List.mem_singleton.2 rfl) 0 (.slice A1 u.length c1)) (show Blk _ _ _ _ by simpa using (show Blk Y22 (Y21.heap.size) #[.slice none 0 0] 139 from qb).set 0 (.slice A1 u.length c1)) (fun k hk => hk)).rot.rot)
        go_simp
        clear qb qc qf
        generalize Y22.setCell ⟨Y21.heap.size, 0, none⟩ (.slice A1 u.length c1) = Y23 at *
        refine hK.out _ _ ⟨(HE23.out.bel.cell (p := ⟨w.heap.size, 0, none⟩) zs).trans p0, (HE23.out.bel.cell (p := ⟨w.heap.size, 1, none⟩) zs).trans p1⟩ (fun hHeld => ?_)
        clear hK K
        (try simp only [Act.put, List.setIfInBounds_toArray, List.set_cons_zero, List.set_cons_succ])
        refine wpAnyH_ready (rs := [9]) (by kernel_rfl) (by simp) ?_
        refine AllReadyH.cons (o := ?_) ?_ (fun K hK => ?_) AllReadyH.nil
        rotate_left 1
        · (simp only [List.getElem?_toArray, List.getElem?_cons_zero, List.getElem?_cons_succ]; try rfl)
        have qb := HE23.out.p.2.2.2
        have qc := Blk.cell (show Blk Y23 (Y1.heap.size) #[.slice none 0 0] 139 from qb) 0
        have qf := Blk.frozen (show Blk Y23 (Y1.heap.size) #[.slice none 0 0] 139 from qb) 0
        have HE24 := Lib.hid ((HE23.out.rot.rot.rot.upd (a' := It.blk (Y1.heap.size) (.slice A21 r.length c21)) ((Keeps.refl [Y1.heap.size] Y23).set (List.mem_singleton.2 rfl) 0 (.slice A21 r.length c21)) (show Blk _ _ _ _ by simpa using (show Blk Y23 (Y1.heap.size) #[.slice none 0 0] 139 from qb).set 0 (.slice A21 r.length c21)) (fun k hk => hk)).rot)
        go_simp
        clear qb qc qf
        generalize Y23.setCell ⟨Y1.heap.size, 0, none⟩ (.slice A21 r.length c21) = Y24 at *
        refine hK.out _ _ ⟨(HE24.out.bel.cell (p := ⟨w.heap.size, 0, none⟩) zs).trans p0, (HE24.out.bel.cell (p := ⟨w.heap.size, 1, none⟩) zs).trans p1⟩ (fun hHeld => ?_)
        clear hK K
        (try simp only [Act.put, List.setIfInBounds_toArray, List.set_cons_zero, List.set_cons_succ])
        refine wpAnyH_done (by kernel_rfl) ?_ _
        refine NoPanic.normal ?_
        go_wp2_with fail
        go_meet
        exact ⟨_, _, A1, c1, f1, A21, c21, f21, rfl, rfl, HE24.out⟩
      refine AllReadyH.cons (o := ?_) ?_ (fun K hK => ?_) AllReadyH.nil
      rotate_left 1
      · (simp only [List.getElem?_toArray, List.getElem?_cons_zero, List.getElem?_cons_succ]; try rfl)
      have HE25 := Lib.hid ((HE20.out.rot.rot.fresh (a := It.blk Y20.heap.size (.slice none 0 0)) ((Below.refl Y20.heap.size Y20).alloc (Nat.le_refl _) (.cells #[.slice none 0 0] 139)) (Blk.new Y20 _ _) (fun k hk => by simp [It.blk] at hk; omega)).rot.rot)
      have hz25 := HE20.out.bel.size
      go_simp
      generalize Y20.alloc (.cells #[.slice none 0 0] 139) = Y25 at *
      refine hK.out _ _ ⟨(HE25.out.bel.cell (p := ⟨w.heap.size, 0, none⟩) zs).trans p0, (HE25.out.bel.cell (p := ⟨w.heap.size, 1, none⟩) zs).trans p1⟩ (fun hHeld => ?_)
      clear hK K
      (try simp only [Act.put, List.setIfInBounds_toArray, List.set_cons_zero, List.set_cons_succ])
      refine wpAnyH_ready (rs := [5]) (by kernel_rfl) (by simp) ?_
      refine AllReadyH.cons (o := ?_) ?_ (fun K hK => ?_) AllReadyH.nil
      rotate_left 1
      · (simp only [List.getElem?_toArray, List.getElem?_cons_zero, List.getElem?_cons_succ]; try rfl)
      go_simp
      refine (newEditStack_any B r d _ (by omega) hsr (HR.out _ (below_then HB.out HE25.out.bel))).mono ?_
      rintro e Y26 ⟨v26, f26, rfl, ho26, hn26, hl26, hb26⟩
      obtain ⟨A26, c26, e26, _, _, _⟩ := Lay.edits.read ho26
      simp only [List.cons.injEq, and_true] at e26
      subst e26
      have HE26 := Lib.hid ((HE25.out.rot.fresh (a := It.own (.slice A26 r.length c26) r f26) hb26 ⟨ho26, hn26⟩ hl26).rot.rot.rot)
      clear ho26 hn26 hl26 hb26
      go_wp2_with fail
      refine hK.out _ _ ⟨(HE26.out.bel.cell (p := ⟨w.heap.size, 0, none⟩) zs).trans p0, (HE26.out.bel.cell (p := ⟨w.heap.size, 1, none⟩) zs).trans p1⟩ (fun hHeld => ?_)
      clear hK K
      (try simp only [Act.put, List.setIfInBounds_toArray, List.set_cons_zero, List.set_cons_succ])
      refine wpAnyH_ready (rs := [8]) (by kernel_rfl) (by simp) ?_
      refine AllReadyH.cons (o := ?_) ?_ (fun K hK => ?_) AllReadyH.nil
      rotate_left 1
      · (simp only [List.getElem?_toArray, List.getElem?_cons_zero, List.getElem?_cons_succ]; try rfl)
      have qb := HE26.out.p.2.2.1
      have qc := Blk.cell (show Blk Y26 (Y20.heap.size) #[.slice none 0 0] 139 from qb) 0
      have qf := Blk.frozen (show Blk Y26 (Y20.heap.size) #[.slice none 0 0] 139 from qb) 0
      have HE27 := Lib.hid ((HE26.out.rot.rot.upd (a' := It.blk (Y20.heap.size) (.slice A1 u.length c1)) ((Keeps.refl [Y20.heap.size] Y26).set (List.mem_singleton.2 rfl) 0 (.slice A1 u.length c1)) (show Blk _ _ _ _ by simpa using (show Blk Y26 (Y20.heap.size) #[.slice none 0 0] 139 from qb).set 0 (.slice A1 u.length c1)) (fun k hk => hk)).rot.rot)
      go_simp
      clear qb qc qf
      generalize Y26.setCell ⟨Y20.heap.size, 0, none⟩ (.slice A1 u.length c1) = Y27 at *
      refine hK.out _ _ ⟨(HE27.out.bel.cell (p := ⟨w.heap.size, 0, none⟩) zs).trans p0, (HE27.out.bel.cell (p := ⟨w.heap.size, 1, none⟩) zs).trans p1⟩ (fun hHeld => ?_)
      clear hK K
      (try simp only [Act.put, List.setIfInBounds_toArray, List.set_cons_zero, List.set_cons_succ])
      refine wpAnyH_ready (rs := [9]) (by kernel_rfl) (by simp) ?_
      refine AllReadyH.cons (o := ?_) ?_ (fun K hK => ?_) AllReadyH.nil
      rotate_left 1
      · (simp only [List.getElem?_toArray, List.getElem?_cons_zero, List.getElem?_cons_succ]; try rfl)
      have qb := HE27.out.p.2.2.2
      have qc := Blk.cell (show Blk Y27 (Y1.heap.size) #[.slice none 0 0] 139 from qb) 0
      have qf := Blk.frozen (show Blk Y27 (Y1.heap.size) #[.slice none 0 0] 139 from qb) 0
      have HE28 := Lib.hid ((HE27.out.rot.rot.rot.upd (a' := It.blk (Y1.heap.size) (.slice A26 r.length c26)) ((Keeps.refl [Y1.heap.size] Y27).set (List.mem_singleton.2 rfl) 0 (.slice A26 r.length c26)) (show Blk _ _ _ _ by simpa using (show Blk Y27 (Y1.heap.size) #[.slice none 0 0] 139 from qb).set 0 (.slice A26 r.length c26)) (fun k hk => hk)).rot)
      go_simp
      clear qb qc qf
      generalize Y27.setCell ⟨Y1.heap.size, 0, none⟩ (.slice A26 r.length c26) = Y28 at *
      refine hK.out _ _ ⟨(HE28.out.bel.cell (p := ⟨w.heap.size, 0, none⟩) zs).trans p0, (HE28.out.bel.cell (p := ⟨w.heap.size, 1, none⟩) zs).trans p1⟩ (fun hHeld => ?_)
      clear hK K
      (try simp only [Act.put, List.setIfInBounds_toArray, List.set_cons_zero, List.set_cons_succ])
      refine wpAnyH_done (by kernel_rfl) ?_ _
      refine NoPanic.normal ?_
      go_wp2_with fail
      go_meet
      exact ⟨_, _, A1, c1, f1, A26, c26, f26, rfl, rfl, HE28.out⟩
    refine AllReadyH.cons (o := ?_) ?_ (fun K hK => ?_) ?_
    rotate_left 1
    · (simp only [List.getElem?_toArray, List.getElem?_cons_zero, List.getElem?_cons_succ]; try rfl)
    · have HE29 := Lib.hid ((HE0.out.rot.rot.fresh (a := It.blk Y0.heap.size (.slice none 0 0)) ((Below.refl Y0.heap.size Y0).alloc (Nat.le_refl _) (.cells #[.slice none 0 0] 139)) (Blk.new Y0 _ _) (fun k hk => by simp [It.blk] at hk; omega)).rot.rot)
      have hz29 := HE0.out.bel.size
      go_simp
      generalize Y0.alloc (.cells #[.slice none 0 0] 139) = Y29 at *
      refine hK.out _ _ ⟨(HE29.out.bel.cell (p := ⟨w.heap.size, 0, none⟩) zs).trans p0, (HE29.out.bel.cell (p := ⟨w.heap.size, 1, none⟩) zs).trans p1⟩ (fun hHeld => ?_)
      clear hK K
      (try simp only [Act.put, List.setIfInBounds_toArray, List.set_cons_zero, List.set_cons_succ])
      refine wpAnyH_ready (rs := [2, 7]) (by kernel_rfl) (by simp) ?_
      refine AllReadyH.cons (o := ?_) ?_ (fun K hK => ?_) ?_
      rotate_left 1
      · (simp only [List.getElem?_toArray, List.getElem?_cons_zero, List.getElem?_cons_succ]; try rfl)
      · go_simp
        refine (newEditStack_any A u c _ (by omega) hsu (HU.out _ (below_then HB.out HE29.out.bel))).mono ?_
        rintro e Y30 ⟨v30, f30, rfl, ho30, hn30, hl30, hb30⟩
        obtain ⟨A30, c30, e30, _, _, _⟩ := Lay.edits.read ho30
        simp only [List.cons.injEq, and_true] at e30
        subst e30
        have HE30 := Lib.hid ((HE29.out.fresh (a := It.own (.slice A30 u.length c30) u f30) hb30 ⟨ho30, hn30⟩ hl30))
        clear ho30 hn30 hl30 hb30
        go_wp2_with fail
        refine hK.out _ _ ⟨(HE30.out.bel.cell (p := ⟨w.heap.size, 0, none⟩) zs).trans p0, (HE30.out.bel.cell (p := ⟨w.heap.size, 1, none⟩) zs).trans p1⟩ (fun hHeld => ?_)
        clear hK K
        (try simp only [Act.put, List.setIfInBounds_toArray, List.set_cons_zero, List.set_cons_succ])
        refine wpAnyH_ready (rs := [5, 7]) (by kernel_rfl) (by simp) ?_
        refine AllReadyH.cons (o := ?_) ?_ (fun K hK => ?_) ?_
        rotate_left 1
        · (simp only [List.getElem?_toArray, List.getElem?_cons_zero, List.getElem?_cons_succ]; try rfl)
        · go_simp
          refine (newEditStack_any B r d _ (by omega) hsr (HR.out _ (below_then HB.out HE30.out.bel))).mono ?_
          rintro e Y31 ⟨v31, f31, rfl, ho31, hn31, hl31, hb31⟩
          obtain ⟨A31, c31, e31, _, _, _⟩ := Lay.edits.read ho31
          simp only [List.cons.injEq, and_true] at e31
          subst e31
          have HE31 := Lib.hid ((HE30.out.rot.fresh (a := It.own (.slice A31 r.length c31) r f31) hb31 ⟨ho31, hn31⟩ hl31).rot.rot.rot)
          clear ho31 hn31 hl31 hb31
          go_wp2_with fail
          refine hK.out _ _ ⟨(HE31.out.bel.cell (p := ⟨w.heap.size, 0, none⟩) zs).trans p0, (HE31.out.bel.cell (p := ⟨w.heap.size, 1, none⟩) zs).trans p1⟩ (fun hHeld => ?_)
          clear hK K
          (try simp only [Act.put, List.setIfInBounds_toArray, List.set_cons_zero, List.set_cons_succ])
          refine wpAnyH_ready (rs := [7]) (by kernel_rfl) (by simp) ?_
          refine AllReadyH.cons (o := ?_) ?_ (fun K hK => ?_) AllReadyH.nil
          rotate_left 1
          · (simp only [List.getElem?_toArray, List.getElem?_cons_zero, List.getElem?_cons_succ]; try rfl)
          have HE32 := Lib.hid ((HE31.out.rot.rot.rot.fresh (a := It.blk Y31.heap.size (.slice none 0 0)) ((Below.refl Y31.heap.size Y31).alloc (Nat.le_refl _) (.cells #[.slice none 0 0] 139)) (Blk.new Y31 _ _) (fun k hk => by simp [It.blk] at hk; omega)).rot)
          have hz32 := HE31.out.bel.size
          go_simp
          generalize Y31.alloc (.cells #[.slice none 0 0] 139) = Y32 at *
          refine hK.out _ _ ⟨(HE32.out.bel.cell (p := ⟨w.heap.size, 0, none⟩) zs).trans p0, (HE32.out.bel.cell (p := ⟨w.heap.size, 1, none⟩) zs).trans p1⟩ (fun hHeld => ?_)
          clear hK K
          (try simp only [Act.put, List.setIfInBounds_toArray, List.set_cons_zero, List.set_cons_succ])
          refine wpAnyH_ready (rs := [8]) (by kernel_rfl) (by simp) ?_
          refine AllReadyH.cons (o := ?_) ?_ (fun K hK => ?_) AllReadyH.nil
          rotate_left 1
          · (simp only [List.getElem?_toArray, List.getElem?_cons_zero, List.getElem?_cons_succ]; try rfl)
          have qb := HE32.out.p.2.2.1
          have qc := Blk.cell (show Blk Y32 (Y0.heap.size) #[.slice none 0 0] 139 from qb) 0
          have qf := Blk.frozen (show Blk Y32 (Y0.heap.size) #[.slice none 0 0] 139 from qb) 0
          have HE33 := Lib.hid ((HE32.out.rot.rot.upd (a' := It.blk (Y0.heap.size) (.slice A30 u.length c30)) ((Keeps.refl [Y0.heap.size] Y32).set (List.mem_singleton.2 rfl) 0 (.slice A30 u.length c30)) (show Blk _ _ _ _ by simpa using (show Blk Y32 (Y0.heap.size) #[.slice none 0 0] 139 from qb).set 0 (.slice A30 u.length c30)) (fun k hk => hk)).rot.rot)
          go_simp
          clear qb qc qf
          generalize Y32.setCell ⟨Y0.heap.size, 0, none⟩ (.slice A30 u.length c30) = Y33 at *
          refine hK.out _ _ ⟨(HE33.out.bel.cell (p := ⟨w.heap.size, 0, none⟩) zs).trans p0, (HE33.out.bel.cell (p := ⟨w.heap.size, 1, none⟩) zs).trans p1⟩ (fun hHeld => ?_)
          clear hK K
          (try simp only [Act.put, List.setIfInBounds_toArray, List.set_cons_zero, List.set_cons_succ])
          refine wpAnyH_ready (rs := [9]) (by kernel_rfl) (by simp) ?_
          refine AllReadyH.cons (o := ?_) ?_ (fun K hK => ?_) AllReadyH.nil
          rotate_left 1
          · (simp only [List.getElem?_toArray, List.getElem?_cons_zero, List.getElem?_cons_succ]; try rfl)
          have qb := HE33.out.p.2.2.2
          have qc := Blk.cell (show Blk Y33 (Y31.heap.size) #[.slice none 0 0] 139 from qb) 0
          have qf := Blk.frozen (show Blk Y33 (Y31.heap.size) #[.slice none 0 0] 139 from qb) 0
          have HE34 := Lib.hid ((HE33.out.rot.rot.rot.upd (a' := It.blk (Y31.heap.size) (.slice A31 r.length c31)) ((Keeps.refl [Y31.heap.size] Y33).set (List.mem_singleton.2 rfl) 0 (.slice A31 r.length c31)) (show Blk _ _ _ _ by simpa using (show Blk Y33 (Y31.heap.size) #[.slice none 0 0] 139 from qb).set 0 (.slice A31 r.length c31)) (fun k hk => hk)).rot)
          go_simp
          clear qb qc qf
          generalize Y33.setCell ⟨Y31.heap.size, 0, none⟩ (.slice A31 r.length c31) = Y34 at *
          refine hK.out _ _ ⟨(HE34.out.bel.cell (p := ⟨w.heap.size, 0, none⟩) zs).trans p0, (HE34.out.bel.cell (p := ⟨w.heap.size, 1, none⟩) zs).trans p1⟩ (fun hHeld => ?_)
          clear hK K
          (try simp only [Act.put, List.setIfInBounds_toArray, List.set_cons_zero, List.set_cons_succ])
          refine wpAnyH_done (by kernel_rfl) ?_ _
          refine NoPanic.normal ?_
          go_wp2_with fail
          go_meet
          exact ⟨_, _, A30, c30, f30, A31, c31, f31, rfl, rfl, HE34.out⟩
        refine AllReadyH.cons (o := ?_) ?_ (fun K hK => ?_) AllReadyH.nil
        rotate_left 1
        · (simp only [List.getElem?_toArray, List.getElem?_cons_zero, List.getElem?_cons_succ]; try rfl)
        have HE35 := Lib.hid ((HE30.out.rot.rot.rot.fresh (a := It.blk Y30.heap.size (.slice none 0 0)) ((Below.refl Y30.heap.size Y30).alloc (Nat.le_refl _) (.cells #[.slice none 0 0] 139)) (Blk.new Y30 _ _) (fun k hk => by simp [It.blk] at hk; omega)).rot)
        have hz35 := HE30.out.bel.size
        go_simp
        generalize Y30.alloc (.cells #[.slice none 0 0] 139) = Y35 at *
        refine hK.out _ _ ⟨(HE35.out.bel.cell (p := ⟨w.heap.size, 0, none⟩) zs).trans p0, (HE35.out.bel.cell (p := ⟨w.heap.size, 1, none⟩) zs).trans p1⟩ (fun hHeld => ?_)
        clear hK K
        (try simp only [Act.put, List.setIfInBounds_toArray, List.set_cons_zero, List.set_cons_succ])
        refine wpAnyH_ready (rs := [5]) (by kernel_rfl) (by simp) ?_
        refine AllReadyH.cons (o := ?_) ?_ (fun K hK => ?_) AllReadyH.nil
        rotate_left 1
        · (simp only [List.getElem?_toArray, List.getElem?_cons_zero, List.getElem?_cons_succ]; try rfl)
        go_simp
        refine (newEditStack_any B r d _ (by omega) hsr (HR.out _ (below_then HB.out HE35.out.bel))).mono ?_
        rintro e Y36 ⟨v36, f36, rfl, ho36, hn36, hl36, hb36⟩
        obtain ⟨A36, c36, e36, _, _, _⟩ := Lay.edits.read ho36
        simp only [List.cons.injEq, and_true] at e36
        subst e36
        have HE36 := Lib.hid ((HE35.out.rot.fresh (a := It.own (.slice A36 r.length c36) r f36) hb36 ⟨ho36, hn36⟩ hl36).rot.rot.rot)
        clear ho36 hn36 hl36 hb36
        go_wp2_with fail
        refine hK.out _ _ ⟨(HE36.out.bel.cell (p := ⟨w.heap.size, 0, none⟩) zs).trans p0, (HE36.out.bel.cell (p := ⟨w.heap.size, 1, none⟩) zs).trans p1⟩ (fun hHeld => ?_)
        clear hK K
        (try simp only [Act.put, List.setIfInBounds_toArray, List.set_cons_zero, List.set_cons_succ])
        refine wpAnyH_ready (rs := [8]) (by kernel_rfl) (by simp) ?_
        refine AllReadyH.cons (o := ?_) ?_ (fun K hK => ?_) AllReadyH.nil
        rotate_left 1
        · (simp only [List.getElem?_toArray, List.getElem?_cons_zero, List.getElem?_cons_succ]; try rfl)
        have qb := HE36.out.p.2.2.1
        have qc := Blk.cell (show Blk Y36 (Y0.heap.size) #[.slice none 0 0] 139 from qb) 0
        have qf := Blk.frozen (show Blk Y36 (Y0.heap.size) #[.slice none 0 0] 139 from qb) 0
        have HE37 := Lib.hid ((HE36.out.rot.rot.upd (a' := It.blk (Y0.heap.size) (.slice A30 u.length c30)) ((Keeps.refl [Y0.heap.size] Y36).set (List.mem_singleton.2 rfl) 0 (.slice A30 u.length c30)) (show Blk _ _ _ _ by simpa using (show Blk Y36 (Y0.heap.size) #[.slice none 0 0] 139 from qb).set 0 (.slice A30 u.length c30)) (fun k hk => hk)).rot.rot)
        go_simp
        clear qb qc qf
        generalize Y36.setCell ⟨Y0.heap.size, 0, none⟩ (.slice A30 u.length c30) = Y37 at *
        refine hK.out _ _ ⟨(HE37.out.bel.cell (p := ⟨w.heap.size, 0, none⟩) zs).trans p0, (HE37.out.bel.cell (p := ⟨w.heap.size, 1, none⟩) zs).trans p1⟩ (fun hHeld => ?_)
        clear hK K
        (try simp only [Act.put, List.setIfInBounds_toArray, List.set_cons_zero, List.set_cons_succ])
        refine wpAnyH_ready (rs := [9]) (by kernel_rfl) (by simp) ?_
        refine AllReadyH.cons (o := ?_) ?_ (fun K hK => ?_) AllReadyH.nil
        rotate_left 1
        · (simp only [List.getElem?_toArray, List.getElem?_cons_zero, List.getElem?_cons_succ]; try rfl)
        have qb := HE37.out.p.2.2.2
        have qc := Blk.cell (show Blk Y37 (Y30.heap.size) #[.slice none 0 0] 139 from qb) 0
        have qf := Blk.frozen (show Blk Y37 (Y30.heap.size) #[.slice none 0 0] 139 from qb) 0
        have HE38 := Lib.hid ((HE37.out.rot.rot.rot.upd (a' := It.blk (Y30.heap.size) (.slice A36 r.length c36)) ((Keeps.refl [Y30.heap.size] Y37).set (List.mem_singleton.2 rfl) 0 (.slice A36 r.length c36)) (show Blk _ _ _ _ by simpa using (show Blk Y37 (Y30.heap.size) #[.slice none 0 0] 139 from qb).set 0 (.slice A36 r.length c36)) (fun k hk => hk)).rot)
        go_simp
        clear qb qc qf
        generalize Y37.setCell ⟨Y30.heap.size, 0, none⟩ (.slice A36 r.length c36) = Y38 at *
        refine hK.out _ _ ⟨(HE38.out.bel.cell (p := ⟨w.heap.size, 0, none⟩) zs).trans p0, (HE38.out.bel.cell (p := ⟨w.heap.size, 1, none⟩) zs).trans p1⟩ (fun hHeld => ?_)
        clear hK K
        (try simp only [Act.put, List.setIfInBounds_toArray, List.set_cons_zero, List.set_cons_succ])
        refine wpAnyH_done (by kernel_rfl) ?_ _
        refine NoPanic.normal ?_
        go_wp2_with fail
        go_meet
        exact ⟨_, _, A30, c30, f30, A36, c36, f36, rfl, rfl, HE38.out⟩
      refine AllReadyH.cons (o := ?_) ?_ (fun K hK => ?_) AllReadyH.nil
      rotate_left 1
      · (simp only [List.getElem?_toArray, List.getElem?_cons_zero, List.getElem?_cons_succ]; try rfl)
      have HE39 := Lib.hid ((HE29.out.rot.rot.rot.fresh (a := It.blk Y29.heap.size (.slice none 0 0)) ((Below.refl Y29.heap.size Y29).alloc (Nat.le_refl _) (.cells #[.slice none 0 0] 139)) (Blk.new Y29 _ _) (fun k hk => by simp [It.blk] at hk; omega)).rot)
      have hz39 := HE29.out.bel.size
      go_simp
      generalize Y29.alloc (.cells #[.slice none 0 0] 139) = Y39 at *
      refine hK.out _ _ ⟨(HE39.out.bel.cell (p := ⟨w.heap.size, 0, none⟩) zs).trans p0, (HE39.out.bel.cell (p := ⟨w.heap.size, 1, none⟩) zs).trans p1⟩ (fun hHeld => ?_)
      clear hK K
      (try simp only [Act.put, List.setIfInBounds_toArray, List.set_cons_zero, List.set_cons_succ])
      refine wpAnyH_ready (rs := [2]) (by kernel_rfl) (by simp) ?_
      refine AllReadyH.cons (o := ?_) ?_ (fun K hK => ?_) AllReadyH.nil
      rotate_left 1
      · (simp only [List.getElem?_toArray, List.getElem?_cons_zero, List.getElem?_cons_succ]; try rfl)
      go_simp
      refine (newEditStack_any A u c _ (by omega) hsu (HU.out _ (below_then HB.out HE39.out.bel))).mono ?_
      rintro e Y40 ⟨v40, f40, rfl, ho40, hn40, hl40, hb40⟩
      obtain ⟨A40, c40, e40, _, _, _⟩ := Lay.edits.read ho40
      simp only [List.cons.injEq, and_true] at e40
      subst e40
      have HE40 := Lib.hid ((HE39.out.fresh (a := It.own (.slice A40 u.length c40) u f40) hb40 ⟨ho40, hn40⟩ hl40))
      clear ho40 hn40 hl40 hb40
      go_wp2_with fail
      refine hK.out _ _ ⟨(HE40.out.bel.cell (p := ⟨w.heap.size, 0, none⟩) zs).trans p0, (HE40.out.bel.cell (p := ⟨w.heap.size, 1, none⟩) zs).trans p1⟩ (fun hHeld => ?_)
      clear hK K
      (try simp only [Act.put, List.setIfInBounds_toArray, List.set_cons_zero, List.set_cons_succ])
      refine wpAnyH_ready (rs := [5]) (by kernel_rfl) (by simp) ?_
      refine AllReadyH.cons (o := ?_) ?_ (fun K hK => ?_) AllReadyH.nil
      rotate_left 1
      · (simp only [List.getElem?_toArray, List.getElem?_cons_zero, List.getElem?_cons_succ]; try rfl)
      go_simp
      refine (newEditStack_any B r d _ (by omega) hsr (HR.out _ (below_then HB.out HE40.out.bel))).mono ?_
      rintro e Y41 ⟨v41, f41, rfl, ho41, hn41, hl41, hb41⟩
      obtain ⟨A41, c41, e41, _, _, _⟩ := Lay.edits.read ho41
      simp only [List.cons.injEq, and_true] at e41
      subst e41
      have HE41 := Lib.hid ((HE40.out.rot.fresh (a := It.own (.slice A41 r.length c41) r f41) hb41 ⟨ho41, hn41⟩ hl41).rot.rot.rot)
      clear ho41 hn41 hl41 hb41
      go_wp2_with fail
      refine hK.out _ _ ⟨(HE41.out.bel.cell (p := ⟨w.heap.size, 0, none⟩) zs).trans p0, (HE41.out.bel.cell (p := ⟨w.heap.size, 1, none⟩) zs).trans p1⟩ (fun hHeld => ?_)
      clear hK K
      (try simp only [Act.put, List.setIfInBounds_toArray, List.set_cons_zero, List.set_cons_succ])
      refine wpAnyH_ready (rs := [8]) (by kernel_rfl) (by simp) ?_
      refine AllReadyH.cons (o := ?_) ?_ (fun K hK => ?_) AllReadyH.nil
      rotate_left 1
      · (simp only [List.getElem?_toArray, List.getElem?_cons_zero, List.getElem?_cons_succ]; try rfl)
      have qb := HE41.out.p.2.2.1
      have qc := Blk.cell (show Blk Y41 (Y0.heap.size) #[.slice none 0 0] 139 from qb) 0
      have qf := Blk.frozen (show Blk Y41 (Y0.heap.size) #[.slice none 0 0] 139 from qb) 0
      have HE42 := Lib.hid ((HE41.out.rot.rot.upd (a' := It.blk (Y0.heap.size) (.slice A40 u.length c40)) ((Keeps.refl [Y0.heap.size] Y41).set (List.mem_singleton.2 rfl) 0 (.slice A40 u.length c40)) (show Blk _ _ _ _ by simpa using (show Blk Y41 (Y0.heap.size) #[.slice none 0 0] 139 from qb).set 0 (.slice A40 u.length c40)) (fun k hk => hk)).rot.rot)
      go_simp
      clear qb qc qf
      generalize Y41.setCell ⟨Y0.heap.size, 0, none⟩ (.slice A40 u.length c40) = Y42 at *
      refine hK.out _ _ ⟨(HE42.out.bel.cell (p := ⟨w.heap.size, 0, none⟩) zs).trans p0, (HE42.out.bel.cell (p := ⟨w.heap.size, 1, none⟩) zs).trans p1⟩ (fun hHeld => ?_)
      clear hK K
      (try simp only [Act.put, List.setIfInBounds_toArray, List.set_cons_zero, List.set_cons_succ])
      refine wpAnyH_ready (rs := [9]) (by kernel_rfl) (by simp) ?_
      refine AllReadyH.cons (o := ?_) ?_ (fun K hK => ?_) AllReadyH.nil
      rotate_left 1
      · (simp only [List.getElem?_toArray, List.getElem?_cons_zero, List.getElem?_cons_succ]; try rfl)
      have qb := HE42.out.p.2.2.2
      have qc := Blk.cell (show Blk Y42 (Y29.heap.size) #[.slice none 0 0] 139 from qb) 0
      have qf := Blk.frozen (show Blk Y42 (Y29.heap.size) #[.slice none 0 0] 139 from qb) 0
      have HE43 := Lib.hid ((HE42.out.rot.rot.rot.upd (a' := It.blk (Y29.heap.size) (.slice A41 r.length c41)) ((Keeps.refl [Y29.heap.size] Y42).set (List.mem_singleton.2 rfl) 0 (.slice A41 r.length c41)) (show Blk _ _ _ _ by simpa using (show Blk Y42 (Y29.heap.size) #[.slice none 0 0] 139 from qb).set 0 (.slice A41 r.length c41)) (fun k hk => hk)).rot)
      go_simp
      clear qb qc qf
      generalize Y42.setCell ⟨Y29.heap.size, 0, none⟩ (.slice A41 r.length c41) = Y43 at *
      refine hK.out _ _ ⟨(HE43.out.bel.cell (p := ⟨w.heap.size, 0, none⟩) zs).trans p0, (HE43.out.bel.cell (p := ⟨w.heap.size, 1, none⟩) zs).trans p1⟩ (fun hHeld => ?_)
      clear hK K
      (try simp only [Act.put, List.setIfInBounds_toArray, List.set_cons_zero, List.set_cons_succ])
      refine wpAnyH_done (by kernel_rfl) ?_ _
      refine NoPanic.normal ?_
      go_wp2_with fail
      go_meet
      exact ⟨_, _, A40, c40, f40, A41, c41, f41, rfl, rfl, HE43.out⟩
    refine AllReadyH.cons (o := ?_) ?_ (fun K hK => ?_) AllReadyH.nil
    rotate_left 1
    · (simp only [List.getElem?_toArray, List.getElem?_cons_zero, List.getElem?_cons_succ]; try rfl)
    have HE44 := Lib.hid ((HE0.out.rot.rot.rot.fresh (a := It.blk Y0.heap.size (.slice none 0 0)) ((Below.refl Y0.heap.size Y0).alloc (Nat.le_refl _) (.cells #[.slice none 0 0] 139)) (Blk.new Y0 _ _) (fun k hk => by simp [It.blk] at hk; omega)).rot)
    have hz44 := HE0.out.bel.size
    go_simp
    generalize Y0.alloc (.cells #[.slice none 0 0] 139) = Y44 at *
    refine hK.out _ _ ⟨(HE44.out.bel.cell (p := ⟨w.heap.size, 0, none⟩) zs).trans p0, (HE44.out.bel.cell (p := ⟨w.heap.size, 1, none⟩) zs).trans p1⟩ (fun hHeld => ?_)
    clear hK K
    (try simp only [Act.put, List.setIfInBounds_toArray, List.set_cons_zero, List.set_cons_succ])
    refine wpAnyH_ready (rs := [2, 6]) (by kernel_rfl) (by simp) ?_
    refine AllReadyH.cons (o := ?_) ?_ (fun K hK => ?_) ?_
    rotate_left 1
    · (simp only [List.getElem?_toArray, List.getElem?_cons_zero, List.getElem?_cons_succ]; try rfl)
    · go_simp
      refine (newEditStack_any A u c _ (by omega) hsu (HU.out _ (below_then HB.out HE44.out.bel))).mono ?_
      rintro e Y45 ⟨v45, f45, rfl, ho45, hn45, hl45, hb45⟩
      obtain ⟨A45, c45, e45, _, _, _⟩ := Lay.edits.read ho45
      simp only [List.cons.injEq, and_true] at e45
      subst e45
      have HE45 := Lib.hid ((HE44.out.fresh (a := It.own (.slice A45 u.length c45) u f45) hb45 ⟨ho45, hn45⟩ hl45))
      clear ho45 hn45 hl45 hb45
      go_wp2_with fail
      refine hK.out _ _ ⟨(HE45.out.bel.cell (p := ⟨w.heap.size, 0, none⟩) zs).trans p0, (HE45.out.bel.cell (p := ⟨w.heap.size, 1, none⟩) zs).trans p1⟩ (fun hHeld => ?_)
      clear hK K
      (try simp only [Act.put, List.setIfInBounds_toArray, List.set_cons_zero, List.set_cons_succ])
      refine wpAnyH_ready (rs := [5, 6]) (by kernel_rfl) (by simp) ?_
      refine AllReadyH.cons (o := ?_) ?_ (fun K hK => ?_) ?_
      rotate_left 1
      · (simp only [List.getElem?_toArray, List.getElem?_cons_zero, List.getElem?_cons_succ]; try rfl)
      · go_simp
        refine (newEditStack_any B r d _ (by omega) hsr (HR.out _ (below_then HB.out HE45.out.bel))).mono ?_
        rintro e Y46 ⟨v46, f46, rfl, ho46, hn46, hl46, hb46⟩
        obtain ⟨A46, c46, e46, _, _, _⟩ := Lay.edits.read ho46
        simp only [List.cons.injEq, and_true] at e46
        subst e46
        have HE46 := Lib.hid ((HE45.out.rot.fresh (a := It.own (.slice A46 r.length c46) r f46) hb46 ⟨ho46, hn46⟩ hl46).rot.rot.rot)
        clear ho46 hn46 hl46 hb46
        go_wp2_with fail
        refine hK.out _ _ ⟨(HE46.out.bel.cell (p := ⟨w.heap.size, 0, none⟩) zs).trans p0, (HE46.out.bel.cell (p := ⟨w.heap.size, 1, none⟩) zs).trans p1⟩ (fun hHeld => ?_)
        clear hK K
        (try simp only [Act.put, List.setIfInBounds_toArray, List.set_cons_zero, List.set_cons_succ])
        refine wpAnyH_ready (rs := [6]) (by kernel_rfl) (by simp) ?_
        refine AllReadyH.cons (o := ?_) ?_ (fun K hK => ?_) AllReadyH.nil
        rotate_left 1
        · (simp only [List.getElem?_toArray, List.getElem?_cons_zero, List.getElem?_cons_succ]; try rfl)
        have HE47 := Lib.hid ((HE46.out.rot.rot.fresh (a := It.blk Y46.heap.size (.slice none 0 0)) ((Below.refl Y46.heap.size Y46).alloc (Nat.le_refl _) (.cells #[.slice none 0 0] 139)) (Blk.new Y46 _ _) (fun k hk => by simp [It.blk] at hk; omega)).rot.rot)
        have hz47 := HE46.out.bel.size
        go_simp
        generalize Y46.alloc (.cells #[.slice none 0 0] 139) = Y47 at *
        refine hK.out _ _ ⟨(HE47.out.bel.cell (p := ⟨w.heap.size, 0, none⟩) zs).trans p0, (HE47.out.bel.cell (p := ⟨w.heap.size, 1, none⟩) zs).trans p1⟩ (fun hHeld => ?_)
        clear hK K
        (try simp only [Act.put, List.setIfInBounds_toArray, List.set_cons_zero, List.set_cons_succ])
        refine wpAnyH_ready (rs := [8]) (by kernel_rfl) (by simp) ?_
        refine AllReadyH.cons (o := ?_) ?_ (fun K hK => ?_) AllReadyH.nil
        rotate_left 1
        · (simp only [List.getElem?_toArray, List.getElem?_cons_zero, List.getElem?_cons_succ]; try rfl)
        have qb := HE47.out.p.2.2.1
        have qc := Blk.cell (show Blk Y47 (Y46.heap.size) #[.slice none 0 0] 139 from qb) 0
        have qf := Blk.frozen (show Blk Y47 (Y46.heap.size) #[.slice none 0 0] 139 from qb) 0
        have HE48 := Lib.hid ((HE47.out.rot.rot.upd (a' := It.blk (Y46.heap.size) (.slice A45 u.length c45)) ((Keeps.refl [Y46.heap.size] Y47).set (List.mem_singleton.2 rfl) 0 (.slice A45 u.length c45)) (show Blk _ _ _ _ by simpa using (show Blk Y47 (Y46.heap.size) #[.slice none 0 0] 139 from qb).set 0 (.slice A45 u.length c45)) (fun k hk => hk)).rot.rot)
        go_simp
        clear qb qc qf
        generalize Y47.setCell ⟨Y46.heap.size, 0, none⟩ (.slice A45 u.length c45) = Y48 at *
        refine hK.out _ _ ⟨(HE48.out.bel.cell (p := ⟨w.heap.size, 0, none⟩) zs).trans p0, (HE48.out.bel.cell (p := ⟨w.heap.size, 1, none⟩) zs).trans p1⟩ (fun hHeld => ?_)
        clear hK K
        (try simp only [Act.put, List.setIfInBounds_toArray, List.set_cons_zero, List.set_cons_succ])
        refine wpAnyH_ready (rs := [9]) (by kernel_rfl) (by simp) ?_
        refine AllReadyH.cons (o := ?_) ?_ (fun K hK => ?_) AllReadyH.nil
        rotate_left 1
        · (simp only [List.getElem?_toArray, List.getElem?_cons_zero, List.getElem?_cons_succ]; try rfl)
        have qb := HE48.out.p.2.2.2
        have qc := Blk.cell (show Blk Y48 (Y0.heap.size) #[.slice none 0 0] 139 from qb) 0
        have qf := Blk.frozen (show Blk Y48 (Y0.heap.size) #[.slice none 0 0] 139 from qb) 0
        have HE49 := Lib.hid ((HE48.out.rot.rot.rot.upd (a' := It.blk (Y0.heap.size) (.slice A46 r.length c46)) ((Keeps.refl [Y0.heap.size] Y48).set (List.mem_singleton.2 rfl) 0 (.slice A46 r.length c46)) (show Blk _ _ _ _ by simpa using (show Blk Y48 (Y0.heap.size) #[.slice none 0 0] 139 from qb).set 0 (.slice A46 r.length c46)) (fun k hk => hk)).rot)
        go_simp
        clear qb qc qf
        generalize Y48.setCell ⟨Y0.heap.size, 0, none⟩ (.slice A46 r.length c46) = Y49 at *
        refine hK.out _ _ ⟨(HE49.out.bel.cell (p := ⟨w.heap.size, 0, none⟩) zs).trans p0, (HE49.out.bel.cell (p := ⟨w.heap.size, 1, none⟩) zs).trans p1⟩ (fun hHeld => ?_)
        clear hK K
        (try simp only [Act.put, List.setIfInBounds_toArray, List.set_cons_zero, List.set_cons_succ])
        refine wpAnyH_done (by kernel_rfl) ?_ _
        refine NoPanic.normal ?_
        go_wp2_with fail
        go_meet
        exact ⟨_, _, A45, c45, f45, A46, c46, f46, rfl, rfl, HE49.out⟩
      refine AllReadyH.cons (o := ?_) ?_ (fun K hK => ?_) AllReadyH.nil
      rotate_left 1
      · (simp only [List.getElem?_toArray, List.getElem?_cons_zero, List.getElem?_cons_succ]; try rfl)
      have HE50 := Lib.hid ((HE45.out.rot.rot.fresh (a := It.blk Y45.heap.size (.slice none 0 0)) ((Below.refl Y45.heap.size Y45).alloc (Nat.le_refl _) (.cells #[.slice none 0 0] 139)) (Blk.new Y45 _ _) (fun k hk => by simp [It.blk] at hk; omega)).rot.rot)
      have hz50 := HE45.out.bel.size
      go_simp
      generalize Y45.alloc (.cells #[.slice none 0 0] 139) = Y50 at *
      refine hK.out _ _ ⟨(HE50.out.bel.cell (p := ⟨w.heap.size, 0, none⟩) zs).trans p0, (HE50.out.bel.cell (p := ⟨w.heap.size, 1, none⟩) zs).trans p1⟩ (fun hHeld => ?_)
      clear hK K
      (try simp only [Act.put, List.setIfInBounds_toArray, List.set_cons_zero, List.set_cons_succ])
      refine wpAnyH_ready (rs := [5]) (by kernel_rfl) (by simp) ?_
      refine AllReadyH.cons (o := ?_) ?_ (fun K hK => ?_) AllReadyH.nil
      rotate_left 1
      · (simp only [List.getElem?_toArray, List.getElem?_cons_zero, List.getElem?_cons_succ]; try rfl)
      go_simp
      refine (newEditStack_any B r d _ (by omega) hsr (HR.out _ (below_then HB.out HE50.out.bel))).mono ?_
      rintro e Y51 ⟨v51, f51, rfl, ho51, hn51, hl51, hb51⟩
      obtain ⟨A51, c51, e51, _, _, _⟩ := Lay.edits.read ho51
      simp only [List.cons.injEq, and_true] at e51
      subst e51
      have HE51 := Lib.hid ((HE50.out.rot.fresh (a := It.own (.slice A51 r.length c51) r f51) hb51 ⟨ho51, hn51⟩ hl51).rot.rot.rot)
      clear ho51 hn51 hl51 hb51
      go_wp2_with fail
      refine hK.out _ _ ⟨(HE51.out.bel.cell (p := ⟨w.heap.size, 0, none⟩) zs).trans p0, (HE51.out.bel.cell (p := ⟨w.heap.size, 1, none⟩) zs).trans p1⟩ (fun hHeld => ?_)
      clear hK K
      (try simp only [Act.put, List.setIfInBounds_toArray, List.set_cons_zero, List.set_cons_succ])
      refine wpAnyH_ready (rs := [8]) (by kernel_rfl) (by simp) ?_
      refine AllReadyH.cons (o := ?_) ?_ (fun K hK => ?_) AllReadyH.nil
      rotate_left 1
      · (simp only [List.getElem?_toArray, List.getElem?_cons_zero, List.getElem?_cons_succ]; try rfl)
      have qb := HE51.out.p.2.2.1
      have qc := Blk.cell (show Blk Y51 (Y45.heap.size) #[.slice none 0 0] 139 from qb) 0
      have qf := Blk.frozen (show Blk Y51 (Y45.heap.size) #[.slice none 0 0] 139 from qb) 0
      have HE52 := Lib.hid ((HE51.out.rot.rot.upd (a' := It.blk (Y45.heap.size) (.slice A45 u.length c45)) ((Keeps.refl [Y45.heap.size] Y51).set (List.mem_singleton.2 rfl) 0 (.slice A45 u.length c45)) (show Blk _ _ _ _ by simpa using (show Blk Y51 (Y45.heap.size) #[.slice none 0 0] 139 from qb).set 0 (.slice A45 u.length c45)) (fun k hk => hk)).rot.rot)
      go_simp
      clear qb qc qf
      generalize Y51.setCell ⟨Y45.heap.size, 0, none⟩ (.slice A45 u.length c45) = Y52 at *
      refine hK.out _ _ ⟨(HE52.out.bel.cell (p := ⟨w.heap.size, 0, none⟩) zs).trans p0, (HE52.out.bel.cell (p := ⟨w.heap.size, 1, none⟩) zs).trans p1⟩ (fun hHeld => ?_)
      clear hK K
      (try simp only [Act.put, List.setIfInBounds_toArray, List.set_cons_zero, List.set_cons_succ])
      refine wpAnyH_ready (rs := [9]) (by kernel_rfl) (by simp) ?_
      refine AllReadyH.cons (o := ?_) ?_ (fun K hK => ?_) AllReadyH.nil
      rotate_left 1
      · (simp only [List.getElem?_toArray, List.getElem?_cons_zero, List.getElem?_cons_succ]; try rfl)
      have qb := HE52.out.p.2.2.2
      have qc := Blk.cell (show Blk Y52 (Y0.heap.size) #[.slice none 0 0] 139 from qb) 0
      have qf := Blk.frozen (show Blk Y52 (Y0.heap.size) #[.slice none 0 0] 139 from qb) 0
      have HE53 := Lib.hid ((HE52.out.rot.rot.rot.upd (a' := It.blk (Y0.heap.size) (.slice A51 r.length c51)) ((Keeps.refl [Y0.heap.size] Y52).set (List.mem_singleton.2 rfl) 0 (.slice A51 r.length c51)) (show Blk _ _ _ _ by simpa using (show Blk Y52 (Y0.heap.size) #[.slice none 0 0] 139 from qb).set 0 (.slice A51 r.length c51)) (fun k hk => hk)).rot)
      go_simp
      clear qb qc qf
      generalize Y52.setCell ⟨Y0.heap.size, 0, none⟩ (.slice A51 r.length c51) = Y53 at *
      refine hK.out _ _ ⟨(HE53.out.bel.cell (p := ⟨w.heap.size, 0, none⟩) zs).trans p0, (HE53.out.bel.cell (p := ⟨w.heap.size, 1, none⟩) zs).trans p1⟩ (fun hHeld => ?_)
      clear hK K
      (try simp only [Act.put, List.setIfInBounds_toArray, List.set_cons_zero, List.set_cons_succ])
      refine wpAnyH_done (by kernel_rfl) ?_ _
      refine NoPanic.normal ?_
      go_wp2_with fail
      go_meet
      exact ⟨_, _, A45, c45, f45, A51, c51, f51, rfl, rfl, HE53.out⟩
    refine AllReadyH.cons (o := ?_) ?_ (fun K hK => ?_) AllReadyH.nil
    rotate_left 1
    · (simp only [List.getElem?_toArray, List.getElem?_cons_zero, List.getElem?_cons_succ]; try rfl)
    have HE54 := Lib.hid ((HE44.out.rot.rot.fresh (a := It.blk Y44.heap.size (.slice none 0 0)) ((Below.refl Y44.heap.size Y44).alloc (Nat.le_refl _) (.cells #[.slice none 0 0] 139)) (Blk.new Y44 _ _) (fun k hk => by simp [It.blk] at hk; omega)).rot.rot)
    have hz54 := HE44.out.bel.size
    go_simp
    generalize Y44.alloc (.cells #[.slice none 0 0] 139) = Y54 at *
    refine hK.out _ _ ⟨(HE54.out.bel.cell (p := ⟨w.heap.size, 0, none⟩) zs).trans p0, (HE54.out.bel.cell (p := ⟨w.heap.size, 1, none⟩) zs).trans p1⟩ (fun hHeld => ?_)
    clear hK K
    (try simp only [Act.put, List.setIfInBounds_toArray, List.set_cons_zero, List.set_cons_succ])
    refine wpAnyH_ready (rs := [2]) (by kernel_rfl) (by simp) ?_
    refine AllReadyH.cons (o := ?_) ?_ (fun K hK => ?_) AllReadyH.nil
    rotate_left 1
    · (simp only [List.getElem?_toArray, List.getElem?_cons_zero, List.getElem?_cons_succ]; try rfl)
    go_simp
    refine (newEditStack_any A u c _ (by omega) hsu (HU.out _ (below_then HB.out HE54.out.bel))).mono ?_
    rintro e Y55 ⟨v55, f55, rfl, ho55, hn55, hl55, hb55⟩
    obtain ⟨A55, c55, e55, _, _, _⟩ := Lay.edits.read ho55
    simp only [List.cons.injEq, and_true] at e55
    subst e55
    have HE55 := Lib.hid ((HE54.out.fresh (a := It.own (.slice A55 u.length c55) u f55) hb55 ⟨ho55, hn55⟩ hl55))
    clear ho55 hn55 hl55 hb55
    go_wp2_with fail
    refine hK.out _ _ ⟨(HE55.out.bel.cell (p := ⟨w.heap.size, 0, none⟩) zs).trans p0, (HE55.out.bel.cell (p := ⟨w.heap.size, 1, none⟩) zs).trans p1⟩ (fun hHeld => ?_)
    clear hK K
    (try simp only [Act.put, List.setIfInBounds_toArray, List.set_cons_zero, List.set_cons_succ])
    refine wpAnyH_ready (rs := [5]) (by kernel_rfl) (by simp) ?_
    refine AllReadyH.cons (o := ?_) ?_ (fun K hK => ?_) AllReadyH.nil
    rotate_left 1
    · (simp only [List.getElem?_toArray, List.getElem?_cons_zero, List.getElem?_cons_succ]; try rfl)
    go_simp
    refine (newEditStack_any B r d _ (by omega) hsr (HR.out _ (below_then HB.out HE55.out.bel))).mono ?_
    rintro e Y56 ⟨v56, f56, rfl, ho56, hn56, hl56, hb56⟩
    obtain ⟨A56, c56, e56, _, _, _⟩ := Lay.edits.read ho56
    simp only [List.cons.injEq, and_true] at e56
    subst e56
    have HE56 := Lib.hid ((HE55.out.rot.fresh (a := It.own (.slice A56 r.length c56) r f56) hb56 ⟨ho56, hn56⟩ hl56).rot.rot.rot)
    clear ho56 hn56 hl56 hb56
    go_wp2_with fail
    refine hK.out _ _ ⟨(HE56.out.bel.cell (p := ⟨w.heap.size, 0, none⟩) zs).trans p0, (HE56.out.bel.cell (p := ⟨w.heap.size, 1, none⟩) zs).trans p1⟩ (fun hHeld => ?_)
    clear hK K
    (try simp only [Act.put, List.setIfInBounds_toArray, List.set_cons_zero, List.set_cons_succ])
    refine wpAnyH_ready (rs := [8]) (by kernel_rfl) (by simp) ?_
    refine AllReadyH.cons (o := ?_) ?_ (fun K hK => ?_) AllReadyH.nil
    rotate_left 1
    · (simp only [List.getElem?_toArray, List.getElem?_cons_zero, List.getElem?_cons_succ]; try rfl)
    have qb := HE56.out.p.2.2.1
    have qc := Blk.cell (show Blk Y56 (Y44.heap.size) #[.slice none 0 0] 139 from qb) 0
    have qf := Blk.frozen (show Blk Y56 (Y44.heap.size) #[.slice none 0 0] 139 from qb) 0
    have HE57 := Lib.hid ((HE56.out.rot.rot.upd (a' := It.blk (Y44.heap.size) (.slice A55 u.length c55)) ((Keeps.refl [Y44.heap.size] Y56).set (List.mem_singleton.2 rfl) 0 (.slice A55 u.length c55)) (show Blk _ _ _ _ by simpa using (show Blk Y56 (Y44.heap.size) #[.slice none 0 0] 139 from qb).set 0 (.slice A55 u.length c55)) (fun k hk => hk)).rot.rot)
    go_simp
    clear qb qc qf
    generalize Y56.setCell ⟨Y44.heap.size, 0, none⟩ (.slice A55 u.length c55) = Y57 at *
    refine hK.out _ _ ⟨(HE57.out.bel.cell (p := ⟨w.heap.size, 0, none⟩) zs).trans p0, (HE57.out.bel.cell (p := ⟨w.heap.size, 1, none⟩) zs).trans p1⟩ (fun hHeld => ?_)
    clear hK K
    (try simp only [Act.put, List.setIfInBounds_toArray, List.set_cons_zero, List.set_cons_succ])
    refine wpAnyH_ready (rs := [9]) (by kernel_rfl) (by simp) ?_
    refine AllReadyH.cons (o := ?_) ?_ (fun K hK => ?_) AllReadyH.nil
    rotate_left 1
    · (simp only [List.getElem?_toArray, List.getElem?_cons_zero, List.getElem?_cons_succ]; try rfl)
    have qb := HE57.out.p.2.2.2
    have qc := Blk.cell (show Blk Y57 (Y0.heap.size) #[.slice none 0 0] 139 from qb) 0
    have qf := Blk.frozen (show Blk Y57 (Y0.heap.size) #[.slice none 0 0] 139 from qb) 0
    have HE58 := Lib.hid ((HE57.out.rot.rot.rot.upd (a' := It.blk (Y0.heap.size) (.slice A56 r.length c56)) ((Keeps.refl [Y0.heap.size] Y57).set (List.mem_singleton.2 rfl) 0 (.slice A56 r.length c56)) (show Blk _ _ _ _ by simpa using (show Blk Y57 (Y0.heap.size) #[.slice none 0 0] 139 from qb).set 0 (.slice A56 r.length c56)) (fun k hk => hk)).rot)
    go_simp
    clear qb qc qf
    generalize Y57.setCell ⟨Y0.heap.size, 0, none⟩ (.slice A56 r.length c56) = Y58 at *
    refine hK.out _ _ ⟨(HE58.out.bel.cell (p := ⟨w.heap.size, 0, none⟩) zs).trans p0, (HE58.out.bel.cell (p := ⟨w.heap.size, 1, none⟩) zs).trans p1⟩ (fun hHeld => ?_)
    clear hK K
    (try simp only [Act.put, List.setIfInBounds_toArray, List.set_cons_zero, List.set_cons_succ])
    refine wpAnyH_done (by kernel_rfl) ?_ _
    refine NoPanic.normal ?_
    go_wp2_with fail
    go_meet
    exact ⟨_, _, A55, c55, f55, A56, c56, f56, rfl, rfl, HE58.out⟩
  case rest =>
    obtain ⟨b8, b9, A1, c1, f1, A2, c2, f2, rfl, rfl, hsep⟩ := hcut
    have HT := Lib.hid (Two.of_sep hsep)
    have hb := hsep.bel
    have hzz := hb.size
    have BX := Lib.hid (BX.out.below hb)
    have EX := Lib.hid (EX.out.below hb)
    have RX := Lib.hid (RX.out.below hb)
    have HB := Lib.hid (below_then HB.out hb)
    have hzB : w.heap.size ≤ W2.heap.size := by omega
    have hcc := Lib.hid (HCH.out wc b8 b9 W2.heap.size _ _ _ _ HG.out HB.out hzB hzz HT.out)
    clear hsep hb p0 p1 hsu hsr HCH
    go_wp2_with fail
    refine hcc.out.mono ?_
    rintro x W3 ⟨U', R', ⟨rfl, uv, fu, rv, fr, hT3, hb3⟩, heq⟩
    have RX := Lib.hid (RX.out.of_block (hb3.block (w.heap.size + 2) (by omega)))
    have HB := Lib.hid (HB.out.trans (hb3.mono hzB))
    have HT3 := Lib.hid hT3
    have HEQ := Lib.hid heq
    have hltR := RX.out.lt
    have f0 := RX.out.frozen 0
    have f1 := RX.out.frozen 1
    have c0 := RX.out.cell 0
    have c1 := RX.out.cell 1
    clear hT3 heq hb3 hcc HT BX EX
    cases ok
    · obtain ⟨hU0, hR0⟩ := HNO.out HG.out rfl
      subst hU0 hR0
      clear HNO HEQ
      go_wp2
      refine bodyPost_ret (v := .tuple #[.agg #[.slice none 0 0, .slice none 0 0], .bool false]) (by simp [results, Try.results119, go_sem, c0, c1]) rfl ?_
      exact ⟨none, 0, [], none, 0, [], rfl, ows_nil _ _, (HB.out.setCell (p := ⟨w.heap.size + 2, 0, none⟩) (by simp) _).setCell (p := ⟨w.heap.size + 2, 1, none⟩) (by simp) _⟩
    · obtain ⟨hU0, hR0⟩ := HEQ.out rfl
      subst hU0 hR0
      obtain ⟨A3, c3, e3, hO3⟩ := HT3.out.u.form
      obtain ⟨A4, c4, e4, hO4⟩ := HT3.out.r.form
      subst e3 e4
      have q0 : W3.cell? ⟨b8, 0, none⟩ = some (.slice A3 U'.length c3) := HT3.out.u.hd.cell 0
      have q1 : W3.cell? ⟨b9, 0, none⟩ = some (.slice A4 R'.length c4) := HT3.out.r.hd.cell 0
      have hk := ((Keeps.refl [w.heap.size + 2] W3).set (List.mem_singleton.2 rfl) 0 (.slice A3 U'.length c3)).set (List.mem_singleton.2 rfl) 1 (.slice A4 R'.length c4)
      have RX9 := Lib.hid (show Blk ((W3.setCell ⟨w.heap.size + 2, 0, none⟩ (.slice A3 U'.length c3)).setCell ⟨w.heap.size + 2, 1, none⟩ (.slice A4 R'.length c4)) (w.heap.size + 2) #[.slice A3 U'.length c3, .slice A4 R'.length c4] 46 by simpa using (RX.out.set 0 (.slice A3 U'.length c3)).set 1 (.slice A4 R'.length c4))
      have HO3 := Lib.hid ((hO3.keeps hk (fun k hk h => by have := hO3.lo k hk; simp at h; omega)).mono (base' := w.heap.size) hzB)
      have HO4 := Lib.hid ((hO4.keeps hk (fun k hk h => by have := hO4.lo k hk; simp at h; omega)).mono (base' := w.heap.size) hzB)
      have HDIS := Lib.hid HT3.out.dis
      have r0 := RX9.out.cell 0
      have r1 := RX9.out.cell 1
      clear hO3 hO4 hk HNO HEQ HT3
      go_wp2
      refine bodyPost_ret (v := .tuple #[.agg #[.slice A3 U'.length c3, .slice A4 R'.length c4], .bool true]) (by simp [results, Try.results119, go_sem, r0, r1]) rfl ?_
      exact ⟨_, _, _, _, _, _, rfl, ⟨HO3.out, HO4.out, HDIS.out⟩, (HB.out.setCell (p := ⟨w.heap.size + 2, 0, none⟩) (by simp) _).setCell (p := ⟨w.heap.size + 2, 1, none⟩) (by simp) _⟩
end Go.Proofs.Ytdmmdbapkogdhaa

namespace Go.Proofs.Ytdmmdbapkogdhaa
open Go.RowKit P
set_option linter.unusedVariables false
set_option linter.unusedSimpArgs false
set_option maxRecDepth 100000

theorem Two.symm {w : World} {B ub rb : Nat} {uv rv : Value} {u r : List Ed} {fu fr : List Nat} (h : Two w B ub rb uv u fu rv r fr) : Two w B rb ub rv r fr uv u fu := ⟨h.r, h.u, fun e => h.ne e.symm, h.nr, h.nu, fun k hk h2 => h.dis k h2 hk⟩
/-- One of two lists is changed: the other stays. -/
theorem Two.upd {w w' : World} {B ub rb : Nat} {uv rv uv' : Value} {u r u' : List Ed} {fu fr fu' : List Nat} (h : Two w B ub rb uv u fu rv r fr) (hl : Lb w' B ub uv' u' fu') (hs : ∀ k ∈ fu', k ∈ fu ∨ w.heap.size ≤ k) (hk : Keeps (ub :: fu) w w') : Two w' B ub rb uv' u' fu' rv r fr := by
  have hrl := h.r.hd.lt
  have hrf := h.r.lt
  refine ⟨hl, h.r.keeps hk (fun h2 => ?_) (fun k hk2 h2 => ?_), h.ne, h.nu, fun h2 => ?_, fun k hk2 h2 => ?_⟩
  · rcases List.mem_cons.1 h2 with h3 | h3
    · exact h.ne h3.symm
    · exact h.nr h3
  · rcases List.mem_cons.1 h2 with h3 | h3
    · subst h3; exact h.nu hk2
    · exact h.dis k h3 hk2
  · rcases hs rb h2 with h3 | h3
    · exact h.nr h3
    · omega
  · rcases hs k hk2 with h3 | h3
    · exact h.dis k h3 h2
    · have := hrf k h2; omega
theorem Two.bel {w w' : World} {B ub rb : Nat} {uv rv : Value} {u r : List Ed} {fu fr : List Nat} (h : Two w B ub rb uv u fu rv r fr) (hB : B ≤ w.heap.size) (hk : Keeps (ub :: fu) w w') : Below B w w' := hk.below hB (fun k hk2 => by
  rcases List.mem_cons.1 hk2 with h3 | h3
  · rw [h3]; exact h.u.hB
  · exact h.u.lo k h3)

set_option maxHeartbeats 8000000 in
theorem pushCl_any (ub rb B9 h : Nat) (uv : Value) (u : List Ed) (fu : List Nat) (rv : Value) (r : List Ed) (fr : List Nat) (a m : Int) (P : Option Addr) (p : List UInt8) (ep : Nat) (W : World) (hu6 : u.length ≤ 6) (hr6 : r.length ≤ 6) (ha : -9223372036854775808 ≤ a ∧ a ≤ 9223372036854775807) (hm : -9223372036854775808 ≤ m ∧ m ≤ 9223372036854775807) (hp4 : p.length ≤ 1000) (hP : Bs W P p) (hPB : 0 < p.length → ∀ q, P = some q → q.block < B9) (hE : Blk W h #[.int .i64 a, .int .i64 m, .slice P p.length ep] 30) (hT : Two W B9 ub rb uv u fu rv r fr) (hBW : B9 ≤ W.heap.size) :
    Calls Try.prog 120 #[.pointer (some ⟨ub, 0, none⟩), .pointer (some ⟨rb, 0, none⟩), .pointer (some ⟨h, 0, none⟩)] W (Changed W B9 ub rb true (topE u (a, m, p)) []) := by
  unfold Changed
  have p0 : W.cell? ⟨h, 0, none⟩ = some (.int .i64 a) := hE.cell 0
  have p1 : W.cell? ⟨h, 1, none⟩ = some (.int .i64 m) := hE.cell 1
  have p2 : W.cell? ⟨h, 2, none⟩ = some (.slice P p.length ep) := hE.cell 2
  have HPU := Lib.hid (pushE_any B9 ub uv u fu a m P p ep W hu6 ha hm hp4 hP (fun h0 q hq => ⟨hPB h0 q hq, Nat.lt_of_lt_of_le (hPB h0 q hq) hT.u.hB⟩) hT.u)
  have HT := Lib.hid hT
  clear hP hPB hE hT
  go_enter Try.func120, Try.ntmps120
  go_wp2_with fail
  refine HPU.out.mono ?_
  rintro x w1 ⟨rfl, v1, f1, hL1, hs1, hk1⟩
  have HT1 := Lib.hid (HT.out.upd hL1 hs1 hk1)
  have HB1 := Lib.hid (HT.out.bel hBW hk1)
  clear hL1 hs1 hk1 p0 p1 p2 HPU
  have c0 : w1.cell? ⟨rb, 0, none⟩ = some rv := HT1.out.r.hd.cell 0
  have f0 := HT1.out.r.hd.frozen 0
  have hk2 := (Keeps.refl (rb :: fr) w1).set (List.mem_cons_self) 0 (.slice none 0 0)
  have hL2 : Lb (w1.setCell ⟨rb, 0, none⟩ (.slice none 0 0)) B9 rb (.slice none 0 0) [] [] := ⟨by simpa using HT1.out.r.hd.set 0 (.slice none 0 0), Lay.slice_nil _ _ _, List.nodup_nil, (fun _ h => nomatch h), (fun _ h => nomatch h), HT1.out.r.hB⟩
  have hT2 := (HT1.out.symm.upd hL2 (fun _ h => nomatch h) hk2).symm
  have HT2 := Lib.hid hT2
  have HB2 := Lib.hid (HB1.out.trans (HT1.out.symm.bel (Nat.le_trans hBW HB1.out.size) hk2))
  clear hk2 hL2 hT2
  go_wp2
  go_ret
  exact ⟨rfl, _, _, _, _, HT2.out, HB2.out⟩

set_option maxHeartbeats 8000000 in
theorem turnCl_false (ub rb B9 h g : Nat) (uv : Value) (u : List Ed) (fu : List Nat) (rv : Value) (r : List Ed) (fr : List Nat) (a m : Int) (P : Option Addr) (p : List UInt8) (ep : Nat) (W : World) (hu6 : u.length ≤ 6) (hr6 : r.length ≤ 6) (ha : -9223372036854775808 ≤ a ∧ a ≤ 9223372036854775807) (hm : -9223372036854775808 ≤ m ∧ m ≤ 9223372036854775807) (hp4 : p.length ≤ 1000) (hP : Bs W P p) (hPB : 0 < p.length → ∀ q, P = some q → q.block < B9) (hE : Blk W h #[.int .i64 a, .int .i64 m, .slice P p.length ep] 30) (hT : Two W B9 ub rb uv u fu rv r fr) (hG : Blk W g #[.bool false] 4) (hBW : B9 ≤ W.heap.size) :
    Calls Try.prog 124 #[.pointer (some ⟨ub, 0, none⟩), .pointer (some ⟨rb, 0, none⟩), .pointer (some ⟨g, 0, none⟩), .pointer (some ⟨h, 0, none⟩)] W (Changed W B9 ub rb (decide (0 < u.length)) (u.take (u.length - 1)) (topE r (a, m, p))) := by
  unfold Changed
  have g0 : W.cell? ⟨g, 0, none⟩ = some (.bool false) := hG.cell 0
  have p0 : W.cell? ⟨h, 0, none⟩ = some (.int .i64 a) := hE.cell 0
  have p1 : W.cell? ⟨h, 1, none⟩ = some (.int .i64 m) := hE.cell 1
  have p2 : W.cell? ⟨h, 2, none⟩ = some (.slice P p.length ep) := hE.cell 2
  have HT := Lib.hid hT
  have HPU := Lib.hid (pushE_any B9 rb rv r fr a m P p ep W hr6 ha hm hp4 hP (fun h0 q hq => ⟨hPB h0 q hq, Nat.lt_of_lt_of_le (hPB h0 q hq) HT.out.symm.u.hB⟩) HT.out.symm.u)
  clear hP hPB hE hT hG
  go_enter Try.func124, Try.ntmps124
  go_wp2_with fail
  refine HPU.out.mono ?_
  rintro x w1 ⟨rfl, v1, f1, hL1, hs1, hk1⟩
  have HT1 := Lib.hid (HT.out.symm.upd hL1 hs1 hk1)
  have HB1 := Lib.hid (HT.out.symm.bel hBW hk1)
  clear hL1 hs1 hk1 p0 p1 p2 g0 HPU
  have hpop := Lib.hid (popE_any B9 ub _ u _ w1 hu6 HT1.out.r)
  go_wp2_with fail
  refine hpop.out.mono ?_
  rintro x w2 ⟨rfl, v2, f2, hL2, hs2, hk2⟩
  have HT2 := Lib.hid (HT1.out.symm.upd hL2 (fun k hk => .inl (hs2 k hk)) hk2)
  have HB2 := Lib.hid (HB1.out.trans (HT1.out.symm.bel (Nat.le_trans hBW HB1.out.size) hk2))
  clear hL2 hs2 hk2 hpop
  go_wp2
  go_ret
  exact ⟨rfl, _, _, _, _, HT2.out, HB2.out⟩

set_option maxHeartbeats 8000000 in
theorem turnCl_true (ub rb B9 h g : Nat) (uv : Value) (u : List Ed) (fu : List Nat) (rv : Value) (r : List Ed) (fr : List Nat) (a m : Int) (P : Option Addr) (p : List UInt8) (ep : Nat) (W : World) (hu6 : u.length ≤ 6) (hr6 : r.length ≤ 6) (ha : -9223372036854775808 ≤ a ∧ a ≤ 9223372036854775807) (hm : -9223372036854775808 ≤ m ∧ m ≤ 9223372036854775807) (hp4 : p.length ≤ 1000) (hP : Bs W P p) (hPB : 0 < p.length → ∀ q, P = some q → q.block < B9) (hE : Blk W h #[.int .i64 a, .int .i64 m, .slice P p.length ep] 30) (hT : Two W B9 ub rb uv u fu rv r fr) (hG : Blk W g #[.bool true] 4) (hBW : B9 ≤ W.heap.size) :
    Calls Try.prog 124 #[.pointer (some ⟨ub, 0, none⟩), .pointer (some ⟨rb, 0, none⟩), .pointer (some ⟨g, 0, none⟩), .pointer (some ⟨h, 0, none⟩)] W (Changed W B9 ub rb (decide (0 < r.length)) (topE u (a, m, p)) (r.take (r.length - 1))) := by
  unfold Changed
  have g0 : W.cell? ⟨g, 0, none⟩ = some (.bool true) := hG.cell 0
  have p0 : W.cell? ⟨h, 0, none⟩ = some (.int .i64 a) := hE.cell 0
  have p1 : W.cell? ⟨h, 1, none⟩ = some (.int .i64 m) := hE.cell 1
  have p2 : W.cell? ⟨h, 2, none⟩ = some (.slice P p.length ep) := hE.cell 2
  have HT := Lib.hid hT
  have HPU := Lib.hid (pushE_any B9 ub uv u fu a m P p ep W hu6 ha hm hp4 hP (fun h0 q hq => ⟨hPB h0 q hq, Nat.lt_of_lt_of_le (hPB h0 q hq) HT.out.u.hB⟩) HT.out.u)
  clear hP hPB hE hT hG
  go_enter Try.func124, Try.ntmps124
  go_wp2_with fail
  refine HPU.out.mono ?_
  rintro x w1 ⟨rfl, v1, f1, hL1, hs1, hk1⟩
  have HT1 := Lib.hid (HT.out.upd hL1 hs1 hk1)
  have HB1 := Lib.hid (HT.out.bel hBW hk1)
  clear hL1 hs1 hk1 p0 p1 p2 g0 HPU
  have hpop := Lib.hid (popE_any B9 rb _ r _ w1 hr6 HT1.out.r)
  go_wp2_with fail
  refine hpop.out.mono ?_
  rintro x w2 ⟨rfl, v2, f2, hL2, hs2, hk2⟩
  have HT2 := Lib.hid (HT1.out.symm.upd hL2 (fun k hk => .inl (hs2 k hk)) hk2)
  have HB2 := Lib.hid (HB1.out.trans (HT1.out.symm.bel (Nat.le_trans hBW HB1.out.size) hk2))
  clear hL2 hs2 hk2 hpop
  go_wp2
  go_ret
  exact ⟨rfl, _, _, _, _, HT2.out.symm, HB2.out⟩

set_option maxHeartbeats 32000000 in
theorem changedTurn_any (A : Option Addr) (u : List Ed) (c : Nat) (B : Option Addr) (r : List Ed) (d : Nat) (a m : Int) (P : Option Addr) (p : List UInt8) (ep : Nat) (g h : Nat) (ok : Bool) (U R : List Ed) (w : World) (hu9 : u.length ≤ 9223372036854775807) (hr9 : r.length ≤ 9223372036854775807) (hp9 : p.length ≤ 9223372036854775807) (hU : Es w A u) (hR : Es w B r)
    (hno : (stOk u r && edSmall a m p) = true → ok = false → U = [] ∧ R = []) (hbad : (stOk u r && edSmall a m p) = false → ok = false ∧ U = [] ∧ R = [])
    (hch : ∀ (W : World) (ub rb : Nat) (B9 : Nat) (uv : Value) (fu : List Nat) (rv : Value) (fr : List Nat) (gp : (stOk u r && edSmall a m p) = true), Below w.heap.size w W → w.heap.size ≤ B9 → B9 ≤ W.heap.size → Two W B9 ub rb uv u fu rv r fr → Calls Try.prog 124 #[.pointer (some ⟨ub, 0, none⟩), .pointer (some ⟨rb, 0, none⟩), .pointer (some ⟨g, 0, none⟩), .pointer (some ⟨h, 0, none⟩)] W fun x W' => ∃ U' R', Changed W B9 ub rb ok U' R' x W' ∧ (ok = true → U' = U ∧ R' = R)) :
    Calls Try.prog 119 #[.agg #[.slice A u.length c, .slice B r.length d], .agg #[.int .i64 a, .int .i64 m, .slice P p.length ep], .func (.func 124) #[] #[.pointer (some ⟨g, 0, none⟩), .pointer (some ⟨h, 0, none⟩)]] w (GivesSt U R ok w) := by
  have hal := ((Below.refl w.heap.size w).alloc (Nat.le_refl _) (.cells #[.slice A u.length c, .slice B r.length d] 46)).alloc (by simp) (.cells #[.int .i64 a, .int .i64 m, .slice P p.length ep] 30)
  have hal3 := hal.alloc (by simp; omega) (.cells #[.slice none 0 0, .slice none 0 0] 46)
  have hbx := ((Blk.new w #[.slice A u.length c, .slice B r.length d] 46).alloc (.cells #[.int .i64 a, .int .i64 m, .slice P p.length ep] 30)).alloc (.cells #[.slice none 0 0, .slice none 0 0] 46)
  have hex := (Blk.new (w.alloc (.cells #[.slice A u.length c, .slice B r.length d] 46)) #[.int .i64 a, .int .i64 m, .slice P p.length ep] 30).alloc (.cells #[.slice none 0 0, .slice none 0 0] 46)
  have hrx := Blk.new ((w.alloc (.cells #[.slice A u.length c, .slice B r.length d] 46)).alloc (.cells #[.int .i64 a, .int .i64 m, .slice P p.length ep] 30)) #[.slice none 0 0, .slice none 0 0] 46
  simp only [World.size_alloc] at hex hrx
  have BX := Lib.hid hbx
  have EX := Lib.hid hex
  have RX := Lib.hid hrx
  have HB := Lib.hid hal3
  have hzw : (((w.alloc (.cells #[.slice A u.length c, .slice B r.length d] 46)).alloc (.cells #[.int .i64 a, .int .i64 m, .slice P p.length ep] 30)).alloc (.cells #[.slice none 0 0, .slice none 0 0] 46)).heap.size ≥ w.heap.size + 3 := by simp
  have HU := Lib.hid (show ∀ W, Below w.heap.size w W → Es W A u from fun W h => hU.below h)
  have HR := Lib.hid (show ∀ W, Below w.heap.size w W → Es W B r from fun W h => hR.below h)
  obtain ⟨y, hy⟩ : ∃ y, stOk u r = y := ⟨_, rfl⟩
  obtain ⟨z, hz⟩ : ∃ z, edSmall a m p = z := ⟨_, rfl⟩
  have HY := Lib.hid hy
  have HZ := Lib.hid hz
  have HNO := Lib.hid hno
  have HBAD := Lib.hid hbad
  have HCH := Lib.hid hch
  clear hy hz hal hal3 hbx hex hrx hU hR hno hbad hch
  go_enter Try.func119, Try.ntmps119
  have p0 := BX.out.cell 0
  have p1 := BX.out.cell 1
  have hU1 := HU.out _ HB.out
  have hR1 := HR.out _ HB.out
  go_wp2_with fail
  generalize ((w.alloc (.cells #[.slice A u.length c, .slice B r.length d] 46)).alloc (.cells #[.int .i64 a, .int .i64 m, .slice P p.length ep] 30)).alloc (.cells #[.slice none 0 0, .slice none 0 0] 46) = W0 at *
  refine (implStackOk_any A B u r c d _ hu9 hr9 hU1 hR1).mono ?_
  rintro x W1 ⟨rfl, hb⟩
  rw [HY.out]
  have BX := Lib.hid (BX.out.below hb)
  have EX := Lib.hid (EX.out.below hb)
  have RX := Lib.hid (RX.out.below hb)
  have HB := Lib.hid (below_then HB.out hb)
  have hzw := Nat.le_trans hzw hb.size
  clear p0 p1 hU1 hR1 hb
  cases y
  · obtain ⟨hok, hU0, hR0⟩ := HBAD.out (by rw [HY.out]; rfl)
    subst hok hU0 hR0
    have f0 := RX.out.frozen 0
    have f1 := RX.out.frozen 1
    have c0 := RX.out.cell 0
    have c1 := RX.out.cell 1
    have hltR := RX.out.lt
    go_wp2
    refine bodyPost_ret (v := .tuple #[.agg #[.slice none 0 0, .slice none 0 0], .bool false]) (by simp [results, Try.results119, go_sem, c0, c1]) rfl ?_
    exact ⟨none, 0, [], none, 0, [], rfl, ows_nil _ _, (HB.out.setCell (p := ⟨w.heap.size + 2, 0, none⟩) (by simp) _).setCell (p := ⟨w.heap.size + 2, 1, none⟩) (by simp) _⟩
  have p0 := EX.out.cell 0
  have p1 := EX.out.cell 1
  have p2 := EX.out.cell 2
  go_wp2_with fail
  refine (isSmall_any a m P p ep _ hp9).mono ?_
  rintro x W2 ⟨rfl, hb⟩
  rw [HZ.out]
  have BX := Lib.hid (BX.out.below hb)
  have EX := Lib.hid (EX.out.below hb)
  have RX := Lib.hid (RX.out.below hb)
  have HB := Lib.hid (below_then HB.out hb)
  have hzw := Nat.le_trans hzw hb.size
  clear p0 p1 p2 hb
  cases z
  · obtain ⟨hok, hU0, hR0⟩ := HBAD.out (by rw [HY.out, HZ.out]; rfl)
    subst hok hU0 hR0
    have f0 := RX.out.frozen 0
    have f1 := RX.out.frozen 1
    have c0 := RX.out.cell 0
    have c1 := RX.out.cell 1
    have hltR := RX.out.lt
    go_wp2
    refine bodyPost_ret (v := .tuple #[.agg #[.slice none 0 0, .slice none 0 0], .bool false]) (by simp [results, Try.results119, go_sem, c0, c1]) rfl ?_
    exact ⟨none, 0, [], none, 0, [], rfl, ows_nil _ _, (HB.out.setCell (p := ⟨w.heap.size + 2, 0, none⟩) (by simp) _).setCell (p := ⟨w.heap.size + 2, 1, none⟩) (by simp) _⟩
  have hgood : (stOk u r && edSmall a m p) = true := by rw [HY.out, HZ.out]; rfl
  have hfu : stFit u = true := by have h9 := HY.out; unfold stOk at h9; rw [Bool.and_eq_true] at h9; exact h9.1
  have hfr : stFit r = true := by have h9 := HY.out; unfold stOk at h9; rw [Bool.and_eq_true] at h9; exact h9.2
  have hlu := stFit_len hfu
  have hlr := stFit_len hfr
  have hsu : ∀ e ∈ u, e.2.2.length ≤ 1000 := fun e he => by have h9 := (edSmall_iff _ _ _).1 (show edSmall e.1 e.2.1 e.2.2 = true from stFit_all hfu e he); omega
  have hsr : ∀ e ∈ r, e.2.2.length ≤ 1000 := fun e he => by have h9 := (edSmall_iff _ _ _).1 (show edSmall e.1 e.2.1 e.2.2 = true from stFit_all hfr e he); omega
  have HG := Lib.hid hgood
  have HSU := Lib.hid hsu
  have HSR := Lib.hid hsr
  have zs := BX.out.lt
  have p0 := BX.out.cell 0
  have p1 := BX.out.cell 1
  clear hgood hfu hfr HBAD
  go_upto_region 3 with fail
  go_cut [8, 9] (fun x y wx => ∃ (b8 b9 : Nat) (A1 : Option Addr) (c1 : Nat) (f1 : List Nat) (A2 : Option Addr) (c2 : Nat) (f2 : List Nat), x = .pointer (some ⟨b8, 0, none⟩) ∧ y = .pointer (some ⟨b9, 0, none⟩) ∧ Sep4 W2 wx (It.own (.slice A1 u.length c1) u f1) (It.own (.slice A2 r.length c2) r f2) (It.blk b8 (.slice A1 u.length c1)) (It.blk b9 (.slice A2 r.length c2)))
  case first =>
    refine wp_region_noPanic ?_
    refine wp_region_held_drew (S := fun V => V.cell? ⟨w.heap.size, 0, none⟩ = some (.slice A u.length c) ∧ V.cell? ⟨w.heap.size, 1, none⟩ = some (.slice B r.length d)) (by kernel_rfl) ⟨p0, p1⟩ (fun hHeld => ?_)
    have HE0 : Hid (Sep4 W2 W2.drew It.emp It.emp It.emp It.emp) := Lib.hid (Sep4.new W2)
    refine wpAnyH_take (i := 0) (oi := ?_) (v := ?_) ?_ ?_ ?_ ?_ ?_ ?_ (by exact hHeld) ?_
    rotate_left 2
    · (simp only [List.getElem?_toArray, List.getElem?_cons_zero]; try rfl)
    · kernel_rfl
    · kernel_rfl
    · kernel_rfl
    · exact fun _ _ _ h => h
    · refine Or.inl ⟨by rfl, ?_⟩
      (intro V hSV; (try dsimp only at hSV); obtain ⟨q0, q1⟩ := hSV; go_simp; try with_reducible rfl)
    (try simp only [Act.put, List.setIfInBounds_toArray, List.set_cons_zero, List.set_cons_succ])
    refine wpAnyH_take (i := 1) (oi := ?_) (v := ?_) ?_ ?_ ?_ ?_ ?_ ?_ (by exact hHeld) ?_
    rotate_left 2
    · (simp only [List.getElem?_toArray, List.getElem?_cons_zero, List.getElem?_cons_succ]; try rfl)
    · kernel_rfl
    · kernel_rfl
    · kernel_rfl
    · exact fun _ _ _ h => h
    · refine Or.inl ⟨by rfl, ?_⟩
      (intro V hSV; (try dsimp only at hSV); obtain ⟨q0, q1⟩ := hSV; go_simp; try with_reducible rfl)
    (try simp only [Act.put, List.setIfInBounds_toArray, List.set_cons_zero, List.set_cons_succ])
    refine wpAnyH_take (i := 3) (oi := ?_) (v := ?_) ?_ ?_ ?_ ?_ ?_ ?_ (by exact hHeld) ?_
    rotate_left 2
    · (simp only [List.getElem?_toArray, List.getElem?_cons_zero, List.getElem?_cons_succ]; try rfl)
    · kernel_rfl
    · kernel_rfl
    · kernel_rfl
    · exact fun _ _ _ h => h
    · refine Or.inl ⟨by rfl, ?_⟩
      (intro V hSV; (try dsimp only at hSV); obtain ⟨q0, q1⟩ := hSV; go_simp; try with_reducible rfl)
    (try simp only [Act.put, List.setIfInBounds_toArray, List.set_cons_zero, List.set_cons_succ])
    refine wpAnyH_take (i := 4) (oi := ?_) (v := ?_) ?_ ?_ ?_ ?_ ?_ ?_ (by exact hHeld) ?_
    rotate_left 2
    · (simp only [List.getElem?_toArray, List.getElem?_cons_zero, List.getElem?_cons_succ]; try rfl)
    · kernel_rfl
    · kernel_rfl
    · kernel_rfl
    · exact fun _ _ _ h => h
    · refine Or.inl ⟨by rfl, ?_⟩
      (intro V hSV; (try dsimp only at hSV); obtain ⟨q0, q1⟩ := hSV; go_simp; try with_reducible rfl)
    (try simp only [Act.put, List.setIfInBounds_toArray, List.set_cons_zero, List.set_cons_succ])
    generalize W2.drew = Y0 at *
    refine wpAnyH_ready (rs := [2, 6, 7]) (by kernel_rfl) (by simp) ?_
    refine AllReadyH.cons (o := ?_) ?_ (fun K hK => ?_) ?_
    rotate_left 1
    · (simp only [List.getElem?_toArray, List.getElem?_cons_zero, List.getElem?_cons_succ]; try rfl)
    · go_simp
      refine (newEditStack_any A u c _ (by omega) hsu (HU.out _ (below_then HB.out HE0.out.bel))).mono ?_
      rintro e Y1 ⟨v1, f1, rfl, ho1, hn1, hl1, hb1⟩
      obtain ⟨A1, c1, e1, _, _, _⟩ := Lay.edits.read ho1
      simp only [List.cons.injEq, and_true] at e1
      subst e1
      have HE1 := Lib.hid ((HE0.out.fresh (a := It.own (.slice A1 u.length c1) u f1) hb1 ⟨ho1, hn1⟩ hl1))
      clear ho1 hn1 hl1 hb1
      go_wp2_with fail
      refine hK.out _ _ ⟨(HE1.out.bel.cell (p := ⟨w.heap.size, 0, none⟩) zs).trans p0, (HE1.out.bel.cell (p := ⟨w.heap.size, 1, none⟩) zs).trans p1⟩ (fun hHeld => ?_)
      clear hK K
      (try simp only [Act.put, List.setIfInBounds_toArray, List.set_cons_zero, List.set_cons_succ])
      refine wpAnyH_ready (rs := [5, 6, 7]) (by kernel_rfl) (by simp) ?_
      refine AllReadyH.cons (o := ?_) ?_ (fun K hK => ?_) ?_
      rotate_left 1
      · (simp only [List.getElem?_toArray, List.getElem?_cons_zero, List.getElem?_cons_succ]; try rfl)
      · go_simp
        refine (newEditStack_any B r d _ (by omega) hsr (HR.out _ (below_then HB.out HE1.out.bel))).mono ?_
        rintro e Y2 ⟨v2, f2, rfl, ho2, hn2, hl2, hb2⟩
        obtain ⟨A2, c2, e2, _, _, _⟩ := Lay.edits.read ho2
        simp only [List.cons.injEq, and_true] at e2
        subst e2
        have HE2 := Lib.hid ((HE1.out.rot.fresh (a := It.own (.slice A2 r.length c2) r f2) hb2 ⟨ho2, hn2⟩ hl2).rot.rot.rot)
        clear ho2 hn2 hl2 hb2
        go_wp2_with fail
        refine hK.out _ _ ⟨(HE2.out.bel.cell (p := ⟨w.heap.size, 0, none⟩) zs).trans p0, (HE2.out.bel.cell (p := ⟨w.heap.size, 1, none⟩) zs).trans p1⟩ (fun hHeld => ?_)
        clear hK K
        (try simp only [Act.put, List.setIfInBounds_toArray, List.set_cons_zero, List.set_cons_succ])
        refine wpAnyH_ready (rs := [6, 7]) (by kernel_rfl) (by simp) ?_
        refine AllReadyH.cons (o := ?_) ?_ (fun K hK => ?_) ?_
        rotate_left 1
        · (simp only [List.getElem?_toArray, List.getElem?_cons_zero, List.getElem?_cons_succ]; try rfl)
        · have HE3 := Lib.hid ((HE2.out.rot.rot.fresh (a := It.blk Y2.heap.size (.slice none 0 0)) ((Below.refl Y2.heap.size Y2).alloc (Nat.le_refl _) (.cells #[.slice none 0 0] 139)) (Blk.new Y2 _ _) (fun k hk => by simp [It.blk] at hk; omega)).rot.rot)
          have hz3 := HE2.out.bel.size
          go_simp
          generalize Y2.alloc (.cells #[.slice none 0 0] 139) = Y3 at *
          refine hK.out _ _ ⟨(HE3.out.bel.cell (p := ⟨w.heap.size, 0, none⟩) zs).trans p0, (HE3.out.bel.cell (p := ⟨w.heap.size, 1, none⟩) zs).trans p1⟩ (fun hHeld => ?_)
          clear hK K
          (try simp only [Act.put, List.setIfInBounds_toArray, List.set_cons_zero, List.set_cons_succ])
          refine wpAnyH_ready (rs := [7]) (by kernel_rfl) (by simp) ?_
          refine AllReadyH.cons (o := ?_) ?_ (fun K hK => ?_) AllReadyH.nil
          rotate_left 1
          · (simp only [List.getElem?_toArray, List.getElem?_cons_zero, List.getElem?_cons_succ]; try rfl)
          have HE4 := Lib.hid ((HE3.out.rot.rot.rot.fresh (a := It.blk Y3.heap.size (.slice none 0 0)) ((Below.refl Y3.heap.size Y3).alloc (Nat.le_refl _) (.cells #[.slice none 0 0] 139)) (Blk.new Y3 _ _) (fun k hk => by simp [It.blk] at hk; omega)).rot)
          have hz4 := HE3.out.bel.size
          go_simp
          generalize Y3.alloc (.cells #[.slice none 0 0] 139) = Y4 at *
          refine hK.out _ _ ⟨(HE4.out.bel.cell (p := ⟨w.heap.size, 0, none⟩) zs).trans p0, (HE4.out.bel.cell (p := ⟨w.heap.size, 1, none⟩) zs).trans p1⟩ (fun hHeld => ?_)
          clear hK K
          (try simp only [Act.put, List.setIfInBounds_toArray, List.set_cons_zero, List.set_cons_succ])
          refine wpAnyH_ready (rs := [8]) (by kernel_rfl) (by simp) ?_
          refine AllReadyH.cons (o := ?_) ?_ (fun K hK => ?_) AllReadyH.nil
          rotate_left 1
          · (simp only [List.getElem?_toArray, List.getElem?_cons_zero, List.getElem?_cons_succ]; try rfl)
          have qb := HE4.out.p.2.2.1
          have qc := Blk.cell (show Blk Y4 (Y2.heap.size) #[.slice none 0 0] 139 from qb) 0
          have qf := Blk.frozen (show Blk Y4 (Y2.heap.size) #[.slice none 0 0] 139 from qb) 0
          have HE5 := Lib.hid ((HE4.out.rot.rot.upd (a' := It.blk (Y2.heap.size) (.slice A1 u.length c1)) ((Keeps.refl [Y2.heap.size] Y4).set (List.mem_singleton.2 rfl) 0 (.slice A1 u.length c1)) (show Blk _ _ _ _ by simpa using (show Blk Y4 (Y2.heap.size) #[.slice none 0 0] 139 from qb).set 0 (.slice A1 u.length c1)) (fun k hk => hk)).rot.rot)
          go_simp
          clear qb qc qf
          generalize Y4.setCell ⟨Y2.heap.size, 0, none⟩ (.slice A1 u.length c1) = Y5 at *
          refine hK.out _ _ ⟨(HE5.out.bel.cell (p := ⟨w.heap.size, 0, none⟩) zs).trans p0, (HE5.out.bel.cell (p := ⟨w.heap.size, 1, none⟩) zs).trans p1⟩ (fun hHeld => ?_)
          clear hK K
          (try simp only [Act.put, List.setIfInBounds_toArray, List.set_cons_zero, List.set_cons_succ])
          refine wpAnyH_ready (rs := [9]) (by kernel_rfl) (by simp) ?_
          refine AllReadyH.cons (o := ?_) ?_ (fun K hK => ?_) AllReadyH.nil
          rotate_left 1
          · (simp only [List.getElem?_toArray, List.getElem?_cons_zero, List.getElem?_cons_succ]; try rfl)
          have qb := HE5.out.p.2.2.2
          have qc := Blk.cell (show Blk Y5 (Y3.heap.size) #[.slice none 0 0] 139 from qb) 0
          have qf := Blk.frozen (show Blk Y5 (Y3.heap.size) #[.slice none 0 0] 139 from qb) 0
          have HE6 := Lib.hid ((HE5.out.rot.rot.rot.upd (a' := It.blk (Y3.heap.size) (.slice A2 r.length c2)) ((Keeps.refl [Y3.heap.size] Y5).set (List.mem_singleton.2 rfl) 0 (.slice A2 r.length c2)) (show Blk _ _ _ _ by simpa using (show Blk Y5 (Y3.heap.size) #[.slice none 0 0] 139 from qb).set 0 (.slice A2 r.length c2)) (fun k hk => hk)).rot)
          go_simp
          clear qb qc qf
          generalize Y5.setCell ⟨Y3.heap.size, 0, none⟩ (.slice A2 r.length c2) = Y6 at *
          refine hK.out _ _ ⟨(HE6.out.bel.cell (p := ⟨w.heap.size, 0, none⟩) zs).trans p0, (HE6.out.bel.cell (p := ⟨w.heap.size, 1, none⟩) zs).trans p1⟩ (fun hHeld => ?_)
          clear hK K
          (try simp only [Act.put, List.setIfInBounds_toArray, List.set_cons_zero, List.set_cons_succ])
          refine wpAnyH_done (by kernel_rfl) ?_ _
          refine NoPanic.normal ?_
          go_wp2_with fail
          go_meet
          exact ⟨_, _, A1, c1, f1, A2, c2, f2, rfl, rfl, HE6.out⟩
        refine AllReadyH.cons (o := ?_) ?_ (fun K hK => ?_) AllReadyH.nil
        rotate_left 1
        · (simp only [List.getElem?_toArray, List.getElem?_cons_zero, List.getElem?_cons_succ]; try rfl)
        have HE7 := Lib.hid ((HE2.out.rot.rot.rot.fresh (a := It.blk Y2.heap.size (.slice none 0 0)) ((Below.refl Y2.heap.size Y2).alloc (Nat.le_refl _) (.cells #[.slice none 0 0] 139)) (Blk.new Y2 _ _) (fun k hk => by simp [It.blk] at hk; omega)).rot)
        have hz7 := HE2.out.bel.size
        go_simp
        generalize Y2.alloc (.cells #[.slice none 0 0] 139) = Y7 at *
        refine hK.out _ _ ⟨(HE7.out.bel.cell (p := ⟨w.heap.size, 0, none⟩) zs).trans p0, (HE7.out.bel.cell (p := ⟨w.heap.size, 1, none⟩) zs).trans p1⟩ (fun hHeld => ?_)
        clear hK K
        (try simp only [Act.put, List.setIfInBounds_toArray, List.set_cons_zero, List.set_cons_succ])
        refine wpAnyH_ready (rs := [6]) (by kernel_rfl) (by simp) ?_
        refine AllReadyH.cons (o := ?_) ?_ (fun K hK => ?_) AllReadyH.nil
        rotate_left 1
        · (simp only [List.getElem?_toArray, List.getElem?_cons_zero, List.getElem?_cons_succ]; try rfl)
        have HE8 := Lib.hid ((HE7.out.rot.rot.fresh (a := It.blk Y7.heap.size (.slice none 0 0)) ((Below.refl Y7.heap.size Y7).alloc (Nat.le_refl _) (.cells #[.slice none 0 0] 139)) (Blk.new Y7 _ _) (fun k hk => by simp [It.blk] at hk; omega)).rot.rot)
        have hz8 := HE7.out.bel.size
        go_simp
        generalize Y7.alloc (.cells #[.slice none 0 0] 139) = Y8 at *
        refine hK.out _ _ ⟨(HE8.out.bel.cell (p := ⟨w.heap.size, 0, none⟩) zs).trans p0, (HE8.out.bel.cell (p := ⟨w.heap.size, 1, none⟩) zs).trans p1⟩ (fun hHeld => ?_)
        clear hK K
        (try simp only [Act.put, List.setIfInBounds_toArray, List.set_cons_zero, List.set_cons_succ])
        refine wpAnyH_ready (rs := [8]) (by kernel_rfl) (by simp) ?_
        refine AllReadyH.cons (o := ?_) ?_ (fun K hK => ?_) AllReadyH.nil
        rotate_left 1
        · (simp only [List.getElem?_toArray, List.getElem?_cons_zero, List.getElem?_cons_succ]; try rfl)
        have qb := HE8.out.p.2.2.1
        have qc := Blk.cell (show Blk Y8 (Y7.heap.size) #[.slice none 0 0] 139 from qb) 0
        have qf := Blk.frozen (show Blk Y8 (Y7.heap.size) #[.slice none 0 0] 139 from qb) 0
        have HE9 := Lib.hid ((HE8.out.rot.rot.upd (a' := It.blk (Y7.heap.size) (.slice A1 u.length c1)) ((Keeps.refl [Y7.heap.size] Y8).set (List.mem_singleton.2 rfl) 0 (.slice A1 u.length c1)) (show Blk _ _ _ _ by simpa using (show Blk Y8 (Y7.heap.size) #[.slice none 0 0] 139 from qb).set 0 (.slice A1 u.length c1)) (fun k hk => hk)).rot.rot)
        go_simp
        clear qb qc qf
        generalize Y8.setCell ⟨Y7.heap.size, 0, none⟩ (.slice A1 u.length c1) = Y9 at *
        refine hK.out _ _ ⟨(HE9.out.bel.cell (p := ⟨w.heap.size, 0, none⟩) zs).trans p0, (HE9.out.bel.cell (p := ⟨w.heap.size, 1, none⟩) zs).trans p1⟩ (fun hHeld => ?_)
        clear hK K
        (try simp only [Act.put, List.setIfInBounds_toArray, List.set_cons_zero, List.set_cons_succ])
        refine wpAnyH_ready (rs := [9]) (by kernel_rfl) (by simp) ?_
        refine AllReadyH.cons (o := ?_) ?_ (fun K hK => ?_) AllReadyH.nil
        rotate_left 1
        · (simp only [List.getElem?_toArray, List.getElem?_cons_zero, List.getElem?_cons_succ]; try rfl)
        have qb := HE9.out.p.2.2.2
        have qc := Blk.cell (show Blk Y9 (Y2.heap.size) #[.slice none 0 0] 139 from qb) 0
        have qf := Blk.frozen (show Blk Y9 (Y2.heap.size) #[.slice none 0 0] 139 from qb) 0
        have HE10 := Lib.hid ((HE9.out.rot.rot.rot.upd (a' := It.blk (Y2.heap.size) (.slice A2 r.length c2)) ((Keeps.refl [Y2.heap.size] Y9).set (List.mem_singleton.2 rfl) 0 (.slice A2 r.length c2)) (show Blk _ _ _ _ by simpa using (show Blk Y9 (Y2.heap.size) #[.slice none 0 0] 139 from qb).set 0 (.slice A2 r.length c2)) (fun k hk => hk)).rot)
        go_simp
        clear qb qc qf
        generalize Y9.setCell ⟨Y2.heap.size, 0, none⟩ (.slice A2 r.length c2) = Y10 at *
        refine hK.out _ _ ⟨(HE10.out.bel.cell (p := ⟨w.heap.size, 0, none⟩) zs).trans p0, (HE10.out.bel.cell (p := ⟨w.heap.size, 1, none⟩) zs).trans p1⟩ (fun hHeld => ?_)
        clear hK K
        (try simp only [Act.put, List.setIfInBounds_toArray, List.set_cons_zero, List.set_cons_succ])
        refine wpAnyH_done (by kernel_rfl) ?_ _
        refine NoPanic.normal ?_
        go_wp2_with fail
        go_meet
        exact ⟨_, _, A1, c1, f1, A2, c2, f2, rfl, rfl, HE10.out⟩
      refine AllReadyH.cons (o := ?_) ?_ (fun K hK => ?_) ?_
      rotate_left 1
      · (simp only [List.getElem?_toArray, List.getElem?_cons_zero, List.getElem?_cons_succ]; try rfl)
      · have HE11 := Lib.hid ((HE1.out.rot.rot.fresh (a := It.blk Y1.heap.size (.slice none 0 0)) ((Below.refl Y1.heap.size Y1).alloc (Nat.le_refl _) (.cells #[.slice none 0 0] 139)) (Blk.new Y1 _ _) (fun k hk => by simp [It.blk] at hk; omega)).rot.rot)
        have hz11 := HE1.out.bel.size
        go_simp
        generalize Y1.alloc (.cells #[.slice none 0 0] 139) = Y11 at *
        refine hK.out _ _ ⟨(HE11.out.bel.cell (p := ⟨w.heap.size, 0, none⟩) zs).trans p0, (HE11.out.bel.cell (p := ⟨w.heap.size, 1, none⟩) zs).trans p1⟩ (fun hHeld => ?_)
        clear hK K
        (try simp only [Act.put, List.setIfInBounds_toArray, List.set_cons_zero, List.set_cons_succ])
        refine wpAnyH_ready (rs := [5, 7]) (by kernel_rfl) (by simp) ?_
        refine AllReadyH.cons (o := ?_) ?_ (fun K hK => ?_) ?_
        rotate_left 1
        · (simp only [List.getElem?_toArray, List.getElem?_cons_zero, List.getElem?_cons_succ]; try rfl)
        · go_simp
          refine (newEditStack_any B r d _ (by omega) hsr (HR.out _ (below_then HB.out HE11.out.bel))).mono ?_
          rintro e Y12 ⟨v12, f12, rfl, ho12, hn12, hl12, hb12⟩
          obtain ⟨A12, c12, e12, _, _, _⟩ := Lay.edits.read ho12
          simp only [List.cons.injEq, and_true] at e12
          subst e12
          have HE12 := Lib.hid ((HE11.out.rot.fresh (a := It.own (.slice A12 r.length c12) r f12) hb12 ⟨ho12, hn12⟩ hl12).rot.rot.rot)
          clear ho12 hn12 hl12 hb12
          go_wp2_with fail
          refine hK.out _ _ ⟨(HE12.out.bel.cell (p := ⟨w.heap.size, 0, none⟩) zs).trans p0, (HE12.out.bel.cell (p := ⟨w.heap.size, 1, none⟩) zs).trans p1⟩ (fun hHeld => ?_)
          clear hK K
          (try simp only [Act.put, List.setIfInBounds_toArray, List.set_cons_zero, List.set_cons_succ])
          refine wpAnyH_ready (rs := [7]) (by kernel_rfl) (by simp) ?_
          refine AllReadyH.cons (o := ?_) ?_ (fun K hK => ?_) AllReadyH.nil
          rotate_left 1
          · (simp only [List.getElem?_toArray, List.getElem?_cons_zero, List.getElem?_cons_succ]; try rfl)
          have HE13 := Lib.hid ((HE12.out.rot.rot.rot.fresh (a := It.blk Y12.heap.size (.slice none 0 0)) ((Below.refl Y12.heap.size Y12).alloc (Nat.le_refl _) (.cells #[.slice none 0 0] 139)) (Blk.new Y12 _ _) (fun k hk => by simp [It.blk] at hk; omega)).rot)
          have hz13 := HE12.out.bel.size
          go_simp
          generalize Y12.alloc (.cells #[.slice none 0 0] 139) = Y13 at *
          refine hK.out _ _ ⟨(HE13.out.bel.cell (p := ⟨w.heap.size, 0, none⟩) zs).trans p0, (HE13.out.bel.cell (p := ⟨w.heap.size, 1, none⟩) zs).trans p1⟩ (fun hHeld => ?_)
          clear hK K
          (try simp only [Act.put, List.setIfInBounds_toArray, List.set_cons_zero, List.set_cons_succ])
          refine wpAnyH_ready (rs := [8]) (by kernel_rfl) (by simp) ?_
          refine AllReadyH.cons (o := ?_) ?_ (fun K hK => ?_) AllReadyH.nil
          rotate_left 1
          · (simp only [List.getElem?_toArray, List.getElem?_cons_zero, List.getElem?_cons_succ]; try rfl)
          have qb := HE13.out.p.2.2.1
          have qc := Blk.cell (show Blk Y13 (Y1.heap.size) #[.slice none 0 0] 139 from qb) 0
          have qf := Blk.frozen (show Blk Y13 (Y1.heap.size) #[.slice none 0 0] 139 from qb) 0
          have HE14 := Lib.hid ((HE13.out.rot.rot.upd (a' := It.blk (Y1.heap.size) (.slice A1 u.length c1)) ((Keeps.refl [Y1.heap.size] Y13).set (List.mem_singleton.2 rfl) 0 (.slice A1 u.length c1)) (show Blk _ _ _ _ by simpa using (show Blk Y13 (Y1.heap.size) #[.slice none 0 0] 139 from qb).set 0 (.slice A1 u.length c1)) (fun k hk => hk)).rot.rot)
          go_simp
          clear qb qc qf
          generalize Y13.setCell ⟨Y1.heap.size, 0, none⟩ (.slice A1 u.length c1) = Y14 at *
          refine hK.out _ _ ⟨(HE14.out.bel.cell (p := ⟨w.heap.size, 0, none⟩) zs).trans p0, (HE14.out.bel.cell (p := ⟨w.heap.size, 1, none⟩) zs).trans p1⟩ (fun hHeld => ?_)
          clear hK K
          (try simp only [Act.put, List.setIfInBounds_toArray, List.set_cons_zero, List.set_cons_succ])
          refine wpAnyH_ready (rs := [9]) (by kernel_rfl) (by simp) ?_
          refine AllReadyH.cons (o := ?_) ?_ (fun K hK => ?_) AllReadyH.nil
          rotate_left 1
          · (simp only [List.getElem?_toArray, List.getElem?_cons_zero, List.getElem?_cons_succ]; try rfl)
          have qb := HE14.out.p.2.2.2
          have qc := Blk.cell (show Blk Y14 (Y12.heap.size) #[.slice none 0 0] 139 from qb) 0
          have qf := Blk.frozen (show Blk Y14 (Y12.heap.size) #[.slice none 0 0] 139 from qb) 0
          have HE15 := Lib.hid ((HE14.out.rot.rot.rot.upd (a' := It.blk (Y12.heap.size) (.slice A12 r.length c12)) ((Keeps.refl [Y12.heap.size] Y14).set (List.mem_singleton.2 rfl) 0 (.slice A12 r.length c12)) (show Blk _ _ _ _ by simpa using (show Blk Y14 (Y12.heap.size) #[.slice none 0 0] 139 from qb).set 0 (.slice A12 r.length c12)) (fun k hk => hk)).rot)
          go_simp
          clear qb qc qf
          generalize Y14.setCell ⟨Y12.heap.size, 0, none⟩ (.slice A12 r.length c12) = Y15 at *
          refine hK.out _ _ ⟨(HE15.out.bel.cell (p := ⟨w.heap.size, 0, none⟩) zs).trans p0, (HE15.out.bel.cell (p := ⟨w.heap.size, 1, none⟩) zs).trans p1⟩ (fun hHeld => ?_)
          clear hK K
          (try simp only [Act.put, List.setIfInBounds_toArray, List.set_cons_zero, List.set_cons_succ])
          refine wpAnyH_done (by kernel_rfl) ?_ _
          refine NoPanic.normal ?_
          go_wp2_with fail
          go_meet
          exact ⟨_, _, A1, c1, f1, A12, c12, f12, rfl, rfl, HE15.out⟩
        refine AllReadyH.cons (o := ?_) ?_ (fun K hK => ?_) AllReadyH.nil
        rotate_left 1
        · (simp only [List.getElem?_toArray, List.getElem?_cons_zero, List.getElem?_cons_succ]; try rfl)
        have HE16 := Lib.hid ((HE11.out.rot.rot.rot.fresh (a := It.blk Y11.heap.size (.slice none 0 0)) ((Below.refl Y11.heap.size Y11).alloc (Nat.le_refl _) (.cells #[.slice none 0 0] 139)) (Blk.new Y11 _ _) (fun k hk => by simp [It.blk] at hk; omega)).rot)
        have hz16 := HE11.out.bel.size
        go_simp
        generalize Y11.alloc (.cells #[.slice none 0 0] 139) = Y16 at *
        refine hK.out _ _ ⟨(HE16.out.bel.cell (p := ⟨w.heap.size, 0, none⟩) zs).trans p0, (HE16.out.bel.cell (p := ⟨w.heap.size, 1, none⟩) zs).trans p1⟩ (fun hHeld => ?_)
        clear hK K
        (try simp only [Act.put, List.setIfInBounds_toArray, List.set_cons_zero, List.set_cons_succ])
        refine wpAnyH_ready (rs := [5]) (by kernel_rfl) (by simp) ?_
        refine AllReadyH.cons (o := ?_) ?_ (fun K hK => ?_) AllReadyH.nil
        rotate_left 1
        · (simp only [List.getElem?_toArray, List.getElem?_cons_zero, List.getElem?_cons_succ]; try rfl)
        go_simp
        refine (newEditStack_any B r d _ (by omega) hsr (HR.out _ (below_then HB.out HE16.out.bel))).mono ?_
        rintro e Y17 ⟨v17, f17, rfl, ho17, hn17, hl17, hb17⟩
        obtain ⟨A17, c17, e17, _, _, _⟩ := Lay.edits.read ho17
        simp only [List.cons.injEq, and_true] at e17
        subst e17
        have HE17 := Lib.hid ((HE16.out.rot.fresh (a := It.own (.slice A17 r.length c17) r f17) hb17 ⟨ho17, hn17⟩ hl17).rot.rot.rot)
        clear ho17 hn17 hl17 hb17
        go_wp2_with fail
        refine hK.out _ _ ⟨(HE17.out.bel.cell (p := ⟨w.heap.size, 0, none⟩) zs).trans p0, (HE17.out.bel.cell (p := ⟨w.heap.size, 1, none⟩) zs).trans p1⟩ (fun hHeld => ?_)
        clear hK K
        (try simp only [Act.put, List.setIfInBounds_toArray, List.set_cons_zero, List.set_cons_succ])
        refine wpAnyH_ready (rs := [8]) (by kernel_rfl) (by simp) ?_
        refine AllReadyH.cons (o := ?_) ?_ (fun K hK => ?_) AllReadyH.nil
        rotate_left 1
        · (simp only [List.getElem?_toArray, List.getElem?_cons_zero, List.getElem?_cons_succ]; try rfl)
        have qb := HE17.out.p.2.2.1
        have qc := Blk.cell (show Blk Y17 (Y1.heap.size) #[.slice none 0 0] 139 from qb) 0
        have qf := Blk.frozen (show Blk Y17 (Y1.heap.size) #[.slice none 0 0] 139 from qb) 0
        have HE18 := Lib.hid ((HE17.out.rot.rot.upd (a' := It.blk (Y1.heap.size) (.slice A1 u.length c1)) ((Keeps.refl [Y1.heap.size] Y17).set (List.mem_singleton.2 rfl) 0 (.slice A1 u.length c1)) (show Blk _ _ _ _ by simpa using (show Blk Y17 (Y1.heap.size) #[.slice none 0 0] 139 from qb).set 0 (.slice A1 u.length c1)) (fun k hk => hk)).rot.rot)
        go_simp
        clear qb qc qf
        generalize Y17.setCell ⟨Y1.heap.size, 0, none⟩ (.slice A1 u.length c1) = Y18 at *
        refine hK.out _ _ ⟨(HE18.out.bel.cell (p := ⟨w.heap.size, 0, none⟩) zs).trans p0, (HE18.out.bel.cell (p := ⟨w.heap.size, 1, none⟩) zs).trans p1⟩ (fun hHeld => ?_)
        clear hK K
        (try simp only [Act.put, List.setIfInBounds_toArray, List.set_cons_zero, List.set_cons_succ])
        refine wpAnyH_ready (rs := [9]) (by kernel_rfl) (by simp) ?_
        refine AllReadyH.cons (o := ?_) ?_ (fun K hK => ?_) AllReadyH.nil
        rotate_left 1
        · (simp only [List.getElem?_toArray, List.getElem?_cons_zero, List.getElem?_cons_succ]; try rfl)
        have qb := HE18.out.p.2.2.2
        have qc := Blk.cell (show Blk Y18 (Y11.heap.size) #[.slice none 0 0] 139 from qb) 0
        have qf := Blk.frozen (show Blk Y18 (Y11.heap.size) #[.slice none 0 0] 139 from qb) 0
        have HE19 := Lib.hid ((HE18.out.rot.rot.rot.upd (a' := It.blk (Y11.heap.size) (.slice A17 r.length c17)) ((Keeps.refl [Y11.heap.size] Y18).set (List.mem_singleton.2 rfl) 0 (.slice A17 r.length c17)) (show Blk _ _ _ _ by simpa using (show Blk Y18 (Y11.heap.size) #[.slice none 0 0] 139 from qb).set 0 (.slice A17 r.length c17)) (fun k hk => hk)).rot)
        go_simp
        clear qb qc qf
        generalize Y18.setCell ⟨Y11.heap.size, 0, none⟩ (.slice A17 r.length c17) = Y19 at *
        refine hK.out _ _ ⟨(HE19.out.bel.cell (p := ⟨w.heap.size, 0, none⟩) zs).trans p0, (HE19.out.bel.cell (p := ⟨w.heap.size, 1, none⟩) zs).trans p1⟩ (fun hHeld => ?_)
        clear hK K
        (try simp only [Act.put, List.setIfInBounds_toArray, List.set_cons_zero, List.set_cons_succ])
        refine wpAnyH_done (by kernel_rfl) ?_ _
        refine NoPanic.normal ?_
        go_wp2_with fail
        go_meet
        exact ⟨_, _, A1, c1, f1, A17, c17, f17, rfl, rfl, HE19.out⟩
      refine AllReadyH.cons (o := ?_) ?_ (fun K hK => ?_) AllReadyH.nil
      rotate_left 1
      · (simp only [List.getElem?_toArray, List.getElem?_cons_zero, List.getElem?_cons_succ]; try rfl)
      have HE20 := Lib.hid ((HE1.out.rot.rot.rot.fresh (a := It.blk Y1.heap.size (.slice none 0 0)) ((Below.refl Y1.heap.size Y1).alloc (Nat.le_refl _) (.cells #[.slice none 0 0] 139)) (Blk.new Y1 _ _) (fun k hk => by simp [It.blk] at hk; omega)).rot)
      have hz20 := HE1.out.bel.size
      go_simp
      generalize Y1.alloc (.cells #[.slice none 0 0] 139) = Y20 at *
      refine hK.out _ _ ⟨(HE20.out.bel.cell (p := ⟨w.heap.size, 0, none⟩) zs).trans p0, (HE20.out.bel.cell (p := ⟨w.heap.size, 1, none⟩) zs).trans p1⟩ (fun hHeld => ?_)
      clear hK K
      (try simp only [Act.put, List.setIfInBounds_toArray, List.set_cons_zero, List.set_cons_succ])
      refine wpAnyH_ready (rs := [5, 6]) (by kernel_rfl) (by simp) ?_
      refine AllReadyH.cons (o := ?_) ?_ (fun K hK => ?_) ?_
      rotate_left 1
      · (simp only [List.getElem?_toArray, List.getElem?_cons_zero, List.getElem?_cons_succ]; try rfl)
      · go_simp
        refine (newEditStack_any B r d _ (by omega) hsr (HR.out _ (below_then HB.out HE20.out.bel))).mono ?_
        rintro e Y21 ⟨v21, f21, rfl, ho21, hn21, hl21, hb21⟩
        obtain ⟨A21, c21, e21, _, _, _⟩ := Lay.edits.read ho21
        simp only [List.cons.injEq, and_true] at e21
        subst e21
        have HE21 := Lib.hid ((HE20.out.rot.fresh (a := It.own (.slice A21 r.length c21) r f21) hb21 ⟨ho21, hn21⟩ hl21).rot.rot.rot)
        clear ho21 hn21 hl21 hb21
        go_wp2_with fail
        refine hK.out _ _ ⟨(HE21.out.bel.cell (p := ⟨w.heap.size, 0, none⟩) zs).trans p0, (HE21.out.bel.cell (p := ⟨w.heap.size, 1, none⟩) zs).trans p1⟩ (fun hHeld => ?_)
        clear hK K
        (try simp only [Act.put, List.setIfInBounds_toArray, List.set_cons_zero, List.set_cons_succ])
        refine wpAnyH_ready (rs := [6]) (by kernel_rfl) (by simp) ?_
        refine AllReadyH.cons (o := ?_) ?_ (fun K hK => ?_) AllReadyH.nil
        rotate_left 1
        · (simp only [List.getElem?_toArray, List.getElem?_cons_zero, List.getElem?_cons_succ]; try rfl)
        have HE22 := Lib.hid ((HE21.out.rot.rot.fresh (a := It.blk Y21.heap.size (.slice none 0 0)) ((Below.refl Y21.heap.size Y21).alloc (Nat.le_refl _) (.cells #[.slice none 0 0] 139)) (Blk.new Y21 _ _) (fun k hk => by simp [It.blk] at hk; omega)).rot.rot)
        have hz22 := HE21.out.bel.size
        go_simp
        generalize Y21.alloc (.cells #[.slice none 0 0] 139) = Y22 at *
        refine hK.out _ _ ⟨(HE22.out.bel.cell (p := ⟨w.heap.size, 0, none⟩) zs).trans p0, (HE22.out.bel.cell (p := ⟨w.heap.size, 1, none⟩) zs).trans p1⟩ (fun hHeld => ?_)
        clear hK K
        (try simp only [Act.put, List.setIfInBounds_toArray, List.set_cons_zero, List.set_cons_succ])
        refine wpAnyH_ready (rs := [8]) (by kernel_rfl) (by simp) ?_
        refine AllReadyH.cons (o := ?_) ?_ (fun K hK => ?_) AllReadyH.nil
        rotate_left 1
        · (simp only [List.getElem?_toArray, List.getElem?_cons_zero, List.getElem?_cons_succ]; try rfl)
        have qb := HE22.out.p.2.2.1
        have qc := Blk.cell (show Blk Y22 (Y21.heap.size) #[.slice none 0 0] 139 from qb) 0
        have qf := Blk.frozen (show Blk Y22 (Y21.heap.size) #[.slice none 0 0] 139 from qb) 0
        have HE23 := Lib.hid ((HE22.out.rot.rot.upd (a' := It.blk (Y21.heap.size) (.slice A1 u.length c1)) ((Keeps.refl [Y21.heap.size] Y22).set (List.mem_singleton.2 rfl) 0 (.slice A1 u.length c1)) (show Blk _ _ _ _ by simpa using (show Blk Y22 (Y21.heap.size) #[.slice none 0 0] 139 from qb).set 0 (.slice A1 u.length c1)) (fun k hk => hk)).rot.rot)
        go_simp
        clear qb qc qf
        generalize Y22.setCell ⟨Y21.heap.size, 0, none⟩ (.slice A1 u.length c1) = Y23 at *
        refine hK.out _ _ ⟨(HE23.out.bel.cell (p := ⟨w.heap.size, 0, none⟩) zs).trans p0, (HE23.out.bel.cell (p := ⟨w.heap.size, 1, none⟩) zs).trans p1⟩ (fun hHeld => ?_)
        clear hK K
        (try simp only [Act.put, List.setIfInBounds_toArray, List.set_cons_zero, List.set_cons_succ])
        refine wpAnyH_ready (rs := [9]) (by kernel_rfl) (by simp) ?_
        refine AllReadyH.cons (o := ?_) ?_ (fun K hK => ?_) AllReadyH.nil
        rotate_left 1
        · (simp only [List.getElem?_toArray, List.getElem?_cons_zero, List.getElem?_cons_succ]; try rfl)
        have qb := HE23.out.p.2.2.2
        have qc := Blk.cell (show Blk Y23 (Y1.heap.size) #[.slice none 0 0] 139 from qb) 0
        have qf := Blk.frozen (show Blk Y23 (Y1.heap.size) #[.slice none 0 0] 139 from qb) 0
        have HE24 := Lib.hid ((HE23.out.rot.rot.rot.upd (a' := It.blk (Y1.heap.size) (.slice A21 r.length c21)) ((Keeps.refl [Y1.heap.size] Y23).set (List.mem_singleton.2 rfl) 0 (.slice A21 r.length c21)) (show Blk _ _ _ _ by simpa using (show Blk Y23 (Y1.heap.size) #[.slice none 0 0] 139 from qb).set 0 (.slice A21 r.length c21)) (fun k hk => hk)).rot)
        go_simp
        clear qb qc qf
        generalize Y23.setCell ⟨Y1.heap.size, 0, none⟩ (.slice A21 r.length c21) = Y24 at *
        refine hK.out _ _ ⟨(HE24.out.bel.cell (p := ⟨w.heap.size, 0, none⟩) zs).trans p0, (HE24.out.bel.cell (p := ⟨w.heap.size, 1, none⟩) zs).trans p1⟩ (fun hHeld => ?_)
        clear hK K
        (try simp only [Act.put, List.setIfInBounds_toArray, List.set_cons_zero, List.set_cons_succ])
        refine wpAnyH_done (by kernel_rfl) ?_ _
        refine NoPanic.normal ?_
        go_wp2_with fail
        go_meet
        exact ⟨_, _, A1, c1, f1, A21, c21, f21, rfl, rfl, HE24.out⟩
      refine AllReadyH.cons (o := ?_) ?_ (fun K hK => ?_) AllReadyH.nil
      rotate_left 1
      · (simp only [List.getElem?_toArray, List.getElem?_cons_zero, List.getElem?_cons_succ]; try rfl)
      have HE25 := Lib.hid ((HE20.out.rot.rot.fresh (a := It.blk Y20.heap.size (.slice none 0 0)) ((Below.refl Y20.heap.size Y20).alloc (Nat.le_refl _) (.cells #[.slice none 0 0] 139)) (Blk.new Y20 _ _) (fun k hk => by simp [It.blk] at hk; omega)).rot.rot)
      have hz25 := HE20.out.bel.size
      go_simp
      generalize Y20.alloc (.cells #[.slice none 0 0] 139) = Y25 at *
      refine hK.out _ _ ⟨(HE25.out.bel.cell (p := ⟨w.heap.size, 0, none⟩) zs).trans p0, (HE25.out.bel.cell (p := ⟨w.heap.size, 1, none⟩) zs).trans p1⟩ (fun hHeld => ?_)
      clear hK K
      (try simp only [Act.put, List.setIfInBounds_toArray, List.set_cons_zero, List.set_cons_succ])
      refine wpAnyH_ready (rs := [5]) (by kernel_rfl) (by simp) ?_
      refine AllReadyH.cons (o := ?_) ?_ (fun K hK => ?_) AllReadyH.nil
      rotate_left 1
      · (simp only [List.getElem?_toArray, List.getElem?_cons_zero, List.getElem?_cons_succ]; try rfl)
      go_simp
      refine (newEditStack_any B r d _ (by omega) hsr (HR.out _ (below_then HB.out HE25.out.bel))).mono ?_
      rintro e Y26 ⟨v26, f26, rfl, ho26, hn26, hl26, hb26⟩
      obtain ⟨A26, c26, e26, _, _, _⟩ := Lay.edits.read ho26
      simp only [List.cons.injEq, and_true] at e26
      subst e26
      have HE26 := Lib.hid ((HE25.out.rot.fresh (a := It.own (.slice A26 r.length c26) r f26) hb26 ⟨ho26, hn26⟩ hl26).rot.rot.rot)
      clear ho26 hn26 hl26 hb26
      go_wp2_with fail
      refine hK.out _ _ ⟨(HE26.out.bel.cell (p := ⟨w.heap.size, 0, none⟩) zs).trans p0, (HE26.out.bel.cell (p := ⟨w.heap.size, 1, none⟩) zs).trans p1⟩ (fun hHeld => ?_)
      clear hK K
      (try simp only [Act.put, List.setIfInBounds_toArray, List.set_cons_zero, List.set_cons_succ])
      refine wpAnyH_ready (rs := [8]) (by kernel_rfl) (by simp) ?_
      refine AllReadyH.cons (o := ?_) ?_ (fun K hK => ?_) AllReadyH.nil
      rotate_left 1
      · (simp only [List.getElem?_toArray, List.getElem?_cons_zero, List.getElem?_cons_succ]; try rfl)
      have qb := HE26.out.p.2.2.1
      have qc := Blk.cell (show Blk Y26 (Y20.heap.size) #[.slice none 0 0] 139 from qb) 0
      have qf := Blk.frozen (show Blk Y26 (Y20.heap.size) #[.slice none 0 0] 139 from qb) 0
      have HE27 := Lib.hid ((HE26.out.rot.rot.upd (a' := It.blk (Y20.heap.size) (.slice A1 u.length c1)) ((Keeps.refl [Y20.heap.size] Y26).set (List.mem_singleton.2 rfl) 0 (.slice A1 u.length c1)) (show Blk _ _ _ _ by simpa using (show Blk Y26 (Y20.heap.size) #[.slice none 0 0] 139 from qb).set 0 (.slice A1 u.length c1)) (fun k hk => hk)).rot.rot)
      go_simp
      clear qb qc qf
      generalize Y26.setCell ⟨Y20.heap.size, 0, none⟩ (.slice A1 u.length c1) = Y27 at *
      refine hK.out _ _ ⟨(HE27.out.bel.cell (p := ⟨w.heap.size, 0, none⟩) zs).trans p0, (HE27.out.bel.cell (p := ⟨w.heap.size, 1, none⟩) zs).trans p1⟩ (fun hHeld => ?_)
      clear hK K
      (try simp only [Act.put, List.setIfInBounds_toArray, List.set_cons_zero, List.set_cons_succ])
      refine wpAnyH_ready (rs := [9]) (by kernel_rfl) (by simp) ?_
      refine AllReadyH.cons (o := ?_) ?_ (fun K hK => ?_) AllReadyH.nil
      rotate_left 1
      · (simp only [List.getElem?_toArray, List.getElem?_cons_zero, List.getElem?_cons_succ]; try rfl)
      have qb := HE27.out.p.2.2.2
      have qc := Blk.cell (show Blk Y27 (Y1.heap.size) #[.slice none 0 0] 139 from qb) 0
      have qf := Blk.frozen (show Blk Y27 (Y1.heap.size) #[.slice none 0 0] 139 from qb) 0
      have HE28 := Lib.hid ((HE27.out.rot.rot.rot.upd (a' := It.blk (Y1.heap.size) (.slice A26 r.length c26)) ((Keeps.refl [Y1.heap.size] Y27).set (List.mem_singleton.2 rfl) 0 (.slice A26 r.length c26)) (show Blk _ _ _ _ by simpa using (show Blk Y27 (Y1.heap.size) #[.slice none 0 0] 139 from qb).set 0 (.slice A26 r.length c26)) (fun k hk => hk)).rot)
      go_simp
      clear qb qc qf
      generalize Y27.setCell ⟨Y1.heap.size, 0, none⟩ (.slice A26 r.length c26) = Y28 at *
      refine hK.out _ _ ⟨(HE28.out.bel.cell (p := ⟨w.heap.size, 0, none⟩) zs).trans p0, (HE28.out.bel.cell (p := ⟨w.heap.size, 1, none⟩) zs).trans p1⟩ (fun hHeld => ?_)
      clear hK K
      (try simp only [Act.put, List.setIfInBounds_toArray, List.set_cons_zero, List.set_cons_succ])
      refine wpAnyH_done (by kernel_rfl) ?_ _
      refine NoPanic.normal ?_
      go_wp2_with fail
      go_meet
      exact ⟨_, _, A1, c1, f1, A26, c26, f26, rfl, rfl, HE28.out⟩
    refine AllReadyH.cons (o := ?_) ?_ (fun K hK => ?_) ?_
    rotate_left 1
    · (simp only [List.getElem?_toArray, List.getElem?_cons_zero, List.getElem?_cons_succ]; try rfl)
    · have HE29 := Lib.hid ((HE0.out.rot.rot.fresh (a := It.blk Y0.heap.size (.slice none 0 0)) ((Below.refl Y0.heap.size Y0).alloc (Nat.le_refl _) (.cells #[.slice none 0 0] 139)) (Blk.new Y0 _ _) (fun k hk => by simp [It.blk] at hk; omega)).rot.rot)
      have hz29 := HE0.out.bel.size
      go_simp
      generalize Y0.alloc (.cells #[.slice none 0 0] 139) = Y29 at *
      refine hK.out _ _ ⟨(HE29.out.bel.cell (p := ⟨w.heap.size, 0, none⟩) zs).trans p0, (HE29.out.bel.cell (p := ⟨w.heap.size, 1, none⟩) zs).trans p1⟩ (fun hHeld => ?_)
      clear hK K
      (try simp only [Act.put, List.setIfInBounds_toArray, List.set_cons_zero, List.set_cons_succ])
      refine wpAnyH_ready (rs := [2, 7]) (by kernel_rfl) (by simp) ?_
      refine AllReadyH.cons (o := ?_) ?_ (fun K hK => ?_) ?_
      rotate_left 1
      · (simp only [List.getElem?_toArray, List.getElem?_cons_zero, List.getElem?_cons_succ]; try rfl)
      · go_simp
        refine (newEditStack_any A u c _ (by omega) hsu (HU.out _ (below_then HB.out HE29.out.bel))).mono ?_
        rintro e Y30 ⟨v30, f30, rfl, ho30, hn30, hl30, hb30⟩
        obtain ⟨A30, c30, e30, _, _, _⟩ := Lay.edits.read ho30
        simp only [List.cons.injEq, and_true] at e30
        subst e30
        have HE30 := Lib.hid ((HE29.out.fresh (a := It.own (.slice A30 u.length c30) u f30) hb30 ⟨ho30, hn30⟩ hl30))
        clear ho30 hn30 hl30 hb30
        go_wp2_with fail
        refine hK.out _ _ ⟨(HE30.out.bel.cell (p := ⟨w.heap.size, 0, none⟩) zs).trans p0, (HE30.out.bel.cell (p := ⟨w.heap.size, 1, none⟩) zs).trans p1⟩ (fun hHeld => ?_)
        clear hK K
        (try simp only [Act.put, List.setIfInBounds_toArray, List.set_cons_zero, List.set_cons_succ])
        refine wpAnyH_ready (rs := [5, 7]) (by kernel_rfl) (by simp) ?_
        refine AllReadyH.cons (o := ?_) ?_ (fun K hK => ?_) ?_
        rotate_left 1
        · (simp only [List.getElem?_toArray, List.getElem?_cons_zero, List.getElem?_cons_succ]; try rfl)
        · go_simp
          refine (newEditStack_any B r d _ (by omega) hsr (HR.out _ (below_then HB.out HE30.out.bel))).mono ?_
          rintro e Y31 ⟨v31, f31, rfl, ho31, hn31, hl31, hb31⟩
          obtain ⟨A31, c31, e31, _, _, _⟩ := Lay.edits.read ho31
          simp only [List.cons.injEq, and_true] at e31
          subst e31
          have HE31 := Lib.hid ((HE30.out.rot.fresh (a := It.own (.slice A31 r.length c31) r f31) hb31 ⟨ho31, hn31⟩ hl31).rot.rot.rot)
          clear ho31 hn31 hl31 hb31
          go_wp2_with fail
          refine hK.out _ _ ⟨(HE31.out.bel.cell (p := ⟨w.heap.size, 0, none⟩) zs).trans p0, (HE31.out.bel.cell (p := ⟨w.heap.size, 1, none⟩) zs).trans p1⟩ (fun hHeld => ?_)
          clear hK K
          (try simp only [Act.put, List.setIfInBounds_toArray, List.set_cons_zero, List.set_cons_succ])
          refine wpAnyH_ready (rs := [7]) (by kernel_rfl) (by simp) ?_
          refine AllReadyH.cons (o := ?_) ?_ (fun K hK => ?_) AllReadyH.nil
          rotate_left 1
          · (simp only [List.getElem?_toArray, List.getElem?_cons_zero, List.getElem?_cons_succ]; try rfl)
          have HE32 := Lib.hid ((HE31.out.rot.rot.rot.fresh (a := It.blk Y31.heap.size (.slice none 0 0)) ((Below.refl Y31.heap.size Y31).alloc (Nat.le_refl _) (.cells #[.slice none 0 0] 139)) (Blk.new Y31 _ _) (fun k hk => by simp [It.blk] at hk; omega)).rot)
          have hz32 := HE31.out.bel.size
          go_simp
          generalize Y31.alloc (.cells #[.slice none 0 0] 139) = Y32 at *
          refine hK.out _ _ ⟨(HE32.out.bel.cell (p := ⟨w.heap.size, 0, none⟩) zs).trans p0, (HE32.out.bel.cell (p := ⟨w.heap.size, 1, none⟩) zs).trans p1⟩ (fun hHeld => ?_)
          clear hK K
          (try simp only [Act.put, List.setIfInBounds_toArray, List.set_cons_zero, List.set_cons_succ])
          refine wpAnyH_ready (rs := [8]) (by kernel_rfl) (by simp) ?_
          refine AllReadyH.cons (o := ?_) ?_ (fun K hK => ?_) AllReadyH.nil
          rotate_left 1
          · (simp only [List.getElem?_toArray, List.getElem?_cons_zero, List.getElem?_cons_succ]; try rfl)
          have qb := HE32.out.p.2.2.1
          have qc := Blk.cell (show Blk Y32 (Y0.heap.size) #[.slice none 0 0] 139 from qb) 0
          have qf := Blk.frozen (show Blk Y32 (Y0.heap.size) #[.slice none 0 0] 139 from qb) 0
          have HE33 := Lib.hid ((HE32.out.rot.rot.upd (a' := It.blk (Y0.heap.size) (.slice A30 u.length c30)) ((Keeps.refl [Y0.heap.size] Y32).set (List.mem_singleton.2 rfl) 0 (.slice A30 u.length c30)) (show Blk _ _ _ _ by simpa using (show Blk Y32 (Y0.heap.size) #[.slice none 0 0] 139 from qb).set 0 (.slice A30 u.length c30)) (fun k hk => hk)).rot.rot)
          go_simp
          clear qb qc qf
          generalize Y32.setCell ⟨Y0.heap.size, 0, none⟩ (.slice A30 u.length c30) = Y33 at *
          refine hK.out _ _ ⟨(HE33.out.bel.cell (p := ⟨w.heap.size, 0, none⟩) zs).trans p0, (HE33.out.bel.cell (p := ⟨w.heap.size, 1, none⟩) zs).trans p1⟩ (fun hHeld => ?_)
          clear hK K
          (try simp only [Act.put, List.setIfInBounds_toArray, List.set_cons_zero, List.set_cons_succ])
          refine wpAnyH_ready (rs := [9]) (by kernel_rfl) (by simp) ?_
          refine AllReadyH.cons (o := ?_) ?_ (fun K hK => ?_) AllReadyH.nil
          rotate_left 1
          · (simp only [List.getElem?_toArray, List.getElem?_cons_zero, List.getElem?_cons_succ]; try rfl)
          have qb := HE33.out.p.2.2.2
          have qc := Blk.cell (show Blk Y33 (Y31.heap.size) #[.slice none 0 0] 139 from qb) 0
          have qf := Blk.frozen (show Blk Y33 (Y31.heap.size) #[.slice none 0 0] 139 from qb) 0
          have HE34 := Lib.hid ((HE33.out.rot.rot.rot.upd (a' := It.blk (Y31.heap.size) (.slice A31 r.length c31)) ((Keeps.refl [Y31.heap.size] Y33).set (List.mem_singleton.2 rfl) 0 (.slice A31 r.length c31)) (show Blk _ _ _ _ by simpa using (show Blk Y33 (Y31.heap.size) #[.slice none 0 0] 139 from qb).set 0 (.slice A31 r.length c31)) (fun k hk => hk)).rot)
          go_simp
          clear qb qc qf
          generalize Y33.setCell ⟨Y31.heap.size, 0, none⟩ (.slice A31 r.length c31) = Y34 at *
          refine hK.out _ _ ⟨(HE34.out.bel.cell (p := ⟨w.heap.size, 0, none⟩) zs).trans p0, (HE34.out.bel.cell (p := ⟨w.heap.size, 1, none⟩) zs).trans p1⟩ (fun hHeld => ?_)
          clear hK K
          (try simp only [Act.put, List.setIfInBounds_toArray, List.set_cons_zero, List.set_cons_succ])
          refine wpAnyH_done (by kernel_rfl) ?_ _
          refine NoPanic.normal ?_
          go_wp2_with fail
          go_meet
          exact ⟨_, _, A30, c30, f30, A31, c31, f31, rfl, rfl, HE34.out⟩
        refine AllReadyH.cons (o := ?_) ?_ (fun K hK => ?_) AllReadyH.nil
        rotate_left 1
        · (simp only [List.getElem?_toArray, List.getElem?_cons_zero, List.getElem?_cons_succ]; try rfl)
        have HE35 := Lib.hid ((HE30.out.rot.rot.rot.fresh (a := It.blk Y30.heap.size (.slice none 0 0)) ((Below.refl Y30.heap.size Y30).alloc (Nat.le_refl _) (.cells #[.slice none 0 0] 139)) (Blk.new Y30 _ _) (fun k hk => by simp [It.blk] at hk; omega)).rot)
        have hz35 := HE30.out.bel.size
        go_simp
        generalize Y30.alloc (.cells #[.slice none 0 0] 139) = Y35 at *
        refine hK.out _ _ ⟨(HE35.out.bel.cell (p := ⟨w.heap.size, 0, none⟩) zs).trans p0, (HE35.out.bel.cell (p := ⟨w.heap.size, 1, none⟩) zs).trans p1⟩ (fun hHeld => ?_)
        clear hK K
        (try simp only [Act.put, List.setIfInBounds_toArray, List.set_cons_zero, List.set_cons_succ])
        refine wpAnyH_ready (rs := [5]) (by kernel_rfl) (by simp) ?_
        refine AllReadyH.cons (o := ?_) ?_ (fun K hK => ?_) AllReadyH.nil
        rotate_left 1
        · (simp only [List.getElem?_toArray, List.getElem?_cons_zero, List.getElem?_cons_succ]; try rfl)
        go_simp
        refine (newEditStack_any B r d _ (by omega) hsr (HR.out _ (below_then HB.out HE35.out.bel))).mono ?_
        rintro e Y36 ⟨v36, f36, rfl, ho36, hn36, hl36, hb36⟩
        obtain ⟨A36, c36, e36, _, _, _⟩ := Lay.edits.read ho36
        simp only [List.cons.injEq, and_true] at e36
        subst e36
        have HE36 := Lib.hid ((HE35.out.rot.fresh (a := It.own (.slice A36 r.length c36) r f36) hb36 ⟨ho36, hn36⟩ hl36).rot.rot.rot)
        clear ho36 hn36 hl36 hb36
        go_wp2_with fail
        refine hK.out _ _ ⟨(HE36.out.bel.cell (p := ⟨w.heap.size, 0, none⟩) zs).trans p0, (HE36.out.bel.cell (p := ⟨w.heap.size, 1, none⟩) zs).trans p1⟩ (fun hHeld => ?_)
        clear hK K
        (try simp only [Act.put, List.setIfInBounds_toArray, List.set_cons_zero, List.set_cons_succ])
        refine wpAnyH_ready (rs := [8]) (by kernel_rfl) (by simp) ?_
        refine AllReadyH.cons (o := ?_) ?_ (fun K hK => ?_) AllReadyH.nil
        rotate_left 1
        · (simp only [List.getElem?_toArray, List.getElem?_cons_zero, List.getElem?_cons_succ]; try rfl)
        have qb := HE36.out.p.2.2.1
        have qc := Blk.cell (show Blk Y36 (Y0.heap.size) #[.slice none 0 0] 139 from qb) 0
        have qf := Blk.frozen (show Blk Y36 (Y0.heap.size) #[.slice none 0 0] 139 from qb) 0
        have HE37 := Lib.hid ((HE36.out.rot.rot.upd (a' := It.blk (Y0.heap.size) (.slice A30 u.length c30)) ((Keeps.refl [Y0.heap.size] Y36).set (List.mem_singleton.2 rfl) 0 (.slice A30 u.length c30)) (show Blk _ _ _ _ by simpa using (show Blk Y36 (Y0.heap.size) #[.slice none 0 0] 139 from qb).set 0 (.slice A30 u.length c30)) (fun k hk => hk)).rot.rot)
        go_simp
        clear qb qc qf
        generalize Y36.setCell ⟨Y0.heap.size, 0, none⟩ (.slice A30 u.length c30) = Y37 at *
        refine hK.out _ _ ⟨(HE37.out.bel.cell (p := ⟨w.heap.size, 0, none⟩) zs).trans p0, (HE37.out.bel.cell (p := ⟨w.heap.size, 1, none⟩) zs).trans p1⟩ (fun hHeld => ?_)
        clear hK K
        (try simp only [Act.put, List.setIfInBounds_toArray, List.set_cons_zero, List.set_cons_succ])
        refine wpAnyH_ready (rs := [9]) (by kernel_rfl) (by simp) ?_
        refine AllReadyH.cons (o := ?_) ?_ (fun K hK => ?_) AllReadyH.nil
        rotate_left 1
        · (simp only [List.getElem?_toArray, List.getElem?_cons_zero, List.getElem?_cons_succ]; try rfl)
        have qb := HE37.out.p.2.2.2
        have qc := Blk.cell (show Blk Y37 (Y30.heap.size) #[.slice none 0 0] 139 from qb) 0
        have qf := Blk.frozen (show Blk Y37 (Y30.heap.size) #[.slice none 0 0] 139 from qb) 0
        have HE38 := Lib.hid ((HE37.out.rot.rot.rot.upd (a' := It.blk (Y30.heap.size) (.slice A36 r.length c36)) ((Keeps.refl [Y30.heap.size] Y37).set (List.mem_singleton.2 rfl) 0 (.slice A36 r.length c36)) (show Blk _ _ _ _ by simpa using (show Blk Y37 (Y30.heap.size) #[.slice none 0 0] 139 from qb).set 0 (.slice A36 r.length c36)) (fun k hk => hk)).rot)
        go_simp
        clear qb qc qf
        generalize Y37.setCell ⟨Y30.heap.size, 0, none⟩ (.slice A36 r.length c36) = Y38 at *
        refine hK.out _ _ ⟨(HE38.out.bel.cell (p := ⟨w.heap.size, 0, none⟩) zs).trans p0, (HE38.out.bel.cell (p := ⟨w.heap.size, 1, none⟩) zs).trans p1⟩ (fun hHeld => ?_)
        clear hK K
        (try simp only [Act.put, List.setIfInBounds_toArray, List.set_cons_zero, List.set_cons_succ])
        refine wpAnyH_done (by kernel_rfl) ?_ _
        refine NoPanic.normal ?_
        go_wp2_with fail
        go_meet
        exact ⟨_, _, A30, c30, f30, A36, c36, f36, rfl, rfl, HE38.out⟩
      refine AllReadyH.cons (o := ?_) ?_ (fun K hK => ?_) AllReadyH.nil
      rotate_left 1
      · (simp only [List.getElem?_toArray, List.getElem?_cons_zero, List.getElem?_cons_succ]; try rfl)
      have HE39 := Lib.hid ((HE29.out.rot.rot.rot.fresh (a := It.blk Y29.heap.size (.slice none 0 0)) ((Below.refl Y29.heap.size Y29).alloc (Nat.le_refl _) (.cells #[.slice none 0 0] 139)) (Blk.new Y29 _ _) (fun k hk => by simp [It.blk] at hk; omega)).rot)
      have hz39 := HE29.out.bel.size
      go_simp
      generalize Y29.alloc (.cells #[.slice none 0 0] 139) = Y39 at *
      refine hK.out _ _ ⟨(HE39.out.bel.cell (p := ⟨w.heap.size, 0, none⟩) zs).trans p0, (HE39.out.bel.cell (p := ⟨w.heap.size, 1, none⟩) zs).trans p1⟩ (fun hHeld => ?_)
      clear hK K
      (try simp only [Act.put, List.setIfInBounds_toArray, List.set_cons_zero, List.set_cons_succ])
      refine wpAnyH_ready (rs := [2]) (by kernel_rfl) (by simp) ?_
      refine AllReadyH.cons (o := ?_) ?_ (fun K hK => ?_) AllReadyH.nil
      rotate_left 1
      · (simp only [List.getElem?_toArray, List.getElem?_cons_zero, List.getElem?_cons_succ]; try rfl)
      go_simp
      refine (newEditStack_any A u c _ (by omega) hsu (HU.out _ (below_then HB.out HE39.out.bel))).mono ?_
      rintro e Y40 ⟨v40, f40, rfl, ho40, hn40, hl40, hb40⟩
      obtain ⟨A40, c40, e40, _, _, _⟩ := Lay.edits.read ho40
      simp only [List.cons.injEq, and_true] at e40
      subst e40
      have HE40 := Lib.hid ((HE39.out.fresh (a := It.own (.slice A40 u.length c40) u f40) hb40 ⟨ho40, hn40⟩ hl40))
      clear ho40 hn40 hl40 hb40
      go_wp2_with fail
      refine hK.out _ _ ⟨(HE40.out.bel.cell (p := ⟨w.heap.size, 0, none⟩) zs).trans p0, (HE40.out.bel.cell (p := ⟨w.heap.size, 1, none⟩) zs).trans p1⟩ (fun hHeld => ?_)
      clear hK K
      (try simp only [Act.put, List.setIfInBounds_toArray, List.set_cons_zero, List.set_cons_succ])
      refine wpAnyH_ready (rs := [5]) (by kernel_rfl) (by simp) ?_
      refine AllReadyH.cons (o := ?_) ?_ (fun K hK => ?_) AllReadyH.nil
      rotate_left 1
      · (simp only [List.getElem?_toArray, List.getElem?_cons_zero, List.getElem?_cons_succ]; try rfl)
      go_simp
      refine (newEditStack_any B r d _ (by omega) hsr (HR.out _ (below_then HB.out HE40.out.bel))).mono ?_
      rintro e Y41 ⟨v41, f41, rfl, ho41, hn41, hl41, hb41⟩
      obtain ⟨A41, c41, e41, _, _, _⟩ := Lay.edits.read ho41
      simp only [List.cons.injEq, and_true] at e41
      subst e41
      have HE41 := Lib.hid ((HE40.out.rot.fresh (a := It.own (.slice A41 r.length c41) r f41) hb41 ⟨ho41, hn41⟩ hl41).rot.rot.rot)
      clear ho41 hn41 hl41 hb41
      go_wp2_with fail
      refine hK.out _ _ ⟨(HE41.out.bel.cell (p := ⟨w.heap.size, 0, none⟩) zs).trans p0, (HE41.out.bel.cell (p := ⟨w.heap.size, 1, none⟩) zs).trans p1⟩ (fun hHeld => ?_)
      clear hK K
      (try simp only [Act.put, List.setIfInBounds_toArray, List.set_cons_zero, List.set_cons_succ])
      refine wpAnyH_ready (rs := [8]) (by kernel_rfl) (by simp) ?_
      refine AllReadyH.cons (o := ?_) ?_ (fun K hK => ?_) AllReadyH.nil
      rotate_left 1
      · (simp only [List.getElem?_toArray, List.getElem?_cons_zero, List.getElem?_cons_succ]; try rfl)
      have qb := HE41.out.p.2.2.1
      have qc := Blk.cell (show Blk Y41 (Y0.heap.size) #[.slice none 0 0] 139 from qb) 0
      have qf := Blk.frozen (show Blk Y41 (Y0.heap.size) #[.slice none 0 0] 139 from qb) 0
      have HE42 := Lib.hid ((HE41.out.rot.rot.upd (a' := It.blk (Y0.heap.size) (.slice A40 u.length c40)) ((Keeps.refl [Y0.heap.size] Y41).set (List.mem_singleton.2 rfl) 0 (.slice A40 u.length c40)) (show Blk _ _ _ _ by simpa using (show Blk Y41 (Y0.heap.size) #[.slice none 0 0] 139 from qb).set 0 (.slice A40 u.length c40)) (fun k hk => hk)).rot.rot)
      go_simp
      clear qb qc qf
      generalize Y41.setCell ⟨Y0.heap.size, 0, none⟩ (.slice A40 u.length c40) = Y42 at *
      refine hK.out _ _ ⟨(HE42.out.bel.cell (p := ⟨w.heap.size, 0, none⟩) zs).trans p0, (HE42.out.bel.cell (p := ⟨w.heap.size, 1, none⟩) zs).trans p1⟩ (fun hHeld => ?_)
      clear hK K
      (try simp only [Act.put, List.setIfInBounds_toArray, List.set_cons_zero, List.set_cons_succ])
      refine wpAnyH_ready (rs := [9]) (by kernel_rfl) (by simp) ?_
      refine AllReadyH.cons (o := ?_) ?_ (fun K hK => ?_) AllReadyH.nil
      rotate_left 1
      · (simp only [List.getElem?_toArray, List.getElem?_cons_zero, List.getElem?_cons_succ]; try rfl)
      have qb := HE42.out.p.2.2.2
      have qc := Blk.cell (show Blk Y42 (Y29.heap.size) #[.slice none 0 0] 139 from qb) 0
      have qf := Blk.frozen (show Blk Y42 (Y29.heap.size) #[.slice none 0 0] 139 from qb) 0
      have HE43 := Lib.hid ((HE42.out.rot.rot.rot.upd (a' := It.blk (Y29.heap.size) (.slice A41 r.length c41)) ((Keeps.refl [Y29.heap.size] Y42).set (List.mem_singleton.2 rfl) 0 (.slice A41 r.length c41)) (show Blk _ _ _ _ by simpa using (show Blk Y42 (Y29.heap.size) #[.slice none 0 0] 139 from qb).set 0 (.slice A41 r.length c41)) (fun k hk => hk)).rot)
      go_simp
      clear qb qc qf
      generalize Y42.setCell ⟨Y29.heap.size, 0, none⟩ (.slice A41 r.length c41) = Y43 at *
      refine hK.out _ _ ⟨(HE43.out.bel.cell (p := ⟨w.heap.size, 0, none⟩) zs).trans p0, (HE43.out.bel.cell (p := ⟨w.heap.size, 1, none⟩) zs).trans p1⟩ (fun hHeld => ?_)
      clear hK K
      (try simp only [Act.put, List.setIfInBounds_toArray, List.set_cons_zero, List.set_cons_succ])
      refine wpAnyH_done (by kernel_rfl) ?_ _
      refine NoPanic.normal ?_
      go_wp2_with fail
      go_meet
      exact ⟨_, _, A40, c40, f40, A41, c41, f41, rfl, rfl, HE43.out⟩
    refine AllReadyH.cons (o := ?_) ?_ (fun K hK => ?_) AllReadyH.nil
    rotate_left 1
    · (simp only [List.getElem?_toArray, List.getElem?_cons_zero, List.getElem?_cons_succ]; try rfl)
    have HE44 := Lib.hid ((HE0.out.rot.rot.rot.fresh (a := It.blk Y0.heap.size (.slice none 0 0)) ((Below.refl Y0.heap.size Y0).alloc (Nat.le_refl _) (.cells #[.slice none 0 0] 139)) (Blk.new Y0 _ _) (fun k hk => by simp [It.blk] at hk; omega)).rot)
    have hz44 := HE0.out.bel.size
    go_simp
    generalize Y0.alloc (.cells #[.slice none 0 0] 139) = Y44 at *
    refine hK.out _ _ ⟨(HE44.out.bel.cell (p := ⟨w.heap.size, 0, none⟩) zs).trans p0, (HE44.out.bel.cell (p := ⟨w.heap.size, 1, none⟩) zs).trans p1⟩ (fun hHeld => ?_)
    clear hK K
    (try simp only [Act.put, List.setIfInBounds_toArray, List.set_cons_zero, List.set_cons_succ])
    refine wpAnyH_ready (rs := [2, 6]) (by kernel_rfl) (by simp) ?_
    refine AllReadyH.cons (o := ?_) ?_ (fun K hK => ?_) ?_
    rotate_left 1
    · (simp only [List.getElem?_toArray, List.getElem?_cons_zero, List.getElem?_cons_succ]; try rfl)
    · go_simp
      refine (newEditStack_any A u c _ (by omega) hsu (HU.out _ (below_then HB.out HE44.out.bel))).mono ?_
      rintro e Y45 ⟨v45, f45, rfl, ho45, hn45, hl45, hb45⟩
      obtain ⟨A45, c45, e45, _, _, _⟩ := Lay.edits.read ho45
      simp only [List.cons.injEq, and_true] at e45
      subst e45
      have HE45 := Lib.hid ((HE44.out.fresh (a := It.own (.slice A45 u.length c45) u f45) hb45 ⟨ho45, hn45⟩ hl45))
      clear ho45 hn45 hl45 hb45
      go_wp2_with fail
      refine hK.out _ _ ⟨(HE45.out.bel.cell (p := ⟨w.heap.size, 0, none⟩) zs).trans p0, (HE45.out.bel.cell (p := ⟨w.heap.size, 1, none⟩) zs).trans p1⟩ (fun hHeld => ?_)
      clear hK K
      (try simp only [Act.put, List.setIfInBounds_toArray, List.set_cons_zero, List.set_cons_succ])
      refine wpAnyH_ready (rs := [5, 6]) (by kernel_rfl) (by simp) ?_
      refine AllReadyH.cons (o := ?_) ?_ (fun K hK => ?_) ?_
      rotate_left 1
      · (simp only [List.getElem?_toArray, List.getElem?_cons_zero, List.getElem?_cons_succ]; try rfl)
      · go_simp
        refine (newEditStack_any B r d _ (by omega) hsr (HR.out _ (below_then HB.out HE45.out.bel))).mono ?_
        rintro e Y46 ⟨v46, f46, rfl, ho46, hn46, hl46, hb46⟩
        obtain ⟨A46, c46, e46, _, _, _⟩ := Lay.edits.read ho46
        simp only [List.cons.injEq, and_true] at e46
        subst e46
        have HE46 := Lib.hid ((HE45.out.rot.fresh (a := It.own (.slice A46 r.length c46) r f46) hb46 ⟨ho46, hn46⟩ hl46).rot.rot.rot)
        clear ho46 hn46 hl46 hb46
        go_wp2_with fail
        refine hK.out _ _ ⟨(HE46.out.bel.cell (p := ⟨w.heap.size, 0, none⟩) zs).trans p0, (HE46.out.bel.cell (p := ⟨w.heap.size, 1, none⟩) zs).trans p1⟩ (fun hHeld => ?_)
        clear hK K
        (try simp only [Act.put, List.setIfInBounds_toArray, List.set_cons_zero, List.set_cons_succ])
        refine wpAnyH_ready (rs := [6]) (by kernel_rfl) (by simp) ?_
        refine AllReadyH.cons (o := ?_) ?_ (fun K hK => ?_) AllReadyH.nil
        rotate_left 1
        · (simp only [List.getElem?_toArray, List.getElem?_cons_zero, List.getElem?_cons_succ]; try rfl)
        have HE47 := Lib.hid ((HE46.out.rot.rot.fresh (a := It.blk Y46.heap.size (.slice none 0 0)) ((Below.refl Y46.heap.size Y46).alloc (Nat.le_refl _) (.cells #[.slice none 0 0] 139)) (Blk.new Y46 _ _) (fun k hk => by simp [It.blk] at hk; omega)).rot.rot)
        have hz47 := HE46.out.bel.size
        go_simp
        generalize Y46.alloc (.cells #[.slice none 0 0] 139) = Y47 at *
        refine hK.out _ _ ⟨(HE47.out.bel.cell (p := ⟨w.heap.size, 0, none⟩) zs).trans p0, (HE47.out.bel.cell (p := ⟨w.heap.size, 1, none⟩) zs).trans p1⟩ (fun hHeld => ?_)
        clear hK K
        (try simp only [Act.put, List.setIfInBounds_toArray, List.set_cons_zero, List.set_cons_succ])
        refine wpAnyH_ready (rs := [8]) (by kernel_rfl) (by simp) ?_
        refine AllReadyH.cons (o := ?_) ?_ (fun K hK => ?_) AllReadyH.nil
        rotate_left 1
        · (simp only [List.getElem?_toArray, List.getElem?_cons_zero, List.getElem?_cons_succ]; try rfl)
        have qb := HE47.out.p.2.2.1
        have qc := Blk.cell (show Blk Y47 (Y46.heap.size) #[.slice none 0 0] 139 from qb) 0
        have qf := Blk.frozen (show Blk Y47 (Y46.heap.size) #[.slice none 0 0] 139 from qb) 0
        have HE48 := Lib.hid ((HE47.out.rot.rot.upd (a' := It.blk (Y46.heap.size) (.slice A45 u.length c45)) ((Keeps.refl [Y46.heap.size] Y47).set (List.mem_singleton.2 rfl) 0 (.slice A45 u.length c45)) (show Blk _ _ _ _ by simpa using (show Blk Y47 (Y46.heap.size) #[.slice none 0 0] 139 from qb).set 0 (.slice A45 u.length c45)) (fun k hk => hk)).rot.rot)
        go_simp
        clear qb qc qf
        generalize Y47.setCell ⟨Y46.heap.size, 0, none⟩ (.slice A45 u.length c45) = Y48 at *
        refine hK.out _ _ ⟨(HE48.out.bel.cell (p := ⟨w.heap.size, 0, none⟩) zs).trans p0, (HE48.out.bel.cell (p := ⟨w.heap.size, 1, none⟩) zs).trans p1⟩ (fun hHeld => ?_)
        clear hK K
        (try simp only [Act.put, List.setIfInBounds_toArray, List.set_cons_zero, List.set_cons_succ])
        refine wpAnyH_ready (rs := [9]) (by kernel_rfl) (by simp) ?_
        refine AllReadyH.cons (o := ?_) ?_ (fun K hK => ?_) AllReadyH.nil
        rotate_left 1
        · (simp only [List.getElem?_toArray, List.getElem?_cons_zero, List.getElem?_cons_succ]; try rfl)
        have qb := HE48.out.p.2.2.2
        have qc := Blk.cell (show Blk Y48 (Y0.heap.size) #[.slice none 0 0] 139 from qb) 0
        have qf := Blk.frozen (show Blk Y48 (Y0.heap.size) #[.slice none 0 0] 139 from qb) 0
        have HE49 := Lib.hid ((HE48.out.rot.rot.rot.upd (a' := It.blk (Y0.heap.size) (.slice A46 r.length c46)) ((Keeps.refl [Y0.heap.size] Y48).set (List.mem_singleton.2 rfl) 0 (.slice A46 r.length c46)) (show Blk _ _ _ _ by simpa using (show Blk Y48 (Y0.heap.size) #[.slice none 0 0] 139 from qb).set 0 (.slice A46 r.length c46)) (fun k hk => hk)).rot)
        go_simp
        clear qb qc qf
        generalize Y48.setCell ⟨Y0.heap.size, 0, none⟩ (.slice A46 r.length c46) = Y49 at *
        refine hK.out _ _ ⟨(HE49.out.bel.cell (p := ⟨w.heap.size, 0, none⟩) zs).trans p0, (HE49.out.bel.cell (p := ⟨w.heap.size, 1, none⟩) zs).trans p1⟩ (fun hHeld => ?_)
        clear hK K
        (try simp only [Act.put, List.setIfInBounds_toArray, List.set_cons_zero, List.set_cons_succ])
        refine wpAnyH_done (by kernel_rfl) ?_ _
        refine NoPanic.normal ?_
        go_wp2_with fail
        go_meet
        exact ⟨_, _, A45, c45, f45, A46, c46, f46, rfl, rfl, HE49.out⟩
      refine AllReadyH.cons (o := ?_) ?_ (fun K hK => ?_) AllReadyH.nil
      rotate_left 1
      · (simp only [List.getElem?_toArray, List.getElem?_cons_zero, List.getElem?_cons_succ]; try rfl)
      have HE50 := Lib.hid ((HE45.out.rot.rot.fresh (a := It.blk Y45.heap.size (.slice none 0 0)) ((Below.refl Y45.heap.size Y45).alloc (Nat.le_refl _) (.cells #[.slice none 0 0] 139)) (Blk.new Y45 _ _) (fun k hk => by simp [It.blk] at hk; omega)).rot.rot)
      have hz50 := HE45.out.bel.size
      go_simp
      generalize Y45.alloc (.cells #[.slice none 0 0] 139) = Y50 at *
      refine hK.out _ _ ⟨(HE50.out.bel.cell (p := ⟨w.heap.size, 0, none⟩) zs).trans p0, (HE50.out.bel.cell (p := ⟨w.heap.size, 1, none⟩) zs).trans p1⟩ (fun hHeld => ?_)
      clear hK K
      (try simp only [Act.put, List.setIfInBounds_toArray, List.set_cons_zero, List.set_cons_succ])
      refine wpAnyH_ready (rs := [5]) (by kernel_rfl) (by simp) ?_
      refine AllReadyH.cons (o := ?_) ?_ (fun K hK => ?_) AllReadyH.nil
      rotate_left 1
      · (simp only [List.getElem?_toArray, List.getElem?_cons_zero, List.getElem?_cons_succ]; try rfl)
      go_simp
      refine (newEditStack_any B r d _ (by omega) hsr (HR.out _ (below_then HB.out HE50.out.bel))).mono ?_
      rintro e Y51 ⟨v51, f51, rfl, ho51, hn51, hl51, hb51⟩
      obtain ⟨A51, c51, e51, _, _, _⟩ := Lay.edits.read ho51
      simp only [List.cons.injEq, and_true] at e51
      subst e51
      have HE51 := Lib.hid ((HE50.out.rot.fresh (a := It.own (.slice A51 r.length c51) r f51) hb51 ⟨ho51, hn51⟩ hl51).rot.rot.rot)
      clear ho51 hn51 hl51 hb51
      go_wp2_with fail
      refine hK.out _ _ ⟨(HE51.out.bel.cell (p := ⟨w.heap.size, 0, none⟩) zs).trans p0, (HE51.out.bel.cell (p := ⟨w.heap.size, 1, none⟩) zs).trans p1⟩ (fun hHeld => ?_)
      clear hK K
      (try simp only [Act.put, List.setIfInBounds_toArray, List.set_cons_zero, List.set_cons_succ])
      refine wpAnyH_ready (rs := [8]) (by kernel_rfl) (by simp) ?_
      refine AllReadyH.cons (o := ?_) ?_ (fun K hK => ?_) AllReadyH.nil
      rotate_left 1
      · (simp only [List.getElem?_toArray, List.getElem?_cons_zero, List.getElem?_cons_succ]; try rfl)
      have qb := HE51.out.p.2.2.1
      have qc := Blk.cell (show Blk Y51 (Y45.heap.size) #[.slice none 0 0] 139 from qb) 0
      have qf := Blk.frozen (show Blk Y51 (Y45.heap.size) #[.slice none 0 0] 139 from qb) 0
      have HE52 := Lib.hid ((HE51.out.rot.rot.upd (a' := It.blk (Y45.heap.size) (.slice A45 u.length c45)) ((Keeps.refl [Y45.heap.size] Y51).set (List.mem_singleton.2 rfl) 0 (.slice A45 u.length c45)) (show Blk _ _ _ _ by simpa using (show Blk Y51 (Y45.heap.size) #[.slice none 0 0] 139 from qb).set 0 (.slice A45 u.length c45)) (fun k hk => hk)).rot.rot)
      go_simp
      clear qb qc qf
      generalize Y51.setCell ⟨Y45.heap.size, 0, none⟩ (.slice A45 u.length c45) = Y52 at *
      refine hK.out _ _ ⟨(HE52.out.bel.cell (p := ⟨w.heap.size, 0, none⟩) zs).trans p0, (HE52.out.bel.cell (p := ⟨w.heap.size, 1, none⟩) zs).trans p1⟩ (fun hHeld => ?_)
      clear hK K
      (try simp only [Act.put, List.setIfInBounds_toArray, List.set_cons_zero, List.set_cons_succ])
      refine wpAnyH_ready (rs := [9]) (by kernel_rfl) (by simp) ?_
      refine AllReadyH.cons (o := ?_) ?_ (fun K hK => ?_) AllReadyH.nil
      rotate_left 1
      · (simp only [List.getElem?_toArray, List.getElem?_cons_zero, List.getElem?_cons_succ]; try rfl)
      have qb := HE52.out.p.2.2.2
      have qc := Blk.cell (show Blk Y52 (Y0.heap.size) #[.slice none 0 0] 139 from qb) 0
      have qf := Blk.frozen (show Blk Y52 (Y0.heap.size) #[.slice none 0 0] 139 from qb) 0
      have HE53 := Lib.hid ((HE52.out.rot.rot.rot.upd (a' := It.blk (Y0.heap.size) (.slice A51 r.length c51)) ((Keeps.refl [Y0.heap.size] Y52).set (List.mem_singleton.2 rfl) 0 (.slice A51 r.length c51)) (show Blk _ _ _ _ by simpa using (show Blk Y52 (Y0.heap.size) #[.slice none 0 0] 139 from qb).set 0 (.slice A51 r.length c51)) (fun k hk => hk)).rot)
      go_simp
      clear qb qc qf
      generalize Y52.setCell ⟨Y0.heap.size, 0, none⟩ (.slice A51 r.length c51) = Y53 at *
      refine hK.out _ _ ⟨(HE53.out.bel.cell (p := ⟨w.heap.size, 0, none⟩) zs).trans p0, (HE53.out.bel.cell (p := ⟨w.heap.size, 1, none⟩) zs).trans p1⟩ (fun hHeld => ?_)
      clear hK K
      (try simp only [Act.put, List.setIfInBounds_toArray, List.set_cons_zero, List.set_cons_succ])
      refine wpAnyH_done (by kernel_rfl) ?_ _
      refine NoPanic.normal ?_
      go_wp2_with fail
      go_meet
      exact ⟨_, _, A45, c45, f45, A51, c51, f51, rfl, rfl, HE53.out⟩
    refine AllReadyH.cons (o := ?_) ?_ (fun K hK => ?_) AllReadyH.nil
    rotate_left 1
    · (simp only [List.getElem?_toArray, List.getElem?_cons_zero, List.getElem?_cons_succ]; try rfl)
    have HE54 := Lib.hid ((HE44.out.rot.rot.fresh (a := It.blk Y44.heap.size (.slice none 0 0)) ((Below.refl Y44.heap.size Y44).alloc (Nat.le_refl _) (.cells #[.slice none 0 0] 139)) (Blk.new Y44 _ _) (fun k hk => by simp [It.blk] at hk; omega)).rot.rot)
    have hz54 := HE44.out.bel.size
    go_simp
    generalize Y44.alloc (.cells #[.slice none 0 0] 139) = Y54 at *
    refine hK.out _ _ ⟨(HE54.out.bel.cell (p := ⟨w.heap.size, 0, none⟩) zs).trans p0, (HE54.out.bel.cell (p := ⟨w.heap.size, 1, none⟩) zs).trans p1⟩ (fun hHeld => ?_)
    clear hK K
    (try simp only [Act.put, List.setIfInBounds_toArray, List.set_cons_zero, List.set_cons_succ])
    refine wpAnyH_ready (rs := [2]) (by kernel_rfl) (by simp) ?_
    refine AllReadyH.cons (o := ?_) ?_ (fun K hK => ?_) AllReadyH.nil
    rotate_left 1
    · (simp only [List.getElem?_toArray, List.getElem?_cons_zero, List.getElem?_cons_succ]; try rfl)
    go_simp
    refine (newEditStack_any A u c _ (by omega) hsu (HU.out _ (below_then HB.out HE54.out.bel))).mono ?_
    rintro e Y55 ⟨v55, f55, rfl, ho55, hn55, hl55, hb55⟩
    obtain ⟨A55, c55, e55, _, _, _⟩ := Lay.edits.read ho55
    simp only [List.cons.injEq, and_true] at e55
    subst e55
    have HE55 := Lib.hid ((HE54.out.fresh (a := It.own (.slice A55 u.length c55) u f55) hb55 ⟨ho55, hn55⟩ hl55))
    clear ho55 hn55 hl55 hb55
    go_wp2_with fail
    refine hK.out _ _ ⟨(HE55.out.bel.cell (p := ⟨w.heap.size, 0, none⟩) zs).trans p0, (HE55.out.bel.cell (p := ⟨w.heap.size, 1, none⟩) zs).trans p1⟩ (fun hHeld => ?_)
    clear hK K
    (try simp only [Act.put, List.setIfInBounds_toArray, List.set_cons_zero, List.set_cons_succ])
    refine wpAnyH_ready (rs := [5]) (by kernel_rfl) (by simp) ?_
    refine AllReadyH.cons (o := ?_) ?_ (fun K hK => ?_) AllReadyH.nil
    rotate_left 1
    · (simp only [List.getElem?_toArray, List.getElem?_cons_zero, List.getElem?_cons_succ]; try rfl)
    go_simp
    refine (newEditStack_any B r d _ (by omega) hsr (HR.out _ (below_then HB.out HE55.out.bel))).mono ?_
    rintro e Y56 ⟨v56, f56, rfl, ho56, hn56, hl56, hb56⟩
    obtain ⟨A56, c56, e56, _, _, _⟩ := Lay.edits.read ho56
    simp only [List.cons.injEq, and_true] at e56
    subst e56
    have HE56 := Lib.hid ((HE55.out.rot.fresh (a := It.own (.slice A56 r.length c56) r f56) hb56 ⟨ho56, hn56⟩ hl56).rot.rot.rot)
    clear ho56 hn56 hl56 hb56
    go_wp2_with fail
    refine hK.out _ _ ⟨(HE56.out.bel.cell (p := ⟨w.heap.size, 0, none⟩) zs).trans p0, (HE56.out.bel.cell (p := ⟨w.heap.size, 1, none⟩) zs).trans p1⟩ (fun hHeld => ?_)
    clear hK K
    (try simp only [Act.put, List.setIfInBounds_toArray, List.set_cons_zero, List.set_cons_succ])
    refine wpAnyH_ready (rs := [8]) (by kernel_rfl) (by simp) ?_
    refine AllReadyH.cons (o := ?_) ?_ (fun K hK => ?_) AllReadyH.nil
    rotate_left 1
    · (simp only [List.getElem?_toArray, List.getElem?_cons_zero, List.getElem?_cons_succ]; try rfl)
    have qb := HE56.out.p.2.2.1
    have qc := Blk.cell (show Blk Y56 (Y44.heap.size) #[.slice none 0 0] 139 from qb) 0
    have qf := Blk.frozen (show Blk Y56 (Y44.heap.size) #[.slice none 0 0] 139 from qb) 0
    have HE57 := Lib.hid ((HE56.out.rot.rot.upd (a' := It.blk (Y44.heap.size) (.slice A55 u.length c55)) ((Keeps.refl [Y44.heap.size] Y56).set (List.mem_singleton.2 rfl) 0 (.slice A55 u.length c55)) (show Blk _ _ _ _ by simpa using (show Blk Y56 (Y44.heap.size) #[.slice none 0 0] 139 from qb).set 0 (.slice A55 u.length c55)) (fun k hk => hk)).rot.rot)
    go_simp
    clear qb qc qf
    generalize Y56.setCell ⟨Y44.heap.size, 0, none⟩ (.slice A55 u.length c55) = Y57 at *
    refine hK.out _ _ ⟨(HE57.out.bel.cell (p := ⟨w.heap.size, 0, none⟩) zs).trans p0, (HE57.out.bel.cell (p := ⟨w.heap.size, 1, none⟩) zs).trans p1⟩ (fun hHeld => ?_)
    clear hK K
    (try simp only [Act.put, List.setIfInBounds_toArray, List.set_cons_zero, List.set_cons_succ])
    refine wpAnyH_ready (rs := [9]) (by kernel_rfl) (by simp) ?_
    refine AllReadyH.cons (o := ?_) ?_ (fun K hK => ?_) AllReadyH.nil
    rotate_left 1
    · (simp only [List.getElem?_toArray, List.getElem?_cons_zero, List.getElem?_cons_succ]; try rfl)
    have qb := HE57.out.p.2.2.2
    have qc := Blk.cell (show Blk Y57 (Y0.heap.size) #[.slice none 0 0] 139 from qb) 0
    have qf := Blk.frozen (show Blk Y57 (Y0.heap.size) #[.slice none 0 0] 139 from qb) 0
    have HE58 := Lib.hid ((HE57.out.rot.rot.rot.upd (a' := It.blk (Y0.heap.size) (.slice A56 r.length c56)) ((Keeps.refl [Y0.heap.size] Y57).set (List.mem_singleton.2 rfl) 0 (.slice A56 r.length c56)) (show Blk _ _ _ _ by simpa using (show Blk Y57 (Y0.heap.size) #[.slice none 0 0] 139 from qb).set 0 (.slice A56 r.length c56)) (fun k hk => hk)).rot)
    go_simp
    clear qb qc qf
    generalize Y57.setCell ⟨Y0.heap.size, 0, none⟩ (.slice A56 r.length c56) = Y58 at *
    refine hK.out _ _ ⟨(HE58.out.bel.cell (p := ⟨w.heap.size, 0, none⟩) zs).trans p0, (HE58.out.bel.cell (p := ⟨w.heap.size, 1, none⟩) zs).trans p1⟩ (fun hHeld => ?_)
    clear hK K
    (try simp only [Act.put, List.setIfInBounds_toArray, List.set_cons_zero, List.set_cons_succ])
    refine wpAnyH_done (by kernel_rfl) ?_ _
    refine NoPanic.normal ?_
    go_wp2_with fail
    go_meet
    exact ⟨_, _, A55, c55, f55, A56, c56, f56, rfl, rfl, HE58.out⟩
  case rest =>
    obtain ⟨b8, b9, A1, c1, f1, A2, c2, f2, rfl, rfl, hsep⟩ := hcut
    have HT := Lib.hid (Two.of_sep hsep)
    have hb := hsep.bel
    have hzz := hb.size
    have BX := Lib.hid (BX.out.below hb)
    have EX := Lib.hid (EX.out.below hb)
    have RX := Lib.hid (RX.out.below hb)
    have HB := Lib.hid (below_then HB.out hb)
    have hzB : w.heap.size ≤ W2.heap.size := by omega
    have hcc := Lib.hid (HCH.out wc b8 b9 W2.heap.size _ _ _ _ HG.out HB.out hzB hzz HT.out)
    clear hsep hb p0 p1 hsu hsr HCH
    go_wp2_with fail
    refine hcc.out.mono ?_
    rintro x W3 ⟨U', R', ⟨rfl, uv, fu, rv, fr, hT3, hb3⟩, heq⟩
    have RX := Lib.hid (RX.out.of_block (hb3.block (w.heap.size + 2) (by omega)))
    have HB := Lib.hid (HB.out.trans (hb3.mono hzB))
    have HT3 := Lib.hid hT3
    have HEQ := Lib.hid heq
    have hltR := RX.out.lt
    have f0 := RX.out.frozen 0
    have f1 := RX.out.frozen 1
    have c0 := RX.out.cell 0
    have c1 := RX.out.cell 1
    clear hT3 heq hb3 hcc HT BX EX
    cases ok
    · obtain ⟨hU0, hR0⟩ := HNO.out HG.out rfl
      subst hU0 hR0
      clear HNO HEQ
      go_wp2
      refine bodyPost_ret (v := .tuple #[.agg #[.slice none 0 0, .slice none 0 0], .bool false]) (by simp [results, Try.results119, go_sem, c0, c1]) rfl ?_
      exact ⟨none, 0, [], none, 0, [], rfl, ows_nil _ _, (HB.out.setCell (p := ⟨w.heap.size + 2, 0, none⟩) (by simp) _).setCell (p := ⟨w.heap.size + 2, 1, none⟩) (by simp) _⟩
    · obtain ⟨hU0, hR0⟩ := HEQ.out rfl
      subst hU0 hR0
      obtain ⟨A3, c3, e3, hO3⟩ := HT3.out.u.form
      obtain ⟨A4, c4, e4, hO4⟩ := HT3.out.r.form
      subst e3 e4
      have q0 : W3.cell? ⟨b8, 0, none⟩ = some (.slice A3 U'.length c3) := HT3.out.u.hd.cell 0
      have q1 : W3.cell? ⟨b9, 0, none⟩ = some (.slice A4 R'.length c4) := HT3.out.r.hd.cell 0
      have hk := ((Keeps.refl [w.heap.size + 2] W3).set (List.mem_singleton.2 rfl) 0 (.slice A3 U'.length c3)).set (List.mem_singleton.2 rfl) 1 (.slice A4 R'.length c4)
      have RX9 := Lib.hid (show Blk ((W3.setCell ⟨w.heap.size + 2, 0, none⟩ (.slice A3 U'.length c3)).setCell ⟨w.heap.size + 2, 1, none⟩ (.slice A4 R'.length c4)) (w.heap.size + 2) #[.slice A3 U'.length c3, .slice A4 R'.length c4] 46 by simpa using (RX.out.set 0 (.slice A3 U'.length c3)).set 1 (.slice A4 R'.length c4))
      have HO3 := Lib.hid ((hO3.keeps hk (fun k hk h => by have := hO3.lo k hk; simp at h; omega)).mono (base' := w.heap.size) hzB)
      have HO4 := Lib.hid ((hO4.keeps hk (fun k hk h => by have := hO4.lo k hk; simp at h; omega)).mono (base' := w.heap.size) hzB)
      have HDIS := Lib.hid HT3.out.dis
      have r0 := RX9.out.cell 0
      have r1 := RX9.out.cell 1
      clear hO3 hO4 hk HNO HEQ HT3
      go_wp2
      refine bodyPost_ret (v := .tuple #[.agg #[.slice A3 U'.length c3, .slice A4 R'.length c4], .bool true]) (by simp [results, Try.results119, go_sem, r0, r1]) rfl ?_
      exact ⟨_, _, _, _, _, _, rfl, ⟨HO3.out, HO4.out, HDIS.out⟩, (HB.out.setCell (p := ⟨w.heap.size + 2, 0, none⟩) (by simp) _).setCell (p := ⟨w.heap.size + 2, 1, none⟩) (by simp) _⟩

set_option maxHeartbeats 8000000 in
theorem implStackPush_any (A : Option Addr) (u : List Ed) (c : Nat) (B : Option Addr) (r : List Ed) (d : Nat) (a m : Int) (P : Option Addr) (p : List UInt8) (ep : Nat) (w : World) (hu9 : u.length ≤ 9223372036854775807) (hr9 : r.length ≤ 9223372036854775807) (hp9 : p.length ≤ 9223372036854775807) (ha : -9223372036854775808 ≤ a ∧ a ≤ 9223372036854775807) (hm : -9223372036854775808 ≤ m ∧ m ≤ 9223372036854775807) (hU : Es w A u) (hR : Es w B r) (hP : Bs w P p) :
    Calls Try.prog 39 #[.agg #[.slice A u.length c, .slice B r.length d], .agg #[.int .i64 a, .int .i64 m, .slice P p.length ep]] w (GivesSt (pushU u r (a, m, p)) (([] : List Ed)) (pushOk u r (a, m, p)) w) := by
  have hal := ((((Below.refl w.heap.size w).alloc (Nat.le_refl _) (.cells #[.slice A u.length c, .slice B r.length d] 46)).alloc (by simp) (.cells #[.int .i64 a, .int .i64 m, .slice P p.length ep] 30)).alloc (by simp; omega) (.cells #[.slice none 0 0, .slice none 0 0] 46))
  have hpb : 0 < p.length → ∀ q, P = some q → q.block < w.heap.size := fun h0 q hq => by
    obtain ⟨b, off, e, hlt, _⟩ := hP 0 h0
    rw [hq] at e
    cases e
    exact hlt
  have b0 := ((Blk.new w #[.slice A u.length c, .slice B r.length d] 46).alloc (.cells #[.int .i64 a, .int .i64 m, .slice P p.length ep] 30)).alloc (.cells #[.slice none 0 0, .slice none 0 0] 46)
  have b1 := (Blk.new (w.alloc (.cells #[.slice A u.length c, .slice B r.length d] 46)) #[.int .i64 a, .int .i64 m, .slice P p.length ep] 30).alloc (.cells #[.slice none 0 0, .slice none 0 0] 46)
  have rx := Blk.new ((w.alloc (.cells #[.slice A u.length c, .slice B r.length d] 46)).alloc (.cells #[.int .i64 a, .int .i64 m, .slice P p.length ep] 30)) #[.slice none 0 0, .slice none 0 0] 46
  simp only [World.size_alloc] at b1 rx
  have X0 := Lib.hid b0
  have X1 := Lib.hid b1
  have RX := Lib.hid rx
  have HB := Lib.hid hal
  have hzw : (((w.alloc (.cells #[.slice A u.length c, .slice B r.length d] 46)).alloc (.cells #[.int .i64 a, .int .i64 m, .slice P p.length ep] 30)).alloc (.cells #[.slice none 0 0, .slice none 0 0] 46)).heap.size ≥ w.heap.size + 3 := by simp
  have hU1 := hU.below hal
  have hR1 := hR.below hal
  have HPB := Lib.hid hpb
  have HPP := Lib.hid (show ∀ W, Below w.heap.size w W → Bs W P p from fun W h => hP.below h)
  have p0 := X0.out.cell 0
  have p1 := X0.out.cell 1
  have q0 := X1.out.cell 0
  have q1 := X1.out.cell 1
  have q2 := X1.out.cell 2
  have hcc := Lib.hid (changedPush_any A u c B r d a m P p ep (w.heap.size + 1) (pushOk u r (a, m, p)) (pushU u r (a, m, p)) (([] : List Ed)) _ hu9 hr9 hp9 hU1 hR1 (fun hg h0 => by have : pushOk u r (a, m, p) = true := hg; rw [this] at h0; cases h0) (fun hb => by
    have e : pushOk u r (a, m, p) = false := hb
    exact ⟨e, by unfold pushU; rw [e]; rfl, rfl⟩) (fun W ub rb B9 uv fu rv fr hg hW hwB hBW hT => by
    have hst : stOk u r = true := (Bool.and_eq_true_iff.1 hg).1
    have h8 := (edSmall_iff _ _ _).1 (Bool.and_eq_true_iff.1 hg).2
    have h7 := hst
    unfold stOk at h7
    rw [Bool.and_eq_true] at h7
    have hok : pushOk u r (a, m, p) = true := hg
    refine (pushCl_any ub rb B9 _ uv u fu rv r fr a m P p ep W (stFit_len h7.1) (stFit_len h7.2) ha hm (by omega) (HPP.out W (below_then HB.out hW)) (fun h0 q hq => Nat.lt_of_lt_of_le (Nat.lt_of_lt_of_le (HPB.out h0 q hq) HB.out.size) hwB) (X1.out.below hW) hT hBW).mono ?_
    intro x w' hx
    rw [hok]
    refine ⟨_, _, hx, fun _ => ⟨?_, rfl⟩⟩
    unfold pushU
    rw [if_pos hok]))
  clear hU1 hR1 hU hR hP hpb b0 b1 rx hal
  go_enter Try.func39, Try.ntmps39
  go_wp2_with fail
  generalize ((w.alloc (.cells #[.slice A u.length c, .slice B r.length d] 46)).alloc (.cells #[.int .i64 a, .int .i64 m, .slice P p.length ep] 30)).alloc (.cells #[.slice none 0 0, .slice none 0 0] 46) = W0 at *
  refine hcc.out.mono ?_
  rintro x W1 ⟨A1, c1, f1, B1, d1, g1, rfl, hO1, hb⟩
  have RX := Lib.hid (RX.out.below hb)
  have HB := Lib.hid (below_then HB.out hb)
  have hO1 := Lib.hid hO1
  have f0 := RX.out.frozen 0
  have f1' := RX.out.frozen 1
  have c0 := RX.out.cell 0
  have c1' := RX.out.cell 1
  have hltR := RX.out.lt
  clear hb hcc p0 p1 q0 q1 q2
  obtain ⟨N, hN⟩ : ∃ N, (pushU u r (a, m, p)).length = N := ⟨_, rfl⟩
  obtain ⟨M, hM⟩ : ∃ M, (([] : List Ed)).length = M := ⟨_, rfl⟩
  rw [hN, hM]
  have hk := ((Keeps.refl [w.heap.size + 2] W1).set (List.mem_singleton.2 rfl) 0 (.slice A1 N c1)).set (List.mem_singleton.2 rfl) 1 (.slice B1 M d1)
  have RX9 := Lib.hid (show Blk ((W1.setCell ⟨w.heap.size + 2, 0, none⟩ (.slice A1 N c1)).setCell ⟨w.heap.size + 2, 1, none⟩ (.slice B1 M d1)) (w.heap.size + 2) #[.slice A1 N c1, .slice B1 M d1] 46 by simpa using (RX.out.set 0 (.slice A1 N c1)).set 1 (.slice B1 M d1))
  have HO9 := Lib.hid (hO1.out.keeps hk (fun k hk h => by have := hO1.out.u.lo k hk; simp at h; omega) (fun k hk h => by have := hO1.out.r.lo k hk; simp at h; omega))
  have HB9 := Lib.hid ((HB.out.setCell (p := ⟨w.heap.size + 2, 0, none⟩) (by simp) (.slice A1 N c1)).setCell (p := ⟨w.heap.size + 2, 1, none⟩) (by simp) (.slice B1 M d1))
  have r0 := RX9.out.cell 0
  have r1 := RX9.out.cell 1
  have HNN := Lib.hid hN
  have HMM := Lib.hid hM
  clear hk hN hM
  go_wp2
  refine bodyPost_ret (v := .tuple #[.agg #[.slice A1 N c1, .slice B1 M d1], .bool (pushOk u r (a, m, p))]) (by simp [results, Try.results39, go_sem, r0, r1]) rfl ?_
  exact ⟨_, _, _, _, _, _, by rw [HNN.out, HMM.out], ⟨HO9.out.u.mono (by omega), HO9.out.r.mono (by omega), HO9.out.dis⟩, HB9.out⟩

set_option maxHeartbeats 8000000 in
theorem implStackTurn_false (A : Option Addr) (u : List Ed) (c : Nat) (B : Option Addr) (r : List Ed) (d : Nat) (a m : Int) (P : Option Addr) (p : List UInt8) (ep : Nat) (w : World) (hu9 : u.length ≤ 9223372036854775807) (hr9 : r.length ≤ 9223372036854775807) (hp9 : p.length ≤ 9223372036854775807) (ha : -9223372036854775808 ≤ a ∧ a ≤ 9223372036854775807) (hm : -9223372036854775808 ≤ m ∧ m ≤ 9223372036854775807) (hU : Es w A u) (hR : Es w B r) (hP : Bs w P p) :
    Calls Try.prog 41 #[.agg #[.slice A u.length c, .slice B r.length d], .bool false, .agg #[.int .i64 a, .int .i64 m, .slice P p.length ep]] w (GivesSt (turnU u r false (a, m, p)) (turnR u r false (a, m, p)) (turnOk u r false (a, m, p)) w) := by
  have hal := (((((Below.refl w.heap.size w).alloc (Nat.le_refl _) (.cells #[.slice A u.length c, .slice B r.length d] 46)).alloc (by simp) (.cells #[.bool false] 4)).alloc (by simp; omega) (.cells #[.int .i64 a, .int .i64 m, .slice P p.length ep] 30)).alloc (by simp; omega) (.cells #[.slice none 0 0, .slice none 0 0] 46))
  have hpb : 0 < p.length → ∀ q, P = some q → q.block < w.heap.size := fun h0 q hq => by
    obtain ⟨b, off, e, hlt, _⟩ := hP 0 h0
    rw [hq] at e
    cases e
    exact hlt
  have b0 := (((Blk.new w #[.slice A u.length c, .slice B r.length d] 46).alloc (.cells #[.bool false] 4)).alloc (.cells #[.int .i64 a, .int .i64 m, .slice P p.length ep] 30)).alloc (.cells #[.slice none 0 0, .slice none 0 0] 46)
  have b1 := ((Blk.new (w.alloc (.cells #[.slice A u.length c, .slice B r.length d] 46)) #[.bool false] 4).alloc (.cells #[.int .i64 a, .int .i64 m, .slice P p.length ep] 30)).alloc (.cells #[.slice none 0 0, .slice none 0 0] 46)
  have b2 := (Blk.new ((w.alloc (.cells #[.slice A u.length c, .slice B r.length d] 46)).alloc (.cells #[.bool false] 4)) #[.int .i64 a, .int .i64 m, .slice P p.length ep] 30).alloc (.cells #[.slice none 0 0, .slice none 0 0] 46)
  have rx := Blk.new (((w.alloc (.cells #[.slice A u.length c, .slice B r.length d] 46)).alloc (.cells #[.bool false] 4)).alloc (.cells #[.int .i64 a, .int .i64 m, .slice P p.length ep] 30)) #[.slice none 0 0, .slice none 0 0] 46
  simp only [World.size_alloc] at b1 b2 rx
  have X0 := Lib.hid b0
  have X1 := Lib.hid b1
  have X2 := Lib.hid b2
  have RX := Lib.hid rx
  have HB := Lib.hid hal
  have hzw : ((((w.alloc (.cells #[.slice A u.length c, .slice B r.length d] 46)).alloc (.cells #[.bool false] 4)).alloc (.cells #[.int .i64 a, .int .i64 m, .slice P p.length ep] 30)).alloc (.cells #[.slice none 0 0, .slice none 0 0] 46)).heap.size ≥ w.heap.size + 4 := by simp
  have hU1 := hU.below hal
  have hR1 := hR.below hal
  have HPB := Lib.hid hpb
  have HPP := Lib.hid (show ∀ W, Below w.heap.size w W → Bs W P p from fun W h => hP.below h)
  have p0 := X0.out.cell 0
  have p1 := X0.out.cell 1
  have g0 := X1.out.cell 0
  have q0 := X2.out.cell 0
  have q1 := X2.out.cell 1
  have q2 := X2.out.cell 2
  have hcc := Lib.hid (changedTurn_any A u c B r d a m P p ep (w.heap.size + 1) (w.heap.size + 2) (turnOk u r false (a, m, p)) (turnU u r false (a, m, p)) (turnR u r false (a, m, p)) _ hu9 hr9 hp9 hU1 hR1 (fun hg h0 => by unfold turnU turnR; rw [h0]; exact ⟨rfl, rfl⟩) (fun hb => by
    have e : turnOk u r false (a, m, p) = false := by
      unfold turnOk topOk smallE
      cases h1 : stOk u r
      · rfl
      · rw [h1, Bool.true_and] at hb
        show (_ && edSmall a m p) = false
        rw [hb, Bool.and_false]
    refine ⟨e, ?_, ?_⟩
    · unfold turnU; rw [e]; rfl
    · unfold turnR; rw [e]; rfl) (fun W ub rb B9 uv fu rv fr hg hW hwB hBW hT => by
    have hst : stOk u r = true := (Bool.and_eq_true_iff.1 hg).1
    have hsm : edSmall a m p = true := (Bool.and_eq_true_iff.1 hg).2
    have h8 := (edSmall_iff _ _ _).1 hsm
    have h7 := hst
    unfold stOk at h7
    rw [Bool.and_eq_true] at h7
    have hok : decide (0 < u.length) = turnOk u r false (a, m, p) := by
      unfold turnOk topOk smallE
      rw [hst]
      show _ = ((true && decide (0 < u.length)) && edSmall a m p)
      rw [hsm, Bool.and_true, Bool.true_and]
    refine (turnCl_false ub rb B9 _ _ uv u fu rv r fr a m P p ep W (stFit_len h7.1) (stFit_len h7.2) ha hm (by omega) (HPP.out W (below_then HB.out hW)) (fun h0 q hq => Nat.lt_of_lt_of_le (Nat.lt_of_lt_of_le (HPB.out h0 q hq) HB.out.size) hwB) (X2.out.below hW) hT (X1.out.below hW) hBW).mono ?_
    intro x w' hx
    rw [hok] at hx
    refine ⟨_, _, hx, fun h0 => ?_⟩
    unfold turnU turnR
    rw [if_pos h0, if_pos h0]
    exact ⟨rfl, rfl⟩))
  clear hU1 hR1 hU hR hP hpb b0 b1 b2 rx hal
  go_enter Try.func41, Try.ntmps41
  go_wp2_with fail
  generalize (((w.alloc (.cells #[.slice A u.length c, .slice B r.length d] 46)).alloc (.cells #[.bool false] 4)).alloc (.cells #[.int .i64 a, .int .i64 m, .slice P p.length ep] 30)).alloc (.cells #[.slice none 0 0, .slice none 0 0] 46) = W0 at *
  refine hcc.out.mono ?_
  rintro x W1 ⟨A1, c1, f1, B1, d1, g1, rfl, hO1, hb⟩
  have RX := Lib.hid (RX.out.below hb)
  have HB := Lib.hid (below_then HB.out hb)
  have hO1 := Lib.hid hO1
  have f0 := RX.out.frozen 0
  have f1' := RX.out.frozen 1
  have c0 := RX.out.cell 0
  have c1' := RX.out.cell 1
  have hltR := RX.out.lt
  clear hb hcc p0 p1 q0 q1 q2 g0
  obtain ⟨N, hN⟩ : ∃ N, (turnU u r false (a, m, p)).length = N := ⟨_, rfl⟩
  obtain ⟨M, hM⟩ : ∃ M, (turnR u r false (a, m, p)).length = M := ⟨_, rfl⟩
  rw [hN, hM]
  have hk := ((Keeps.refl [w.heap.size + 3] W1).set (List.mem_singleton.2 rfl) 0 (.slice A1 N c1)).set (List.mem_singleton.2 rfl) 1 (.slice B1 M d1)
  have RX9 := Lib.hid (show Blk ((W1.setCell ⟨w.heap.size + 3, 0, none⟩ (.slice A1 N c1)).setCell ⟨w.heap.size + 3, 1, none⟩ (.slice B1 M d1)) (w.heap.size + 3) #[.slice A1 N c1, .slice B1 M d1] 46 by simpa using (RX.out.set 0 (.slice A1 N c1)).set 1 (.slice B1 M d1))
  have HO9 := Lib.hid (hO1.out.keeps hk (fun k hk h => by have := hO1.out.u.lo k hk; simp at h; omega) (fun k hk h => by have := hO1.out.r.lo k hk; simp at h; omega))
  have HB9 := Lib.hid ((HB.out.setCell (p := ⟨w.heap.size + 3, 0, none⟩) (by simp) (.slice A1 N c1)).setCell (p := ⟨w.heap.size + 3, 1, none⟩) (by simp) (.slice B1 M d1))
  have r0 := RX9.out.cell 0
  have r1 := RX9.out.cell 1
  have HNN := Lib.hid hN
  have HMM := Lib.hid hM
  clear hk hN hM
  go_wp2
  refine bodyPost_ret (v := .tuple #[.agg #[.slice A1 N c1, .slice B1 M d1], .bool (turnOk u r false (a, m, p))]) (by simp [results, Try.results41, go_sem, r0, r1]) rfl ?_
  exact ⟨_, _, _, _, _, _, by rw [HNN.out, HMM.out], ⟨HO9.out.u.mono (by omega), HO9.out.r.mono (by omega), HO9.out.dis⟩, HB9.out⟩

set_option maxHeartbeats 8000000 in
theorem implStackTurn_true (A : Option Addr) (u : List Ed) (c : Nat) (B : Option Addr) (r : List Ed) (d : Nat) (a m : Int) (P : Option Addr) (p : List UInt8) (ep : Nat) (w : World) (hu9 : u.length ≤ 9223372036854775807) (hr9 : r.length ≤ 9223372036854775807) (hp9 : p.length ≤ 9223372036854775807) (ha : -9223372036854775808 ≤ a ∧ a ≤ 9223372036854775807) (hm : -9223372036854775808 ≤ m ∧ m ≤ 9223372036854775807) (hU : Es w A u) (hR : Es w B r) (hP : Bs w P p) :
    Calls Try.prog 41 #[.agg #[.slice A u.length c, .slice B r.length d], .bool true, .agg #[.int .i64 a, .int .i64 m, .slice P p.length ep]] w (GivesSt (turnU u r true (a, m, p)) (turnR u r true (a, m, p)) (turnOk u r true (a, m, p)) w) := by
  have hal := (((((Below.refl w.heap.size w).alloc (Nat.le_refl _) (.cells #[.slice A u.length c, .slice B r.length d] 46)).alloc (by simp) (.cells #[.bool true] 4)).alloc (by simp; omega) (.cells #[.int .i64 a, .int .i64 m, .slice P p.length ep] 30)).alloc (by simp; omega) (.cells #[.slice none 0 0, .slice none 0 0] 46))
  have hpb : 0 < p.length → ∀ q, P = some q → q.block < w.heap.size := fun h0 q hq => by
    obtain ⟨b, off, e, hlt, _⟩ := hP 0 h0
    rw [hq] at e
    cases e
    exact hlt
  have b0 := (((Blk.new w #[.slice A u.length c, .slice B r.length d] 46).alloc (.cells #[.bool true] 4)).alloc (.cells #[.int .i64 a, .int .i64 m, .slice P p.length ep] 30)).alloc (.cells #[.slice none 0 0, .slice none 0 0] 46)
  have b1 := ((Blk.new (w.alloc (.cells #[.slice A u.length c, .slice B r.length d] 46)) #[.bool true] 4).alloc (.cells #[.int .i64 a, .int .i64 m, .slice P p.length ep] 30)).alloc (.cells #[.slice none 0 0, .slice none 0 0] 46)
  have b2 := (Blk.new ((w.alloc (.cells #[.slice A u.length c, .slice B r.length d] 46)).alloc (.cells #[.bool true] 4)) #[.int .i64 a, .int .i64 m, .slice P p.length ep] 30).alloc (.cells #[.slice none 0 0, .slice none 0 0] 46)
  have rx := Blk.new (((w.alloc (.cells #[.slice A u.length c, .slice B r.length d] 46)).alloc (.cells #[.bool true] 4)).alloc (.cells #[.int .i64 a, .int .i64 m, .slice P p.length ep] 30)) #[.slice none 0 0, .slice none 0 0] 46
  simp only [World.size_alloc] at b1 b2 rx
  have X0 := Lib.hid b0
  have X1 := Lib.hid b1
  have X2 := Lib.hid b2
  have RX := Lib.hid rx
  have HB := Lib.hid hal
  have hzw : ((((w.alloc (.cells #[.slice A u.length c, .slice B r.length d] 46)).alloc (.cells #[.bool true] 4)).alloc (.cells #[.int .i64 a, .int .i64 m, .slice P p.length ep] 30)).alloc (.cells #[.slice none 0 0, .slice none 0 0] 46)).heap.size ≥ w.heap.size + 4 := by simp
  have hU1 := hU.below hal
  have hR1 := hR.below hal
  have HPB := Lib.hid hpb
  have HPP := Lib.hid (show ∀ W, Below w.heap.size w W → Bs W P p from fun W h => hP.below h)
  have p0 := X0.out.cell 0
  have p1 := X0.out.cell 1
  have g0 := X1.out.cell 0
  have q0 := X2.out.cell 0
  have q1 := X2.out.cell 1
  have q2 := X2.out.cell 2
  have hcc := Lib.hid (changedTurn_any A u c B r d a m P p ep (w.heap.size + 1) (w.heap.size + 2) (turnOk u r true (a, m, p)) (turnU u r true (a, m, p)) (turnR u r true (a, m, p)) _ hu9 hr9 hp9 hU1 hR1 (fun hg h0 => by unfold turnU turnR; rw [h0]; exact ⟨rfl, rfl⟩) (fun hb => by
    have e : turnOk u r true (a, m, p) = false := by
      unfold turnOk topOk smallE
      cases h1 : stOk u r
      · rfl
      · rw [h1, Bool.true_and] at hb
        show (_ && edSmall a m p) = false
        rw [hb, Bool.and_false]
    refine ⟨e, ?_, ?_⟩
    · unfold turnU; rw [e]; rfl
    · unfold turnR; rw [e]; rfl) (fun W ub rb B9 uv fu rv fr hg hW hwB hBW hT => by
    have hst : stOk u r = true := (Bool.and_eq_true_iff.1 hg).1
    have hsm : edSmall a m p = true := (Bool.and_eq_true_iff.1 hg).2
    have h8 := (edSmall_iff _ _ _).1 hsm
    have h7 := hst
    unfold stOk at h7
    rw [Bool.and_eq_true] at h7
    have hok : decide (0 < r.length) = turnOk u r true (a, m, p) := by
      unfold turnOk topOk smallE
      rw [hst]
      show _ = ((true && decide (0 < r.length)) && edSmall a m p)
      rw [hsm, Bool.and_true, Bool.true_and]
    refine (turnCl_true ub rb B9 _ _ uv u fu rv r fr a m P p ep W (stFit_len h7.1) (stFit_len h7.2) ha hm (by omega) (HPP.out W (below_then HB.out hW)) (fun h0 q hq => Nat.lt_of_lt_of_le (Nat.lt_of_lt_of_le (HPB.out h0 q hq) HB.out.size) hwB) (X2.out.below hW) hT (X1.out.below hW) hBW).mono ?_
    intro x w' hx
    rw [hok] at hx
    refine ⟨_, _, hx, fun h0 => ?_⟩
    unfold turnU turnR
    rw [if_pos h0, if_pos h0]
    exact ⟨rfl, rfl⟩))
  clear hU1 hR1 hU hR hP hpb b0 b1 b2 rx hal
  go_enter Try.func41, Try.ntmps41
  go_wp2_with fail
  generalize (((w.alloc (.cells #[.slice A u.length c, .slice B r.length d] 46)).alloc (.cells #[.bool true] 4)).alloc (.cells #[.int .i64 a, .int .i64 m, .slice P p.length ep] 30)).alloc (.cells #[.slice none 0 0, .slice none 0 0] 46) = W0 at *
  refine hcc.out.mono ?_
  rintro x W1 ⟨A1, c1, f1, B1, d1, g1, rfl, hO1, hb⟩
  have RX := Lib.hid (RX.out.below hb)
  have HB := Lib.hid (below_then HB.out hb)
  have hO1 := Lib.hid hO1
  have f0 := RX.out.frozen 0
  have f1' := RX.out.frozen 1
  have c0 := RX.out.cell 0
  have c1' := RX.out.cell 1
  have hltR := RX.out.lt
  clear hb hcc p0 p1 q0 q1 q2 g0
  obtain ⟨N, hN⟩ : ∃ N, (turnU u r true (a, m, p)).length = N := ⟨_, rfl⟩
  obtain ⟨M, hM⟩ : ∃ M, (turnR u r true (a, m, p)).length = M := ⟨_, rfl⟩
  rw [hN, hM]
  have hk := ((Keeps.refl [w.heap.size + 3] W1).set (List.mem_singleton.2 rfl) 0 (.slice A1 N c1)).set (List.mem_singleton.2 rfl) 1 (.slice B1 M d1)
  have RX9 := Lib.hid (show Blk ((W1.setCell ⟨w.heap.size + 3, 0, none⟩ (.slice A1 N c1)).setCell ⟨w.heap.size + 3, 1, none⟩ (.slice B1 M d1)) (w.heap.size + 3) #[.slice A1 N c1, .slice B1 M d1] 46 by simpa using (RX.out.set 0 (.slice A1 N c1)).set 1 (.slice B1 M d1))
  have HO9 := Lib.hid (hO1.out.keeps hk (fun k hk h => by have := hO1.out.u.lo k hk; simp at h; omega) (fun k hk h => by have := hO1.out.r.lo k hk; simp at h; omega))
  have HB9 := Lib.hid ((HB.out.setCell (p := ⟨w.heap.size + 3, 0, none⟩) (by simp) (.slice A1 N c1)).setCell (p := ⟨w.heap.size + 3, 1, none⟩) (by simp) (.slice B1 M d1))
  have r0 := RX9.out.cell 0
  have r1 := RX9.out.cell 1
  have HNN := Lib.hid hN
  have HMM := Lib.hid hM
  clear hk hN hM
  go_wp2
  refine bodyPost_ret (v := .tuple #[.agg #[.slice A1 N c1, .slice B1 M d1], .bool (turnOk u r true (a, m, p))]) (by simp [results, Try.results41, go_sem, r0, r1]) rfl ?_
  exact ⟨_, _, _, _, _, _, by rw [HNN.out, HMM.out], ⟨HO9.out.u.mono (by omega), HO9.out.r.mono (by omega), HO9.out.dis⟩, HB9.out⟩
end Go.Proofs.Ytdmmdbapkogdhaa
