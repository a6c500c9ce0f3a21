/-
  Chapter 4, the model's RopeEdit at a valid edit: contract. Own work.
-/
import Derived.Test.YthnahenpnafkmaaDoorI07c
import Derived.Test.YthnahenpnafkmaaDoorS05
namespace Go.Proofs.YthnahenpnafkmaaDoor
open Go.RowKit P
set_option linter.unusedVariables false
set_option linter.unusedSimpArgs false
set_option maxRecDepth 100000

/-- The two rows of the model's RopeEdit, and the two parts of the text that it has seen. -/
structure S4 (w wr : World) (ls : List (List UInt8)) (xs : List Value) (a b N : Int) (k : Nat) (vF vK : Value) (AL : Option Addr) (HD : List UInt8) (cL : Nat) (AR : Option Addr) (TL : List UInt8) (cR : Nat) : Prop where
  oF : OwnV wr w.heap.size 46 vF (frV ls xs a (ks ls.length k))
  oK : OwnV wr w.heap.size 46 vK (bkV ls xs a b (ks ls.length k))
  dF : ∀ j, vF.ownBlock = some j → vK.ownBlock ≠ some j
  bel : Below w.heap.size w wr
  eH : hdV ls a b (ks ls.length k) = HD
  eT : tlV ls a b N (ks ls.length k) = TL
  bH : HD.length ≤ cL ∧ cL ≤ maxLen ∧ Bs w AL HD
  bT : TL.length ≤ cR ∧ cR ≤ maxLen ∧ Bs w AR TL

theorem OwnV.kept {w w' : World} {base : Nat} {T : TypeId} {v : Value} {xs : List Value} (h : OwnV w base T v xs) {row : Option Nat} (hg : w.grownBy w' row) (hne : v.ownBlock = none ∨ v.ownBlock ≠ row) : OwnV w' base T v xs := ⟨h.row.kept hg hne, h.one⟩
theorem OwnV.belowAll {w w' : World} {base : Nat} {T : TypeId} {v : Value} {xs : List Value} (h : OwnV w base T v xs) (hb : Below w.heap.size w w') : OwnV w' base T v xs :=
  ⟨row_kept_far h.row (row := none) ⟨hb.os, hb.tape, hb.output, hb.size, fun k hk _ => hb.block k hk⟩ (fun r e => by cases e), h.one⟩
theorem OwnV.lt {w : World} {base : Nat} {T : TypeId} {v : Value} {xs : List Value} (h : OwnV w base T v xs) {b : Nat} (hb : v.ownBlock = some b) : base ≤ b ∧ b < w.heap.size := World.ownsRow.lt h.row b hb

theorem OwnV.mono {w : World} {base base' : Nat} {T : TypeId} {v : Value} {xs : List Value} (h : OwnV w base T v xs) (hb : base' ≤ base) : OwnV w base' T v xs := by
  refine ⟨⟨h.row.1, ?_⟩, h.one⟩
  rcases h.row.2 with h1 | ⟨g, cap, cur, h1, h2, h3⟩
  · exact .inl h1
  · exact .inr ⟨g, cap, cur, h1, Nat.le_trans hb h2, h3⟩
theorem S4.start (w : World) (ls : List (List UInt8)) (xs : List Value) (a b N : Int) :
    S4 w ((((w.alloc (.cells #[] 46)).alloc (.cells #[] 46)).alloc (.cells #[] 5)).alloc (.cells #[] 5)) ls xs a b N 0 (.slice (some ⟨w.heap.size, 0, none⟩) 0 0) (.slice (some ⟨w.heap.size + 1, 0, none⟩) 0 0) (some ⟨w.heap.size + 1 + 1, 0, none⟩) [] 0 (some ⟨w.heap.size + 1 + 1 + 1, 0, none⟩) [] 0 := by
  have hk : ks ls.length 0 = [] := by simp [ks]
  have m1 : OwnV (w.alloc (.cells #[] 46)) w.heap.size 46 (.slice (some ⟨w.heap.size, 0, none⟩) 0 0) [] := ⟨World.ownsRow_made w #[] 0 (Nat.le_refl _) (by unfold maxLen; omega) rfl, by simp⟩
  have m2 : OwnV ((w.alloc (.cells #[] 46)).alloc (.cells #[] 46)) (w.heap.size + 1) 46 (.slice (some ⟨w.heap.size + 1, 0, none⟩) 0 0) [] := by
    have := World.ownsRow_made (w.alloc (.cells #[] 46)) #[] 0 (base := w.heap.size + 1) (e := 46) (size := 1) (by simp) (by unfold maxLen; omega) rfl
    simp only [World.size_alloc] at this
    exact ⟨this, by simp⟩
  have b1 := ((Below.refl _ (w.alloc (.cells #[] 46))).alloc (Nat.le_refl _) (.cells #[] 46)).alloc (by simp) (.cells #[] 5) |>.alloc (by simp) (.cells #[] 5)
  have b2 := ((Below.refl _ ((w.alloc (.cells #[] 46)).alloc (.cells #[] 46))).alloc (Nat.le_refl _) (.cells #[] 5)).alloc (by simp) (.cells #[] 5)
  have hal4 := ((((Below.refl w.heap.size w).alloc (Nat.le_refl _) (.cells #[] 46)).alloc (by simp) (.cells #[] 46)).alloc (by simp; omega) (.cells #[] 5)).alloc (by simp; omega) (.cells #[] 5)
  refine ⟨?_, ?_, ?_, hal4, ?_, ?_, ⟨Nat.le_refl _, by unfold maxLen; omega, fun k hk => by simp at hk⟩, ⟨Nat.le_refl _, by unfold maxLen; omega, fun k hk => by simp at hk⟩⟩
  · rw [hk]; exact m1.belowAll b1
  · rw [hk]; exact (m2.belowAll b2).mono (Nat.le_succ _)
  · intro j hj hj'
    simp [Value.ownBlock] at hj hj'
    omega
  · rw [hk]; rfl
  · rw [hk]; rfl

theorem S4.headStep {w wr wa w6 : World} {ls : List (List UInt8)} {xs : List Value} {a b N : Int} {k : Nat} {vF vK v6 u : Value} {AL AR : Option Addr} {HD TL : List UInt8} {cL cR : Nat} (h : S4 w wr ls xs a b N k vF vK AL HD cL AR TL cR) (ha : Below wr.heap.size wr wa)
    (h6 : OwnV w6 w.heap.size 46 v6 (frV ls xs a (ks ls.length k) ++ [u])) (hg : wa.grownBy w6 vF.ownBlock) (hb : v6.ownBlock = vF.ownBlock ∨ v6.ownBlock = some wa.heap.size)
    (e1 : frV ls xs a (ks ls.length (k + 1)) = frV ls xs a (ks ls.length k) ++ [u]) (e2 : bkV ls xs a b (ks ls.length (k + 1)) = bkV ls xs a b (ks ls.length k)) (e3 : hdV ls a b (ks ls.length (k + 1)) = hdV ls a b (ks ls.length k)) (e4 : tlV ls a b N (ks ls.length (k + 1)) = tlV ls a b N (ks ls.length k)) :
    S4 w w6 ls xs a b N (k + 1) v6 vK AL HD cL AR TL cR := by
  have hK := h.oK.belowAll ha
  have hF := h.oF.belowAll ha
  refine ⟨by rw [e1]; exact h6, ?_, fun j hj hj' => ?_, ?_, e3.trans h.eH, e4.trans h.eT, h.bH, h.bT⟩
  · rw [e2]
    exact hK.kept hg (by
      cases he : vK.ownBlock with
      | none => exact .inl rfl
      | some j => exact .inr fun e => h.dF j e.symm he)
  · rcases hb with e | e
    · exact h.dF j (e ▸ hj) hj'
    · rw [e] at hj; cases hj; exact Nat.lt_irrefl _ (hK.lt hj').2
  · exact (h.bel.trans (ha.mono h.bel.size)).grown hg (Nat.le_trans h.bel.size ha.size) (fun j hj => (hF.lt hj).1)
theorem S4.tailStep {w wr wa w6 : World} {ls : List (List UInt8)} {xs : List Value} {a b N : Int} {k : Nat} {vF vK v6 u : Value} {AL AR : Option Addr} {HD TL : List UInt8} {cL cR : Nat} (h : S4 w wr ls xs a b N k vF vK AL HD cL AR TL cR) (ha : Below wr.heap.size wr wa)
    (h6 : OwnV w6 w.heap.size 46 v6 (bkV ls xs a b (ks ls.length k) ++ [u])) (hg : wa.grownBy w6 vK.ownBlock) (hb : v6.ownBlock = vK.ownBlock ∨ v6.ownBlock = some wa.heap.size)
    (e1 : frV ls xs a (ks ls.length (k + 1)) = frV ls xs a (ks ls.length k)) (e2 : bkV ls xs a b (ks ls.length (k + 1)) = bkV ls xs a b (ks ls.length k) ++ [u]) (e3 : hdV ls a b (ks ls.length (k + 1)) = hdV ls a b (ks ls.length k)) (e4 : tlV ls a b N (ks ls.length (k + 1)) = tlV ls a b N (ks ls.length k)) :
    S4 w w6 ls xs a b N (k + 1) vF v6 AL HD cL AR TL cR := by
  have hK := h.oK.belowAll ha
  have hF := h.oF.belowAll ha
  refine ⟨?_, by rw [e2]; exact h6, fun j hj hj' => ?_, ?_, e3.trans h.eH, e4.trans h.eT, h.bH, h.bT⟩
  · rw [e1]
    exact hF.kept hg (by
      cases he : vF.ownBlock with
      | none => exact .inl rfl
      | some j => exact .inr fun e => h.dF j he e.symm)
  · rcases hb with e | e
    · exact h.dF j hj (e ▸ hj')
    · rw [e] at hj'; cases hj'; exact Nat.lt_irrefl _ (hF.lt hj).2
  · exact (h.bel.trans (ha.mono h.bel.size)).grown hg (Nat.le_trans h.bel.size ha.size) (fun j hj => (hK.lt hj).1)
theorem S4.mid {w wr : World} {ls : List (List UInt8)} {xs : List Value} {a b N : Int} {k : Nat} {vF vK : Value} {AL AR AL' AR' : Option Addr} {HD TL HD' TL' : List UInt8} {cL cR cL' cR' : Nat} (h : S4 w wr ls xs a b N k vF vK AL HD cL AR TL cR)
    (e1 : frV ls xs a (ks ls.length (k + 1)) = frV ls xs a (ks ls.length k)) (e2 : bkV ls xs a b (ks ls.length (k + 1)) = bkV ls xs a b (ks ls.length k)) (e3 : hdV ls a b (ks ls.length (k + 1)) = HD') (e4 : tlV ls a b N (ks ls.length (k + 1)) = TL')
    (b1 : HD'.length ≤ cL' ∧ cL' ≤ maxLen ∧ Bs w AL' HD') (b2 : TL'.length ≤ cR' ∧ cR' ≤ maxLen ∧ Bs w AR' TL') :
    S4 w wr ls xs a b N (k + 1) vF vK AL' HD' cL' AR' TL' cR' :=
  ⟨by rw [e1]; exact h.oF, by rw [e2]; exact h.oK, h.dF, h.bel, e3, e4, b1, b2⟩

theorem Bs.take_ {w : World} {A : Option Addr} {l : List UInt8} (h : Bs w A l) (j : Nat) : Bs w A (l.take j) := by
  intro k hk
  have hk' : k < l.length := by rw [List.length_take] at hk; omega
  obtain ⟨b, off, e, hb, hc⟩ := h k hk'
  exact ⟨b, off, e, hb, by rw [hc, List.getElem_take]⟩

theorem wpList_app_many {P : Program} {ops : Array Oper} {rest : List Oper} {o : Oper} {a : Act} {w : World} {Q : Exit → Act → World → Prop} (hgd : Region.wanted o (yielded ops a.tmps) = true) (s y : Operand) (t : TypeId)
    (ho : o.op = .call { callee := .builtin .append, args := #[s, y], argTypes := #[t, t] })
    {α : Type} (T : TypeId) (E : Lay α) (z : Value) (size bytes : Nat) (ht : P.underlying t = some (.slice T))
    (hinfo : (P.info? T).map (fun i => (i.zero, i.size, i.bytes)) = some (some z, size, bytes)) (hsz : size = E.sz) (hzs : z.cells.size = size) (hpos : 0 < size) (hby : bytes ≤ 10000)
    (v : Value) (l r : List α) (fp fq : List Nat) (A : Option Addr) (m c : Nat) (hs : a.eval s = v) (hy : a.eval y = .slice A m c)
    (h : (Lay.slice T E).ow w [v] l fp) (hn : fp.Nodup) (hr : (Lay.slice T E).ow w [.slice A m c] r fq) (hnr : fq.Nodup) (B : Nat) (hB : ∀ k ∈ fp, k < B) (hB2 : ∀ k ∈ fq, B ≤ k)
    (hlen : l.length ≤ 1000000) (hlen2 : r.length ≤ 1000000)
    (hK' : ∀ v' w' fp', (Lay.slice T E).ow w' [v'] (l ++ r) fp' → fp'.Nodup → (∀ k ∈ fp', k ∈ fp ∨ k ∈ fq ∨ k = w.heap.size) → w.grownBy w' v.ownBlock → wpList P ops Q rest (a.put o.dst v') w') : wpList P ops Q (o :: rest) a w := by
  refine BigFrame.wpList_want hgd fun K hK => ?_
  obtain ⟨v', w', fp', hrun, h2, h3, h4, h5⟩ := run_app_many (P := P) t o.type ht hinfo hsz hzs hpos h hn hr hnr B hB hB2 hlen hlen2 hby
  unfold Oper.wp execOp
  simp only [ho, resolve, invoke, builtin, Sem.run_bind, Sem.run_pure, Result.andThen_ok, List.map_toArray, List.map_cons, List.map_nil, hs, hy, hrun]
  exact hK _ _ (hK' v' w' fp' h2 h3 h4 h5)

theorem editS {ls : List (List UInt8)} {xs : List Value} {a b N : Int} (hab : a ≤ b) (ha : 0 ≤ a) {k : Nat} (hk : k < ls.length) (hN : (tot (ls.take (k + 1)) : Int) ≤ N) (hne : 0 < (ls[k]).length) :
    frV ls xs a (ks ls.length (k + 1)) = (if (tot (ls.take k) : Int) + (ls[k]).length ≤ a then frV ls xs a (ks ls.length k) ++ [xs.getD k undef] else frV ls xs a (ks ls.length k)) ∧
    bkV ls xs a b (ks ls.length (k + 1)) = (if b ≤ (tot (ls.take k) : Int) then bkV ls xs a b (ks ls.length k) ++ [xs.getD k undef] else bkV ls xs a b (ks ls.length k)) ∧
    hdV ls a b (ks ls.length (k + 1)) = (if ¬ (tot (ls.take k) : Int) + (ls[k]).length ≤ a ∧ (tot (ls.take k) : Int) < a then (ls[k]).take (a - (tot (ls.take k) : Int)).toNat else hdV ls a b (ks ls.length k)) ∧
    tlV ls a b N (ks ls.length (k + 1)) = (if ¬ b ≤ (tot (ls.take k) : Int) ∧ b < (tot (ls.take k) : Int) + (ls[k]).length then (ls[k]).drop (b - (tot (ls.take k) : Int)).toNat else tlV ls a b N (ks ls.length k)) := by
  have h := edit_step (b := b) (N := N) hab ha hk hN hne
  refine ⟨?_, ?_, h.2.2.1, h.2.2.2⟩
  · unfold frV; rw [h.1]; split <;> simp
  · unfold bkV; rw [h.2.1]; split <;> simp

set_option maxHeartbeats 8000000 in
theorem specRopeEdit_ok (A : Option Addr) (ls : List (List UInt8)) (c : Nat) (a m : Int) (Ap : Option Addr) (p : List UInt8) (cp : Nat) (w : World) (hn : ls.length ≤ 9223372036854775807) (hpc : p.length ≤ cp) (hcp9 : cp ≤ 9223372036854775807) (hC : Cs w A ls) (hP : Bs w Ap p)
    (hok : editOk ls a m p = true) :
    Calls Tryd.prog 17 #[.agg #[.slice A ls.length c], .int .i64 a, .int .i64 m, .slice Ap p.length cp] w (GivesRB (editR ls a (a + m) (tot ls) p) true w) := by
  obtain ⟨h1, h2, h3, h4, h5⟩ := (editOk_iff ls a m p).1 hok
  have ra := rCut_range h3
  have rb := rCut_range h4
  have hck := ra.1
  have htot := chunksOk_tot hck
  have hl4 := chunksOk_len hck
  have hne : ∀ k (h : k < ls.length), 0 < (ls[k]).length ∧ (ls[k]).length ≤ 400 := fun k h => ⟨by have := (chunksOk_all hck).1 _ (List.getElem_mem h); exact ((chunkOk_iff _).1 this).1, Nat.le_trans (tot_mem k h) htot⟩
  have htx := chunksText_ok hck
  have hp4 := isText_len h2
  have hcb : cutOk ls.flatten (a + m) = true := by
    have h6 := h4
    unfold rCut at h6
    rw [Bool.and_eq_true, htx] at h6
    unfold cutOk
    rw [chunksOk_text hck, h6.2]; rfl
  have hal := ((Below.refl w.heap.size w).alloc (Nat.le_refl _) (.cells #[.slice A ls.length c] 26)).alloc (by simp) (.cells #[.slice none 0 0] 26)
  have bA := (Boxed.new w 26 (.slice A ls.length c)).alloc (.cells #[.slice none 0 0] 26)
  have bR : Boxed ((w.alloc (.cells #[.slice A ls.length c] 26)).alloc (.cells #[.slice none 0 0] 26)) (w.heap.size + 1) 26 (.slice none 0 0) := by
    have := Boxed.new (w.alloc (.cells #[.slice A ls.length c] 26)) 26 (.slice none 0 0)
    simpa only [World.size_alloc] using this
  obtain ⟨T', hT'⟩ : ∃ T', ls.flatten = T' := ⟨_, rfl⟩
  have hTl : (T'.length : Int) = (tot ls : Int) := by rw [← hT']; rfl
  rw [hT'] at htx hcb ra rb
  have HTX := Lib.hid htx
  have HCB := Lib.hid hcb
  have H3 := Lib.hid h3
  have H2 := Lib.hid h2
  have hTl4 : T'.length ≤ 400 := by omega
  have hm1 : m ≤ (T'.length : Int) - a := by omega
  have hm2 : (T'.length : Int) - m + (p.length : Int) ≤ 400 := by omega
  have ha0 := ra.2.1
  have hab : a + m ≤ (T'.length : Int) := rb.2.2
  have ha4 : a ≤ (T'.length : Int) := ra.2.2
  have HTL := Lib.hid hTl
  clear htx hcb h3 h2 h4 h5 hT' hTl ra rb hok
  go_enter Tryd.func17, Tryd.ntmps17
  go_wp2_with fail
  generalize (w.alloc (.cells #[.slice A ls.length c] 26)).alloc (.cells #[.slice none 0 0] 26) = W1 at *
  refine (specRopeText_any A ls c _ hn (by exact hC.below hal)).mono ?_
  rintro e w2 ⟨v2, rfl, hown2, hb2⟩
  rw [HTX.out] at hown2
  have bA2 := boxed_belowAll bA hb2
  have bR2 := boxed_belowAll bR hb2
  obtain ⟨B2, d2, rfl, hld2, hdm2, hB2⟩ := hown2.form
  have hd29 : d2 ≤ 9223372036854775807 := by unfold maxLen at hdm2; omega
  have hb2 := below_then hal hb2
  have kA2 := bA2.cell
  clear bA bR hown2 hdm2 hal
  go_wp2_with fail
  refine (l04Cut_any A ls c a _ hn (by exact hC.below hb2)).mono ?_
  rintro e w3 ⟨rfl, hb3⟩
  rw [H3.out]
  have bA3 := boxed_belowAll bA2 hb3
  have bR3 := boxed_belowAll bR2 hb3
  have hB3 := hB2.below hb3
  have hb3 := below_then hb2 hb3
  clear bA2 bR2 hB2 hb2 kA2
  go_wp2_with fail
  refine (specCutOk_any B2 T' d2 (a + m) _ hld2 hd29 (by exact hB3)).mono ?_
  rintro e w4 ⟨rfl, hb4⟩
  rw [HCB.out]
  have bA4 := boxed_belowAll bA3 hb4
  have bR4 := boxed_belowAll bR3 hb4
  have hb4 := below_then hb3 hb4
  clear bA3 bR3 hB3 hb3
  go_wp2_with fail
  refine (specTextOk_any Ap p cp _ hpc hcp9 (by exact hP.below hb4)).mono ?_
  rintro e w5 ⟨rfl, hb5⟩
  rw [H2.out]
  have bA5 := boxed_belowAll bA4 hb5
  have bR5 := boxed_belowAll bR4 hb5
  have hb5 := below_then hb4 hb5
  have hs5 := hb5.size
  clear bA4 bR4 hb4
  have hal4 := ((((Below.refl w5.heap.size w5).alloc (Nat.le_refl _) (.cells #[] 46)).alloc (by simp) (.cells #[] 46)).alloc (by simp; omega) (.cells #[] 5)).alloc (by simp; omega) (.cells #[] 5)
  have bA6 := boxed_belowAll bA5 hal4
  have bR6 := boxed_belowAll bR5 hal4
  have hb6 := below_then hb5 hal4
  have bR6' := bR5
  obtain ⟨xs, hV, hR, hone⟩ := hC.vals
  have HI0 := Lib.hid (S4.start w5 ls xs a (a + m) (tot ls))
  have hC5 := hC.below hb5
  have hmN : a + m ≤ (tot ls : Int) := by rw [← HTL.out]; exact hab
  have hm0 : 0 ≤ m := h1
  go_wp2
  go_loopw [11, 12, 13, 14, 15, 16] (fun hd tl l r f i wr => ∃ (k : Nat) (vF vK : Value) (AL : Option Addr) (HD : List UInt8) (cL : Nat) (AR : Option Addr) (TL : List UInt8) (cR : Nat), i = .int .i64 k ∧ k ≤ ls.length ∧ f = .int .i64 (tot (ls.take k) : Nat) ∧ vF = hd ∧ vK = tl ∧ l = .slice AL HD.length cL ∧ r = .slice AR TL.length cR ∧ S4 w5 wr ls xs a (a + m) (tot ls) k vF vK AL HD cL AR TL cR) (fun _ _ _ _ _ i _ => ls.length - (intOf i).toNat)
  case atStart => exact ⟨0, _, _, _, [], _, _, [], _, rfl, Nat.zero_le _, by simp [tot], rfl, rfl, rfl, rfl, HI0.out⟩
  case round =>
    obtain ⟨k, vF, vK, AL, HD, cL, AR, TL, cR, rfl, hk, rfl, rfl, rfl, rfl, rfl, hS⟩ := hrel
    have kA : wr.cell? ⟨w.heap.size, 0, none⟩ = some (.slice A ls.length c) := (boxed_belowAll bA5 hS.bel).cell
    by_cases hlt : k < ls.length
    · have hkx : k < xs.length := by rw [hR.1]; exact hlt
      obtain ⟨b, off, rfl, hbl, hc⟩ := hV k hkx
      obtain ⟨B, d, hxk, hd1, hd2, hBw⟩ := bRd_slice (hR.2 k hkx hlt)
      have hbw := (hb5.trans (hS.bel.mono hb5.size))
      have hcx : wr.cell? ⟨b, off + k, none⟩ = some (.slice B (ls[k]).length d) := ((hbw.cell (p := ⟨b, off + k, none⟩) hbl).trans hc).trans (by rw [hxk])
      have hxe : xs.getD k undef = .slice B (ls[k]).length d := by rw [List.getD_eq_getElem?_getD, List.getElem?_eq_getElem hkx]; exact hxk
      have hE := editS (xs := xs) (a := a) (b := a + m) (N := (tot ls : Int)) (by omega) ha0 hlt (by have := tot_take_le ls (k + 1); omega) (hne k hlt).1
      have ht1 := tot_take ls k hlt
      have ht2 := tot_take_le ls (k + 1)
      have hl1 := hne k hlt
      have hB5 : Bs w5 B ls[k] := hBw.below hb5
      have hlF := frV_len ls xs a (ks ls.length k)
      have hlK := bkV_len ls xs a (a + m) (ks ls.length k)
      have hkl := ks_length ls.length k
      rw [hxe] at hE
      obtain ⟨L, hL⟩ : ∃ L, ls[k] = L := ⟨_, rfl⟩
      obtain ⟨s, hs⟩ : ∃ s, tot (ls.take k) = s := ⟨_, rfl⟩
      rw [hL, hs] at hE ht1
      rw [hL] at hcx hl1 hB5 hd1
      have HT1 := Lib.hid ht1
      rw [ht1] at ht2
      have hzr := hS.bel.size
      have hVN : Vs (wr.alloc (.cells #[.slice B L.length d] 46)) (some ⟨wr.heap.size, 0, none⟩) [.slice B L.length d] := by
        intro j hj
        have : j = 0 := by simpa using hj
        subst this
        exact ⟨_, 0, rfl, by simp, (Boxed.new wr 46 _).cell⟩
      have hal := (Below.refl wr.heap.size wr).alloc (Nat.le_refl _) (.cells #[.slice B L.length d] 46)
      have HVN := Lib.hid hVN
      have HS := Lib.hid hS
      have HE := Lib.hid hE
      have HAL := Lib.hid hal
      have HB5 := Lib.hid hB5
      have HOF := Lib.hid (hS.oF.belowAll hal)
      have HOK := Lib.hid (hS.oK.belowAll hal)
      rw [hs]
      clear hc hxk hxe hE hL hs hVN hal hS hV hR ht1 hBw hB5
      by_cases hF : (s : Int) + (L.length : Int) ≤ a
      · have g1 : ¬ a + m ≤ (s : Int) := by omega
        have g2 : ¬ a + m < (s : Int) + (L.length : Int) := by omega
        have hE := HE.out
        rw [if_pos hF, if_neg g1, if_neg (fun h => h.1 hF), if_neg (fun h => g2 h.2)] at hE
        have HE2 := Lib.hid hE
        clear hE
        go_wp2_with (at_builtin; go_must (refine wpList_app_vals Tryd.underlying24 Tryd.infoCh rfl (by decide) rfl (.tmp 87) (.tmp 93) rfl w5.heap.size vF _ [.slice B L.length d] (some ⟨wr.heap.size, 0, none⟩) 1 1 rfl rfl rfl (by exact HOF.out) (by exact HVN.out) (by simp [Value.oneCell']) (by simp; omega) (by rw [World.size_alloc]; omega) ?_); intro v6 w6 hown6 hg6 hbk6)
        have hS6 := HS.out.headStep HAL.out hown6 hg6 hbk6 HE2.out.1 HE2.out.2.1 HE2.out.2.2.1 HE2.out.2.2.2
        go_roundw
        case rel => exact ⟨k + 1, v6, vK, AL, HD, cL, AR, TL, cR, by go_num, by omega, by rw [HT1.out]; go_num, rfl, rfl, rfl, rfl, hS6⟩
        case measure => simp [intOf]; omega
      · by_cases hB : a + m ≤ (s : Int)
        · have g1 : ¬ (s : Int) < a := by omega
          have hE := HE.out
          rw [if_neg hF, if_pos hB, if_neg (fun h => g1 h.2), if_neg (fun h => h.1 hB)] at hE
          have HE2 := Lib.hid hE
          clear hE
          go_wp2_with (at_builtin; go_must (refine wpList_app_vals Tryd.underlying24 Tryd.infoCh rfl (by decide) rfl (.tmp 108) (.tmp 114) rfl w5.heap.size vK _ [.slice B L.length d] (some ⟨wr.heap.size, 0, none⟩) 1 1 rfl rfl rfl (by exact HOK.out) (by exact HVN.out) (by simp [Value.oneCell']) (by simp; omega) (by rw [World.size_alloc]; omega) ?_); intro v6 w6 hown6 hg6 hbk6)
          have hS6 := HS.out.tailStep HAL.out hown6 hg6 hbk6 HE2.out.1 HE2.out.2.1 HE2.out.2.2.1 HE2.out.2.2.2
          go_roundw
          case rel => exact ⟨k + 1, vF, v6, AL, HD, cL, AR, TL, cR, by go_num, by omega, by rw [HT1.out]; go_num, rfl, rfl, rfl, rfl, hS6⟩
          case measure => simp [intOf]; omega
        · obtain ⟨b0, o0, rfl, _, _⟩ := HB5.out 0 (by omega)
          have hA1 : (some (⟨b0, o0, none⟩ : Addr)) = none → d = 0 := fun e => by cases e
          have hA2 : ∀ x, (some (⟨b0, o0, none⟩ : Addr)) = some x → ∃ g o, x = ⟨g, o, none⟩ := fun x e => by cases e; exact ⟨_, _, rfl⟩
          have hd9 : d ≤ 9223372036854775807 := by unfold maxLen at hd2; omega
          by_cases hs1 : (s : Int) < a
          · by_cases hs2 : a + m < (s : Int) + (L.length : Int)
            · obtain ⟨j1, hj1⟩ : ∃ j1 : Nat, a - (s : Int) = (j1 : Int) := ⟨(a - (s : Int)).toNat, by omega⟩
              have ht1' : (a - (s : Int)).toNat = j1 := by omega
              have hlen1 : (L.take j1).length = j1 := by rw [List.length_take]; omega
              have hsl1 : ∀ W, (Instr.slice 22 (.slice (some ⟨b0, o0, none⟩) L.length d) none (some (.int .i64 (a - (s : Int)))) none).run Tryd.prog W = .ok (.slice (some ⟨b0, o0, none⟩) j1 d) W := fun W => by
                conv => lhs; rw [hj1]
                exact slice_head (some ⟨b0, o0, none⟩) L.length d _ hA1 hA2 (by omega) W
              have hb1 := Bs.take_ HB5.out j1
              have HL1 := Lib.hid hlen1
              have HBT1 := Lib.hid hb1
              obtain ⟨j2, hj2⟩ : ∃ j2 : Nat, a + m - (s : Int) = (j2 : Int) := ⟨(a + m - (s : Int)).toNat, by omega⟩
              have ht2' : (a + m - (s : Int)).toNat = j2 := by omega
              have hlen2 : (L.drop j2).length = L.length - j2 := by rw [List.length_drop]
              obtain ⟨A2, hsl2', hb2, _, _⟩ := slice_part2 (some ⟨b0, o0, none⟩) L.length d j2 w5 L hA1 hA2 rfl (by omega) hd1 hd9 HB5.out
              have hsl2 : ∀ W, (Instr.slice 22 (.slice (some ⟨b0, o0, none⟩) L.length d) (some (.int .i64 (a + m - (s : Int)))) none none).run Tryd.prog W = .ok (.slice A2 (L.length - j2) (d - j2)) W := fun W => by
                conv => lhs; rw [hj2]
                exact hsl2' W
              have HL2 := Lib.hid hlen2
              have HBT2 := Lib.hid hb2
              clear hsl2'
              have hE := HE.out
              rw [if_neg hF, if_neg hB, if_pos ⟨hF, hs1⟩, ht1', if_pos ⟨hB, hs2⟩, ht2'] at hE
              have hS6 := HS.out.mid hE.1 hE.2.1 hE.2.2.1 hE.2.2.2 ⟨by rw [HL1.out]; omega, hd2, HBT1.out⟩ ⟨by rw [HL2.out]; exact Nat.sub_le_sub_right hd1 j2, Nat.le_trans (Nat.sub_le d j2) hd2, HBT2.out⟩
              have HS6 := Lib.hid hS6
              clear hE hS6 hlen1 hj1 hb1 ht1' hlen2 hj2 hb2 ht2'
              go_wp2
              go_roundw
              case rel => exact ⟨k + 1, vF, vK, _, _, _, _, _, _, by go_num, by omega, by rw [HT1.out]; go_num, rfl, rfl, by rw [HL1.out], by rw [HL2.out], HS6.out⟩
              case measure => simp [intOf]; omega
            · obtain ⟨j1, hj1⟩ : ∃ j1 : Nat, a - (s : Int) = (j1 : Int) := ⟨(a - (s : Int)).toNat, by omega⟩
              have ht1' : (a - (s : Int)).toNat = j1 := by omega
              have hlen1 : (L.take j1).length = j1 := by rw [List.length_take]; omega
              have hsl1 : ∀ W, (Instr.slice 22 (.slice (some ⟨b0, o0, none⟩) L.length d) none (some (.int .i64 (a - (s : Int)))) none).run Tryd.prog W = .ok (.slice (some ⟨b0, o0, none⟩) j1 d) W := fun W => by
                conv => lhs; rw [hj1]
                exact slice_head (some ⟨b0, o0, none⟩) L.length d _ hA1 hA2 (by omega) W
              have hb1 := Bs.take_ HB5.out j1
              have HL1 := Lib.hid hlen1
              have HBT1 := Lib.hid hb1
              have hE := HE.out
              rw [if_neg hF, if_neg hB, if_pos ⟨hF, hs1⟩, ht1', if_neg (fun h => hs2 h.2)] at hE
              have hS6 := HS.out.mid hE.1 hE.2.1 hE.2.2.1 (hE.2.2.2.trans HS.out.eT) ⟨by rw [HL1.out]; omega, hd2, HBT1.out⟩ HS.out.bT
              have HS6 := Lib.hid hS6
              clear hE hS6 hlen1 hj1 hb1 ht1'
              go_wp2
              go_roundw
              case rel => exact ⟨k + 1, vF, vK, _, _, _, _, _, _, by go_num, by omega, by rw [HT1.out]; go_num, rfl, rfl, by rw [HL1.out], rfl, HS6.out⟩
              case measure => simp [intOf]; omega
          · by_cases hs2 : a + m < (s : Int) + (L.length : Int)
            · obtain ⟨j2, hj2⟩ : ∃ j2 : Nat, a + m - (s : Int) = (j2 : Int) := ⟨(a + m - (s : Int)).toNat, by omega⟩
              have ht2' : (a + m - (s : Int)).toNat = j2 := by omega
              have hlen2 : (L.drop j2).length = L.length - j2 := by rw [List.length_drop]
              obtain ⟨A2, hsl2', hb2, _, _⟩ := slice_part2 (some ⟨b0, o0, none⟩) L.length d j2 w5 L hA1 hA2 rfl (by omega) hd1 hd9 HB5.out
              have hsl2 : ∀ W, (Instr.slice 22 (.slice (some ⟨b0, o0, none⟩) L.length d) (some (.int .i64 (a + m - (s : Int)))) none none).run Tryd.prog W = .ok (.slice A2 (L.length - j2) (d - j2)) W := fun W => by
                conv => lhs; rw [hj2]
                exact hsl2' W
              have HL2 := Lib.hid hlen2
              have HBT2 := Lib.hid hb2
              clear hsl2'
              have hE := HE.out
              rw [if_neg hF, if_neg hB, if_neg (fun h => hs1 h.2), if_pos ⟨hB, hs2⟩, ht2'] at hE
              have hS6 := HS.out.mid hE.1 hE.2.1 (hE.2.2.1.trans HS.out.eH) hE.2.2.2 HS.out.bH ⟨by rw [HL2.out]; exact Nat.sub_le_sub_right hd1 j2, Nat.le_trans (Nat.sub_le d j2) hd2, HBT2.out⟩
              have HS6 := Lib.hid hS6
              clear hE hS6 hlen2 hj2 hb2 ht2'
              go_wp2
              go_roundw
              case rel => exact ⟨k + 1, vF, vK, _, _, _, _, _, _, by go_num, by omega, by rw [HT1.out]; go_num, rfl, rfl, rfl, by rw [HL2.out], HS6.out⟩
              case measure => simp [intOf]; omega
            · have hE := HE.out
              rw [if_neg hF, if_neg hB, if_neg (fun h => hs1 h.2), if_neg (fun h => hs2 h.2)] at hE
              have hS6 := HS.out.mid hE.1 hE.2.1 (hE.2.2.1.trans HS.out.eH) (hE.2.2.2.trans HS.out.eT) HS.out.bH HS.out.bT
              have HS6 := Lib.hid hS6
              clear hE hS6
              go_wp2
              go_roundw
              case rel => exact ⟨k + 1, vF, vK, _, _, _, _, _, _, by go_num, by omega, by rw [HT1.out]; go_num, rfl, rfl, rfl, rfl, HS6.out⟩
              case measure => simp [intOf]; omega
    · obtain rfl : k = ls.length := by omega
      have hbw := hb5.trans (hS.bel.mono hb5.size)
      have hrd := hR.below hbw
      have rdF := rdF_of (a := a) hrd (ks ls.length ls.length)
      have rdK := rdK_of (a := a) (b := a + m) hrd (ks ls.length ls.length)
      have hkl := ks_length ls.length ls.length
      have hFl := frV_len ls xs a (ks ls.length ls.length)
      have hKl := bkV_len ls xs a (a + m) (ks ls.length ls.length)
      obtain ⟨FL, hFL⟩ : ∃ FL, ofP ls (frP ls a (ks ls.length ls.length)) = FL := ⟨_, rfl⟩
      obtain ⟨KL, hKL⟩ : ∃ KL, ofP ls (bkP ls a (a + m) (ks ls.length ls.length)) = KL := ⟨_, rfl⟩
      have hres : editR ls a (a + m) (tot ls) p = FL ++ (chunksOf (HD ++ (p ++ TL)) ++ KL) := by unfold editR; rw [hFL, hKL, hS.eH, hS.eT]
      have hneF : ∀ x ∈ FL, 0 < x.length ∧ x.length ≤ 1000000 := by rw [← hFL]; exact ofP_ne hne _
      have hneK : ∀ x ∈ KL, 0 < x.length ∧ x.length ≤ 1000000 := by rw [← hKL]; exact ofP_ne hne _
      have hlens := edit_lens ls a (a + m) (tot ls) 400 (fun k h => (hne k h).2) (ks ls.length ls.length)
      rw [hS.eH, hS.eT] at hlens
      obtain ⟨AF, cF, eF, hcF, _, hVF⟩ := hS.oF.form
      obtain ⟨AK, cK, eK, hcK, _, hVK⟩ := hS.oK.form
      rw [hFL] at rdF
      rw [hKL] at rdK
      rw [rdF.1] at eF hcF hFl
      rw [rdK.1] at eK hcK hKl
      have hcsF : Cs wr AF FL := Cs.of_vals hVF rdF
      have hcsK : Cs wr AK KL := Cs.of_vals hVK rdK
      subst eF eK
      have bR7 := boxed_belowAll bR6' hS.bel
      have hown0 : Own (wr.alloc (.cells #[] 5)) wr.heap.size (.slice (some ⟨wr.heap.size, 0, none⟩) 0 0) [] := World.ownsRow_made wr #[] 0 (Nat.le_refl _) (by unfold maxLen; omega) rfl
      have hal := (Below.refl wr.heap.size wr).alloc (Nat.le_refl _) (.cells #[] 5)
      have HBH := Lib.hid (hS.bH.2.2.below hS.bel)
      have HBT := Lib.hid (hS.bT.2.2.below hS.bel)
      have HPR := Lib.hid (hP.below hbw)
      have HO0 := Lib.hid hown0
      have HAL := Lib.hid hal
      have HCF := Lib.hid hcsF
      have HCK := Lib.hid hcsK
      have HNF := Lib.hid hneF
      have HNK := Lib.hid hneK
      have HRES := Lib.hid hres
      have HR7 := Lib.hid bR7
      have HBW := Lib.hid hbw
      have hzw := hbw.size
      clear hS hVF hVK rdF rdK hrd hFL hKL hres hneF hneK hcsF hcsK hown0 hal bR7 hbw hV hR
      go_wp2_with (at_builtin; go_must (first
        | (refine wpList_app_bytes rfl (.tmp 129) (.tmp 130) rfl wr.heap.size _ [] HD AL HD.length cL rfl rfl rfl HO0.out (by exact HBH.out.below HAL.out) (by simp; omega) (by simp) ?_; intro v7 w7 hown7 hg7 _; have h7 := HAL.out.grown hg7 (by simp) (fun j hj => (World.ownsRow.lt HO0.out j hj).1); have HW7 := Lib.hid h7; have HO7 := Lib.hid hown7; have hz7 := h7.size; clear hown7 hg7 h7)
        | (refine wpList_app_bytes rfl (.tmp 131) (.tmp 132) rfl wr.heap.size _ _ p Ap p.length cp rfl rfl rfl HO7.out (by exact HPR.out.below HW7.out) (by simp; omega) hz7 ?_; intro v8 w8 hown8 hg8 _; have h8 := HW7.out.grown hg8 hz7 (fun j hj => (World.ownsRow.lt HO7.out j hj).1); have HW8 := Lib.hid h8; have HO8 := Lib.hid hown8; have hz8 := h8.size; clear hown8 hg8 h8)
        | (refine wpList_app_bytes rfl (.tmp 133) (.tmp 134) rfl wr.heap.size _ _ TL AR TL.length cR rfl rfl rfl HO8.out (by exact HBT.out.below HW8.out) (by simp; omega) hz8 ?_; intro v9 w9 hown9 hg9 _; have h9 := HW8.out.grown hg9 hz8 (fun j hj => (World.ownsRow.lt HO8.out j hj).1); have HW9 := Lib.hid h9; have HO9 := Lib.hid hown9; have hz9 := h9.size; clear hown9 hg9 h9)))
      refine (l04Copy_any AF FL cF _ (by omega) (fun x hx => (HNF.out x hx).2) (by exact HCF.out.below HW9.out)).mono ?_
      rintro e w10 ⟨cs1, fp1, rfl, how1, hnd1, hfp1, hb10⟩
      obtain ⟨M1, q1, rfl, hq1, _, _⟩ := Lay.chunks.read how1
      unfold wSlice
      obtain ⟨T1, hT1⟩ : ∃ T1, [] ++ HD ++ p ++ TL = T1 := ⟨_, rfl⟩
      have hT1' : HD ++ (p ++ TL) = T1 := by rw [← hT1]; simp
      have hown9 := HO9.out
      rw [hT1] at hown9
      obtain ⟨Q9, q9, rfl, hl9, hm9, hB9⟩ := hown9.form
      have hq99 : q9 ≤ 9223372036854775807 := by unfold maxLen at hm9; omega
      have hB10 := hB9.below hb10
      have HB10 := Lib.hid hB10
      have HW10 := Lib.hid (HW9.out.trans (hb10.mono hz9))
      have hz10 := HW10.out.size
      have HH1 := Lib.hid how1
      have HN1 := Lib.hid hnd1
      have HF1 := Lib.hid hfp1
      have HT1 := Lib.hid hT1'
      clear hT1 hT1' hown9 hB9 hB10 hm9 how1 hnd1 hfp1 hb10 HO9
      go_wp2_with fail
      refine (specChunksOf_any Q9 T1 q9 _ hl9 hq99 (by exact HB10.out)).mono ?_
      rintro e w11 ⟨cs2, fp2, rfl, how2, hnd2, hfp2, hb11⟩
      obtain ⟨M2, q2, rfl, hq2, _, _⟩ := Lay.chunks.read how2
      unfold wSlice
      have hml := chunksOk_len (chunksOf_ok T1)
      obtain ⟨ML, hML⟩ : ∃ ML, chunksOf T1 = ML := ⟨_, rfl⟩
      have HML := Lib.hid hML
      rw [hML] at how2 hq2 hml ⊢
      have HH1' := Lib.hid (Lay.chunks.owBelow HH1.out hb11)
      have HL1' := Lib.hid (Lay.chunks.lt HH1.out)
      have HW11 := Lib.hid (HW10.out.trans (hb11.mono hz10))
      have hz11 := HW11.out.size
      have HH2 := Lib.hid how2
      have HN2 := Lib.hid hnd2
      have HF2 := Lib.hid hfp2
      have hz1011 := hb11.size
      have HOB1 : Hid (∀ j, (Value.slice M1 FL.length q1).ownBlock = some j → wr.heap.size ≤ j) := Lib.hid (fun j hj => Nat.le_trans hz9 (HF1.out j (by obtain ⟨es, _, _, _, e⟩ := ow_one HH1.out; rw [e]; exact List.mem_append.2 (.inl (by rw [hj]; simp)))))
      clear hML how2 hnd2 hfp2 hb11 HB10 HH1
      go_wp2_with (at_builtin; go_must (refine wpList_app_many rfl (.tmp 137) (.tmp 139) 24 rfl 46 Lay.bytes (.agg #[.slice none 0 0]) 1 24 Tryd.underlying24 Tryd.infoCh rfl rfl (by decide) (by decide) (.slice M1 FL.length q1) FL ML fp1 fp2 M2 ML.length q2 rfl rfl (by exact HH1'.out) HN1.out (by exact HH2.out) HN2.out w10.heap.size HL1'.out HF2.out (by omega) (by omega) ?_); intro v12 w12 fp12 how12 hnd12 hfp12 hg12; obtain ⟨FM, hFM⟩ : ∃ FM, FL ++ ML = FM := ⟨_, rfl⟩; rw [hFM] at how12; have HFM := Lib.hid hFM; have hfl : FM.length ≤ 1000000 := (by rw [← hFM, List.length_append]; omega); obtain ⟨M12, q12, rfl, hq12, _, _⟩ := Lay.chunks_rd (Lay.chunks.read how12); have h12 := HW11.out.grown hg12 hz11 HOB1.out; have HW12 := Lib.hid h12; have hz12 := h12.size; have HH12 := Lib.hid how12; have HN12 := Lib.hid hnd12; have HF12 := Lib.hid hfp12; have hzg := hg12.size; clear how12 hnd12 hfp12 hg12 h12 hFM)
      refine (l04Copy_any AK KL cK _ (by omega) (fun x hx => (HNK.out x hx).2) (by exact HCK.out.below HW12.out)).mono ?_
      rintro e w13 ⟨cs3, fp3, rfl, how3, hnd3, hfp3, hb13⟩
      obtain ⟨M3, q3, rfl, hq3, _, _⟩ := Lay.chunks.read how3
      unfold wSlice
      have HH12' := Lib.hid (Lay.chunks.owBelow HH12.out hb13)
      have HL12 := Lib.hid (Lay.chunks.lt HH12.out)
      have HW13 := Lib.hid (HW12.out.trans (hb13.mono hz12))
      have hz13 := HW13.out.size
      have HH3 := Lib.hid how3
      have HN3 := Lib.hid hnd3
      have HF3 := Lib.hid hfp3
      have HFA : Hid (∀ j ∈ fp12, wr.heap.size ≤ j) := Lib.hid (fun j hj => by
        rcases HF12.out j hj with h | h | h
        · exact Nat.le_trans hz9 (HF1.out j h)
        · exact Nat.le_trans hz10 (HF2.out j h)
        · rw [h]; exact hz11)
      have HOB12 : Hid (∀ j, (Value.slice M12 FM.length q12).ownBlock = some j → wr.heap.size ≤ j) := Lib.hid (fun j hj => HFA.out j (by obtain ⟨es, _, _, _, e⟩ := ow_one HH12.out; rw [e]; exact List.mem_append.2 (.inl (by rw [hj]; simp))))
      have hsz1213 := hb13.size
      clear how3 hnd3 hfp3 hb13 HH12
      go_wp2_with (at_builtin; go_must (refine wpList_app_many rfl (.tmp 140) (.tmp 142) 24 rfl 46 Lay.bytes (.agg #[.slice none 0 0]) 1 24 Tryd.underlying24 Tryd.infoCh rfl rfl (by decide) (by decide) (.slice M12 FM.length q12) FM KL fp12 fp3 M3 KL.length q3 rfl rfl (by exact HH12'.out) HN12.out (by exact HH3.out) HN3.out w12.heap.size HL12.out HF3.out hfl (by omega) ?_); intro v14 w14 fp14 how14 hnd14 hfp14 hg14; obtain ⟨EL, hEL⟩ : ∃ EL, FM ++ KL = EL := ⟨_, rfl⟩; rw [hEL] at how14; have HEL := Lib.hid hEL; obtain ⟨M14, q14, rfl, hq14, _, _⟩ := Lay.chunks_rd (Lay.chunks.read how14); have h14 := HW13.out.grown hg14 hz13 HOB12.out; have HW14 := Lib.hid h14; have hz14 := h14.size; have HH14 := Lib.hid how14; have HN14 := Lib.hid hnd14; have HF14 := Lib.hid hfp14; have hr14 := boxed_belowAll HR7.out h14; have cR14 : w14.cell? ⟨w.heap.size + 1, 0, none⟩ = some (.slice none 0 0) := hr14.cell; have gR14 : w14.frozen? ⟨w.heap.size + 1, 0, none⟩ = false := hr14.frozen; clear how14 hnd14 hfp14 hg14 h14 hEL)
      have hFA14 : ∀ j ∈ fp14, wr.heap.size ≤ j := fun j hj => by
        rcases HF14.out j hj with h | h | h
        · exact HFA.out j h
        · exact Nat.le_trans hz12 (HF3.out j h)
        · rw [h]; exact hz13
      have hr7l := HR7.out.lt
      have hfin : editR ls a (a + m) (tot ls) p = EL := by rw [HRES.out, HT1.out, HML.out, ← HEL.out, ← HFM.out, List.append_assoc]
      have how15 := Lay.chunks_setBelow HH14.out (a := ⟨w.heap.size + 1, 0, none⟩) (fun h => by have := hFA14 _ h; simp at this; omega) (.slice M14 EL.length q14)
      refine bodyPost_ret (v := .tuple #[.agg #[.slice M14 EL.length q14], .bool true]) (by simp [results, Tryd.results17, go_sem, cR14]) rfl ?_
      rw [hfin]
      exact ⟨_, fp14, rfl, how15, HN14.out, fun j hj => by have := hFA14 j hj; omega, (HBW.out.trans (HW14.out.mono hzw)).setCell (p := ⟨w.heap.size + 1, 0, none⟩) (by simp) _⟩
end Go.Proofs.YthnahenpnafkmaaDoor
