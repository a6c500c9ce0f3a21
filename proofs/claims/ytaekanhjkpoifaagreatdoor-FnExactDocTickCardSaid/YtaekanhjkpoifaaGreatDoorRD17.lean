/-
 Chapter 10, copies of members and documents in the program: contracts. Own work.
-/
import Derived.Test.YtaekanhjkpoifaaGreatDoorRD16
import Derived.Test.YtaekanhjkpoifaaGreatDoorRD13
namespace Go.Proofs.YtaekanhjkpoifaaGreatDoor
open Go.RowKit P
set_option linter.unusedVariables false
set_option linter.unusedSimpArgs false
set_option maxRecDepth 100000

theorem run_app_mv {P : Program} {α : Type} {T : TypeId} {E : Lay α} {w : World} {v : Value} {l : List α} {fp : List Nat} {us : List Value} {x : α} {fx : List Nat} {z : Value} {size bytes : Nat} (t ty : TypeId) (ht : P.underlying t = some (.slice T))
  (hinfo : (P.info? T).map (fun i => (i.zero, i.size, i.bytes)) = some (some z, size, bytes)) (hsz : size = E.sz) (hzs : z.cells.size = size) (hpos : 0 < size)
  (h : (Lay.slice T E).ow w [v] l fp) (hn : fp.Nodup) (hx : E.ow w us x fx) (hnx : fx.Nodup) (hd : ∀ k ∈ fp, k ∉ fx)
  (a : Addr) (c : Nat) (hc : ∀ j u, us[j]? = some u → w.cell? (a.add j) = some u) (hlen : l.length ≤ 1000000) (hby : bytes ≤ 10000) :
  ∃ v' w' fp', (Builtin.append_ #[t, t] ty #[v, .slice (some a) 1 c]).run P w = .ok v' w' ∧ (Lay.slice T E).ow w' [v'] (l ++ [x]) fp' ∧ fp'.Nodup ∧ (∀ k ∈ fp', k ∈ fp ∨ k ∈ fx ∨ k = w.heap.size) ∧ w.grownBy w' v.ownBlock ∧ (v'.ownBlock = v.ownBlock ∨ v'.ownBlock = some w.heap.size) := by
 obtain ⟨es, rfl, hrow, hes, rfl⟩ := ow_one h
 obtain ⟨i, hi, hz, hs, hb⟩ := info_parts hinfo
 rw [List.length_map] at hlen
 have hus : us.length = E.sz := E.len (E.read hx)
 have hmul : (es.length + 1) * bytes ≤ 140737488355328 := by
  have : (es.length + 1) * bytes ≤ 1000001 * 10000 := Nat.mul_le_mul (by omega) hby
  omega
 obtain ⟨v', w', hrun, h2, h3, _, h5⟩ := run_append_own_at (P := P) w 0 t ty T i z size bytes ht hi hz hs hb hzs hpos v es.length (es.flatMap (·.1)) (by rw [hsz]; exact hrow) a 1 c us
  (by rw [hus, hsz, Nat.one_mul]) hc (E.one (E.read hx)) (by unfold maxLen; omega) hmul (Nat.zero_le _)
 rw [hsz] at h2
 rw [List.nodup_append] at hn
 obtain ⟨n1, n2, n3⟩ := hn
 have hkeep : ∀ k, k < w.heap.size → (∀ g, v.ownBlock = some g → k ≠ g) → w'.heap[k]? = w.heap[k]? := fun k hk hne => h3.block k hk (fun e => hne k e.symm rfl)
 have hsz' := h3.size
 refine ⟨v', w', v'.ownBlock.toList ++ (es.flatMap (·.2.2) ++ fx), hrun, ⟨v', es ++ [(us, x, fx)], rfl, by simp, ?_, ?_, by simp⟩, ?_, ?_, h3, h5⟩
 ·have e1 : (es ++ [(us, x, fx)]).length = es.length + 1 := by simp
  have e2 : (es ++ [(us, x, fx)]).flatMap (·.1) = es.flatMap (·.1) ++ us := by simp
  rw [e1, e2]
  exact h2
 ·intro e he
  rcases List.mem_append.1 he with he | he
  ·refine E.kept (hes e he) (fun k hk => hkeep k (E.lt (hes e he) k hk) (fun g hg hkg => ?_)) hsz'
   subst hkg
   exact n3 k (by rw [hg]; simp) k (List.mem_flatMap.2 ⟨e, he, hk⟩) rfl
  ·have : e = (us, x, fx) := by simpa using he
   subst this
   refine E.kept hx (fun k hk => hkeep k (E.lt hx k hk) (fun g hg hkg => ?_)) hsz'
   subst hkg
   exact hd k (List.mem_append.2 (.inl (by rw [hg]; simp))) hk
 ·rw [List.nodup_append]
  refine ⟨by cases v'.ownBlock <;> simp, ?_, fun p hp q hq hpq => ?_⟩
  ·rw [List.nodup_append]
   exact ⟨n2, hnx, fun a ha b hb e => hd a (List.mem_append.2 (.inr ha)) (by rw [e]; exact hb)⟩
  subst hpq
  have hlt : p < w.heap.size := by
   rcases List.mem_append.1 hq with hq | hq
   ·obtain ⟨e, he, hk⟩ := List.mem_flatMap.1 hq
    exact E.lt (hes e he) p hk
   ·exact E.lt hx p hq
  have hp' : v'.ownBlock = some p := by simpa using hp
  rcases h5 with h5 | h5
  ·rw [hp'] at h5
   rcases List.mem_append.1 hq with hq | hq
   ·exact n3 p (by rw [← h5]; simp) p hq rfl
   ·exact hd p (List.mem_append.2 (.inl (by rw [← h5]; simp))) hq
  ·rw [hp'] at h5
   injection h5 with h5
   omega
 ·intro k hk
  rcases List.mem_append.1 hk with hk | hk
  ·have hk' : v'.ownBlock = some k := by simpa using hk
   rcases h5 with h5 | h5
   ·left; exact List.mem_append.2 (.inl (by rw [← h5, hk']; simp))
   ·right; right; rw [hk'] at h5; injection h5
  ·rcases List.mem_append.1 hk with hk | hk
   ·left; exact List.mem_append.2 (.inr hk)
   ·right; left; exact hk
/-- append of one element that lay elsewhere, with what it owns, inside a region that draws its order. -/
theorem step_app_mv {P : Program} {w : World} {ops : Array Oper} {o : Oper} {a : Act} {K : Act → World → Prop} {Q : Exit → Act → World → Prop} {X : Prop} (hgd : o.guard = none) (s y : Operand) (t : TypeId)
  (ho : o.op = .call { callee := .builtin .append, args := #[s, y], argTypes := #[t, t] })
  {α : Type} (T : TypeId) (E : Lay α) (z : Value) (size bytes : Nat) (ht : P.underlying t = some (.slice T))
  (hinfo : (P.info? T).map (fun i => (i.zero, i.size, i.bytes)) = some (some z, size, bytes)) (hsz : size = E.sz) (hzs : z.cells.size = size) (hpos : 0 < size) (hby : bytes ≤ 10000)
  (v : Value) (l : List α) (fp : List Nat) (us : List Value) (x : α) (fx : List Nat) (ad : Addr) (c : Nat) (hs : a.eval s = v) (hy : a.eval y = .slice (some ad) 1 c)
  (h : (Lay.slice T E).ow w [v] l fp) (hn : fp.Nodup) (hx : E.ow w us x fx) (hnx : fx.Nodup) (hd : ∀ k ∈ fp, k ∉ fx)
  (hc : ∀ j u, us[j]? = some u → w.cell? (ad.add j) = some u) (hlen : l.length ≤ 1000000)
  (hK : ∀ v' w' fp', (Lay.slice T E).ow w' [v'] (l ++ [x]) fp' → fp'.Nodup → (∀ k ∈ fp', k ∈ fp ∨ k ∈ fx ∨ k = w.heap.size) → w.grownBy w' v.ownBlock → (v'.ownBlock = v.ownBlock ∨ v'.ownBlock = some w.heap.size) → K (a.put o.dst v') w') :
  if Region.wanted o (yielded ops a.tmps) = true then Oper.wp P o a w K Q else X := by
 obtain ⟨v', w', fp', hrun, h2, h3, h4, h5, h6⟩ := run_app_mv (P := P) t o.type ht hinfo hsz hzs hpos h hn hx hnx hd ad c hc hlen hby
 have hw : Region.wanted o (yielded ops a.tmps) = true := by simp [Region.wanted, hgd]
 rw [if_pos hw]
 unfold Oper.wp execOp
 simp only [ho, resolve, invoke, builtin, Sem.run_bind, Sem.run_pure, Result.andThen_ok, List.map_toArray, List.map_cons, List.map_nil, hs, hy, hrun]
 exact hK v' w' fp' h2 h3 h4 h5 h6
/-- The elements of an own list of edits. -/
theorem el_at {w : World} {A : Option Addr} {L : List Ed} {c : Nat} {fp : List Nat} (h : Lay.edits.ow w [.slice A L.length c] L fp) (hn : fp.Nodup) :
  ∃ els : List (El Ed), L = els.map (·.2.1) ∧ (∀ e ∈ els, ∀ q ∈ e.2.2, q ∈ fp) ∧ (els.flatMap (·.2.2)).Nodup ∧
   ∀ k (hk : k < els.length), ∃ g P pc, A = some ⟨g, 0, none⟩ ∧ g < w.heap.size ∧ els[k].1 = [.int .i64 els[k].2.1.1, .int .i64 els[k].2.1.2.1, .slice P els[k].2.1.2.2.length pc] ∧
    Lay.edit.ow w els[k].1 els[k].2.1 els[k].2.2 ∧ w.cell? ⟨g, k * 3, none⟩ = some (.int .i64 els[k].2.1.1) ∧ w.cell? ⟨g, k * 3 + 1, none⟩ = some (.int .i64 els[k].2.1.2.1) ∧ w.cell? ⟨g, k * 3 + 2, none⟩ = some (.slice P els[k].2.1.2.2.length pc) := by
 obtain ⟨els, hL, hrow, hes, hfp⟩ := ow_one h
 refine ⟨els, hL, fun e he q hq => by rw [hfp]; exact List.mem_append.2 (.inr (List.mem_flatMap.2 ⟨e, he, hq⟩)), by rw [hfp, List.nodup_append] at hn; exact hn.2.1, fun k hk => ?_⟩
 have hlen : ∀ e ∈ els, (e.1 : List Value).length = 3 := fun e he => Lay.edit.len (Lay.edit.read (hes e he))
 obtain ⟨A', c', e', _, _, hcell⟩ := ownsRow_form hrow
 simp only [Value.slice.injEq] at e'
 obtain ⟨rfl, _, _⟩ := e'
 obtain ⟨v, hcs, hown, hfq⟩ := edit_ow_inv (hes els[k] (List.getElem_mem hk))
 obtain ⟨P, pc, hv, _, _, _⟩ := hown.form
 rw [hv] at hcs
 have key : ∀ j (hj : j < (els[k].1).length), ∃ b, A = some ⟨b, 0, none⟩ ∧ b < w.heap.size ∧ w.cell? ⟨b, k * 3 + j, none⟩ = some (els[k].1)[j] := by
  intro j hj
  obtain ⟨hi, hvv⟩ := List.getElem?_eq_some_iff.1 (flat_get 3 els (·.1) hlen k hk j hj)
  obtain ⟨b, hA, hb, hc⟩ := hcell (k * 3 + j) hi
  exact ⟨b, hA, hb, by rw [hc, hvv]⟩
 have hl3 := hlen els[k] (List.getElem_mem hk)
 obtain ⟨g, hA, hg, h0⟩ := key 0 (by omega)
 obtain ⟨g1, hA1, _, h1⟩ := key 1 (by omega)
 obtain ⟨g2, hA2, _, h2⟩ := key 2 (by omega)
 rw [hA] at hA1 hA2
 simp only [Option.some.injEq, Addr.mk.injEq, true_and, and_true] at hA1 hA2
 subst hA1; subst hA2
 simp only [hcs, Nat.add_zero, List.getElem_cons_zero, List.getElem_cons_succ] at h0 h1 h2
 exact ⟨g, P, pc, hA, hg, hcs, hes els[k] (List.getElem_mem hk), h0, h1, h2⟩
/-- A log whose edits came out of another list. -/
structure MvL (w : World) (v : Value) (lg : List Cm) (fl : List Nat) (N1 : Nat) (S : List Nat) : Prop where
 ow : Lay.commits.ow w [v] lg fl
 nd : fl.Nodup
 sub : ∀ q ∈ fl, N1 ≤ q ∨ q ∈ S
 row : ∀ q ∈ v.ownBlock.toList, N1 ≤ q
theorem MvL.below {w w' : World} {v : Value} {lg : List Cm} {fl : List Nat} {N1 : Nat} {S : List Nat} (h : MvL w v lg fl N1 S) (hb : Below w.heap.size w w') : MvL w' v lg fl N1 S := ⟨Lay.commits.owBelow h.ow hb, h.nd, h.sub, h.row⟩
theorem MvL.keeps {w w' : World} {v : Value} {lg : List Cm} {fl fq : List Nat} {N1 : Nat} {S : List Nat} (h : MvL w v lg fl N1 S) (hk : Keeps fq w w') (hd : ∀ k ∈ fl, k ∉ fq) : MvL w' v lg fl N1 S := ⟨Lay.commits.keeps h.ow hk hd, h.nd, h.sub, h.row⟩
theorem MvL.lt {w : World} {v : Value} {lg : List Cm} {fl : List Nat} {N1 : Nat} {S : List Nat} (h : MvL w v lg fl N1 S) : ∀ q ∈ fl, q < w.heap.size := fun q hq => Lay.commits.lt h.ow q hq
theorem fp5i {fs ft fl fm fe : List Nat} {N0 N1 N2 N3 N4 : Nat} (ns : fs.Nodup) (nt : ft.Nodup) (nl : fl.Nodup) (nm : fm.Nodup) (ne : fe.Nodup)
  (hs : ∀ k ∈ fs, N0 ≤ k ∧ k < N1) (ht : ∀ k ∈ ft, N1 ≤ k ∧ k < N2) (hl : ∀ k ∈ fl, N2 ≤ k ∧ k < N3) (hm : ∀ k ∈ fm, N3 ≤ k ∧ k < N4) (he : ∀ k ∈ fe, N4 ≤ k) (h01 : N0 ≤ N1) (h12 : N1 ≤ N2) (h23 : N2 ≤ N3) (h34 : N3 ≤ N4) :
  (fs ++ (ft ++ (fl ++ (fm ++ fe)))).Nodup ∧ ∀ k ∈ fs ++ (ft ++ (fl ++ (fm ++ fe))), N0 ≤ k := by
 constructor
 ·rw [List.nodup_append]
  refine ⟨ns, ?_, fun a ha b hb e => ?_⟩
  ·rw [List.nodup_append]
   refine ⟨nt, ?_, fun a ha b hb e => ?_⟩
   ·rw [List.nodup_append]
    refine ⟨nl, ?_, fun a ha b hb e => ?_⟩
    ·rw [List.nodup_append]
     exact ⟨nm, ne, fun a ha b hb e => by have := hm a ha; have := he b hb; omega⟩
    ·rcases List.mem_append.1 hb with h | h
     ·have := hl a ha; have := hm b h; omega
     ·have := hl a ha; have := he b h; omega
   ·have := ht a ha
    simp only [List.mem_append] at hb
    rcases hb with h | h | h
    ·have := hl b h; omega
    ·have := hm b h; omega
    ·have := he b h; omega
  ·have := hs a ha
   simp only [List.mem_append] at hb
   rcases hb with h | h | h | h
   ·have := ht b h; omega
   ·have := hl b h; omega
   ·have := hm b h; omega
   ·have := he b h; omega
 ·intro k hk
  simp only [List.mem_append] at hk
  rcases hk with h | h | h | h | h
  ·exact (hs k h).1
  ·have := ht k h; omega
  ·have := hl k h; omega
  ·have := hm k h; omega
  ·have := he k h; omega
/-- A member of the call's own, as a call gives it. -/
def GivesMb (m : Mb) (w : World) (e : Ending) (w' : World) : Prop := ∃ A c fp B d gp, e = .returned (.agg #[.int .i64 m.1, .int .i64 m.2.1.1, .int .i64 m.2.1.2, .slice A m.2.2.1.length c, .slice B m.2.2.2.length d]) ∧ OwS w' w.heap.size A m.2.2.1 c fp B m.2.2.2 d gp ∧ Below w.heap.size w w'
theorem canT_six {t : List UInt8} {u r : List Ed} (h : canT t u r = true) : u.length ≤ 6 ∧ r.length ≤ 6 := by
 unfold canT stOk at h
 simp only [Bool.and_eq_true] at h
 obtain ⟨⟨h1, h2⟩, _⟩ := h
 exact ⟨stFit_len h1, stFit_len h2⟩
theorem docOk_mem_six {d : Dc} (h : docOk d = true) : ∀ m ∈ d.mem, m.2.2.1.length ≤ 6 ∧ m.2.2.2.length ≤ 6 := by
 intro m hm
 have h2 : memOk d.text 0 d.mem = true := by
  cases h3 : memOk d.text 0 d.mem
  ·rw [docOk_mem h3] at h; cases h
  ·rfl
 exact canT_six (memOk_each _ _ h2 m hm)

set_option maxHeartbeats 8000000 in
theorem memberCopied_any (s f t : Int) (U : Option Addr) (u : List Ed) (uc : Nat) (R : Option Addr) (r : List Ed) (rc : Nat) (w : World) (hul : u.length ≤ 100) (hrl : r.length ≤ 100) (hup : ∀ e ∈ u, e.2.2.length ≤ 1000) (hrp : ∀ e ∈ r, e.2.2.length ≤ 1000) (hU : Es w U u) (hR : Es w R r) :
  Calls Tryz.prog 59 #[.agg #[.int .i64 s, .int .i64 f, .int .i64 t, .slice U u.length uc, .slice R r.length rc]] w (GivesMb (s, (f, t), (u, r)) w) := by
 have hal := ((Below.refl w.heap.size w).alloc (Nat.le_refl _) (.cells #[.int .i64 s, .int .i64 f, .int .i64 t, .slice U u.length uc, .slice R r.length rc] 50)).alloc (by simp) (.cells #[.int .i64 0, .int .i64 0, .int .i64 0, .slice none 0 0, .slice none 0 0] 50)
 have hbx := (Blk.new w #[.int .i64 s, .int .i64 f, .int .i64 t, .slice U u.length uc, .slice R r.length rc] 50).alloc (.cells #[.int .i64 0, .int .i64 0, .int .i64 0, .slice none 0 0, .slice none 0 0] 50)
 have hrx := Blk.new (w.alloc (.cells #[.int .i64 s, .int .i64 f, .int .i64 t, .slice U u.length uc, .slice R r.length rc] 50)) #[.int .i64 0, .int .i64 0, .int .i64 0, .slice none 0 0, .slice none 0 0] 50
 simp only [World.size_alloc] at hrx
 have hzw : ((w.alloc (.cells #[.int .i64 s, .int .i64 f, .int .i64 t, .slice U u.length uc, .slice R r.length rc] 50)).alloc (.cells #[.int .i64 0, .int .i64 0, .int .i64 0, .slice none 0 0, .slice none 0 0] 50)).heap.size = w.heap.size + 2 := by simp
 have HB := Lib.hid hal
 have BX := Lib.hid hbx
 have RX := Lib.hid hrx
 have HU := Lib.hid (show ∀ W, Below w.heap.size w W → Es W U u from fun W h => hU.below h)
 have HRR := Lib.hid (show ∀ W, Below w.heap.size w W → Es W R r from fun W h => hR.below h)
 have zs := BX.out.lt
 have p0 := BX.out.cell 0
 clear hal hbx hrx hU hR
 go_enter Tryz.func59, Tryz.ntmps59
 go_upto_region 1 with fail
 generalize (w.alloc (.cells #[.int .i64 s, .int .i64 f, .int .i64 t, .slice U u.length uc, .slice R r.length rc] 50)).alloc (.cells #[.int .i64 0, .int .i64 0, .int .i64 0, .slice none 0 0, .slice none 0 0] 50) = W at *
 have hz1 : w.heap.size + 2 ≤ W.heap.size := Nat.le_of_eq hzw.symm
 clear hzw
 have HS := Lib.hid (show ∀ Y, Below W.heap.size W Y → (fun V : World => V.cell? ⟨w.heap.size, 0, none⟩ = some (.int .i64 s)) Y from fun Y h => (h.cell (p := ⟨w.heap.size, 0, none⟩) zs).trans p0)
 refine wp_region_held_drew (S := (fun V => V.cell? ⟨w.heap.size, 0, none⟩ = some (.int .i64 s))) (by kernel_rfl) (by exact HS.out _ (Below.refl _ _).drew) (fun hHeld => ?_)
 refine wpAnyH_take (i := 0) (oi := ?_) (v := ?_) ?_ ?_ ?_ ?_ ?_ ?_ (by exact hHeld) ?_
 rotate_left 2
 ·(simp only [List.getElem?_toArray, List.getElem?_cons_zero]; try rfl)
 ·kernel_rfl
 ·kernel_rfl
 ·kernel_rfl
 ·exact fun _ _ _ h => h
 ·refine Or.inl ⟨by rfl, ?_⟩
  (intro V hSV; (try dsimp only at hSV); have q0 := hSV; go_simp; try with_reducible rfl)
 (try simp only [LY9])
 refine wpAnyH_take (i := 1) (oi := ?_) (v := ?_) ?_ ?_ ?_ ?_ ?_ ?_ (by exact hHeld) ?_
 rotate_left 2
 ·(simp only [LX9]; try rfl)
 ·kernel_rfl
 ·kernel_rfl
 ·kernel_rfl
 ·exact fun _ _ _ h => h
 ·refine Or.inl ⟨by rfl, ?_⟩
  (intro V hSV; (try dsimp only at hSV); have q0 := hSV; go_simp; try with_reducible rfl)
 (try simp only [LY9])
 refine wpAnyH_take (i := 4) (oi := ?_) (v := ?_) ?_ ?_ ?_ ?_ ?_ ?_ (by exact hHeld) ?_
 rotate_left 2
 ·(simp only [LX9]; try rfl)
 ·kernel_rfl
 ·kernel_rfl
 ·kernel_rfl
 ·exact fun _ _ _ h => h
 ·refine Or.inl ⟨by rfl, ?_⟩
  (intro V hSV; (try dsimp only at hSV); have q0 := hSV; go_simp; try with_reducible rfl)
 (try simp only [LY9])
 refine wpAnyH_take (i := 5) (oi := ?_) (v := ?_) ?_ ?_ ?_ ?_ ?_ ?_ (by exact hHeld) ?_
 rotate_left 2
 ·(simp only [LX9]; try rfl)
 ·kernel_rfl
 ·kernel_rfl
 ·kernel_rfl
 ·exact fun _ _ _ h => h
 ·refine Or.inl ⟨by rfl, ?_⟩
  (intro V hSV; (try dsimp only at hSV); have q0 := hSV; go_simp; try with_reducible rfl)
 (try simp only [LY9])
 have HE := Lib.hid (show Below W.heap.size W W.drew from (Below.refl _ _).drew)
 generalize W.drew = Y at *
 apply meetAt (T := ∀ (Y : World) (A1 : Option Addr) (c1 : Nat) (f1 : List Nat), Hid (Below W.heap.size W Y) → Hid (OwE Y W.heap.size A1 u c1 f1) → Hid (∀ k ∈ f1, k < Y.heap.size) → _)
 intro tail2_3_6
 apply meetAt (T := ∀ (Y : World), Hid (Below W.heap.size W Y) → _)
 intro tail2_6
 refine wpAnyH_ready (rs := [2, 6]) (by kernel_rfl) (by simp) ?_
 refine AllReadyH.cons (o := ?_) ?_ (fun K hK => ?_) ?_
 rotate_left 1
 ·(simp only [LX9]; try rfl)
 ·have ql := (BX.out.below HE.out).cell 3
  go_simp
  clear ql
  refine hK.out _ _ (by exact HS.out _ HE.out) (fun hHeld => ?_)
  clear hK K
  (try simp only [LY9])
  refine wpAnyH_ready (rs := [3, 6]) (by kernel_rfl) (by simp) ?_
  refine AllReadyH.cons (o := ?_) ?_ (fun K hK => ?_) ?_
  rotate_left 1
  ·(simp only [LX9]; try rfl)
  ·go_simp
   refine (copiedEdits_any U u uc _ _ rfl hul hup (HU.out _ (below_then HB.out HE.out))).mono ?_
   rintro e Y ⟨A1, c1, f1, rfl, ho, hb⟩
   have H1 := Lib.hid (ho.mono HE.out.size)
   have HR1 := Lib.hid (show ∀ k ∈ f1, k < Y.heap.size from fun k hk => (ho.range k hk).2)
   have HE := Lib.hid (below_then HE.out hb)
   clear ho hb
   go_wp2_with fail
   refine hK.out _ _ (by exact HS.out _ HE.out) (fun hHeld => ?_)
   clear hK K
   (try simp only [LY9])
   refine wpAnyH_ready (rs := [6]) (by kernel_rfl) (by simp) ?_
   refine AllReadyH.cons (o := ?_) ?_ (fun K hK => ?_) AllReadyH.nil
   rotate_left 1
   ·(simp only [LX9]; try rfl)
   have ql := (BX.out.below HE.out).cell 4
   go_simp
   clear ql
   refine hK.out _ _ (by exact HS.out _ HE.out) (fun hHeld => ?_)
   clear hK K
   (try simp only [LY9])
   exact tail2_3_6 Y A1 c1 f1 HE H1 HR1
  refine AllReadyH.cons (o := ?_) ?_ (fun K hK => ?_) AllReadyH.nil
  rotate_left 1
  ·(simp only [LX9]; try rfl)
  have ql := (BX.out.below HE.out).cell 4
  go_simp
  clear ql
  refine hK.out _ _ (by exact HS.out _ HE.out) (fun hHeld => ?_)
  clear hK K
  (try simp only [LY9])
  exact tail2_6 Y HE
 refine AllReadyH.cons (o := ?_) ?_ (fun K hK => ?_) AllReadyH.nil
 rotate_left 1
 ·(simp only [LX9]; try rfl)
 have ql := (BX.out.below HE.out).cell 4
 go_simp
 clear ql
 refine hK.out _ _ (by exact HS.out _ HE.out) (fun hHeld => ?_)
 clear hK K
 (try simp only [LY9])
 refine wpAnyH_ready (rs := [2]) (by kernel_rfl) (by simp) ?_
 refine AllReadyH.cons (o := ?_) ?_ (fun K hK => ?_) AllReadyH.nil
 rotate_left 1
 ·(simp only [LX9]; try rfl)
 have ql := (BX.out.below HE.out).cell 3
 go_simp
 clear ql
 refine hK.out _ _ (by exact HS.out _ HE.out) (fun hHeld => ?_)
 clear hK K
 (try simp only [LY9])
 exact tail2_6 Y HE
 intro Y HE
 have hHeld := HS.out _ HE.out
 refine wpAnyH_ready (rs := [3]) (by kernel_rfl) (by simp) ?_
 refine AllReadyH.cons (o := ?_) ?_ (fun K hK => ?_) AllReadyH.nil
 rotate_left 1
 ·(simp only [LX9]; try rfl)
 go_simp
 refine (copiedEdits_any U u uc _ _ rfl hul hup (HU.out _ (below_then HB.out HE.out))).mono ?_
 rintro e Y ⟨A1, c1, f1, rfl, ho, hb⟩
 have H1 := Lib.hid (ho.mono HE.out.size)
 have HR1 := Lib.hid (show ∀ k ∈ f1, k < Y.heap.size from fun k hk => (ho.range k hk).2)
 have HE := Lib.hid (below_then HE.out hb)
 clear ho hb
 go_wp2_with fail
 refine hK.out _ _ (by exact HS.out _ HE.out) (fun hHeld => ?_)
 clear hK K
 (try simp only [LY9])
 exact tail2_3_6 Y A1 c1 f1 HE H1 HR1
 intro Y A1 c1 f1 HE H1 HR1
 have hHeld := HS.out _ HE.out
 refine wpAnyH_ready (rs := [7]) (by kernel_rfl) (by simp) ?_
 refine AllReadyH.cons (o := ?_) ?_ (fun K hK => ?_) AllReadyH.nil
 rotate_left 1
 ·(simp only [LX9]; try rfl)
 go_simp
 have hlt1 := fun k hk => (H1.out.range k hk).2
 refine (copiedEdits_any R r rc _ _ rfl hrl hrp (HRR.out _ (below_then HB.out HE.out))).mono ?_
 rintro e Y ⟨A2, c2, f2, rfl, ho, hb⟩
 have HD := Lib.hid (show ∀ k ∈ f1, k ∉ f2 from fun k h1 h2 => by have := hlt1 k h1; have := (ho.range k h2).1; omega)
 have H1 := Lib.hid (H1.out.below hb)
 have H2 := Lib.hid (ho.mono HE.out.size)
 clear hlt1
 have HE := Lib.hid (below_then HE.out hb)
 clear ho hb
 go_wp2_with fail
 refine hK.out _ _ (by exact HS.out _ HE.out) (fun hHeld => ?_)
 clear hK K
 (try simp only [LY9])
 refine wpAnyH_take (i := 8) (oi := ?_) (v := ?_) ?_ ?_ ?_ ?_ ?_ ?_ (by exact hHeld) ?_
 rotate_left 2
 ·(simp only [LX9]; try rfl)
 ·kernel_rfl
 ·kernel_rfl
 ·kernel_rfl
 ·exact fun _ _ _ h => h
 ·refine Or.inl ⟨by rfl, ?_⟩
  (intro V hSV; (try dsimp only at hSV); have q0 := hSV; go_simp; try with_reducible rfl)
 (try simp only [LY9])
 refine wpAnyH_take (i := 9) (oi := ?_) (v := ?_) ?_ ?_ ?_ ?_ ?_ ?_ (by exact hHeld) ?_
 rotate_left 2
 ·(simp only [LX9]; try rfl)
 ·kernel_rfl
 ·kernel_rfl
 ·kernel_rfl
 ·exact fun _ _ _ h => h
 ·refine Or.inl ⟨by rfl, ?_⟩
  (intro V hSV; (try dsimp only at hSV); have q0 := hSV; go_simp; try with_reducible rfl)
 (try simp only [LY9])
 refine wpAnyH_ready (rs := [10]) (by kernel_rfl) (by simp) ?_
 refine AllReadyH.cons (o := ?_) ?_ (fun K hK => ?_) AllReadyH.nil
 rotate_left 1
 ·(simp only [LX9]; try rfl)
 have BX := Lib.hid (BX.out.below HE.out)
 have RX := Lib.hid (RX.out.below HE.out)
 have q3 := BX.out.cell 3
 have q4 := BX.out.cell 4
 have g3 := BX.out.frozen 3
 have g4 := BX.out.frozen 4
 have hke := ((Keeps.refl [w.heap.size] Y).set (List.mem_singleton.2 rfl) 3 (.slice A1 u.length c1)).set (List.mem_singleton.2 rfl) 4 (.slice A2 r.length c2)
 have H1 := Lib.hid (H1.out.keeps hke (fun k hk => by have := (H1.out.range k hk).1; simp; omega))
 have H2 := Lib.hid (H2.out.keeps hke (fun k hk => by have := (H2.out.range k hk).1; simp; omega))
 have BX := Lib.hid (show Blk _ _ #[.int .i64 s, .int .i64 f, .int .i64 t, .slice A1 u.length c1, .slice A2 r.length c2] 50 from (BX.out.set 3 (.slice A1 u.length c1)).set 4 (.slice A2 r.length c2))
 have hc0 := BX.out.cell 0
 have RX := Lib.hid (RX.out.of_block (hke.block _ RX.out.lt (by simp)))
 have HF := Lib.hid (((HB.out.trans (HE.out.mono (by omega))).setCell (p := ⟨w.heap.size, 3, none⟩) (by simp) (.slice A1 u.length c1)).setCell (p := ⟨w.heap.size, 4, none⟩) (by simp) (.slice A2 r.length c2))
 clear hke
 go_simp
 clear q3 q4 g3 g4
 generalize (Y.setCell ⟨w.heap.size, 3, none⟩ (.slice A1 u.length c1)).setCell ⟨w.heap.size, 4, none⟩ (.slice A2 r.length c2) = Z at *
 refine hK.out _ _ (by exact hc0) (fun hHeld => ?_)
 clear hK K
 (try simp only [LY9])
 refine wpAnyH_done (by kernel_rfl) ?_ _
 have hke := (((((Keeps.refl [w.heap.size + 1] Z).set (List.mem_singleton.2 rfl) 0 (.int .i64 s)).set (List.mem_singleton.2 rfl) 1 (.int .i64 f)).set (List.mem_singleton.2 rfl) 2 (.int .i64 t)).set (List.mem_singleton.2 rfl) 3 (.slice A1 u.length c1)).set (List.mem_singleton.2 rfl) 4 (.slice A2 r.length c2)
 have H1 := Lib.hid (H1.out.keeps hke (fun k hk => by have := (H1.out.range k hk).1; simp; omega))
 have H2 := Lib.hid (H2.out.keeps hke (fun k hk => by have := (H2.out.range k hk).1; simp; omega))
 have HF := Lib.hid (((((HF.out.setCell (p := ⟨w.heap.size + 1, 0, none⟩) (by simp) (.int .i64 s)).setCell (p := ⟨w.heap.size + 1, 1, none⟩) (by simp) (.int .i64 f)).setCell (p := ⟨w.heap.size + 1, 2, none⟩) (by simp) (.int .i64 t)).setCell (p := ⟨w.heap.size + 1, 3, none⟩) (by simp) (.slice A1 u.length c1)).setCell (p := ⟨w.heap.size + 1, 4, none⟩) (by simp) (.slice A2 r.length c2))
 clear hke hc0
 have q0 := BX.out.cell 0
 have r0 := RX.out.cell 0
 have g0 := RX.out.frozen 0
 have q1 := BX.out.cell 1
 have r1 := RX.out.cell 1
 have g1 := RX.out.frozen 1
 have q2 := BX.out.cell 2
 have r2 := RX.out.cell 2
 have g2 := RX.out.frozen 2
 have q3 := BX.out.cell 3
 have r3 := RX.out.cell 3
 have g3 := RX.out.frozen 3
 have q4 := BX.out.cell 4
 have r4 := RX.out.cell 4
 have g4 := RX.out.frozen 4
 go_wp2
 refine bodyPost_ret (v := .agg #[.int .i64 s, .int .i64 f, .int .i64 t, .slice A1 u.length c1, .slice A2 r.length c2]) (by simp [results, Tryz.results59, go_sem, q0, q1, q2, q3, q4, r0, r1, r2, r3, r4]) rfl ?_
 exact ⟨A1, c1, f1, A2, c2, f2, rfl, ⟨H1.out.mono (by omega), H2.out.mono (by omega), HD.out⟩, HF.out⟩

set_option maxHeartbeats 32000000 in
theorem implCopied_any (a : Da) (d : Dc) (w : World) (hok : docOk d = true) (hD : RdD w a d) :
  Calls Tryz.prog 52 #[.agg #[.slice a.s d.start.length a.cs, .slice a.t d.text.length a.ct, .slice a.l d.log.length a.cl, .int .i64 d.clock, .slice a.m d.mem.length a.cm, .slice a.e d.lea.length a.ce]] w (GivesD d w) := by
 obtain ⟨hl60, hm8, _, hlo, _, _⟩ := docOk_parts hok
 have hle := leOk_len hlo
 have hst := docOk_start_len hok
 have htx := docOk_text_len hok
 have HPU := Lib.hid (docOk_puts0 hok)
 have HMU := Lib.hid (docOk_mem_small hok)
 have HM6 := Lib.hid (docOk_mem_six hok)
 have hal := ((Below.refl w.heap.size w).alloc (Nat.le_refl _) (.cells #[.slice a.s d.start.length a.cs, .slice a.t d.text.length a.ct, .slice a.l d.log.length a.cl, .int .i64 d.clock, .slice a.m d.mem.length a.cm, .slice a.e d.lea.length a.ce] 36)).alloc (by simp) (.cells #[.slice none 0 0, .slice none 0 0, .slice none 0 0, .int .i64 0, .slice none 0 0, .slice none 0 0] 36)
 have hbx := (Blk.new w #[.slice a.s d.start.length a.cs, .slice a.t d.text.length a.ct, .slice a.l d.log.length a.cl, .int .i64 d.clock, .slice a.m d.mem.length a.cm, .slice a.e d.lea.length a.ce] 36).alloc (.cells #[.slice none 0 0, .slice none 0 0, .slice none 0 0, .int .i64 0, .slice none 0 0, .slice none 0 0] 36)
 have hrx := Blk.new (w.alloc (.cells #[.slice a.s d.start.length a.cs, .slice a.t d.text.length a.ct, .slice a.l d.log.length a.cl, .int .i64 d.clock, .slice a.m d.mem.length a.cm, .slice a.e d.lea.length a.ce] 36)) #[.slice none 0 0, .slice none 0 0, .slice none 0 0, .int .i64 0, .slice none 0 0, .slice none 0 0] 36
 simp only [World.size_alloc] at hrx
 have hzw : ((w.alloc (.cells #[.slice a.s d.start.length a.cs, .slice a.t d.text.length a.ct, .slice a.l d.log.length a.cl, .int .i64 d.clock, .slice a.m d.mem.length a.cm, .slice a.e d.lea.length a.ce] 36)).alloc (.cells #[.slice none 0 0, .slice none 0 0, .slice none 0 0, .int .i64 0, .slice none 0 0, .slice none 0 0] 36)).heap.size = w.heap.size + 2 := by simp
 have HB := Lib.hid hal
 have BX := Lib.hid hbx
 have RX := Lib.hid hrx
 have HCK := Lib.hid hD.clk
 have HD0 := Lib.hid hD
 have HD := Lib.hid (show ∀ W, Below w.heap.size w W → RdD W a d from fun W h => hD.below h)
 clear hal hbx hrx hD hok hlo
 have p0 := BX.out.cell 0
 go_enter Tryz.func52, Tryz.ntmps52
 go_wp2_with fail
 generalize (w.alloc (.cells #[.slice a.s d.start.length a.cs, .slice a.t d.text.length a.ct, .slice a.l d.log.length a.cl, .int .i64 d.clock, .slice a.m d.mem.length a.cm, .slice a.e d.lea.length a.ce] 36)).alloc (.cells #[.slice none 0 0, .slice none 0 0, .slice none 0 0, .int .i64 0, .slice none 0 0, .slice none 0 0] 36) = W at *
 have hz0 : w.heap.size + 2 ≤ W.heap.size := Nat.le_of_eq hzw.symm
 clear hzw
 refine (bytesClone_opt a.s d.start d.start.length a.cs _ rfl (by omega) (HD.out _ HB.out).s).mono ?_
 rintro e w1 ⟨v9, rfl, ho, hb⟩
 obtain ⟨A1, c1, e1, _, _, _⟩ := ho.form
 subst e1
 have zw1 := hb.size
 have BX := Lib.hid (BX.out.below hb)
 have RX := Lib.hid (RX.out.below hb)
 have HB := Lib.hid (below_then HB.out hb)
 have HO1 := Lib.hid ho
 have HN1 := Lib.hid ho.range
 have p0 := BX.out.cell 0
 have f0 := BX.out.frozen 0
 have hk := (Keeps.refl [w.heap.size] w1).set (List.mem_singleton.2 rfl) 0 (.slice A1 d.start.length c1)
 have HO1 := Lib.hid (HO1.out.keeps hk (fun q hq h => by have := (HN1.out q hq).1; simp at h; omega))
 have BX := Lib.hid (show Blk _ _ #[.slice A1 d.start.length c1, .slice a.t d.text.length a.ct, .slice a.l d.log.length a.cl, .int .i64 d.clock, .slice a.m d.mem.length a.cm, .slice a.e d.lea.length a.ce] 36 from BX.out.set 0 (.slice A1 d.start.length c1))
 have RX := Lib.hid (RX.out.of_block (hk.block _ RX.out.lt (by simp)))
 have HB := Lib.hid (HB.out.setCell (p := ⟨w.heap.size, 0, none⟩) (by simp) (.slice A1 d.start.length c1))
 have hzk := hk.size
 have p1 := BX.out.cell 1
 clear ho hb hk
 go_wp2_with fail
 generalize w1.setCell ⟨w.heap.size, 0, none⟩ (.slice A1 d.start.length c1) = w2 at *
 clear p0 f0 p1
 refine (bytesClone_opt a.t d.text d.text.length a.ct _ rfl (by omega) (HD.out _ HB.out).t).mono ?_
 rintro e w3 ⟨v9, rfl, ho, hb⟩
 obtain ⟨A2, c2, e1, _, _, _⟩ := ho.form
 subst e1
 have zw3 := hb.size
 have BX := Lib.hid (BX.out.below hb)
 have RX := Lib.hid (RX.out.below hb)
 have HB := Lib.hid (below_then HB.out hb)
 have HO2 := Lib.hid ho
 have HN2 := Lib.hid ho.range
 have HO1 := Lib.hid (HO1.out.below hb)
 have p1 := BX.out.cell 1
 have f1 := BX.out.frozen 1
 have hk := (Keeps.refl [w.heap.size] w3).set (List.mem_singleton.2 rfl) 1 (.slice A2 d.text.length c2)
 have HO1 := Lib.hid (HO1.out.keeps hk (fun q hq h => by have := (HN1.out q hq).1; simp at h; omega))
 have HO2 := Lib.hid (HO2.out.keeps hk (fun q hq h => by have := (HN2.out q hq).1; simp at h; omega))
 have BX := Lib.hid (show Blk _ _ #[.slice A1 d.start.length c1, .slice A2 d.text.length c2, .slice a.l d.log.length a.cl, .int .i64 d.clock, .slice a.m d.mem.length a.cm, .slice a.e d.lea.length a.ce] 36 from BX.out.set 1 (.slice A2 d.text.length c2))
 have RX := Lib.hid (RX.out.of_block (hk.block _ RX.out.lt (by simp)))
 have HB := Lib.hid (HB.out.setCell (p := ⟨w.heap.size, 1, none⟩) (by simp) (.slice A2 d.text.length c2))
 have hzk2 := hk.size
 have p2 := BX.out.cell 2
 clear ho hb hk
 go_wp2_with fail
 generalize w3.setCell ⟨w.heap.size, 1, none⟩ (.slice A2 d.text.length c2) = w4 at *
 clear p1 f1 p2
 refine (editsOf_any a.l d.log a.cl _ (by omega) (HD.out _ HB.out).l).mono ?_
 rintro e w5 ⟨E, ce, rfl, _, _, hE, hb⟩
 have z5 := hb.size
 have HE := Lib.hid hE
 have BX := Lib.hid (BX.out.below hb)
 have RX := Lib.hid (RX.out.below hb)
 have HO1 := Lib.hid (HO1.out.below hb)
 have HO2 := Lib.hid (HO2.out.below hb)
 have HB := Lib.hid (below_then HB.out hb)
 clear hb hE
 go_wp2_with fail
 refine (copiedEdits_any E (logE d.log) ce d.log.length _ (logE_length _).symm (by rw [logE_length]; omega) HPU.out HE.out).mono ?_
 rintro e w6 ⟨A6, c6, fp, rfl, ho, hb⟩
 obtain ⟨els, hel, hsubq, hndq, hat⟩ := el_at ho.ow ho.nd
 have hln : (logE d.log).length = d.log.length := logE_length _
 have hel2 : els.length = d.log.length := by rw [← hln, hel, List.length_map]
 rw [hln]
 have z6 := hb.size
 have HFP := Lib.hid ho.range
 have HSQ := Lib.hid hsubq
 have HNQ := Lib.hid hndq
 have HAT := Lib.hid hat
 have HEL := Lib.hid hel
 have HE2 := Lib.hid hel2
 have BX := Lib.hid (BX.out.below hb)
 have RX := Lib.hid (RX.out.below hb)
 have HO1 := Lib.hid (HO1.out.below hb)
 have HO2 := Lib.hid (HO2.out.below hb)
 have HB := Lib.hid (below_then HB.out hb)
 clear hb ho hln hel hel2 hsubq hndq hat HE
 go_wp2
 go_loopw [3, 22] (fun o i wr => ∃ (k : Nat) (v : Value) (fl : List Nat), k ≤ d.log.length ∧ i = .int .i64 k ∧ v = o ∧ Hid (MvL wr v (d.log.take k) fl w6.heap.size ((els.take k).flatMap (·.2.2))) ∧ Hid (Below w6.heap.size w6 wr)) (fun _ i _ => d.log.length - (intOf i).toNat)
 case atStart => exact ⟨0, .slice none 0 0, [], Nat.zero_le _, rfl, rfl, Lib.hid ⟨Lay.slice_nil _ _ _, List.nodup_nil, (fun _ h => nomatch h), (fun _ h => nomatch h)⟩, Lib.hid (Below.refl _ _)⟩
 case round =>
  obtain ⟨k, v, fl, hk, rfl, rfl, HV, HW⟩ := hrel
  have zr := HW.out.size
  have HBr := Lib.hid (HB.out.trans (HW.out.mono (by omega)))
  have BXr := Lib.hid (BX.out.below HW.out)
  by_cases hlt : k < d.log.length
  ·obtain ⟨b, off, s, x, m, B, p, dd, hA, hbl, hek, k0, k1, k2, k3, hs, ha, hm, hpd, hdm, hBp⟩ := HD0.out.l.at_ k hlt
   have hke : k < els.length := by rw [HE2.out]; exact hlt
   obtain ⟨g, P, pc, rfl, hgl, hcs, how, h0, h1, h2⟩ := HAT.out k hke
   have hxe : els[k].2.1 = (x, m, p) := by
    have h8 : (els.map (·.2.1))[k]? = (logE d.log)[k]? := by rw [← HEL.out]
    unfold logE at h8
    rw [List.getElem?_map, List.getElem?_map, List.getElem?_eq_getElem hke, List.getElem?_eq_getElem hlt, hek] at h8
    simpa using h8
   rw [hxe] at hcs how h0 h1 h2
   have p2 : wr.cell? ⟨w.heap.size, 2, none⟩ = some (.slice (some ⟨b, off, none⟩) d.log.length a.cl) := by rw [← hA]; exact BXr.out.cell 2
   have j0 := (HBr.out.cell (p := ⟨b, off + k * 4, none⟩) hbl).trans k0
   have i0 := (HW.out.cell (p := ⟨g, k * 3, none⟩) hgl).trans h0
   have i1 := (HW.out.cell (p := ⟨g, k * 3 + 1, none⟩) hgl).trans h1
   have i2 := (HW.out.cell (p := ⟨g, k * 3 + 2, none⟩) hgl).trans h2
   have HNX := Lib.hid (show d.log.take (k + 1) = d.log.take k ++ [(s, x, m, p)] by rw [List.take_succ_eq_append_getElem hlt, hek])
   have HEX := Lib.hid (show (els.take (k + 1)).flatMap (·.2.2) = (els.take k).flatMap (·.2.2) ++ els[k].2.2 by rw [List.take_succ_eq_append_getElem hke, List.flatMap_append]; simp)
   have hdis : ∀ q ∈ (els.take k).flatMap (·.2.2), q ∉ els[k].2.2 := by
    have h8 := HNQ.out
    rw [← List.take_append_drop (k + 1) els, List.flatMap_append, HEX.out, List.nodup_append] at h8
    have h9 := h8.1
    rw [List.nodup_append] at h9
    exact fun q hq h => h9.2.2 q hq q h rfl
   have HQL := Lib.hid (HSQ.out els[k] (List.getElem_mem hke))
   have hndk : els[k].2.2.Nodup := by
    have h8 := HNQ.out
    rw [← List.take_append_drop (k + 1) els, List.flatMap_append, HEX.out, List.nodup_append] at h8
    have h9 := h8.1
    rw [List.nodup_append] at h9
    exact h9.2.1
   have HDI := Lib.hid hdis
   have HNK := Lib.hid hndk
   have how2 : Lay.commit.ow w6 [.int .i64 s, .int .i64 x, .int .i64 m, .slice P p.length pc] (s, (x, m, p)) els[k].2.2 := ⟨[.int .i64 s], els[k].1, [], els[k].2.2, by rw [hcs]; rfl, ⟨rfl, hs, rfl⟩, how, rfl⟩
   have HOW := Lib.hid (Lay.commit.owBelow how2 HW.out)
   obtain ⟨fx, hfx⟩ : ∃ fx, els[k].2.2 = fx := ⟨_, rfl⟩
   have HEX := Lib.hid (show (els.take (k + 1)).flatMap (·.2.2) = (els.take k).flatMap (·.2.2) ++ fx by rw [HEX.out, hfx])
   have HQL := Lib.hid (show ∀ q ∈ fx, q ∈ fp from fun q hq => HQL.out q (by rw [hfx]; exact hq))
   have HDI := Lib.hid (show ∀ q ∈ (els.take k).flatMap (·.2.2), q ∉ fx from fun q hq => by rw [← hfx]; exact HDI.out q hq)
   have HNK := Lib.hid (show fx.Nodup by rw [← hfx]; exact HNK.out)
   have HOW := Lib.hid (show Lay.commit.ow wr [.int .i64 s, .int .i64 x, .int .i64 m, .slice P p.length pc] (s, (x, m, p)) fx by rw [← hfx]; exact HOW.out)
   have hlk : (d.log.take k).length ≤ 1000000 := by rw [List.length_take]; omega
   have hki0 : (0 : Int) ≤ (k : Int) := by omega
   have hki : (k : Int) < (d.log.length : Int) := by omega
   clear hek hA hBp k0 k1 k2 k3 hpd hdm hs ha hm hcs how how2 h0 h1 h2 hxe hdis hndk hfx
   go_upto_region 7 with fail
   have hal := (Below.refl wr.heap.size wr).alloc (Nat.le_refl _) (.cells #[.int .i64 x, .int .i64 m, .slice P p.length pc] 71)
   have BM := Blk.new wr #[.int .i64 x, .int .i64 m, .slice P p.length pc] 71
   have HVL := Lib.hid (MvL.lt HV.out)
   have HV := Lib.hid (HV.out.below hal)
   have HOW := Lib.hid (Lay.commit.owBelow HOW.out hal)
   have HWm := Lib.hid (below_then HW.out hal)
   have p2 := (hal.cell (p := ⟨w.heap.size, 2, none⟩) (by have := BXr.out.lt; exact this)).trans p2
   have j0 := (hal.cell (p := ⟨b, off + k * 4, none⟩) (by show b < wr.heap.size; omega)).trans j0
   have hgr : wr.heap.size < (wr.alloc (.cells #[.int .i64 x, .int .i64 m, .slice P p.length pc] 71)).heap.size := by simp
   clear i0 i1 i2 hal
   generalize wr.alloc (.cells #[.int .i64 x, .int .i64 m, .slice P p.length pc] 71) = Wm at *
   generalize wr.heap.size = gm at *
   have hzb := BXr.out.lt
   have n0 := BM.cell 0
   have n1 := BM.cell 1
   have n2 := BM.cell 2
   have HFD := Lib.hid (show ∀ q ∈ fl, q ∉ fx from fun q hq h => by
    rcases HV.out.sub q hq with h1 | h1
    ·have := (HFP.out q (HQL.out q h)).2; omega
    ·exact HDI.out q h1 h)
   have HS := Lib.hid (show ∀ Y, Below Wm.heap.size Wm Y → (fun V => V.cell? ⟨w.heap.size, 2, none⟩ = some (.slice (some ⟨b, off, none⟩) d.log.length a.cl) ∧ V.cell? ⟨b, off + k * 4, none⟩ = some (.int .i64 s) ∧ V.cell? ⟨gm, 0, none⟩ = some (.int .i64 x) ∧ V.cell? ⟨gm, 1, none⟩ = some (.int .i64 m) ∧ V.cell? ⟨gm, 2, none⟩ = some (.slice P p.length pc)) Y from fun Y h => ⟨(h.cell (p := ⟨w.heap.size, 2, none⟩) (by show w.heap.size < Wm.heap.size; omega)).trans p2, (h.cell (p := ⟨b, off + k * 4, none⟩) (by show b < Wm.heap.size; omega)).trans j0, (h.cell (p := ⟨gm, 0, none⟩) BM.lt).trans n0, (h.cell (p := ⟨gm, 1, none⟩) BM.lt).trans n1, (h.cell (p := ⟨gm, 2, none⟩) BM.lt).trans n2⟩)
   have HS1 := Lib.hid (show ∀ (Y Z : World) (fq : List Nat), (fun V => V.cell? ⟨w.heap.size, 2, none⟩ = some (.slice (some ⟨b, off, none⟩) d.log.length a.cl) ∧ V.cell? ⟨b, off + k * 4, none⟩ = some (.int .i64 s) ∧ V.cell? ⟨gm, 0, none⟩ = some (.int .i64 x) ∧ V.cell? ⟨gm, 1, none⟩ = some (.int .i64 m) ∧ V.cell? ⟨gm, 2, none⟩ = some (.slice P p.length pc)) Y → Keeps fq Y Z → (∀ q ∈ fq, w.heap.size < q ∧ q < gm) → gm < Y.heap.size → (fun V => V.cell? ⟨w.heap.size, 2, none⟩ = some (.slice (some ⟨b, off, none⟩) d.log.length a.cl) ∧ V.cell? ⟨b, off + k * 4, none⟩ = some (.int .i64 s) ∧ V.cell? ⟨gm, 0, none⟩ = some (.int .i64 x) ∧ V.cell? ⟨gm, 1, none⟩ = some (.int .i64 m) ∧ V.cell? ⟨gm, 2, none⟩ = some (.slice P p.length pc)) Z from fun Y Z fq h hk hn hz => ⟨(World.cell?_of_block (hk.block w.heap.size (by omega) (fun h2 => by have := hn _ h2; omega))).trans h.1, (World.cell?_of_block (hk.block b (by omega) (fun h2 => by have := hn _ h2; omega))).trans h.2.1, (World.cell?_of_block (hk.block gm hz (fun h2 => by have := hn _ h2; omega))).trans h.2.2.1, (World.cell?_of_block (hk.block gm hz (fun h2 => by have := hn _ h2; omega))).trans h.2.2.2.1, (World.cell?_of_block (hk.block gm hz (fun h2 => by have := hn _ h2; omega))).trans h.2.2.2.2⟩)
   refine wp_region_held_drew (S := (fun V => V.cell? ⟨w.heap.size, 2, none⟩ = some (.slice (some ⟨b, off, none⟩) d.log.length a.cl) ∧ V.cell? ⟨b, off + k * 4, none⟩ = some (.int .i64 s) ∧ V.cell? ⟨gm, 0, none⟩ = some (.int .i64 x) ∧ V.cell? ⟨gm, 1, none⟩ = some (.int .i64 m) ∧ V.cell? ⟨gm, 2, none⟩ = some (.slice P p.length pc))) (by kernel_rfl) (by exact HS.out _ (Below.refl _ _).drew) (fun hHeld => ?_)
   refine wpAnyH_take (i := 0) (oi := ?_) (v := ?_) ?_ ?_ ?_ ?_ ?_ ?_ (by exact hHeld) ?_
   rotate_left 2
   ·(simp only [List.getElem?_toArray, List.getElem?_cons_zero]; try rfl)
   ·kernel_rfl
   ·kernel_rfl
   ·kernel_rfl
   ·exact fun _ _ _ h => h
   ·refine Or.inl ⟨by rfl, ?_⟩
    (intro V hSV; (try dsimp only at hSV); obtain ⟨q0, q1, q2, q3, q4⟩ := hSV; go_simp; try with_reducible rfl)
   (try simp only [LY9])
   refine wpAnyH_take (i := 1) (oi := ?_) (v := ?_) ?_ ?_ ?_ ?_ ?_ ?_ (by exact hHeld) ?_
   rotate_left 2
   ·(simp only [LX9]; try rfl)
   ·kernel_rfl
   ·kernel_rfl
   ·kernel_rfl
   ·exact fun _ _ _ h => h
   ·refine Or.inl ⟨by rfl, ?_⟩
    (intro V hSV; (try dsimp only at hSV); obtain ⟨q0, q1, q2, q3, q4⟩ := hSV; go_simp; try with_reducible rfl)
   (try simp only [LY9])
   refine wpAnyH_take (i := 2) (oi := ?_) (v := ?_) ?_ ?_ ?_ ?_ ?_ ?_ (by exact hHeld) ?_
   rotate_left 2
   ·(simp only [LX9]; try rfl)
   ·kernel_rfl
   ·kernel_rfl
   ·kernel_rfl
   ·exact fun _ _ _ h => h
   ·refine Or.inl ⟨by rfl, ?_⟩
    (intro V hSV; (try dsimp only at hSV); obtain ⟨q0, q1, q2, q3, q4⟩ := hSV; go_simp; try with_reducible rfl)
   (try simp only [LY9])
   refine wpAnyH_take (i := 3) (oi := ?_) (v := ?_) ?_ ?_ ?_ ?_ ?_ ?_ (by exact hHeld) ?_
   rotate_left 2
   ·(simp only [LX9]; try rfl)
   ·kernel_rfl
   ·kernel_rfl
   ·kernel_rfl
   ·exact fun _ _ _ h => h
   ·refine Or.inl ⟨by rfl, ?_⟩
    (intro V hSV; (try dsimp only at hSV); obtain ⟨q0, q1, q2, q3, q4⟩ := hSV; go_simp; try with_reducible rfl)
   (try simp only [LY9])
   refine wpAnyH_take (i := 4) (oi := ?_) (v := ?_) ?_ ?_ ?_ ?_ ?_ ?_ (by exact hHeld) ?_
   rotate_left 2
   ·(simp only [LX9]; try rfl)
   ·kernel_rfl
   ·kernel_rfl
   ·kernel_rfl
   ·exact fun _ _ _ h => h
   ·refine Or.inl ⟨by rfl, ?_⟩
    (intro V hSV; (try dsimp only at hSV); obtain ⟨q0, q1, q2, q3, q4⟩ := hSV; go_simp; try with_reducible rfl)
   (try simp only [LY9])
   refine wpAnyH_take (i := 5) (oi := ?_) (v := ?_) ?_ ?_ ?_ ?_ ?_ ?_ (by exact hHeld) ?_
   rotate_left 2
   ·(simp only [LX9]; try rfl)
   ·kernel_rfl
   ·kernel_rfl
   ·kernel_rfl
   ·exact fun _ _ _ h => h
   ·refine Or.inl ⟨by rfl, ?_⟩
    (intro V hSV; (try dsimp only at hSV); obtain ⟨q0, q1, q2, q3, q4⟩ := hSV; go_simp; try with_reducible rfl)
   (try simp only [LY9])
   refine wpAnyH_take (i := 6) (oi := ?_) (v := ?_) ?_ ?_ ?_ ?_ ?_ ?_ (by exact hHeld) ?_
   rotate_left 2
   ·(simp only [LX9]; try rfl)
   ·kernel_rfl
   ·kernel_rfl
   ·kernel_rfl
   ·exact fun _ _ _ h => h
   ·refine Or.inl ⟨by rfl, ?_⟩
    (intro V hSV; (try dsimp only at hSV); obtain ⟨q0, q1, q2, q3, q4⟩ := hSV; go_simp; try with_reducible rfl)
   (try simp only [LY9])
   refine wpAnyH_take (i := 7) (oi := ?_) (v := ?_) ?_ ?_ ?_ ?_ ?_ ?_ (by exact hHeld) ?_
   rotate_left 2
   ·(simp only [LX9]; try rfl)
   ·kernel_rfl
   ·kernel_rfl
   ·kernel_rfl
   ·exact fun _ _ _ h => h
   ·refine Or.inl ⟨by rfl, ?_⟩
    (intro V hSV; (try dsimp only at hSV); obtain ⟨q0, q1, q2, q3, q4⟩ := hSV; go_simp; try with_reducible rfl)
   (try simp only [LY9])
   refine wpAnyH_take (i := 8) (oi := ?_) (v := ?_) ?_ ?_ ?_ ?_ ?_ ?_ (by exact hHeld) ?_
   rotate_left 2
   ·(simp only [LX9]; try rfl)
   ·kernel_rfl
   ·kernel_rfl
   ·kernel_rfl
   ·exact fun _ _ _ h => h
   ·refine Or.inl ⟨by rfl, ?_⟩
    (intro V hSV; (try dsimp only at hSV); obtain ⟨q0, q1, q2, q3, q4⟩ := hSV; go_simp; try with_reducible rfl)
   (try simp only [LY9])
   have HE := Lib.hid (show Below Wm.heap.size Wm Wm.drew from (Below.refl _ _).drew)
   generalize Wm.drew = Y at *
   refine wpAnyH_ready (rs := [9]) (by kernel_rfl) (by simp) ?_
   refine AllReadyH.cons (o := ?_) ?_ (fun K hK => ?_) AllReadyH.nil
   rotate_left 1
   ·(simp only [LX9]; try rfl)
   have HG := Lib.hid (Blk.new Y #[.int .i64 s, .int .i64 x, .int .i64 m, .slice P p.length pc] 102)
   have hal := (Below.refl Y.heap.size Y).alloc (Nat.le_refl _) (.cells #[.int .i64 s, .int .i64 x, .int .i64 m, .slice P p.length pc] 102)
   have HE := Lib.hid (below_then HE.out hal)
   clear hal
   go_simp
   generalize Y.heap.size = g4 at HG ⊢
   generalize Y.alloc (.cells #[.int .i64 s, .int .i64 x, .int .i64 m, .slice P p.length pc] 102) = Y at HG HE ⊢
   have HG := Lib.hid (show Blk Y g4 ([.int .i64 s, .int .i64 x, .int .i64 m, .slice P p.length pc] : List Value).toArray 102 from HG.out)
   refine hK.out _ _ (by exact HS.out _ HE.out) (fun hHeld => ?_)
   clear hK K
   (try simp only [LY9])
   refine wpAnyH_ready (rs := [10]) (by kernel_rfl) (by simp) ?_
   refine AllReadyH.cons (o := ?_) ?_ (fun K hK => ?_) AllReadyH.nil
   rotate_left 1
   ·(simp only [LX9]; try rfl)
   refine step_app_mv rfl (.tmp 27) (.tmp 36) 32 rfl 102 Lay.commit _ 4 48 Tryz.underlying32 Tryz.infoCm rfl rfl (by decide) (by decide) v (d.log.take k) fl [.int .i64 s, .int .i64 x, .int .i64 m, .slice P p.length pc] (s, x, m, p) fx ⟨g4, 0, none⟩ 1 rfl rfl (by exact (HV.out.below HE.out).ow) HV.out.nd (by exact Lay.commit.owBelow HOW.out HE.out) HNK.out HFD.out (by exact blk_cells HG.out) hlk ?_
   intro v6 Y6 f6 ho6 hn6 hs6 hg6 hv6
   rw [← HNX.out] at ho6
   have hrow := HV.out.row
   have HV6 := Lib.hid (show MvL Y6 v6 (d.log.take (k + 1)) f6 w6.heap.size ((els.take (k + 1)).flatMap (·.2.2)) from ⟨ho6, hn6, fun q hq => by
    rw [HEX.out]
    rcases hs6 q hq with h | h | h
    ·rcases HV.out.sub q h with h1 | h1
     ·exact .inl h1
     ·exact .inr (List.mem_append.2 (.inl h1))
    ·exact .inr (List.mem_append.2 (.inr h))
    ·have := HE.out.size; left; omega, fun q hq => by
    rcases own_sub hv6 q hq with h | h
    ·exact hrow q h
    ·have := HE.out.size; omega⟩)
   have HW6 := Lib.hid ((below_then HWm.out HE.out).trans ((Keeps.of_grown hg6).below (B := w6.heap.size) (by have := HE.out.size; omega) hrow))
   have HS6 := Lib.hid (HS1.out _ _ _ (HS.out _ HE.out) (Keeps.of_grown hg6) (fun q h => by have := hrow q h; have := HVL.out q (own_inL HV.out.ow q h); omega) (by have := HE.out.size; omega))
   clear ho6 hn6 hs6 hg6 hv6 hrow
   refine hK.out _ _ (by exact HS6.out) (fun hHeld => ?_)
   clear hK K
   (try simp only [LY9])
   refine wpAnyH_take (i := 11) (oi := ?_) (v := ?_) ?_ ?_ ?_ ?_ ?_ ?_ (by exact hHeld) ?_
   rotate_left 2
   ·(simp only [LX9]; try rfl)
   ·kernel_rfl
   ·kernel_rfl
   ·kernel_rfl
   ·exact fun _ _ _ h => h
   ·refine Or.inl ⟨by rfl, ?_⟩
    (intro V hSV; (try dsimp only at hSV); obtain ⟨q0, q1, q2, q3, q4⟩ := hSV; go_simp; try with_reducible rfl)
   (try simp only [LY9])
   refine wpAnyH_done (by kernel_rfl) ?_ _
   go_wp2
   go_roundw
   case rel => exact ⟨k + 1, v6, f6, by omega, by go_num, rfl, HV6, HW6⟩
   case measure => simp [intOf]; omega
  ·have e : k = d.log.length := by omega
   subst e
   have h9 := HV.out.ow
   rw [List.take_length] at h9
   have HFR := Lib.hid (show ∀ q ∈ fl, w5.heap.size ≤ q ∧ q < wr.heap.size from fun q hq => ⟨by
    rcases HV.out.sub q hq with h1 | h1
    ·omega
    ·obtain ⟨e, he, hq2⟩ := List.mem_flatMap.1 h1
     exact (HFP.out q (HSQ.out e (List.mem_of_mem_take he) q hq2)).1, MvL.lt HV.out q hq⟩)
   have HND := Lib.hid HV.out.nd
   obtain ⟨AL, cL, eL, _, _, _⟩ := Lay.commits.read h9
   simp only [List.cons.injEq, and_true] at eL
   subst eL
   have HLW := Lib.hid h9
   have BX := Lib.hid (BX.out.below HW.out)
   have RX := Lib.hid (RX.out.below HW.out)
   have HO1 := Lib.hid (HO1.out.below HW.out)
   have HO2 := Lib.hid (HO2.out.below HW.out)
   have HB := HBr
   clear h9 HV HBr BXr HW HAT HEL HE2 HNQ HSQ HFP
   generalize wr = wz at *
   have p4 := BX.out.cell 4
   go_wp2
   clear p4
   go_loopw [6, 42] (fun o i wr => ∃ (k : Nat) (v : Value) (fm : List Nat), k ≤ d.mem.length ∧ i = .int .i64 k ∧ v = o ∧ Hid (OwX 50 Lay.member wr wz.heap.size v (d.mem.take k) fm) ∧ Hid (Below wz.heap.size wz wr)) (fun _ i _ => d.mem.length - (intOf i).toNat)
   case atStart => exact ⟨0, .slice none 0 0, [], Nat.zero_le _, rfl, rfl, Lib.hid (OwX.nil _ _), Lib.hid (Below.refl _ _)⟩
   case round =>
    obtain ⟨k, v, fm, hk, rfl, rfl, HM, HZ⟩ := hrel
    have zr := HZ.out.size
    have hzB := HB.out.size
    have HBr := Lib.hid (below_then HB.out HZ.out)
    by_cases hlt : k < d.mem.length
    ·obtain ⟨b, off, s, f, t, UA, u, uc, RA, r, rc, hA, hbl, hek, k0, k1, k2, k3, k4, hs, hf, ht, hu1, hu2, hr1, hr2, hUU, hRR⟩ := HD0.out.m.at_ k hlt
     rw [hA]
     have j0 := (HBr.out.cell (p := ⟨b, off + k * 5, none⟩) hbl).trans k0
     have j1 := (HBr.out.cell (p := ⟨b, off + k * 5 + 1, none⟩) hbl).trans k1
     have j2 := (HBr.out.cell (p := ⟨b, off + k * 5 + 2, none⟩) hbl).trans k2
     have j3 := (HBr.out.cell (p := ⟨b, off + k * 5 + 3, none⟩) hbl).trans k3
     have j4 := (HBr.out.cell (p := ⟨b, off + k * 5 + 4, none⟩) hbl).trans k4
     have hsm := HMU.out _ (List.getElem_mem hlt)
     have hs6 := HM6.out _ (List.getElem_mem hlt)
     rw [hek] at hsm hs6
     have HSM := Lib.hid hsm
     have HS6 := Lib.hid hs6
     have HU := Lib.hid hUU
     have HRR := Lib.hid hRR
     have HI := Lib.hid (show isI s ∧ isI f ∧ isI t from ⟨hs, hf, ht⟩)
     have HNX := Lib.hid (show d.mem.take (k + 1) = d.mem.take k ++ [(s, (f, t), (u, r))] by rw [List.take_succ_eq_append_getElem hlt, hek])
     have hlk : (d.mem.take k).length ≤ 1000000 := by rw [List.length_take]; omega
     have hki0 : (0 : Int) ≤ (k : Int) := by omega
     have hki : (k : Int) < (d.mem.length : Int) := by omega
     have hal := (Below.refl wr.heap.size wr).alloc (Nat.le_refl _) (.cells #[.int .i64 s, .int .i64 f, .int .i64 t, .slice UA u.length uc, .slice RA r.length rc] 50)
     have BM := Lib.hid (Blk.new wr #[.int .i64 s, .int .i64 f, .int .i64 t, .slice UA u.length uc, .slice RA r.length rc] 50)
     have HMm := Lib.hid (HM.out.below hal)
     have HZm := Lib.hid (below_then HZ.out hal)
     have HBm := Lib.hid (below_then HBr.out hal)
     have hfm := HM.out.range
     have HFM := Lib.hid hfm
     clear hsm hs6 hek hA hUU hRR k0 k1 k2 k3 k4 hu1 hu2 hr1 hr2 hs hf ht hal hfm
     have m0 := BM.out.cell 0
     have m1 := BM.out.cell 1
     have m2 := BM.out.cell 2
     have m3 := BM.out.cell 3
     have m4 := BM.out.cell 4
     go_wp2_with fail
     generalize wr.alloc (.cells #[.int .i64 s, .int .i64 f, .int .i64 t, .slice UA u.length uc, .slice RA r.length rc] 50) = Wm at *
     refine (memberCopied_any s f t UA u uc RA r rc _ (by have := HS6.out.1; omega) (by have := HS6.out.2; omega) HSM.out.2.1 HSM.out.2.2 (HU.out.below HBm.out) (HRR.out.below HBm.out)).mono ?_
     rintro e Y ⟨A4, c4, f4, A5, c5, f5, rfl, ho4, hb⟩
     have hzm := BM.out.lt
     have H4 := Lib.hid ho4
     have HMy := Lib.hid (HMm.out.below hb)
     have HZy := Lib.hid (below_then HZm.out hb)
     have hyz := hb.size
     have hal := (Below.refl Y.heap.size Y).alloc (Nat.le_refl _) (.cells #[.int .i64 s, .int .i64 f, .int .i64 t, .slice A4 u.length c4, .slice A5 r.length c5] 50)
     have HG := Lib.hid (show Blk (Y.alloc (.cells #[.int .i64 s, .int .i64 f, .int .i64 t, .slice A4 u.length c4, .slice A5 r.length c5] 50)) Y.heap.size ([.int .i64 s, .int .i64 f, .int .i64 t, .slice A4 u.length c4, .slice A5 r.length c5] : List Value).toArray 50 from Blk.new Y #[.int .i64 s, .int .i64 f, .int .i64 t, .slice A4 u.length c4, .slice A5 r.length c5] 50)
     have hO4 : Lay.member.ow (Y.alloc (.cells #[.int .i64 s, .int .i64 f, .int .i64 t, .slice A4 u.length c4, .slice A5 r.length c5] 50)) [.int .i64 s, .int .i64 f, .int .i64 t, .slice A4 u.length c4, .slice A5 r.length c5] (s, (f, t), (u, r)) (f4 ++ f5) := own_member HI.out.1 HI.out.2.1 HI.out.2.2 (H4.out.below hal)
     have hM4 := (HMy.out.below hal).ow
     have hnd4 := OwS.nodup H4.out
     have hlo4 := OwS.lo H4.out
     have HZ4 := Lib.hid (below_then HZy.out hal)
     have hzz4 := hal.size
     clear ho4 hb j0 j1 j2 j3 j4 m0 m1 m2 m3 m4 hal
     go_wp2_with (at_builtin; go_must (refine wpList_app_one rfl _ _ 33 rfl 50 Lay.member _ 5 72 Tryz.underlying33 Tryz.infoMb rfl rfl (by decide) (by decide) v (d.mem.take k) fm [.int .i64 s, .int .i64 f, .int .i64 t, .slice A4 u.length c4, .slice A5 r.length c5] (s, (f, t), (u, r)) _ ⟨Y.heap.size, 0, none⟩ 1 rfl rfl hM4 HMy.out.nd hO4 hnd4 wr.heap.size (fun q hq => (HFM.out q hq).2) (fun q hq => by have := hlo4 q hq; omega) (by exact blk_cells HG.out) hlk ?_))
     intro v6 Y6 f6 ho6 hn6 hs6 hg6
     rw [← HNX.out] at ho6
     have hrow : ∀ q ∈ v.ownBlock.toList, wz.heap.size ≤ q := fun q h => (HFM.out q (own_inL hM4 q h)).1
     have HM6' := Lib.hid (show OwX 50 Lay.member Y6 wz.heap.size v6 (d.mem.take (k + 1)) f6 from ⟨ho6, hn6, fun q hq => by
      rcases hs6 q hq with h | h | h
      ·exact (HFM.out q h).1
      ·have h7 : wz.heap.size ≤ q := by have := hlo4 q (by first | exact h | exact List.mem_append.2 h); omega
       exact h7
      ·omega⟩)
     have HZ6 := Lib.hid (HZ4.out.trans ((Keeps.of_grown hg6).below (B := wz.heap.size) HZ4.out.size hrow))
     clear ho6 hn6 hs6 hg6 hrow hO4 hM4 hnd4 hlo4
     go_wp2
     go_roundw
     case rel => exact ⟨k + 1, v6, f6, by omega, by go_num, rfl, HM6', HZ6⟩
     case measure => simp [intOf]; omega
    ·have e : k = d.mem.length := by omega
     subst e
     have h9 := HM.out
     rw [List.take_length] at h9
     obtain ⟨AM, cM, eM, _, _, _⟩ := Lay.members.read h9.ow
     simp only [List.cons.injEq, and_true] at eM
     subst eM
     have HM := Lib.hid h9
     have r4 := h9.range
     have BX := Lib.hid (BX.out.below HZ.out)
     have RX := Lib.hid (RX.out.below HZ.out)
     have HO1 := Lib.hid (HO1.out.below HZ.out)
     have HO2 := Lib.hid (HO2.out.below HZ.out)
     have HLW := Lib.hid (Lay.commits.owBelow HLW.out HZ.out)
     have p5 := BX.out.cell 5
     have hle2 := (HD.out _ HBr.out).e
     clear h9
     go_wp2_with (at_builtin; go_must (refine wpList_app_le rfl _ _ rfl wr.heap.size _ [] d.lea a.e d.lea.length a.ce rfl rfl rfl (OwR.nil _ _) hle2 (by simp; omega) (Nat.le_refl _) ?_))
     intro v9 w9 ho9 hg9 _
     have hbz : Below wr.heap.size wr w9 := (Keeps.of_grown hg9).below (Nat.le_refl _) (fun q h => by simp [Value.ownBlock] at h)
     obtain ⟨A3, c3, e9, hw9⟩ := ho9.owL
     subst e9
     have BX := Lib.hid (BX.out.below hbz)
     have RX := Lib.hid (RX.out.below hbz)
     have HM := Lib.hid (HM.out.below hbz)
     have r1 := HN1.out
     have r2 := HN2.out
     have r3 := HFR.out
     have hzwr := HBr.out.size
     have hfp := fp5i (N0 := W.heap.size) HO1.out.fp.1 HO2.out.fp.1 HND.out HM.out.nd hw9.nd (fun q hq => r1 q hq) (fun q hq => ⟨by have := (r2 q hq).1; omega, (r2 q hq).2⟩) (fun q hq => ⟨by have := (r3 q hq).1; omega, (r3 q hq).2⟩) (fun q hq => r4 q hq) (fun q hq => by have := hw9.lo q hq; omega) (by omega) (by omega) (by omega) (by omega)
     have HFP9 := Lib.hid hfp
     have hke := (((((((((Keeps.refl [w.heap.size, w.heap.size + 1] w9).set (g := w.heap.size) (by simp) 2 (.slice AL d.log.length cL)).set (g := w.heap.size) (by simp) 4 (.slice AM d.mem.length cM)).set (g := w.heap.size) (by simp) 5 (.slice A3 d.lea.length c3)).set (g := w.heap.size + 1) (by simp) 0 (.slice A1 d.start.length c1)).set (g := w.heap.size + 1) (by simp) 1 (.slice A2 d.text.length c2)).set (g := w.heap.size + 1) (by simp) 2 (.slice AL d.log.length cL)).set (g := w.heap.size + 1) (by simp) 3 (.int .i64 d.clock)).set (g := w.heap.size + 1) (by simp) 4 (.slice AM d.mem.length cM)).set (g := w.heap.size + 1) (by simp) 5 (.slice A3 d.lea.length c3)
     have hlo9 := hw9.lo
     have HX := Lib.hid ((HO1.out.below hbz).keeps hke (fun q hq h => by have := (r1 q hq).1; simp at h; omega))
     have HY := Lib.hid ((HO2.out.below hbz).keeps hke (fun q hq h => by have := (r2 q hq).1; simp at h; omega))
     have HLF := Lib.hid (Lay.commits.keeps (Lay.commits.owBelow HLW.out hbz) hke (fun q hq h => by have := (r3 q hq).1; simp at h; omega))
     have HMF := Lib.hid (HM.out.keeps hke (fun q hq h => by have := (r4 q hq).1; simp at h; omega))
     have HEF := Lib.hid (Lay.leases.keeps hw9.ow hke (fun q hq h => by have := hlo9 q hq; simp at h; omega))
     have HFIN := Lib.hid ((below_then HBr.out hbz).trans (hke.below (B := w.heap.size) (by have := hbz.size; omega) (fun q h => by simp at h; omega)))
     have p0 := BX.out.cell 0
     have f0 := BX.out.frozen 0
     have q0 := RX.out.cell 0
     have g0 := RX.out.frozen 0
     have p1 := BX.out.cell 1
     have f1 := BX.out.frozen 1
     have q1 := RX.out.cell 1
     have g1 := RX.out.frozen 1
     have p2 := BX.out.cell 2
     have f2 := BX.out.frozen 2
     have q2 := RX.out.cell 2
     have g2 := RX.out.frozen 2
     have p3 := BX.out.cell 3
     have f3 := BX.out.frozen 3
     have q3 := RX.out.cell 3
     have g3 := RX.out.frozen 3
     have p4 := BX.out.cell 4
     have f4 := BX.out.frozen 4
     have q4 := RX.out.cell 4
     have g4 := RX.out.frozen 4
     have p5 := BX.out.cell 5
     have f5 := BX.out.frozen 5
     have q5 := RX.out.cell 5
     have g5 := RX.out.frozen 5
     clear hke r1 r2 r3 r4 hfp ho9 hg9 hle2 hlo9 hw9
     go_wp2
     refine bodyPost_ret (v := .agg #[.slice A1 d.start.length c1, .slice A2 d.text.length c2, .slice AL d.log.length cL, .int .i64 d.clock, .slice AM d.mem.length cM, .slice A3 d.lea.length c3]) (by simp [results, Tryz.results52, go_sem, p0, p1, p2, p3, p4, p5, q0, q1, q2, q3, q4, q5]) rfl ?_
     exact ⟨⟨A1, c1, A2, c2, AL, cL, AM, cM, A3, c3⟩, _, _, fl, fm, _, rfl, ⟨HX.out.ow, HY.out.ow, HLF.out, HMF.out.ow, HEF.out, HCK.out, HFP9.out.1, fun q hq => by have := HFP9.out.2 q hq; omega⟩, HFIN.out⟩
end Go.Proofs.YtaekanhjkpoifaaGreatDoor
