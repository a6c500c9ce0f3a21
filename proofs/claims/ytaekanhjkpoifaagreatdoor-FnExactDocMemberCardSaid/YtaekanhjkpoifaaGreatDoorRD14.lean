/-
 Chapter 10: four things apart in memory; append of one element onto an own list inside a drawn region; ways of a drawn region that meet. Own work.
-/
import Derived.Test.YtaekanhjkpoifaaGreatDoorRC16
import Derived.Test.YtaekanhjkpoifaaGreatDoorRp4
import Derived.Test.YtaekanhjkpoifaaGreatDoorRp8
import Derived.Test.YtaekanhjkpoifaaGreatDoorRp3
namespace Go.Proofs.YtaekanhjkpoifaaGreatDoor
open Go.RowKit P
set_option linter.unusedVariables false
set_option linter.unusedSimpArgs false
set_option maxRecDepth 100000

/-- Ways of a region that meet: what lies behind is walked once. -/
theorem meetAt {T goal : Prop} (k : T → goal) (t : T) : goal := k t

/-- Something that lies in the blocks fp. -/
structure Itm where
 fp : List Nat
 P : World → Prop
 st : ∀ Y Y' : World, P Y → (∀ k ∈ fp, Y'.heap[k]? = Y.heap[k]?) → Y.heap.size ≤ Y'.heap.size → P Y'
 lt : ∀ Y, P Y → ∀ k ∈ fp, k < Y.heap.size
def Itm.emp : Itm := ⟨[], fun _ => True, fun _ _ _ _ _ => trivial, fun _ _ k hk => nomatch hk⟩
def Itm.blk (b : Nat) (cs : Array Value) (T : TypeId) : Itm := ⟨[b], fun Y => Blk Y b cs T, fun Y Y' h hk _ => Blk.of_block h (hk b (by simp)), fun Y h k hk => by
 have e : k = b := by simpa using hk
 subst e
 exact Blk.lt h⟩
def Itm.txt (v : Value) (l : List UInt8) : Itm := ⟨v.ownBlock.toList, fun Y => Own Y 0 v l, fun Y Y' h hk _ => h.heap hk, fun Y h k hk => (World.ownsRow.lt h k (by simpa using hk)).2⟩
theorem OwR.heap {Y Y' : World} {B : Nat} {v : Value} {es : List Le} (h : OwR Y B v es) (hk : ∀ k ∈ v.ownBlock.toList, Y'.heap[k]? = Y.heap[k]?) : OwR Y' B v es := by
 refine ⟨⟨h.row.1, ?_⟩, h.in_⟩
 rcases h.row.2 with h2 | ⟨g, cap, cur, rfl, hb, hh, r⟩
 ·exact .inl h2
 ·exact .inr ⟨g, cap, cur, rfl, hb, (hk g (by simp [Value.ownBlock])).trans hh, r⟩
def Itm.lea (v : Value) (es : List Le) : Itm := ⟨v.ownBlock.toList, fun Y => OwR Y 0 v es, fun Y Y' h hk _ => h.heap hk, fun Y h k hk => (World.ownsRow.lt h.row k (by simpa using hk)).2⟩
structure Sp4 (W0 Y : World) (a b c d : Itm) : Prop where
 bel : Below W0.heap.size W0 Y
 p : a.P Y ∧ b.P Y ∧ c.P Y ∧ d.P Y
 g : (∀ k ∈ a.fp, W0.heap.size ≤ k) ∧ (∀ k ∈ b.fp, W0.heap.size ≤ k) ∧ (∀ k ∈ c.fp, W0.heap.size ≤ k) ∧ (∀ k ∈ d.fp, W0.heap.size ≤ k)
 ab : ∀ k ∈ a.fp, k ∉ b.fp
 ac : ∀ k ∈ a.fp, k ∉ c.fp
 ad : ∀ k ∈ a.fp, k ∉ d.fp
 bc : ∀ k ∈ b.fp, k ∉ c.fp
 bd : ∀ k ∈ b.fp, k ∉ d.fp
 cd : ∀ k ∈ c.fp, k ∉ d.fp
theorem Sp4.new {W0 Y : World} (h : Below W0.heap.size W0 Y) : Sp4 W0 Y Itm.emp Itm.emp Itm.emp Itm.emp := by
 refine ⟨h, ⟨trivial, trivial, trivial, trivial⟩, ⟨?_, ?_, ?_, ?_⟩, ?_, ?_, ?_, ?_, ?_, ?_⟩ <;> exact fun k hk => nomatch hk
theorem Sp4.rot {W0 Y : World} {a b c d : Itm} (h : Sp4 W0 Y a b c d) : Sp4 W0 Y b c d a :=
 ⟨h.bel, ⟨h.p.2.1, h.p.2.2.1, h.p.2.2.2, h.p.1⟩, ⟨h.g.2.1, h.g.2.2.1, h.g.2.2.2, h.g.1⟩, h.bc, h.bd, fun k hk h2 => h.ab k h2 hk, h.cd, fun k hk h2 => h.ac k h2 hk, fun k hk h2 => h.ad k h2 hk⟩
theorem Sp4.grow {W0 Y Y' : World} {a a' b c d : Itm} (h : Sp4 W0 Y a b c d) (hk : Keeps a.fp Y Y') (hp : a'.P Y') (hs : ∀ k ∈ a'.fp, k ∈ a.fp ∨ Y.heap.size ≤ k) : Sp4 W0 Y' a' b c d := by
 have hz := h.bel.size
 have k1 := fun k hk => b.lt _ h.p.2.1 k hk
 have k2 := fun k hk => c.lt _ h.p.2.2.1 k hk
 have k3 := fun k hk => d.lt _ h.p.2.2.2 k hk
 refine ⟨h.bel.trans (hk.below (B := W0.heap.size) h.bel.size h.g.1), ⟨hp, b.st _ _ h.p.2.1 (fun k hkb => hk.block k (k1 k hkb) (fun h2 => h.ab k h2 hkb)) hk.size, c.st _ _ h.p.2.2.1 (fun k hkb => hk.block k (k2 k hkb) (fun h2 => h.ac k h2 hkb)) hk.size, d.st _ _ h.p.2.2.2 (fun k hkb => hk.block k (k3 k hkb) (fun h2 => h.ad k h2 hkb)) hk.size⟩,
  ⟨fun k hk2 => ?_, h.g.2.1, h.g.2.2.1, h.g.2.2.2⟩, fun k hk2 h2 => ?_, fun k hk2 h2 => ?_, fun k hk2 h2 => ?_, h.bc, h.bd, h.cd⟩
 ·rcases hs k hk2 with h3 | h3
  ·exact h.g.1 k h3
  ·omega
 ·rcases hs k hk2 with h3 | h3
  ·exact h.ab k h3 h2
  ·have := k1 k h2; omega
 ·rcases hs k hk2 with h3 | h3
  ·exact h.ac k h3 h2
  ·have := k2 k h2; omega
 ·rcases hs k hk2 with h3 | h3
  ·exact h.ad k h3 h2
  ·have := k3 k h2; omega
theorem Sp4.fresh {W0 Y Y' : World} {a b c d : Itm} (h : Sp4 W0 Y Itm.emp b c d) (hb : Below Y.heap.size Y Y') (hp : a.P Y') (hg : ∀ k ∈ a.fp, Y.heap.size ≤ k) : Sp4 W0 Y' a b c d :=
 h.grow (Keeps.of_below hb) hp (fun k hk => .inr (hg k hk))
theorem own_sub {v v' : Value} {Y : World} (hv : v'.ownBlock = v.ownBlock ∨ v'.ownBlock = some Y.heap.size) : ∀ k ∈ v'.ownBlock.toList, k ∈ v.ownBlock.toList ∨ Y.heap.size ≤ k := by
 intro k hk
 rcases hv with h | h
 ·left; rw [h] at hk; exact hk
 ·right
  rw [h] at hk
  have : k = Y.heap.size := by simpa using hk
  omega
theorem own_row0 (Y : World) : Own (Y.alloc (.cells #[] 5)) 0 (.slice (some ⟨Y.heap.size, 0, none⟩) 0 0) [] := World.ownsRow_made Y #[] 0 (Nat.zero_le _) (by unfold maxLen; omega) rfl
theorem Sp4.row {W0 Y : World} {b c d : Itm} (h : Sp4 W0 Y Itm.emp b c d) : Sp4 W0 (Y.alloc (.cells #[] 5)) (Itm.txt (.slice (some ⟨Y.heap.size, 0, none⟩) 0 0) []) b c d :=
 h.fresh ((Below.refl _ _).alloc (Nat.le_refl _) _) (own_row0 Y) (fun k hk => by simp [Itm.txt, Value.ownBlock] at hk; omega)
theorem Sp4.lrow {W0 Y : World} {b c d : Itm} (h : Sp4 W0 Y Itm.emp b c d) : Sp4 W0 (Y.alloc (.cells #[] 106)) (Itm.lea (.slice (some ⟨Y.heap.size, 0, none⟩) 0 0) []) b c d :=
 h.fresh ((Below.refl _ _).alloc (Nat.le_refl _) _) ((OwR.empty Y).mono (Nat.zero_le _)) (fun k hk => by simp [Itm.lea, Value.ownBlock] at hk; omega)
theorem Sp4.box {W0 Y : World} {b c d : Itm} (h : Sp4 W0 Y Itm.emp b c d) (cs : Array Value) (T : TypeId) : Sp4 W0 (Y.alloc (.cells cs T)) (Itm.blk Y.heap.size cs T) b c d :=
 h.fresh ((Below.refl _ _).alloc (Nat.le_refl _) _) (Blk.new Y cs T) (fun k hk => by simp [Itm.blk] at hk; omega)
theorem Sp4.app {W0 Y Y' : World} {v v' : Value} {l l' : List UInt8} {b c d : Itm} (h : Sp4 W0 Y (Itm.txt v l) b c d) (ho : Own Y' 0 v' l') (hg : Y.grownBy Y' v.ownBlock) (hv : v'.ownBlock = v.ownBlock ∨ v'.ownBlock = some Y.heap.size) : Sp4 W0 Y' (Itm.txt v' l') b c d :=
 h.grow (Keeps.of_grown hg) ho (own_sub hv)
theorem Sp4.lapp {W0 Y Y' : World} {v v' : Value} {l l' : List Le} {b c d : Itm} (h : Sp4 W0 Y (Itm.lea v l) b c d) (ho : OwR Y' 0 v' l') (hg : Y.grownBy Y' v.ownBlock) (hv : v'.ownBlock = v.ownBlock ∨ v'.ownBlock = some Y.heap.size) : Sp4 W0 Y' (Itm.lea v' l') b c d :=
 h.grow (Keeps.of_grown hg) ho (own_sub hv)
theorem Sp4.set {W0 Y : World} {g : Nat} {cs : Array Value} {T : TypeId} {b c d : Itm} (h : Sp4 W0 Y (Itm.blk g cs T) b c d) (i : Nat) (v : Value) : Sp4 W0 (Y.setCell ⟨g, i, none⟩ v) (Itm.blk g (cs.setIfInBounds i v) T) b c d :=
 h.grow ((Keeps.refl [g] Y).set (List.mem_singleton.2 rfl) i v) (show Blk _ _ _ _ from (show Blk Y g cs T from h.p.1).set i v) (fun k hk => .inl hk)

/-- append of one element, with what it owns, inside a region that draws its order. -/
theorem step_app_one9 {P : Program} {w : World} {ops : Array Oper} {o : Oper} {a : Act} {K : Act → World → Prop} {Q : Exit → Act → World → Prop} {X : Prop} (hgd : o.guard = none) (s y : Operand) (t : TypeId)
  (ho : o.op = .call { callee := .builtin .append, args := #[s, y], argTypes := #[t, t] })
  {α : Type} (T : TypeId) (E : Lay α) (z : Value) (size bytes : Nat) (ht : P.underlying t = some (.slice T))
  (hinfo : (P.info? T).map (fun i => (i.zero, i.size, i.bytes)) = some (some z, size, bytes)) (hsz : size = E.sz) (hzs : z.cells.size = size) (hpos : 0 < size) (hby : bytes ≤ 10000)
  (v : Value) (l : List α) (fp : List Nat) (us : List Value) (x : α) (fx : List Nat) (ad : Addr) (c : Nat) (hs : a.eval s = v) (hy : a.eval y = .slice (some ad) 1 c)
  (h : (Lay.slice T E).ow w [v] l fp) (hn : fp.Nodup) (hx : E.ow w us x fx) (hnx : fx.Nodup) (B : Nat) (hB : ∀ k ∈ fp, k < B) (hB2 : ∀ k ∈ fx, B ≤ k)
  (hc : ∀ j u, us[j]? = some u → w.cell? (ad.add j) = some u) (hlen : l.length ≤ 1000000)
  (hK : ∀ v' w' fp', (Lay.slice T E).ow w' [v'] (l ++ [x]) fp' → fp'.Nodup → (∀ k ∈ fp', k ∈ fp ∨ k ∈ fx ∨ k = w.heap.size) → w.grownBy w' v.ownBlock → K (a.put o.dst v') w') :
  if Region.wanted o (yielded ops a.tmps) = true then Oper.wp P o a w K Q else X := by
 obtain ⟨v', w', fp', hrun, h2, h3, h4, h5⟩ := run_app_one (P := P) t o.type ht hinfo hsz hzs hpos h hn hx hnx B hB hB2 ad c hc hlen hby
 have hw : Region.wanted o (yielded ops a.tmps) = true := by simp [Region.wanted, hgd]
 rw [if_pos hw]
 unfold Oper.wp execOp
 simp only [ho, resolve, invoke, builtin, Sem.run_bind, Sem.run_pure, Result.andThen_ok, List.map_toArray, List.map_cons, List.map_nil, hs, hy, hrun]
 exact hK v' w' fp' h2 h3 h4 h5
theorem blk_cells {w : World} {g : Nat} {vs : List Value} {T : TypeId} (h : Blk w g vs.toArray T) : ∀ j u, vs[j]? = some u → w.cell? ((⟨g, 0, none⟩ : Addr).add j) = some u := by
 intro j u hu
 rw [add_plain, Nat.zero_add, h.cell j]
 simpa using hu

/-- A document of the call's own, as a call gives it. -/
def GivesD (d : Dc) (w : World) (e : Ending) (w' : World) : Prop := ∃ b fs ft fl fm fe, e = .returned (.agg #[.slice b.s d.start.length b.cs, .slice b.t d.text.length b.ct, .slice b.l d.log.length b.cl, .int .i64 d.clock, .slice b.m d.mem.length b.cm, .slice b.e d.lea.length b.ce]) ∧ OwD w' w.heap.size b d fs ft fl fm fe ∧ Below w.heap.size w w'

set_option maxHeartbeats 4000000 in
theorem l10Member_any (a : Da) (d : Dc) (s : Int) (w : World) (hn : d.mem.length ≤ 9223372036854775807) (hD : RdD w a d) :
  Calls Tryz.prog 57 #[.agg #[.slice a.s d.start.length a.cs, .slice a.t d.text.length a.ct, .slice a.l d.log.length a.cl, .int .i64 d.clock, .slice a.m d.mem.length a.cm, .slice a.e d.lea.length a.ce], .int .i64 s] w fun e w' => e = .returned (.int .i64 (if mIx d.mem s < d.mem.length then (mIx d.mem s : Int) else -1)) ∧ Below w.heap.size w w' := by
 have hal := (Below.refl w.heap.size w).alloc (Nat.le_refl _) (.cells #[.slice a.s d.start.length a.cs, .slice a.t d.text.length a.ct, .slice a.l d.log.length a.cl, .int .i64 d.clock, .slice a.m d.mem.length a.cm, .slice a.e d.lea.length a.ce] 36)
 have BX := Lib.hid (Blk.new w #[.slice a.s d.start.length a.cs, .slice a.t d.text.length a.ct, .slice a.l d.log.length a.cl, .int .i64 d.clock, .slice a.m d.mem.length a.cm, .slice a.e d.lea.length a.ce] 36)
 have HM := Lib.hid hD.m
 have HB := Lib.hid hal
 obtain ⟨R, hR⟩ : ∃ R : Int, (if mIx d.mem s < d.mem.length then (mIx d.mem s : Int) else -1) = R := ⟨_, rfl⟩
 rw [hR]
 have HR := Lib.hid hR
 clear hal hD hR
 go_enter Tryz.func57, Tryz.ntmps57
 go_wp2
 go_loopw [5] (fun i wr => ∃ k : Nat, k ≤ d.mem.length ∧ i = .int .i64 k ∧ (∀ j (hj : j < d.mem.length), j < k → d.mem[j].1 ≠ s) ∧ Below w.heap.size w wr ∧ Blk wr w.heap.size #[.slice a.s d.start.length a.cs, .slice a.t d.text.length a.ct, .slice a.l d.log.length a.cl, .int .i64 d.clock, .slice a.m d.mem.length a.cm, .slice a.e d.lea.length a.ce] 36) (fun i _ => d.mem.length - (intOf i).toNat)
 case atStart => exact ⟨0, Nat.zero_le _, rfl, fun j hj h => by omega, HB.out, BX.out⟩
 case round =>
  obtain ⟨k, hk, rfl, hno, hb, bx⟩ := hrel
  have HNO := Lib.hid hno
  have BXR := Lib.hid bx
  by_cases hlt : k < d.mem.length
  ·obtain ⟨b, off, s0, f0, t0, U0, u0, c0, C0, r0, d0, hA, hbl, hek, k0, k1, k2, k3, k4, _⟩ := HM.out.at_ k hlt
   have p4 : wr.cell? ⟨w.heap.size, 4, none⟩ = some (.slice (some ⟨b, off, none⟩) d.mem.length a.cm) := by rw [← hA]; exact bx.cell 4
   have j0 := (hb.cell (p := ⟨b, off + k * 5, none⟩) hbl).trans k0
   have hki0 : (0 : Int) ≤ (k : Int) := by omega
   have hki : (k : Int) < (d.mem.length : Int) := by omega
   have HEK := Lib.hid hek
   clear hno bx k0 k1 k2 k3 k4 hek hA
   by_cases hs : s0 = s
   ·have hix := mIx_eq hlt (by rw [HEK.out]; exact hs) HNO.out
    have hres : R = (k : Int) := by rw [← HR.out, hix, if_pos hlt]
    have HRE := Lib.hid hres
    have hss : (s0 == s) = true := by simp [hs]
    clear hix hres hs
    go_wp2
    go_ret
    exact ⟨(by rw [HRE.out]; first | done | rfl), hb⟩
   ·have hss : (s0 == s) = false := by simp [hs]
    have hn2 : ∀ j (hj : j < d.mem.length), j < k + 1 → d.mem[j].1 ≠ s := fun j hj hjk => by
     by_cases e : j = k
     ·subst e; rw [HEK.out]; exact hs
     ·exact HNO.out j hj (by omega)
    have HN2 := Lib.hid hn2
    clear hn2
    go_wp2
    go_roundw
    case rel => exact ⟨k + 1, by omega, by go_num, HN2.out, hb, BXR.out⟩
    case measure => simp [intOf]; omega
  ·have e : k = d.mem.length := by omega
   subst e
   have p4 := bx.cell 4
   have hix := mIx_none (fun j hj => HNO.out j hj hj)
   have hres : R = -1 := by rw [← HR.out, hix, if_neg (Nat.lt_irrefl _)]
   have HRE := Lib.hid hres
   clear hix hres hno
   go_wp2
   go_ret
   exact ⟨(by rw [HRE.out]; first | done | rfl), hb⟩
end Go.Proofs.YtaekanhjkpoifaaGreatDoor
