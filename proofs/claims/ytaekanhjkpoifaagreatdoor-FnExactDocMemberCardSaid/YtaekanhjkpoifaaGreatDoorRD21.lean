/-
 Chapter 10, the laws' helpers on one member: contracts. Own work.
-/
import Derived.Test.YtaekanhjkpoifaaGreatDoorRD20
import Derived.Test.YtaekanhjkpoifaaGreatDoorRC20
namespace Go.Proofs.YtaekanhjkpoifaaGreatDoor
open Go.RowKit P
set_option linter.unusedVariables false
set_option linter.unusedSimpArgs false
set_option maxRecDepth 100000

theorem tot_le6 : ∀ (L : List Ed), (∀ e ∈ L, e.2.2.length ≤ 1000) → tot (puts L) ≤ 1000 * L.length := by
 intro L
 induction L with
 | nil => intro _; simp [tot, puts]
 | cons e t ih =>
  intro h
  have h1 := ih (fun x hx => h x (List.mem_cons_of_mem _ hx))
  have h2 := h e (List.mem_cons_self ..)
  have h3 : tot (puts (e :: t)) = e.2.2.length + tot (puts t) := by unfold tot puts; simp
  rw [h3, List.length_cons]
  omega
theorem memG_small (d : Dc) (s : Int) : (memG d s).2.2.1.length ≤ 6 ∧ (memG d s).2.2.2.length ≤ 6 ∧ tot (puts (memG d s).2.2.1) ≤ 6000 ∧ tot (puts (memG d s).2.2.2) ≤ 6000 := by
 by_cases h : memIs d s = true
 ·have h0 := h
  unfold memIs at h0
  rw [Bool.and_eq_true] at h0
  have hk := of_decide_eq_true h0.2
  rw [(memG_yes h0.1 hk rfl).2]
  have k1 := docOk_mem_six h0.1 _ (List.getElem_mem hk)
  have k2 := docOk_mem_small h0.1 _ (List.getElem_mem hk)
  have k3 := tot_le6 _ k2.2.1
  have k4 := tot_le6 _ k2.2.2
  refine ⟨k1.1, k1.2, ?_, ?_⟩ <;> omega
 ·rw [memG_no (by simpa using h)]
  simp [tot, puts]
/-- A member's stacks, read. -/
structure RdS (w : World) (A B : Option Addr) (u r : List Ed) : Prop where
 u : Es w A u
 r : Es w B r
theorem RdS.below {w w' : World} {A B : Option Addr} {u r : List Ed} (h : RdS w A B u r) (hb : Below w.heap.size w w') : RdS w' A B u r := ⟨h.u.below hb, h.r.below hb⟩
theorem OwS.rdS {w : World} {base : Nat} {A B : Option Addr} {u r : List Ed} {c d : Nat} {fp gp : List Nat} (h : OwS w base A u c fp B r d gp) : RdS w A B u r := ⟨h.u.es, h.r.es⟩
theorem OwS.range {w : World} {base : Nat} {A B : Option Addr} {u r : List Ed} {c d : Nat} {fp gp : List Nat} (h : OwS w base A u c fp B r d gp) : ∀ k ∈ fp ++ gp, base ≤ k ∧ k < w.heap.size := by
 intro k hk
 rcases List.mem_append.1 hk with h1 | h1
 ·exact h.u.range k h1
 ·exact h.r.range k h1
theorem OwS.keeps2 {w w' : World} {base : Nat} {A B : Option Addr} {u r : List Ed} {c d : Nat} {fp gp fq : List Nat} (h : OwS w base A u c fp B r d gp) (hk : Keeps fq w w') (hd : ∀ k ∈ fp ++ gp, k ∉ fq) : OwS w' base A u c fp B r d gp :=
 h.keeps hk (fun k h1 => hd k (List.mem_append.2 (.inl h1))) (fun k h1 => hd k (List.mem_append.2 (.inr h1)))

set_option maxHeartbeats 1000000 in
theorem eqMember_same (s f t : Int) (A B A' B' : Option Addr) (u r : List Ed) (c d c' d' : Nat) (w : World) (hu : u.length ≤ 6) (hr : r.length ≤ 6) (h1 : RdS w A B u r) (h2 : RdS w A' B' u r) :
  Calls Tryz.prog 20 #[.agg #[.int .i64 s, .int .i64 f, .int .i64 t, .slice A u.length c, .slice B r.length d], .agg #[.int .i64 s, .int .i64 f, .int .i64 t, .slice A' u.length c', .slice B' r.length d']] w fun e w' => e = .returned (.bool true) ∧ Below w.heap.size w w' := by
 refine (eqMember_any s f t s f t A u c B r d A' u c' B' r d' w (by omega) (by omega) h1.u h1.r h2.u h2.r).mono ?_
 rintro e w1 ⟨rfl, hb⟩
 exact ⟨by rw [decide_eq_true ⟨rfl, ⟨rfl, rfl⟩, rfl, rfl⟩], hb⟩

set_option maxHeartbeats 4000000 in
theorem markMember_any (s f t : Int) (A : Option Addr) (u : List Ed) (c : Nat) (fp : List Nat) (B : Option Addr) (r : List Ed) (d : Nat) (gp : List Nat) (base k : Nat) (w : World) (hk : k ≤ 10) (hu : u.length + tot (puts u) ≤ 1048576) (hr : r.length + tot (puts r) ≤ 1048576) (h : OwS w base A u c fp B r d gp) :
  Calls Tryz.prog 21 #[.agg #[.int .i64 s, .int .i64 f, .int .i64 t, .slice A u.length c, .slice B r.length d], .int .i64 (k : Int)] w fun e w' => e = .returned (.int .i64 (markN (markN k u) r : Int)) ∧ Keeps (fp ++ gp) w w' ∧ RdS w' A B (markedE k u) (markedE (markN k u) r) := by
 have hal := (Below.refl w.heap.size w).alloc (Nat.le_refl _) (.cells #[.int .i64 s, .int .i64 f, .int .i64 t, .slice A u.length c, .slice B r.length d] 50)
 have BX := Lib.hid (Blk.new w #[.int .i64 s, .int .i64 f, .int .i64 t, .slice A u.length c, .slice B r.length d] 50)
 have HO := Lib.hid (h.below hal)
 have HB := Lib.hid (Keeps.of_below (fp := fp ++ gp) hal)
 have p3 := BX.out.cell 3
 have p4 := BX.out.cell 4
 clear hal h
 go_enter Tryz.func21, Tryz.ntmps21
 go_wp2_with fail
 generalize w.alloc (.cells #[.int .i64 s, .int .i64 f, .int .i64 t, .slice A u.length c, .slice B r.length d] 50) = W at *
 refine (markStack_full A u c fp B r d gp base k _ hk hu hr HO.out).mono ?_
 rintro e w1 ⟨rfl, hke, h1, h2⟩
 obtain ⟨K, hK⟩ : ∃ K : Int, ((markN (markN k u) r : Nat) : Int) = K := ⟨_, rfl⟩
 rw [hK]
 have HK := Lib.hid hK
 have HE := Lib.hid hke
 have M1 := Lib.hid h1.es
 have M2 := Lib.hid h2.es
 clear hK hke h1 h2 p3 p4
 go_wp2
 go_ret
 exact ⟨(by rw [HK.out]; rfl), HB.out.trans HE.out, ⟨M1.out, M2.out⟩⟩

set_option maxHeartbeats 4000000 in
theorem heldMember_any (s f t : Int) (A : Option Addr) (u : List Ed) (c : Nat) (B : Option Addr) (r : List Ed) (d k : Nat) (w : World) (hk : k ≤ 10) (hu : 2 * u.length + tot (puts u) ≤ 400000) (hr : 2 * r.length + tot (puts r) ≤ 400000) (h : RdS w A B (markedE k u) (markedE (markN k u) r)) :
  Calls Tryz.prog 22 #[.agg #[.int .i64 s, .int .i64 f, .int .i64 t, .slice A u.length c, .slice B r.length d], .int .i64 (k : Int)] w fun e w' => e = .returned (.int .i64 (markN (markN k u) r : Int)) ∧ Below w.heap.size w w' := by
 have hal := (Below.refl w.heap.size w).alloc (Nat.le_refl _) (.cells #[.int .i64 s, .int .i64 f, .int .i64 t, .slice A u.length c, .slice B r.length d] 50)
 have BX := Lib.hid (Blk.new w #[.int .i64 s, .int .i64 f, .int .i64 t, .slice A u.length c, .slice B r.length d] 50)
 have HM := Lib.hid (h.below hal)
 have HB := Lib.hid hal
 have p3 := BX.out.cell 3
 have p4 := BX.out.cell 4
 clear hal h
 go_enter Tryz.func22, Tryz.ntmps22
 go_wp2_with fail
 generalize w.alloc (.cells #[.int .i64 s, .int .i64 f, .int .i64 t, .slice A u.length c, .slice B r.length d] 50) = W at *
 refine (heldStack_any A u c B r d k _ hk hu hr HM.out.u HM.out.r).mono ?_
 rintro e w1 ⟨rfl, hb⟩
 obtain ⟨K, hK, hK0⟩ : ∃ K : Int, ((markN (markN k u) r : Nat) : Int) = K ∧ ¬ K < 0 := ⟨_, rfl, by omega⟩
 have hKd : decide (K < 0) = false := decide_eq_false hK0
 rw [hK]
 have HK := Lib.hid hK
 have HB := Lib.hid (below_then HB.out hb)
 clear hK hb p3 p4
 go_wp2
 go_ret
 exact ⟨(by rw [HK.out]; rfl), HB.out⟩
end Go.Proofs.YtaekanhjkpoifaaGreatDoor
