/-
  Chapter 7, a heap of leases emptied into a list; LeaseExpire in the program: contracts. Own work.
-/
import Derived.Test.YtalcjgmmlmhngaaI24
import Derived.Test.YtalcjgmmlmhngaaI22
namespace Go.Proofs.Ytalcjgmmlmhngaa
open Go.RowKit P
set_option linter.unusedVariables false
set_option linter.unusedSimpArgs false
set_option maxRecDepth 100000

theorem OwR.keeps {w w' : World} {base : Nat} {v : Value} {es : List Le} {fq : List Nat} (h : OwR w base v es) (hk : Keeps fq w w') (hd : ∀ k ∈ v.ownBlock.toList, k ∉ fq) : OwR w' base v es := by
  refine ⟨⟨h.row.1, ?_⟩, h.in_⟩
  rcases h.row.2 with h2 | ⟨g, cap, cur, rfl, hg, hh, r⟩
  · exact .inl h2
  · exact .inr ⟨g, cap, cur, rfl, hg, (hk.block g (Blk.lt (T := 34) hh) (hd g (by simp [Value.ownBlock]))).trans hh, r⟩
theorem OwR.range {w : World} {base : Nat} {v : Value} {es : List Le} (h : OwR w base v es) : ∀ k ∈ v.ownBlock.toList, base ≤ k ∧ k < w.heap.size := fun k hk => World.ownsRow.lt h.row k (by simpa using hk)
theorem Book.of_mem {D D' E : List Le} (h : Book D E) (hm : ∀ x, x ∈ D ↔ x ∈ D') : Book D' E := ⟨h.srt, fun l hl => (hm l).1 (h.sub l hl), fun l hl => h.all l ((hm l).2 hl)⟩

/-- How many the heap at hb holds. -/
def lenAt (hb : Nat) (w : World) : Nat := match w.cell? ⟨hb, 0, none⟩ with
  | some (.slice _ n _) => n
  | _ => 0
theorem Hq.form {w : World} {B hb : Nat} {v : Value} {H : List Le} (h : Hq w B hb v H) : ∃ A c, v = .slice A H.length c ∧ w.cell? ⟨hb, 0, none⟩ = some (.slice A H.length c) ∧ lenAt hb w = H.length := by
  obtain ⟨A, c, rfl, _⟩ := h.own.owL
  have h0 : w.cell? ⟨hb, 0, none⟩ = some (.slice A H.length c) := h.hd.cell 0
  exact ⟨A, c, rfl, h0, by unfold lenAt; rw [h0]⟩
set_option maxHeartbeats 1000000 in
theorem heapLenQ_any (B hb : Nat) (v : Value) (H : List Le) (w : World) (h : Hq w B hb v H) :
    Calls Try.prog 61 #[.pointer (some ⟨hb, 0, none⟩)] w fun e w' => e = .returned (.int .i64 (H.length : Int)) ∧ w' = w := by
  obtain ⟨A, c, rfl, h0, _⟩ := h.form
  clear h
  go_enter Try.func61, Try.ntmps61
  go_wp2
  go_ret
  exact ⟨rfl, rfl⟩

/-- While a heap of H is emptied: D has been taken off, E is what is left of it, G is still on the heap. -/
structure Empt (H : List Le) (B hb M : Nat) (w : World) (v : Value) (D E G : List Le) (vh : Value) (wr : World) : Prop where
  pm : (D ++ G).Perm H
  bk : Book D E
  td : ∀ d ∈ D, ∀ g ∈ G, d.2.2.2 ≤ g.2.2.2
  hp : IsHeap G G.length
  hq : Hq wr B hb vh G
  lo : ∀ k ∈ vh.ownBlock.toList, k < M
  ow : OwR wr M v E
  bl : Below B w wr
theorem Empt.ok {H : List Le} {B hb M : Nat} {w : World} {v : Value} {D E G : List Le} {vh : Value} {wr : World} (h : Empt H B hb M w v D E G vh wr) (hl : H.length ≤ 12) (hr : ∀ l ∈ H, leRight l = true) : leOk E = true := by
  have h1 := h.pm.length_eq
  rw [List.length_append] at h1
  exact h.bk.ok (by omega) (fun l hl => hr l (h.pm.mem_iff.1 (List.mem_append.2 (.inl hl))))

set_option maxHeartbeats 8000000 in
theorem emptied_any (B hb : Nat) (v : Value) (H : List Le) (w : World) (h : Hq w B hb v H) (hh : IsHeap H H.length) (hl : H.length ≤ 12) (hr : ∀ l ∈ H, leRight l = true) :
    Calls Try.prog 64 #[.pointer (some ⟨hb, 0, none⟩)] w fun e w' => ∃ v' E, e = .returned v' ∧ Book H E ∧ leOk E = true ∧ OwR w' w.heap.size v' E ∧ Below B w w' := by
  have hBh := h.hB
  have hhw := h.hd.lt
  have H0 := Lib.hid (show Empt H B hb w.heap.size w (.slice none 0 0) [] [] H v w from ⟨by simp, Book.nil, by simp, hh, h, fun k hk => (h.own.range k hk).2, OwR.nil w _, Below.refl _ _⟩)
  have HR := Lib.hid hr
  clear h hh hr
  go_enter Try.func64, Try.ntmps64
  go_wp2
  go_loopw [3] (fun lst wr => ∃ (v' : Value) (D E G : List Le) (vh : Value), v' = lst ∧ Hid (Empt H B hb w.heap.size w v' D E G vh wr)) (fun _ wr => lenAt hb wr)
  case atStart => exact ⟨_, [], [], H, v, rfl, H0⟩
  case round =>
    obtain ⟨v', D, E, G, vh, rfl, HE⟩ := hrel
    have hlen := heapLenQ_any B hb vh G wr HE.out.hq
    have HM := Lib.hid HE.out.hq.form
    by_cases h0 : 0 < G.length
    · have hgl : (0 : Int) < (G.length : Int) := by omega
      have hGl : G.length ≤ 12 := by
        have h1 := HE.out.pm.length_eq
        rw [List.length_append] at h1
        omega
      obtain ⟨g, cap, hvh, hbg, hp⟩ := hp_of_hq HE.out.hq h0
      have hpop := heapPop_any hb g cap G wr hp h0 HE.out.hp (by omega)
      have HVH := Lib.hid hvh
      clear hvh hp
      go_wp2_with fail
      refine hlen.mono ?_
      rintro e w1 ⟨rfl, rfl⟩
      clear hlen
      go_wp2_with fail
      refine hpop.mono ?_
      rintro e w2 ⟨x, y, s, t, G', rfl, hpm, _, hle, hih, hp2, hk2⟩
      have hTA : ∀ W, (Instr.typeAssert (.iface 34 (.agg #[.int .i64 x, .int .i64 y, .int .i64 s, .int .i64 t])) 20 34 false).run Try.prog W = .ok (.agg #[.int .i64 x, .int .i64 y, .int .i64 s, .int .i64 t]) W := fun W => by kernel_rfl
      have hmem : (x, y, s, t) ∈ G := hpm.mem_iff.1 (by simp)
      have hin := HE.out.hq.own.in_ _ hmem
      have hgM : g < w.heap.size := HE.out.lo g (by rw [HVH.out]; simp [Value.ownBlock])
      have hO2 := HE.out.ow.keeps hk2 (fun k hk => by
        have h9 := (HE.out.ow.range k hk).1
        intro hm
        have h8 : k = hb ∨ k = g := by simpa using hm
        omega)
      have hzw := HE.out.bl.size
      have hz2 := hk2.size
      have hput := putLease_any v' E x y s t w.heap.size w2 (HE.out.ok hl HR.out) hO2 hin (by omega)
      have HPM := Lib.hid hpm
      have HLE := Lib.hid hle
      have HIH := Lib.hid hih
      have HP2 := Lib.hid hp2
      have HK2 := Lib.hid hk2
      have HPUT := Lib.hid hput
      have HO2 := Lib.hid hO2
      clear hpop hpm hle hih hp2 hk2 hput hO2 hin hmem
      go_wp2_with fail
      refine HPUT.out.mono ?_
      rintro e w3 ⟨v3, rfl, hO3, hg3⟩
      have hr2 := HO2.out.range
      have hk3 := Keeps.of_grown hg3
      have hp3 : Hp w3 hb g cap G' := by
        have hq2 := hq_of_hp (B := B) HP2.out hBh hbg
        have b1 := hk3.block hb HP2.out.hd.lt (fun hm => by have := (hr2 hb hm).1; omega)
        have b2 := hk3.block g HP2.out.row.lt (fun hm => by have := (hr2 g hm).1; omega)
        refine ⟨HP2.out.hd.of_block b1, HP2.out.row.keep b2, ?_, HP2.out.ne, HP2.out.le, HP2.out.cm, HP2.out.in_⟩
        obtain ⟨cur, c1, c2⟩ := HP2.out.sz
        exact ⟨cur, c1.of_block b2, c2⟩
      have hE3 : Empt H B hb w.heap.size w v3 (D ++ [(x, y, s, t)]) (putL E (x, y, s, t)) G' (.slice (some ⟨g, 0, none⟩) G'.length cap) w3 := by
        have hm2 : ∀ z ∈ G', z ∈ G := fun z hz => HPM.out.mem_iff.1 (List.mem_cons_of_mem _ hz)
        have hm3 : (x, y, s, t) ∈ G := HPM.out.mem_iff.1 (by simp)
        refine ⟨?_, HE.out.bk.put (fun d hd _ => HE.out.td d hd _ hm3), fun d hd z hz => ?_, HIH.out, hq_of_hp hp3 hBh hbg, fun k hk => ?_, hO3, ?_⟩
        · rw [List.append_assoc, List.singleton_append]
          exact (HPM.out.append_left D).trans HE.out.pm
        · rcases List.mem_append.1 hd with h9 | h9
          · exact HE.out.td d h9 z (hm2 z hz)
          · rw [List.mem_singleton] at h9
            subst h9
            exact HLE.out z (hm2 z hz)
        · simp [Value.ownBlock] at hk
          omega
        · refine (HE.out.bl.trans (HK2.out.below (B := B) (by omega) (fun k hk => by
          have h8 : k = hb ∨ k = g := by simpa using hk
          omega))).trans (hk3.below (by omega) (fun k hk => by have := (hr2 k hk).1; omega))
      have HE3 := Lib.hid hE3
      have hm1 := HM.out
      obtain ⟨_, _, _, _, hm1⟩ := hm1
      have hm2 := (show Hq _ _ _ _ _ from HE3.out.hq).form
      obtain ⟨_, _, _, _, hm2⟩ := hm2
      have hGG : G'.length < G.length := by
        have h9 := HPM.out.length_eq
        rw [List.length_cons] at h9
        omega
      clear hE3 hp3 hO3 hg3 hk3 hr2
      go_wp2
      go_roundw
      case rel => exact ⟨v3, _, _, _, _, rfl, HE3⟩
      case measure => rw [hm1, hm2]; exact hGG
    · have hG : G = [] := List.eq_nil_of_length_eq_zero (by omega)
      have hgl : ¬ (0 : Int) < (G.length : Int) := by omega
      have HOK := Lib.hid (HE.out.ok hl HR.out)
      have HBK := Lib.hid (show Book H E from HE.out.bk.of_mem (fun x => by
        have h9 := HE.out.pm.mem_iff (a := x)
        rw [hG, List.append_nil] at h9
        exact h9))
      clear hG
      go_wp2_with fail
      refine hlen.mono ?_
      rintro e w1 ⟨rfl, rfl⟩
      clear hlen
      go_wp2
      go_ret
      exact ⟨_, E, rfl, HBK.out, HOK.out, HE.out.ow, HE.out.bl⟩
end Go.Proofs.Ytalcjgmmlmhngaa
