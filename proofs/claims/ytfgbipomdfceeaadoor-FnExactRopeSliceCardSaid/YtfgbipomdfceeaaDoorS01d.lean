/-
  Chapter 1, the model's l01Cuts and what is read off it: contracts. Own work.
-/
import Derived.Test.YtfgbipomdfceeaaDoorS01c
namespace Go.Proofs.YtfgbipomdfceeaaDoor
open Go.RowKit P
set_option linter.unusedVariables false

def nV (n : Nat) : Value := .int .i64 (n : Int)

/-- v is a slice of ints of the call's own that holds the numbers l. -/
def OwnN (w : World) (base : Nat) (v : Value) (l : List Nat) : Prop := w.ownsRow base 3 1 v l.length (l.map nV)

theorem OwnN.form {w : World} {base : Nat} {v : Value} {l : List Nat} (h : OwnN w base v l) : ∃ A c, v = .slice A l.length c ∧ l.length ≤ c ∧ c ≤ maxLen ∧
    ∀ k (hk : k < l.length), ∃ b off, A = some ⟨b, off, none⟩ ∧ w.cell? ⟨b, off + k, none⟩ = some (.int .i64 ((l[k] : Nat) : Int)) := by
  obtain ⟨h1, h2⟩ := h
  rcases h2 with ⟨rfl, h0⟩ | ⟨g, cap, cur, rfl, hb, hh, hn, hc, hs, ht⟩
  · have : l = [] := List.eq_nil_of_length_eq_zero h0
    subst this
    exact ⟨none, 0, rfl, Nat.le_refl _, by unfold maxLen; omega, fun k hk => by simp at hk⟩
  · refine ⟨_, cap, rfl, hn, hc, fun k hk => ⟨g, 0, rfl, ?_⟩⟩
    rw [Nat.zero_add, cell_of_row w g k cur _ (0, 0) hh]
    have h3 : (cur.toList.take (l.length * 1))[k]? = (l.map nV)[k]? := by rw [ht]
    rw [List.getElem?_take, if_pos (by omega)] at h3
    simp only [Array.getElem?_toList] at h3
    rw [h3]
    simp [hk, nV]

theorem OwnN.below {w w' : World} {base : Nat} {v : Value} {l : List Nat} (h : OwnN w base v l) (hb : Below w.heap.size w w') : OwnN w' base v l :=
  World.ownsRow.kept (w' := w') (row := none) h ⟨hb.os, hb.tape, hb.output, hb.size, fun k hk _ => hb.block k hk⟩ (by cases hv : v.ownBlock <;> simp)

theorem Tryd.infoI : (Tryd.prog.info? 3).map (fun i => (i.zero, i.size, i.bytes)) = some (some (.int .i64 0), 1, 8) := by kernel_rfl

theorem one_new {w : World} {t : TypeId} {u : Value} : ∀ j x, ([u] : List Value)[j]? = some x → (w.alloc (.cells #[u] t)).cell? ((⟨w.heap.size, 0, none⟩ : Addr).add j) = some x := by
  intro j x hx
  match j, hx with
  | 0, hx =>
    simp only [List.getElem?_cons_zero, Option.some.injEq] at hx
    subst hx
    rw [show (⟨w.heap.size, 0, none⟩ : Addr).add 0 = ⟨w.heap.size, 0, none⟩ from rfl, World.cell?_alloc_at _ _ _ _ rfl]
    rfl

theorem filter_len (l : List UInt8) (p : Nat) : ((List.range p).filter fun k : Nat => isBound l k).length ≤ p := by
  have := List.length_filter_le (fun k : Nat => isBound l k) (List.range p)
  simpa using this

set_option maxHeartbeats 2000000 in
theorem l01Cuts_any (A : Option Addr) (l : List UInt8) (c : Nat) (w : World) (hl : l.length ≤ c) (hc9 : c ≤ 9223372036854775807) (hA : Bs w A l) :
    Calls Tryd.prog 96 #[.slice A l.length c] w fun e w' => ∃ v, e = .returned v ∧ OwnN w' w.heap.size v (cutsOr l) ∧ Below w.heap.size w w' := by
  by_cases h4 : l.length ≤ 400
  · have hnot : ¬ (400 < (l.length : Int)) := by omega
    have ht : isText l = okS 0 l := by unfold isText; simp [h4]
    have HTX := Lib.hid ht
    clear ht
    obtain ⟨i0, hi, hi0, hi1, hi2⟩ := info_parts Tryd.infoI
    go_enter Tryd.func96, Tryd.ntmps96
    go_wp2
    go_loopw [3, 4] (fun out at_ wr => ∃ p : Nat, at_ = .int .i64 p ∧ p ≤ l.length ∧ okS 0 (l.drop p) = okS 0 l ∧ OwnN wr w.heap.size out ((List.range p).filter fun k : Nat => isBound l k) ∧ Below w.heap.size w wr) (fun _ at_ _ => l.length - (intOf at_).toNat)
    case atStart => exact ⟨0, rfl, Nat.zero_le _, rfl, World.ownsRow_made w #[] 0 (Nat.le_refl _) (by unfold maxLen; omega) rfl, (Below.refl _ _).alloc (Nat.le_refl _) _⟩
    case round =>
      obtain ⟨p, rfl, hpl, hok, hown, hbel⟩ := hrel
      have HOK := Lib.hid hok
      clear hok
      have hflen := filter_len l p
      by_cases hkl : p < l.length
      · have hstep := okS_step (t := l.drop p) (by intro e; have := congrArg List.length e; simp at this; omega)
        have hle := sz_le (l.drop p)
        rw [List.length_drop] at hle
        have hz := runeSize_at l p hkl
        have hfs := fun h => filter_step (l := l) hkl h
        generalize sz (l.drop p) = z at *
        have HZ := Lib.hid hz
        have HST := Lib.hid hstep
        have HFS := Lib.hid hfs
        clear hz hstep hfs
        have hBr := hA.below hbel
        by_cases hz0 : z = 0
        · subst hz0
          go_wp2_with (go_at_call 97; refine (specRuneSize_any A l c p _ hl hc9 (by exact hBr)).mono ?_; rintro e w1 ⟨rfl, hb1⟩; rw [HZ.out])
          go_ret
          have : isText l = false := by rw [HTX.out, ← HOK.out, HST.out]; simp
          have e : cutsOr l = [] := by unfold cutsOr; rw [this]; rfl
          rw [e]
          exact ⟨_, rfl, World.ownsRow_nil _ _ _ _, below_then hbel hb1⟩
        · have hzz : ((z : Int) == 0) = false := by simp; omega
          generalize hL : (List.range p).filter (fun k : Nat => isBound l k) = L at *
          have HL := Lib.hid hL
          clear hL
          go_wp2_with (first
            | (go_at_call 97; refine (specRuneSize_any A l c p _ hl hc9 (by exact hBr)).mono ?_; rintro e w1 ⟨rfl, hb1⟩; rw [HZ.out]; have hown1 := OwnN.below hown hb1; have hbel1 := below_then hbel hb1)
            | (at_builtin; go_must (refine wpList_append_own _ rfl _ _ 107 rfl w.heap.size 3 i0 (.int .i64 0) 1 8 Tryd.underlying107 hi hi0 hi1 hi2 rfl (by decide) _ _ _ rfl (World.ownsRow.alloc hown1 _) ⟨w1.heap.size, 0, none⟩ 1 1 [.int .i64 p] rfl rfl ?c1 ?c2 ?c3 ?c4 ?c5 ?_)))
          case c1 => exact one_new
          case c2 => intro u hu; simp at hu; subst hu; rfl
          case c3 => unfold maxLen; omega
          case c4 => omega
          case c5 => have := hbel1.size; simp; omega
          intro v' w2 hown2 hgrow hnil
          have hbel2 := (hbel1.alloc (by have := hbel1.size; omega) (.cells #[.int .i64 p] 3)).grown hgrow (by have := hbel1.size; simp; omega) (fun k hk => by
            have := (World.ownsRow.lt hown1 k hk).1; exact this)
          clear hnil hgrow
          go_wp2
          go_roundw
          case rel =>
            refine ⟨p + z, by go_num, by omega, ?_, ?_, hbel2⟩
            · rw [← HOK.out, HST.out]; simp [hz0]
            · rw [HFS.out hz0]
              unfold OwnN
              rw [List.length_append, List.map_append]
              exact hown2
          case measure => simp [intOf]; omega
      · have e : p = l.length := by omega
        subst e
        have htx : isText l = true := by rw [HTX.out, ← HOK.out]; simp [okS]
        have hco : cutsOr l = (List.range l.length).filter (fun k : Nat => isBound l k) ++ [l.length] := by
          unfold cutsOr; rw [if_pos htx]; exact filter_end l
        have HCO := Lib.hid hco
        clear hco htx
        generalize hL : (List.range l.length).filter (fun k : Nat => isBound l k) = L at *
        have HL := Lib.hid hL
        clear hL
        go_wp2_with (at_builtin; refine wpList_append_own _ rfl _ _ 107 rfl w.heap.size 3 i0 (.int .i64 0) 1 8 Tryd.underlying107 hi hi0 hi1 hi2 rfl (by decide) _ _ _ rfl (World.ownsRow.alloc hown _) ⟨wr.heap.size, 0, none⟩ 1 1 [.int .i64 l.length] rfl rfl ?d1 ?d2 ?d3 ?d4 ?d5 ?_)
        case d1 => exact one_new
        case d2 => intro u hu; simp at hu; subst hu; rfl
        case d3 => unfold maxLen; omega
        case d4 => omega
        case d5 => have := hbel.size; simp; omega
        intro v' w2 hown2 hgrow hnil
        have hbel2 := (hbel.alloc (by have := hbel.size; omega) (.cells #[.int .i64 l.length] 3)).grown hgrow (by have := hbel.size; simp; omega) (fun k hk => by
            have := (World.ownsRow.lt hown k hk).1; exact this)
        clear hnil hgrow
        go_wp2
        go_ret
        refine ⟨_, rfl, ?_, hbel2⟩
        rw [HCO.out]
        unfold OwnN
        rw [List.length_append, List.map_append]
        exact hown2
  · have hnot : (400 < (l.length : Int)) := by omega
    have ht : isText l = false := by unfold isText; simp; omega
    have e : cutsOr l = [] := by unfold cutsOr; rw [ht]; rfl
    have HE := Lib.hid e
    clear ht e
    go_enter Tryd.func96, Tryd.ntmps96
    go_wp2
    go_ret
    rw [HE.out]
    exact ⟨_, rfl, World.ownsRow_nil _ _ _ _, Below.refl _ _⟩
end Go.Proofs.YtfgbipomdfceeaaDoor
