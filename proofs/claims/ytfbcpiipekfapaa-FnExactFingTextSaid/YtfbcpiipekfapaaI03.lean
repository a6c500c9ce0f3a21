/-
  Chapter 3, the program's reading of nodes: contracts. Own work.
-/
import Derived.Test.YtfbcpiipekfapaaStr
import Derived.IntWalk
namespace Go.Proofs.Ytfbcpiipekfapaa
open Go.RowKit P
set_option linter.unusedVariables false

/-- What reading a node of depth d off the front of l gives. -/
structure AftPost (d : Nat) (l r : Str) (ok : Bool) : Prop where
  yes : ok = true → Aft d l r
  no : ok = false → ¬ ∃ t, Aft d l t

set_option maxHeartbeats 400000 in
theorem afterNode_zero (s : ByteArray) (w : World) :
    Calls Try.prog 63 #[.string s, .int .i64 0] w fun e w' => (∃ (r : Str) (ok : Bool), e = .returned (.tuple #[.string ⟨r.toArray⟩, .bool ok]) ∧ AftPost 0 s.data.toList r ok) ∧ w' = w := by
  go_enter Try.func63, Try.ntmps63
  go_wp2_with fail
  refine (cutPrefix_any s 120 _).mono ?_
  rintro e w1 ⟨⟨r, ok, rfl, hcut⟩, rfl⟩
  go_wp2
  go_ret2
  refine ⟨⟨r, ok, rfl, ?_, ?_⟩, rfl⟩
  · intro h; exact aft_zero.2 (hcut.yes h)
  · rintro h ⟨t, ht⟩; exact hcut.no h t (aft_zero.1 ht)

/-- The children so far, and what is left. -/
structure ChRel (d : Nat) (l : Str) (ks : List Str) (r : Str) : Prop where
  eq : l = 40 :: (ks.flatten ++ r)
  nodes : ∀ k ∈ ks, P.Node d k
  three : ks.length ≤ 3

theorem ChRel.next {d : Nat} {l r t : Str} {ks : List Str} (h : ChRel d l ks r) (h3 : ks.length < 3) (ha : Aft d r t) : ∃ ks', ks'.length = ks.length + 1 ∧ ChRel d l ks' t := by
  obtain ⟨n, hn, rfl⟩ := ha
  refine ⟨ks ++ [n], by simp, ⟨by rw [h.eq]; simp, fun k hk => ?_, by simp; omega⟩⟩
  rcases List.mem_append.1 hk with hk | hk
  · exact h.nodes k hk
  · have : k = n := by simpa using hk
    rw [this]; exact hn

theorem ChRel.end_ {d : Nat} {l r t : Str} {ks : List Str} {ok : Bool} (h : ChRel d l ks r) (hend : ks.length = 3 ∨ ¬ ∃ t, Aft d r t) (hc : Cut1 r 41 t ok) : AftPost (d + 1) l t (ok && decide (2 ≤ ks.length)) := by
  have key := fun t => aft_succ (t := t) h.eq h.nodes h.three hend
  refine ⟨fun ht => ?_, fun hf => ?_⟩
  · rw [Bool.and_eq_true, decide_eq_true_iff] at ht
    exact (key t).2 ⟨ht.2, hc.yes ht.1⟩
  · rintro ⟨u, hu⟩
    obtain ⟨h1, h2⟩ := (key u).1 hu
    rw [Bool.and_eq_false_iff, decide_eq_false_iff_not] at hf
    rcases hf with hf | hf
    · exact hc.no hf u h2
    · exact hf h1

set_option maxHeartbeats 1000000 in
theorem afterNode_succ (n : Nat) (hn : n + 1 ≤ 10) (ih : ∀ (s : ByteArray) (w : World), Calls Try.prog 63 #[.string s, .int .i64 (n : Int)] w fun e w' => (∃ (r : Str) (ok : Bool), e = .returned (.tuple #[.string ⟨r.toArray⟩, .bool ok]) ∧ AftPost n s.data.toList r ok) ∧ w' = w) (s : ByteArray) (w : World) :
    Calls Try.prog 63 #[.string s, .int .i64 ((n + 1 : Nat) : Int)] w fun e w' => (∃ (r : Str) (ok : Bool), e = .returned (.tuple #[.string ⟨r.toArray⟩, .bool ok]) ∧ AftPost (n + 1) s.data.toList r ok) ∧ w' = w := by
  obtain ⟨d, hd⟩ : ∃ d : Int, ((n + 1 : Nat) : Int) = d := ⟨_, rfl⟩
  have hdn : d - 1 = (n : Int) := by omega
  rw [hd]
  have HD := Lib.hid hdn
  have hd0 : (d == 0) = false := by simp; omega
  have hd1 : 0 ≤ d ∧ d ≤ 10 := by omega
  rw [← hdn] at ih
  have IH := Lib.hid ih
  clear hdn hd ih
  go_enter Try.func63, Try.ntmps63
  go_wp2_with fail
  refine (cutPrefix_any s 40 _).mono ?_
  rintro e w1 ⟨⟨r, ok, rfl, hcut⟩, rfl⟩
  cases ok
  · have hno := fun t => aft_no_open (d := n) (t := t) (hcut.no rfl)
    have HNO := Lib.hid hno
    clear hcut hno
    go_wp2
    go_loop [6, 8] (fun rest ch => rest = .string ⟨r.toArray⟩ ∧ ch = .int .i64 0) (fun _ _ => 0)
    case atStart => exact ⟨rfl, rfl⟩
    case round =>
      obtain ⟨rfl, rfl⟩ := hrel
      go_wp2_with fail
      refine (cutPrefix_any _ 41 _).mono ?_
      rintro e w2 ⟨⟨t, ok2, rfl, hcut2⟩, rfl⟩
      clear hcut2
      cases ok2
      all_goals
        go_wp2
        go_ret2
        exact ⟨⟨t, false, by simp, ⟨by simp, fun _ => fun ⟨u, hu⟩ => HNO.out u hu⟩⟩, rfl⟩
  · have hst : ChRel n s.data.toList [] r := ⟨by simpa using hcut.yes rfl, by simp, by simp⟩
    have HST := Lib.hid hst
    clear hcut hst
    go_wp2
    go_loop [6, 8] (fun rest ch => ∃ (r : Str) (ks : List Str), rest = .string ⟨r.toArray⟩ ∧ ch = .int .i64 ks.length ∧ ks.length ≤ 3 ∧ Hid (ChRel n s.data.toList ks r)) (fun _ ch => 3 - (intOf ch).toNat)
    case atStart => exact ⟨r, [], rfl, rfl, by simp, HST⟩
    case round =>
      obtain ⟨r, ks, rfl, rfl, h3, HR⟩ := hrel
      clear HST
      by_cases hlt : ks.length < 3
      · have hlt' : (ks.length : Int) < 3 := by omega
        go_wp2_with fail
        refine (IH.out ⟨r.toArray⟩ _).mono ?_
        rintro e w2 ⟨⟨t, ok2, rfl, hpost⟩, rfl⟩
        cases ok2
        · have hend := hpost.no rfl
          have HE := Lib.hid hend
          clear hpost hend
          go_wp2_with fail
          refine (cutPrefix_any _ 41 _).mono ?_
          rintro e w3 ⟨⟨u, ok3, rfl, hcut3⟩, rfl⟩
          have hfin := HR.out.end_ (.inr HE.out) hcut3
          have HF := Lib.hid hfin
          clear hcut3 hfin
          by_cases h2 : 2 ≤ ks.length
          · have h2' : decide ((2 : Int) ≤ (ks.length : Int)) = true := by simp; omega
            rw [decide_eq_true h2, Bool.and_true] at HF
            cases ok3
            all_goals
              go_wp2
              go_ret2
              exact ⟨⟨u, _, rfl, HF.out⟩, rfl⟩
          · have h2' : decide ((2 : Int) ≤ (ks.length : Int)) = false := by simp; omega
            rw [decide_eq_false h2, Bool.and_false] at HF
            cases ok3
            all_goals
              go_wp2
              go_ret2
              exact ⟨⟨u, _, rfl, HF.out⟩, rfl⟩
        · obtain ⟨ks', hl', hr'⟩ := HR.out.next hlt (hpost.yes rfl)
          have HR' := Lib.hid hr'
          have HL' := Lib.hid hl'
          clear hpost hr' hl' HR
          go_wp2
          go_round
          case rel => exact ⟨t, ks', rfl, by rw [HL'.out]; go_num, by rw [HL'.out]; omega, HR'⟩
          case measure => simp [intOf]; omega
      · have hlt' : ¬ (ks.length : Int) < 3 := by omega
        have h2' : decide ((2 : Int) ≤ (ks.length : Int)) = true := by simp; omega
        go_wp2_with fail
        refine (cutPrefix_any _ 41 _).mono ?_
        rintro e w3 ⟨⟨u, ok3, rfl, hcut3⟩, rfl⟩
        have hfin := HR.out.end_ (.inl (by omega)) hcut3
        rw [decide_eq_true (by omega : 2 ≤ ks.length), Bool.and_true] at hfin
        have HF := Lib.hid hfin
        clear hcut3 hfin
        cases ok3
        all_goals
          go_wp2
          go_ret2
          exact ⟨⟨u, _, rfl, HF.out⟩, rfl⟩

theorem afterNode_any (n : Nat) (hn : n ≤ 10) : ∀ (s : ByteArray) (w : World), Calls Try.prog 63 #[.string s, .int .i64 (n : Int)] w fun e w' => (∃ (r : Str) (ok : Bool), e = .returned (.tuple #[.string ⟨r.toArray⟩, .bool ok]) ∧ AftPost n s.data.toList r ok) ∧ w' = w := by
  induction n with
  | zero => intro s w; exact afterNode_zero s w
  | succ n ih => intro s w; exact afterNode_succ n hn (ih (by omega)) s w

theorem shape_of_aft {d : Nat} {l r : Str} {ok : Bool} (h : AftPost d l r ok) : shapeB l (d : Int) = (ok && decide (r = []) && decide (lv l ≤ 200)) := by
  by_cases hl : lv l ≤ 200
  · rw [decide_eq_true hl, Bool.and_true, Bool.eq_iff_iff, shapeB_iff, shape_aft hl, Bool.and_eq_true, decide_eq_true_iff]
    cases ok
    · constructor
      · intro ha; exact absurd ⟨_, ha⟩ (h.no rfl)
      · rintro ⟨h1, _⟩; cases h1
    · have := h.yes rfl
      constructor
      · intro ha; exact ⟨rfl, this.det ha⟩
      · rintro ⟨_, rfl⟩; exact this
  · rw [decide_eq_false hl, Bool.and_false, shapeB_false]
    rintro ⟨_, _, h3⟩
    exact hl h3
theorem shape_deep {l : Str} {d : Int} (h : d < 0 ∨ 8 ≤ d) : shapeB l d = false := by
  rw [shapeB_false]
  rintro ⟨h1, h2, h3⟩
  have := node_depth h2 h3
  omega

set_option maxHeartbeats 400000 in
theorem implShapeOk_any (s : ByteArray) (d : Int) (w : World) : Calls Try.prog 31 #[.string s, .int .i64 d] w fun e w' => e = .returned (.bool (shapeB s.data.toList d)) ∧ w' = w := by
  by_cases h0 : d < 0
  · have hq := shape_deep (l := s.data.toList) (d := d) (.inl h0)
    have HQ := Lib.hid hq
    clear hq
    go_enter Try.func31, Try.ntmps31
    go_wp2
    go_ret
    exact ⟨ret_bool HQ.out.symm, rfl⟩
  · by_cases h8 : 8 ≤ d
    · have hq := shape_deep (l := s.data.toList) (d := d) (.inr h8)
      have HQ := Lib.hid hq
      clear hq
      have g0 : decide (d < 0) = false := by simp; omega
      have g8 : decide (8 ≤ d) = true := by simp; omega
      go_enter Try.func31, Try.ntmps31
      go_wp2_with fail
      refine (Try.bits_Len 200 _ (by omega) (by omega)).mono ?_
      rintro e w1 ⟨rfl, rfl⟩
      rw [show Lib.bitLen (200 : Int).toNat = 8 by decide]
      go_wp2
      go_ret
      exact ⟨ret_bool HQ.out.symm, rfl⟩
    · obtain ⟨n, rfl⟩ : ∃ n : Nat, d = n := ⟨d.toNat, by omega⟩
      have hn : n ≤ 7 := by omega
      have g0 : decide ((n : Int) < 0) = false := by simp
      have g8 : decide (8 ≤ (n : Int)) = false := by simp; omega
      clear h0 h8
      go_enter Try.func31, Try.ntmps31
      go_wp2_with fail
      refine (Try.bits_Len 200 _ (by omega) (by omega)).mono ?_
      rintro e w1 ⟨rfl, rfl⟩
      rw [show Lib.bitLen (200 : Int).toNat = 8 by decide]
      go_wp2_with fail
      refine (afterNode_any n (by omega) s _).mono ?_
      rintro e w1 ⟨⟨r, ok, rfl, hpost⟩, rfl⟩
      have hq := shape_of_aft hpost
      have HQ := Lib.hid hq
      clear hq hpost
      cases ok
      · go_wp2
        go_ret
        exact ⟨ret_bool (by rw [HQ.out]; rfl), rfl⟩
      · by_cases hr : r = []
        · subst hr
          go_wp2_with fail
          refine (count_any s 120 _).mono ?_
          rintro e w2 ⟨rfl, rfl⟩
          go_wp2
          go_ret
          exact ⟨ret_bool (by rw [HQ.out]; unfold lv; simp; omega), rfl⟩
        · go_wp2_with fail
          go_ret
          exact ⟨ret_bool (by rw [HQ.out]; simp [hr]), rfl⟩
end Go.Proofs.Ytfbcpiipekfapaa
