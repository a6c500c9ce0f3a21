/-
  Chapter 4: the library's backward search (bytes.LastIndex, internal/bytealg.LastIndexRabinKarp): contracts. Own work, after the kit's contracts over strings.
  Chapter 4: the library's backward search by hash: contract. Own work, after the kit's contract over strings.
  Chapter 4: bytes.LastIndex, the program's RopeFindBack: contracts. Own work.
  Chapter 4, the program's RopeFindBack: contract. Own work.
-/
import Derived.Test.YtfgbipomdfceeaaDoorR04b
import Derived.Lib.Bytealg
import Derived.Deep.Draws
import Derived.BigQuiet
import Derived.Deep.QuietTactic
namespace Go.Proofs.YtfgbipomdfceeaaDoor
open Go.RowKit P
set_option linter.unusedVariables false
set_option maxRecDepth 100000

set_option maxHeartbeats 4000000 in
theorem hashStrRev_any (A : Option Addr) (l : List UInt8) (c : Nat) (w : World) (hl : l.length ≤ 1100000) (hA : Bs w A l) :
    Calls Tryd.prog 132 #[.slice A l.length c] w fun e w' => e = .returned (.tuple #[.int .u32 (Lib.RK.H l.reverse % 4294967296), .int .u32 (16777619 ^ l.length % 4294967296)]) ∧ w' = w := by
  go_enter Tryd.func132, Tryd.ntmps132
  go_wp2
  go_loop [4, 5] (fun vh vi => ∃ (k : Nat) (h : Int), k ≤ l.length ∧ vi = .int .i64 ((k : Int) - 1) ∧ vh = .int .u32 h ∧ Hid (h = Lib.RK.H (l.drop k).reverse % 4294967296)) (fun _ vi => ((RowKit.intOf vi) + 1).toNat)
  case atStart => exact ⟨l.length, 0, Nat.le_refl _, rfl, rfl, by show (0 : Int) = _; rw [List.drop_of_length_le (by simp)]; rfl⟩
  case round =>
    obtain ⟨k, h, hk, rfl, rfl, hh⟩ := hrel
    by_cases h0 : 1 ≤ k
    · obtain ⟨b, off, rfl, hbl, hc⟩ := hA (k - 1) (by omega)
      have hst := hashL l k h0 hk hh.out
      have HST := Lib.hid hst
      clear hst
      generalize hx : l[k - 1]'(by omega) = x at *
      have hk1 : (0 : Int) ≤ (k : Int) - 1 := by omega
      have hk2 : (k : Int) - 1 < (l.length : Int) := by omega
      have hk3 : ((k : Int) - 1).toNat = k - 1 := by omega
      clear hx
      go_wp2
      go_round
      case rel => exact ⟨k - 1, _, by omega, by congr 1; omega, rfl, HST⟩
      case measure => simp [RowKit.intOf]; omega
    · have hk2 : k = 0 := by omega
      subst hk2
      go_wp2
      go_loop [6, 7, 8] (fun vp vq vi => ∃ (i : Nat) (pw sq : Int), vi = .int .i64 i ∧ vp = .int .u32 pw ∧ vq = .int .u32 sq ∧ 0 ≤ pw ∧ pw < 4294967296 ∧ i ≤ l.length ∧ Hid (Lib.RK.PowInv l.length i pw sq)) (fun _ _ vi => (RowKit.intOf vi).toNat)
      case atStart => exact ⟨l.length, 1, 16777619, rfl, rfl, rfl, by omega, by omega, Nat.le_refl _, Lib.RK.pow_start _⟩
      case round =>
        obtain ⟨i, pw, sq, rfl, rfl, rfl, p0, p1, hi, hinv⟩ := hrel
        have ea := and_one i (by omega)
        go_wp2
        · have ht : ((i : Int) % 2 != 0) = true := by assumption
          have ho : i % 2 = 1 := by simp at ht; omega
          go_round
          case rel => exact ⟨i / 2, _, _, by first | go_num | (congr 1; omega), rfl, rfl, by omega, by omega, by omega, Lib.RK.pow_odd hinv.out ho⟩
          case measure => simp [RowKit.intOf]; omega
        · have ht : ((i : Int) % 2 != 0) = false := by assumption
          have he : i % 2 = 0 := by simp at ht; omega
          go_round
          case rel => exact ⟨i / 2, _, _, by first | go_num | (congr 1; omega), rfl, rfl, p0, p1, by omega, Lib.RK.pow_even hinv.out he⟩
          case measure => simp [RowKit.intOf]; omega
        · have hi0 : i = 0 := by omega
          subst hi0
          have e1 : h = Lib.RK.H l.reverse % 4294967296 := by
            have := hh.out
            rwa [List.drop_zero] at this
          have e2 := Lib.RK.pow_end hinv.out p0 p1
          go_ret2
          rw [← e1, ← e2]
          exact ⟨rfl, rfl⟩

/-- The last place of a byte. -/
theorem lastByte_any (A : Option Addr) (l : List UInt8) (c : Nat) (x : UInt8) (w : World) (hl : l.length ≤ 400) (hA : Bs w A l) :
    Calls Tryd.prog 117 #[.slice A l.length c, .int .u8 x.toNat] w fun e w' => ∃ r : Int, e = .returned (.int .i64 r) ∧ IsLast l [x] r ∧ w' = w := by
  go_enter Tryd.func117, Tryd.ntmps117
  go_wp2
  go_loop [5] (fun i => ∃ k : Nat, k ≤ l.length ∧ i = .int .i64 ((k : Int) - 1) ∧ Hid (∀ j, k ≤ j → j < l.length → ¬ standsAt l [x] j)) (fun i => ((intOf i) + 1).toNat)
  case atStart => exact ⟨l.length, Nat.le_refl _, rfl, Lib.hid (fun j h1 h2 => by omega)⟩
  case round =>
    obtain ⟨k, hk, rfl, HL⟩ := hrel
    by_cases h0 : 0 < k
    · obtain ⟨b, off, rfl, hbl, hc⟩ := hA (k - 1) (by omega)
      have hso := standsAt_one l x (k - 1) (by omega)
      have HSO := Lib.hid hso
      clear hso
      generalize l[k - 1]'(by omega) = y at *
      have hk1 : (0 : Int) ≤ (k : Int) - 1 := by omega
      have hk2 : (k : Int) - 1 < (l.length : Int) := by omega
      have hk3 : ((k : Int) - 1).toNat = k - 1 := by omega
      by_cases hyx : y = x
      · have hq : ((y.toNat : Int) == (x.toNat : Int)) = true := by subst hyx; simp
        have hs := HSO.out.2 hyx
        have hf : IsLast l [x] ((k : Int) - 1) := .inl ⟨k - 1, by omega, by simp; omega, hs, fun j h1 h2 => HL.out j (by omega) (by simp at h2; omega)⟩
        have HF := Lib.hid hf
        clear hf hs hyx
        go_wp2
        go_ret
        exact ⟨_, rfl, HF.out, rfl⟩
      · have hq : ((y.toNat : Int) == (x.toNat : Int)) = false := by
          rw [beq_eq_false_iff_ne]
          intro e
          exact hyx (UInt8.toNat_inj.1 (by omega))
        have hn : ¬ standsAt l [x] (k - 1) := fun h => hyx (HSO.out.1 h)
        have HN := Lib.hid hn
        clear hn hyx
        go_wp2
        go_round
        case rel => exact ⟨k - 1, by omega, by go_num, Lib.hid (fun j h1 h2 => by
          by_cases e : j = k - 1
          · subst e; exact HN.out
          · exact HL.out j (by omega) h2)⟩
        case measure => simp [intOf]; omega
    · have e : k = 0 := by omega
      subst e
      have hf : IsLast l [x] (-1) := .inr ⟨rfl, fun j h2 => HL.out j (by omega) (by simp at h2; omega)⟩
      have HF := Lib.hid hf
      clear hf
      go_wp2
      go_ret
      exact ⟨_, rfl, HF.out, rfl⟩
end Go.Proofs.YtfgbipomdfceeaaDoor

namespace Go.Proofs.YtfgbipomdfceeaaDoor
open Go.RowKit P
set_option linter.unusedVariables false
set_option maxRecDepth 100000

set_option maxHeartbeats 16000000 in
theorem lastRabinKarp_any (A B : Option Addr) (t p : List UInt8) (c d : Nat) (w : World) (hA1 : A = none → c = 0) (hA2 : ∀ a, A = some a → ∃ g o, a = ⟨g, o, none⟩) (ht : t.length ≤ c) (hc9 : c ≤ 9223372036854775807) (ht4 : t.length ≤ 400) (h1 : 1 ≤ p.length) (h2 : p.length ≤ t.length) (hA : Bs w A t) (hB : Bs w B p) :
    Calls Tryd.prog 118 #[.slice A t.length c, .slice B p.length d] w fun e w' => ∃ r : Int, e = .returned (.int .i64 r) ∧ IsLast t p r ∧ ∃ n, w' = w.drewN n := by
  obtain ⟨hh, Hh⟩ : ∃ hh : Int, hh = Lib.RK.H p.reverse % 4294967296 := ⟨_, rfl⟩
  obtain ⟨pw, Hp⟩ : ∃ pw : Int, pw = 16777619 ^ p.length % 4294967296 := ⟨_, rfl⟩
  have hc : Calls Tryd.prog 132 #[.slice B p.length d] w fun e w' => e = .returned (.tuple #[.int .u32 hh, .int .u32 pw]) ∧ w' = w := by rw [Hh, Hp]; exact hashStrRev_any B p d w (by omega) hB
  have HH := Lib.hid Hh
  have HP := Lib.hid Hp
  clear Hh Hp
  obtain ⟨last, hlast⟩ : ∃ last : Nat, last + p.length = t.length := ⟨t.length - p.length, by omega⟩
  have elast : (t.length : Int) - p.length = last := by omega
  have hlc : last ≤ t.length := by omega
  obtain ⟨b, off, hAe⟩ : ∃ b off, A = some ⟨b, off, none⟩ := by
    obtain ⟨b, off, e, _⟩ := hA 0 (by omega)
    exact ⟨b, off, e⟩
  have hbl : b < w.heap.size := by
    obtain ⟨b', off', e, hlt, _⟩ := hA 0 (by omega)
    rw [hAe] at e; cases e; exact hlt
  have hcell : ∀ i (h : i < t.length), w.cell? ⟨b, off + i, none⟩ = some (.int .u8 (t[i]).toNat) := by
    intro i hi
    obtain ⟨b', off', e, hlt, hc⟩ := hA i hi
    rw [hAe] at e; cases e; exact hc
  have HC := Lib.hid hcell
  subst hAe
  have hcv2 : ∀ n, (convert 22 9 (.slice B p.length d)).run Tryd.prog (w.drewN n) = .ok (.string ⟨p.toArray⟩) (w.drewN n) := fun n => run_conv_bs d p.length rfl hB
  clear hcell
  go_enter Tryd.func118, Tryd.ntmps118
  go_wp2_with fail
  refine hc.mono ?_
  rintro e w1 ⟨rfl, rfl⟩
  clear hc
  go_wp2
  go_loop [9, 10] (fun vh vi => ∃ (k : Nat) (h : Int), last ≤ k ∧ k ≤ t.length ∧ vi = .int .i64 ((k : Int) - 1) ∧ vh = .int .u32 h ∧ Hid (h = Lib.RK.H (t.drop k).reverse % 4294967296)) (fun _ vi => ((RowKit.intOf vi) + 1).toNat)
  case atStart => exact ⟨t.length, 0, by omega, Nat.le_refl _, rfl, rfl, by show (0 : Int) = _; rw [List.drop_of_length_le (by simp)]; rfl⟩
  case round =>
    obtain ⟨k, h, hk1, hk, rfl, rfl, hk2⟩ := hrel
    by_cases hgo : last < k
    · have hst := hashL t k (by omega) hk hk2.out
      have hc := HC.out (k - 1) (by omega)
      have HST := Lib.hid hst
      clear hst
      generalize t[k - 1]'(by omega) = x at *
      have g1 : (last : Int) ≤ (k : Int) - 1 := by omega
      have g2 : (0 : Int) ≤ (k : Int) - 1 := by omega
      have g3 : (k : Int) - 1 < (t.length : Int) := by omega
      have g4 : ((k : Int) - 1).toNat = k - 1 := by omega
      go_wp2
      go_round
      case rel => exact ⟨k - 1, _, by omega, by omega, by congr 1; omega, rfl, HST⟩
      case measure => simp [RowKit.intOf]; omega
    · have hkl : k = last := by omega
      subst hkl
      have hwin : h = Lib.RK.H (Lib.RK.win t k p.length).reverse % 4294967296 := by rw [← winL t k p.length hlast]; exact hk2.out
      have Hwin := Lib.hid hwin
      clear hwin hk2
      obtain ⟨A', hsl, hX, _, _⟩ := slice_part2 (some ⟨b, off, none⟩) t.length c k w1 t hA1 hA2 rfl hlc ht hc9 hA
      obtain ⟨X, hXe⟩ : ∃ X, t.drop k = X := ⟨_, rfl⟩
      have hXl : X.length = p.length := by rw [← hXe, List.length_drop]; omega
      have hso : standsAt t p k ↔ X = p := by
        unfold standsAt
        rw [List.take_of_length_le (by rw [List.length_drop]; omega), hXe]
      rw [hXe] at hX
      have hdl : t.length - k = p.length := by omega
      rw [hdl] at hsl
      have hcv1 : ∀ n, (convert 22 9 (.slice A' p.length (c - k))).run Tryd.prog (w1.drewN n) = .ok (.string ⟨X.toArray⟩) (w1.drewN n) := fun n => run_conv_bs (c - k) p.length hXl.symm hX
      have HSO := Lib.hid hso
      have hge : decide ((k : Int) - 1 ≥ (k : Int)) = false := decide_eq_false (by omega)
      clear hso hXe
      by_cases heq : h = hh
      · have hd0 : (h == hh) = true := by simp [heq]
        by_cases hXp : X = p
        · have hf : IsLast t p (k : Int) := .inl ⟨k, rfl, by omega, HSO.out.2 hXp, fun j h1 h2 => by omega⟩
          have HF := Lib.hid hf
          have hb : (X == p) = true := by simp [hXp]
          clear hf hXp heq
          go_wp2
          go_quiet (fail)
          go_wp2
          go_ret
          exact ⟨_, rfl, HF.out, _, rfl⟩
        · have hb : (X == p) = false := by simp [hXp]
          have hn0 : ∀ q, k ≤ q → q + p.length ≤ t.length → ¬ standsAt t p q := fun q h1 h2 => by
            have : q = k := by omega
            subst this
            exact fun h => hXp (HSO.out.1 h)
          have HN0 := Lib.hid hn0
          clear hn0 hXp heq
          go_wp2
          go_quiet (fail)
          go_wp2
          go_loopw [9, 11] (fun vh vi wr => ∃ (j n : Nat) (g : Int), j ≤ k ∧ vi = .int .i64 ((j : Int) - 1) ∧ vh = .int .u32 g ∧ Hid (g = Lib.RK.H (Lib.RK.win t j p.length).reverse % 4294967296) ∧ Hid (∀ q, j ≤ q → q + p.length ≤ t.length → ¬ standsAt t p q) ∧ wr = w1.drewN n) (fun _ vi _ => ((RowKit.intOf vi) + 1).toNat)
          case atStart => exact ⟨k, _, _, Nat.le_refl _, rfl, rfl, Hwin, HN0, rfl⟩
          case round =>
            obtain ⟨j, n, g, hj, rfl, rfl, hg, hl, rfl⟩ := hrel
            by_cases hj1 : 0 < j
            · obtain ⟨i, rfl⟩ : ∃ i, j = i + 1 := ⟨j - 1, by omega⟩
              have hii : (((i + 1 : Nat) : Int) - 1) = (i : Int) := by omega
              rw [hii]
              have hr := rollL t p.length i h1 (by omega) hg.out HP.out
              have c1 := HC.out i (by omega)
              have c2 := HC.out (i + p.length) (by omega)
              have hr1 : w1.cell? ⟨b, off + i, none⟩ = some (.int .u8 (t[i]'(by omega)).toNat) := c1
              have hr2 : (w1.drewN n).cell? ⟨b, off + i, none⟩ = some (.int .u8 (t[i]'(by omega)).toNat) := c1
              have hr3 : (w1.drewN n).cell? ⟨b, off + (i + p.length), none⟩ = some (.int .u8 (t[i + p.length]'(by omega)).toNat) := c2
              obtain ⟨A2, hsl2, hX2⟩ := slice_mid (some ⟨b, off, none⟩) t.length c i p.length w1 t hA1 hA2 rfl (by omega) ht hc9 hA
              obtain ⟨Y, hYe⟩ : ∃ Y, (t.drop i).take p.length = Y := ⟨_, rfl⟩
              have hYl : Y.length = p.length := by rw [← hYe, List.length_take, List.length_drop]; omega
              have hsy : standsAt t p i ↔ Y = p := by unfold standsAt; rw [hYe]
              rw [hYe] at hX2
              have hcv3 : ∀ n, (convert 22 9 (.slice A2 p.length (c - i))).run Tryd.prog (w1.drewN n) = .ok (.string ⟨Y.toArray⟩) (w1.drewN n) := fun n => run_conv_bs (c - i) p.length hYl.symm hX2
              have hcv4 : ∀ m, (convert 22 9 (.slice A2 p.length (c - i))).run Tryd.prog ((w1.drewN n).drewN m) = .ok (.string ⟨Y.toArray⟩) ((w1.drewN n).drewN m) := fun m => run_conv_bs (c - i) p.length hYl.symm hX2
              have hcv5 : ∀ m, (convert 22 9 (.slice B p.length d)).run Tryd.prog ((w1.drewN n).drewN m) = .ok (.string ⟨p.toArray⟩) ((w1.drewN n).drewN m) := fun m => run_conv_bs d p.length rfl hB
              have hno := noHashL t p i (by omega) (h := Lib.RK.H (Lib.RK.win t i p.length).reverse % 4294967296) rfl HH.out
              have HSY := Lib.hid hsy
              have HR := Lib.hid hr
              have hr' : ((g * 16777619 + ((t[i]'(by omega)).toNat : Int)) % 4294967296 - pw * (((t[i + p.length]'(by omega)).toNat : Int) % 4294967296) % 4294967296) % 4294967296 = Lib.RK.H (Lib.RK.win t i p.length).reverse % 4294967296 := by
                rw [← hr]
                generalize pw * (((t[i + p.length]'(by omega)).toNat : Int) % 4294967296) = z
                omega
              have HR2 := Lib.hid hr'
              clear hr'
              have HNO := Lib.hid hno
              clear hr hsy hYe c1 c2 hr1 hno
              generalize t[i]'(by omega) = x at *
              generalize t[i + p.length]'(by omega) = y at *
              have g1 : (0 : Int) ≤ (i : Int) := by omega
              have g2 : (i : Int) < (t.length : Int) := by omega
              have g3 : (i : Int) + (p.length : Int) < (t.length : Int) := by omega
              have g4 : (0 : Int) ≤ (i : Int) + (p.length : Int) := by omega
              have g5 : ((i : Int) + (p.length : Int)).toNat = i + p.length := by omega
              by_cases hE : (g * 16777619 + (x.toNat : Int) - pw * ((y.toNat : Int) % 4294967296)) % 4294967296 = hh
              · have hdE : ((g * 16777619 + (x.toNat : Int) - pw * ((y.toNat : Int) % 4294967296)) % 4294967296 == hh) = true := beq_iff_eq.2 hE
                by_cases hYp : Y = p
                · have hf : IsLast t p (i : Int) := .inl ⟨i, rfl, by omega, HSY.out.2 hYp, fun q h1 h2 => hl.out q (by omega) h2⟩
                  have HF := Lib.hid hf
                  have hby : (Y == p) = true := by simp [hYp]
                  clear hf hYp hE
                  go_wp2
                  go_quiet (fail)
                  go_wp2
                  go_ret
                  exact ⟨_, rfl, HF.out, _, World.drewN_drewN _ _ _⟩
                · have hby : (Y == p) = false := by simp [hYp]
                  have hn : ¬ standsAt t p i := fun h => hYp (HSY.out.1 h)
                  have HN := Lib.hid hn
                  clear hn hYp hE
                  go_wp2
                  go_quiet (fail)
                  go_wp2
                  go_roundw
                  case rel => exact ⟨i, _, _, by omega, by go_num, rfl, HR2, Lib.hid (fun q h1 h2 => by
                    by_cases e : q = i
                    · subst e; exact HN.out
                    · exact hl.out q (by omega) h2), rfl⟩
                  case measure => simp [RowKit.intOf] <;> omega
              · have hdE : ((g * 16777619 + (x.toNat : Int) - pw * ((y.toNat : Int) % 4294967296)) % 4294967296 == hh) = false := beq_eq_false_iff_ne.2 hE
                have hn : ¬ standsAt t p i := HNO.out (fun e => hE (HR.out.trans e))
                have HN := Lib.hid hn
                clear hn hE
                go_wp2
                go_quiet (fail)
                go_wp2
                go_roundw
                case rel => exact ⟨i, _, _, by omega, by go_num, rfl, HR2, Lib.hid (fun q h1 h2 => by
                  by_cases e : q = i
                  · subst e; exact HN.out
                  · exact hl.out q (by omega) h2), rfl⟩
                case measure => simp [RowKit.intOf] <;> omega
            · have j0 : j = 0 := by omega
              subst j0
              have hf : IsLast t p (-1) := .inr ⟨rfl, fun q h2 => hl.out q (by omega) h2⟩
              have HF := Lib.hid hf
              clear hf
              go_wp2
              go_ret
              exact ⟨_, rfl, HF.out, _, rfl⟩
      · have hd0 : (h == hh) = false := by simp [heq]
        have hns := noHashL t p k (by omega) Hwin.out HH.out heq
        have hn0 : ∀ q, k ≤ q → q + p.length ≤ t.length → ¬ standsAt t p q := fun q h1 h2 => by
          have : q = k := by omega
          subst this
          exact hns
        have HN0 := Lib.hid hn0
        clear hn0 hns heq
        go_wp2
        go_quiet (fail)
        go_wp2
        go_loopw [9, 11] (fun vh vi wr => ∃ (j n : Nat) (g : Int), j ≤ k ∧ vi = .int .i64 ((j : Int) - 1) ∧ vh = .int .u32 g ∧ Hid (g = Lib.RK.H (Lib.RK.win t j p.length).reverse % 4294967296) ∧ Hid (∀ q, j ≤ q → q + p.length ≤ t.length → ¬ standsAt t p q) ∧ wr = w1.drewN n) (fun _ vi _ => ((RowKit.intOf vi) + 1).toNat)
        case atStart => exact ⟨k, _, _, Nat.le_refl _, rfl, rfl, Hwin, HN0, rfl⟩
        case round =>
          obtain ⟨j, n, g, hj, rfl, rfl, hg, hl, rfl⟩ := hrel
          by_cases hj1 : 0 < j
          · obtain ⟨i, rfl⟩ : ∃ i, j = i + 1 := ⟨j - 1, by omega⟩
            have hii : (((i + 1 : Nat) : Int) - 1) = (i : Int) := by omega
            rw [hii]
            have hr := rollL t p.length i h1 (by omega) hg.out HP.out
            have c1 := HC.out i (by omega)
            have c2 := HC.out (i + p.length) (by omega)
            have hr1 : w1.cell? ⟨b, off + i, none⟩ = some (.int .u8 (t[i]'(by omega)).toNat) := c1
            have hr2 : (w1.drewN n).cell? ⟨b, off + i, none⟩ = some (.int .u8 (t[i]'(by omega)).toNat) := c1
            have hr3 : (w1.drewN n).cell? ⟨b, off + (i + p.length), none⟩ = some (.int .u8 (t[i + p.length]'(by omega)).toNat) := c2
            obtain ⟨A2, hsl2, hX2⟩ := slice_mid (some ⟨b, off, none⟩) t.length c i p.length w1 t hA1 hA2 rfl (by omega) ht hc9 hA
            obtain ⟨Y, hYe⟩ : ∃ Y, (t.drop i).take p.length = Y := ⟨_, rfl⟩
            have hYl : Y.length = p.length := by rw [← hYe, List.length_take, List.length_drop]; omega
            have hsy : standsAt t p i ↔ Y = p := by unfold standsAt; rw [hYe]
            rw [hYe] at hX2
            have hcv3 : ∀ n, (convert 22 9 (.slice A2 p.length (c - i))).run Tryd.prog (w1.drewN n) = .ok (.string ⟨Y.toArray⟩) (w1.drewN n) := fun n => run_conv_bs (c - i) p.length hYl.symm hX2
            have hcv4 : ∀ m, (convert 22 9 (.slice A2 p.length (c - i))).run Tryd.prog ((w1.drewN n).drewN m) = .ok (.string ⟨Y.toArray⟩) ((w1.drewN n).drewN m) := fun m => run_conv_bs (c - i) p.length hYl.symm hX2
            have hcv5 : ∀ m, (convert 22 9 (.slice B p.length d)).run Tryd.prog ((w1.drewN n).drewN m) = .ok (.string ⟨p.toArray⟩) ((w1.drewN n).drewN m) := fun m => run_conv_bs d p.length rfl hB
            have hno := noHashL t p i (by omega) (h := Lib.RK.H (Lib.RK.win t i p.length).reverse % 4294967296) rfl HH.out
            have HSY := Lib.hid hsy
            have HR := Lib.hid hr
            have hr' : ((g * 16777619 + ((t[i]'(by omega)).toNat : Int)) % 4294967296 - pw * (((t[i + p.length]'(by omega)).toNat : Int) % 4294967296) % 4294967296) % 4294967296 = Lib.RK.H (Lib.RK.win t i p.length).reverse % 4294967296 := by
              rw [← hr]
              generalize pw * (((t[i + p.length]'(by omega)).toNat : Int) % 4294967296) = z
              omega
            have HR2 := Lib.hid hr'
            clear hr'
            have HNO := Lib.hid hno
            clear hr hsy hYe c1 c2 hr1 hno
            generalize t[i]'(by omega) = x at *
            generalize t[i + p.length]'(by omega) = y at *
            have g1 : (0 : Int) ≤ (i : Int) := by omega
            have g2 : (i : Int) < (t.length : Int) := by omega
            have g3 : (i : Int) + (p.length : Int) < (t.length : Int) := by omega
            have g4 : (0 : Int) ≤ (i : Int) + (p.length : Int) := by omega
            have g5 : ((i : Int) + (p.length : Int)).toNat = i + p.length := by omega
            by_cases hE : (g * 16777619 + (x.toNat : Int) - pw * ((y.toNat : Int) % 4294967296)) % 4294967296 = hh
            · have hdE : ((g * 16777619 + (x.toNat : Int) - pw * ((y.toNat : Int) % 4294967296)) % 4294967296 == hh) = true := beq_iff_eq.2 hE
              by_cases hYp : Y = p
              · have hf : IsLast t p (i : Int) := .inl ⟨i, rfl, by omega, HSY.out.2 hYp, fun q h1 h2 => hl.out q (by omega) h2⟩
                have HF := Lib.hid hf
                have hby : (Y == p) = true := by simp [hYp]
                clear hf hYp hE
                go_wp2
                go_quiet (fail)
                go_wp2
                go_ret
                exact ⟨_, rfl, HF.out, _, World.drewN_drewN _ _ _⟩
              · have hby : (Y == p) = false := by simp [hYp]
                have hn : ¬ standsAt t p i := fun h => hYp (HSY.out.1 h)
                have HN := Lib.hid hn
                clear hn hYp hE
                go_wp2
                go_quiet (fail)
                go_wp2
                go_roundw
                case rel => exact ⟨i, _, _, by omega, by go_num, rfl, HR2, Lib.hid (fun q h1 h2 => by
                  by_cases e : q = i
                  · subst e; exact HN.out
                  · exact hl.out q (by omega) h2), rfl⟩
                case measure => simp [RowKit.intOf] <;> omega
            · have hdE : ((g * 16777619 + (x.toNat : Int) - pw * ((y.toNat : Int) % 4294967296)) % 4294967296 == hh) = false := beq_eq_false_iff_ne.2 hE
              have hn : ¬ standsAt t p i := HNO.out (fun e => hE (HR.out.trans e))
              have HN := Lib.hid hn
              clear hn hE
              go_wp2
              go_quiet (fail)
              go_wp2
              go_roundw
              case rel => exact ⟨i, _, _, by omega, by go_num, rfl, HR2, Lib.hid (fun q h1 h2 => by
                by_cases e : q = i
                · subst e; exact HN.out
                · exact hl.out q (by omega) h2), rfl⟩
              case measure => simp [RowKit.intOf] <;> omega
          · have j0 : j = 0 := by omega
            subst j0
            have hf : IsLast t p (-1) := .inr ⟨rfl, fun q h2 => hl.out q (by omega) h2⟩
            have HF := Lib.hid hf
            clear hf
            go_wp2
            go_ret
            exact ⟨_, rfl, HF.out, _, rfl⟩
end Go.Proofs.YtfgbipomdfceeaaDoor

namespace Go.Proofs.YtfgbipomdfceeaaDoor
open Go.RowKit P
set_option linter.unusedVariables false
set_option maxRecDepth 100000

set_option maxHeartbeats 2000000 in
theorem bytesLastIndex_any (A B : Option Addr) (t p : List UInt8) (c d : Nat) (w : World) (hA1 : A = none → c = 0) (hA2 : ∀ a, A = some a → ∃ g o, a = ⟨g, o, none⟩) (ht : t.length ≤ c) (hc9 : c ≤ 9223372036854775807) (ht4 : t.length ≤ 400) (hp0 : 0 < p.length) (hp9 : p.length ≤ 1100000) (hA : Bs w A t) (hB : Bs w B p) :
    Calls Tryd.prog 77 #[.slice A t.length c, .slice B p.length d] w fun e w' => ∃ r : Int, e = .returned (.int .i64 r) ∧ IsLast t p r ∧ ∃ n, w' = w.drewN n := by
  have q0 : ((p.length : Int) == 0) = false := by rw [beq_eq_false_iff_ne]; omega
  by_cases h1 : p.length = 1
  · obtain ⟨x, rfl⟩ : ∃ x, p = [x] := List.length_eq_one_iff.1 h1
    obtain ⟨b, off, rfl, hbl, hc⟩ := hB 0 (by simp)
    have hc0 : w.cell? ⟨b, off, none⟩ = some (.int .u8 x.toNat) := by simpa using hc
    clear hc
    simp only [List.length_singleton] at *
    go_enter Tryd.func77, Tryd.ntmps77
    go_wp2_with fail
    refine (lastByte_any A t c x _ ht4 (by exact hA)).mono ?_
    rintro e w1 ⟨r, rfl, hr, rfl⟩
    have HR := Lib.hid hr
    clear hr
    go_wp2
    go_ret
    exact ⟨_, rfl, HR.out, 0, rfl⟩
  · have q1 : ((p.length : Int) == 1) = false := by rw [beq_eq_false_iff_ne]; omega
    by_cases h2 : p.length = t.length
    · have q2 : ((p.length : Int) == (t.length : Int)) = true := by rw [beq_iff_eq]; omega
      have k2 : (convert 22 9 (.slice B t.length d)).run Tryd.prog w = .ok (.string ⟨p.toArray⟩) w := run_conv_bs d t.length h2.symm hB
      have k1 : (convert 22 9 (.slice A t.length c)).run Tryd.prog w = .ok (.string ⟨t.toArray⟩) w := run_conv_bs c t.length rfl hA
      have heq := Tryd.bytes_Equal_strs _ _ _ _ w k1 k2
      rw [Lib.toList_data, Lib.toList_data] at heq
      by_cases hpt : p = t
      · have hb : ((⟨t.toArray⟩ : ByteArray).data.toList == (⟨p.toArray⟩ : ByteArray).data.toList) = true := by simp [hpt]
        rw [hb] at heq
        have hf : IsLast t p 0 := .inl ⟨0, rfl, by omega, (standsAt_all t p h2).2 hpt.symm, fun j h1 h3 => by omega⟩
        have HF := Lib.hid hf
        clear hf hb hpt
        go_enter Tryd.func77, Tryd.ntmps77
        go_wp2_with fail
        refine heq.mono ?_
        rintro e w1 ⟨rfl, rfl⟩
        go_wp2
        go_ret
        exact ⟨_, rfl, HF.out, 0, rfl⟩
      · have hb : ((⟨t.toArray⟩ : ByteArray).data.toList == (⟨p.toArray⟩ : ByteArray).data.toList) = false := by simp; exact fun e => hpt e.symm
        rw [hb] at heq
        have hf : IsLast t p (-1) := .inr ⟨rfl, fun j h3 hs => by
          have : j = 0 := by omega
          subst this
          exact hpt ((standsAt_all t p h2).1 hs).symm⟩
        have HF := Lib.hid hf
        clear hf hb hpt
        go_enter Tryd.func77, Tryd.ntmps77
        go_wp2_with fail
        refine heq.mono ?_
        rintro e w1 ⟨rfl, rfl⟩
        go_wp2
        go_ret
        exact ⟨_, rfl, HF.out, 0, rfl⟩
    · have q2 : ((p.length : Int) == (t.length : Int)) = false := by rw [beq_eq_false_iff_ne]; omega
      by_cases h3 : t.length < p.length
      · have hf : IsLast t p (-1) := .inr ⟨rfl, fun j h3 hs => by omega⟩
        have HF := Lib.hid hf
        clear hf
        have q3 : (t.length : Int) < (p.length : Int) := by omega
        go_enter Tryd.func77, Tryd.ntmps77
        go_wp2
        go_ret
        exact ⟨_, rfl, HF.out, 0, rfl⟩
      · have q3 : ¬ (t.length : Int) < (p.length : Int) := by omega
        go_enter Tryd.func77, Tryd.ntmps77
        go_wp2_with fail
        refine (lastRabinKarp_any A B t p c d _ hA1 hA2 ht hc9 ht4 hp0 (by omega) (by exact hA) (by exact hB)).mono ?_
        rintro e w1 ⟨r, rfl, hr, n, rfl⟩
        have HR := Lib.hid hr
        clear hr
        go_wp2
        go_ret
        exact ⟨_, rfl, HR.out, n, rfl⟩

end Go.Proofs.YtfgbipomdfceeaaDoor

namespace Go.Proofs.YtfgbipomdfceeaaDoor
open Go.RowKit P
set_option linter.unusedVariables false
set_option maxRecDepth 100000

set_option maxHeartbeats 2000000 in
theorem implRopeFindBack_any (A B : Option Addr) (ls : List (List UInt8)) (c : Nat) (p : List UInt8) (d : Nat) (a : Int) (w : World) (hn : ls.length ≤ 1048576) (hp : p.length ≤ d) (hd9 : d ≤ 9223372036854775807) (hp9 : p.length ≤ 1100000) (hT : Tab w) (hC : Cs w A ls) (hB : Bs w B p) :
    Calls Tryd.prog 29 #[.agg #[.slice A ls.length c], .slice B p.length d, .int .i64 a] w fun e w' => ∃ r : Int, e = .returned (.int .i64 r) ∧ FindsBackR ls p a r ∧ Below w.heap.size w w' := by
  have hb0 := (Below.refl w.heap.size w).alloc (Nat.le_refl _) (.cells #[.slice A ls.length c] 26)
  have bA0 := Blk.new w #[.slice A ls.length c] 26
  have hC0 := hC.below hb0
  have hB0 := hB.below hb0
  have hT0 := hT.below hb0
  by_cases hcan : canFindR ls p a = true
  · have hcut : rCut ls a = true := by unfold canFindR at hcan; rw [Bool.and_eq_true] at hcan; exact hcan.1
    have hp0 : 0 < p.length := by unfold canFindR at hcan; simp only [Bool.and_eq_true, decide_eq_true_eq] at hcan; exact hcan.2.2
    obtain ⟨hok, k, rfl, hk, hbd⟩ := rCut_true hcut
    have hlen := chunksText_len ls
    have hres : ∀ r, IsFindBack (chunksText ls) p k r → FindsBackR ls p (k : Int) r := fun r h => .inl ⟨hcan, by rw [Int.toNat_natCast]; exact h⟩
    obtain ⟨T, hTe⟩ : ∃ T, chunksText ls = T := ⟨_, rfl⟩
    rw [hTe] at hlen hk hres
    have hfi := fun r h => hres r (findBack_of_last T p k hk hp0 r h)
    have HT := Lib.hid hTe
    have HCAN := Lib.hid hcan
    have HFI := Lib.hid hfi
    have hk9 : (k : Int) ≤ 400 := by omega
    clear hTe hcut hok hbd hres hcan hfi
    go_enter Tryd.func29, Tryd.ntmps29
    go_wp2_with fail
    refine (canFind_any A B ls c p d k _ hn hp hd9 (by exact hT0) (by exact hC0) (by exact hB0)).mono ?_
    rintro e w1 ⟨rfl, hb1⟩
    rw [HCAN.out]
    have kA : w1.cell? ⟨w.heap.size, 0, none⟩ = some (.slice A ls.length c) := by rw [(bA0.below hb1).cell]; rfl
    have hC1 := hC0.below hb1
    have hB1 := hB0.below hb1
    have hT1 := hT0.below hb1
    have hb1 := below_then hb0 hb1
    clear hb0 hC0 hB0 hT0 bA0
    go_wp2_with fail
    refine (implRopeText_any A ls c _ hn (by exact hT1) (by exact hC1)).mono ?_
    rintro e w2 ⟨v, rfl, hown, hb2⟩
    rw [HT.out] at hown
    have hB2 := hB1.below hb2
    have hb2 := below_then hb1 hb2
    obtain ⟨D, g, rfl, h1, hg9, hD, hn1, hn2⟩ := hown.form2
    clear hown hC1 hB1 hT1 hb1 kA
    obtain ⟨m, hm⟩ : ∃ m, min (k + p.length) T.length = m := ⟨_, rfl⟩
    have hmi : min ((k : Int) + (p.length : Int)) (T.length : Int) = (m : Int) := by omega
    have hmt : m ≤ T.length := by omega
    have hsl := slice_head D T.length g m hn1 hn2 (by omega)
    have hDX := hD.head m hmt
    obtain ⟨X, hX⟩ : ∃ X, T.take m = X := ⟨_, rfl⟩
    have hXl : X.length = m := by rw [← hX, List.length_take]; omega
    rw [hX] at hDX
    have hfi : ∀ r, IsLast X p r → FindsBackR ls p (k : Int) r := fun r h => HFI.out r (by rw [hm, hX]; exact h)
    have HF := Lib.hid hfi
    have hcall := fun W hA hB => bytesLastIndex_any D B X p g d W hn1 hn2 (by omega) hg9 (by omega) hp0 hp9 hA hB
    simp only [hXl] at hcall
    clear hfi hX hXl hm
    go_wp2_with fail
    refine (hcall _ (by exact hDX) (by exact hB2)).mono ?_
    rintro e w3 ⟨r, rfl, hr, n3, rfl⟩
    have hb3 := below_drewN hb2 n3
    have hf := HF.out r hr
    have HFF := Lib.hid hf
    clear hf hr hcall hsl
    go_wp2
    go_ret
    exact ⟨_, rfl, HFF.out, hb3⟩
  · have hcf : canFindR ls p a = false := by simpa using hcan
    have hres : FindsBackR ls p a (-1) := .inr ⟨hcf, rfl⟩
    have HRES := Lib.hid hres
    have HCAN := Lib.hid hcf
    clear hcf hcan hres
    go_enter Tryd.func29, Tryd.ntmps29
    go_wp2_with fail
    refine (canFind_any A B ls c p d a _ hn hp hd9 (by exact hT0) (by exact hC0) (by exact hB0)).mono ?_
    rintro e w1 ⟨rfl, hb1⟩
    rw [HCAN.out]
    have hb1 := below_then hb0 hb1
    go_wp2
    go_ret
    exact ⟨_, rfl, HRES.out, hb1⟩
end Go.Proofs.YtfgbipomdfceeaaDoor
