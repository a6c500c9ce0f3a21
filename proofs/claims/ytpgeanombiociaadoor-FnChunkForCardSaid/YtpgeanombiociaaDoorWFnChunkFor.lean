/-
  FnChunkFor, its walk. Own work.
-/
import Derived.Test.YtpgeanombiociaaDoorLaw
import Derived.Test.YtpgeanombiociaaDoorCur8
import Derived.Test.YtpgeanombiociaaDoorI02e
import Derived.Test.YtpgeanombiociaaDoorP02b
namespace Go.Proofs.YtpgeanombiociaaDoor.fnChunkFor
open Go.ChangeShapes Go.WideShapes Go.ChangeAt Go.RowKit P
set_option linter.unusedVariables false

set_option maxHeartbeats 4000000 in
theorem walk (A : Option Addr) (l : List UInt8) (c : Nat) (hc : l.length ≤ c) (hm : c ≤ maxLen) (w : World) (hB : Bs w A l) (hT : Tab w) :
    Calls Tryd.prog 5 #[.slice A l.length c] w fun e w' => e = .returned (.bool true) ∧ Below w.heap.size w w' := by
  by_cases hbig : 1048576 < l.length
  · have hb : decide (1048576 < l.length) = true := decide_eq_true hbig
    have HBG := Lib.hid hb
    clear hb hbig
    go_enter Tryd.func5, Tryd.ntmps5
    go_wp2_with (go_at_call 12; refine (big_any _ _ _ _).mono ?_; rintro e w' ⟨rfl, rfl⟩; rw [HBG.out])
    go_ret
    exact ⟨rfl, Below.refl _ _⟩
  · have hl : l.length ≤ 1048576 := by omega
    have hb : decide (1048576 < l.length) = false := decide_eq_false hbig
    have HBG := Lib.hid hb
    clear hb hbig hc hm
    go_enter Tryd.func5, Tryd.ntmps5
    go_wp2_with fail
    refine (big_any _ _ _ _).mono ?_
    rintro e w0 ⟨rfl, rfl⟩
    rw [HBG.out]
    go_wp2_with fail
    refine (drawChunkFor_any A l c _ hl (by exact hB)).mono ?_
    rintro e w1 ⟨A1, c1, L, a, rfl, hlc, hcm, hD, hL, hLe, ha0, ha1, hb1⟩
    have hT1 := hT.below hb1
    have hn9 : L.length ≤ 9223372036854775807 := by omega
    have hn2 : L.length ≤ 1048576 := by omega
    clear HBG hB hT hcm
    have hcs := chunkFor_cases L a
    generalize hR : chunkFor L a = R at *
    have HR := Lib.hid hR
    clear hR
    go_wp2_with fail
    refine (implChunkFor_any A1 L c1 a _ hn2 ha1 (by exact hT1) (by exact hD)).mono ?_
    rintro e w2 ⟨rfl, hb2⟩
    rw [HR.out]
    have hD2 := hD.below hb2
    have hT2 := hT1.below hb2
    have hb2 := below_then hb1 hb2
    clear hD hT1 hb1
    go_wp2_with fail
    refine (specChunkFor_any A1 L c1 a _ hn9 ha1 (by exact hD2)).mono ?_
    rintro e w3 ⟨rfl, hb3⟩
    rw [HR.out]
    have hD3 := hD2.below hb3
    have hT3 := hT2.below hb3
    have hb3 := below_then hb2 hb3
    clear hD2 hT2 hb2
    rcases hcs with rfl | ⟨hok, k, j, rfl, hak, hcase⟩
    · go_wp2
      go_ret
      exact ⟨rfl, hb3⟩
    · have hkl : k ≤ L.length := by rcases hcase with ⟨h, _⟩ | ⟨h, _⟩ <;> omega
      have htt : totL (L.take k) ≤ 400 := by
        have h1 := tot_take_le L k
        have h2 := chunksOk_tot hok
        unfold tot at h1 h2; unfold totL; omega
      have htext : chunksText L = L.flatten := by unfold chunksText; rw [hok]; rfl
      have hflen : L.flatten.length ≤ 400 := chunksOk_tot hok
      have hj : j ≤ 401 := by
        rcases hcase with ⟨_, h⟩ | ⟨h1, h2, _⟩
        · omega
        · have := hLe L[k] (List.getElem_mem h1); omega
      have n1 : ((k : Int) != (k : Int)) = false := by simp
      have n2 : ((j : Int) != (j : Int)) = false := by simp
      have n3 : ¬ (k : Int) < 0 := by omega
      have HTX := Lib.hid htext
      have HOK := Lib.hid hok
      have HAK := Lib.hid hak
      clear htext hok hak
      go_wp2
      go_loop [9, 10] (fun n i => ∃ m : Nat, m ≤ k ∧ i = .int .i64 m ∧ n = .int .i64 ((j + totL (L.take m) : Nat) : Int)) (fun _ i => k - (intOf i).toNat)
      case atStart => exact ⟨0, Nat.zero_le _, rfl, by simp [totL]⟩
      case round =>
        obtain ⟨m, hmk, rfl, rfl⟩ := hrel
        by_cases hlt : m < k
        · have hmL : m < L.length := by omega
          obtain ⟨b, off, B, d, rfl, hbl, hcl, hld, hdm, hBm⟩ := hD3.at_ m hmL
          have htk : totL (L.take (m + 1)) = totL (L.take m) + (L[m]).length := tot_take L m hmL
          have htle : totL (L.take m) ≤ L.flatten.length := tot_take_le L m
          have htm : (L[m]).length ≤ L.flatten.length := tot_mem (ls := L) m hmL
          have HTK := Lib.hid htk
          clear htk
          obtain ⟨s, hs⟩ : ∃ s, j + totL (L.take m) = s := ⟨_, rfl⟩
          have hs1 : s ≤ 1000 := by omega
          rw [hs]
          have HSS := Lib.hid hs
          clear hs
          go_wp2
          go_round
          case rel => exact ⟨m + 1, by omega, by go_num, by rw [HTK.out, ← Nat.add_assoc, HSS.out]; go_num⟩
          case measure => simp [intOf]; omega
        · have e : m = k := by omega
          subst e
          obtain ⟨s, hs⟩ : ∃ s, j + totL (L.take m) = s := ⟨_, rfl⟩
          have has : a = (s : Int) := by rw [HAK.out]; omega
          rw [hs]
          subst has
          go_wp2_with fail
          refine (implChunksText_any A1 L c1 _ hn2 (by exact hT3) (by exact hD3)).mono ?_
          rintro e w4 ⟨v4, rfl, hown4, hb4⟩
          rw [HTX.out] at hown4
          have hD4 := hD3.below hb4
          have hb4 := below_then hb3 hb4
          obtain ⟨A4, c4, rfl, hlc4, hcm4, hB4⟩ := hown4.form
          have hfin := fun n => below_drewN hb4 n
          have b1 : ((s : Int) == (s : Int)) = true := by simp
          rcases hcase with ⟨hml, hj0⟩ | ⟨hml, hjl, hget⟩
          · have b2 : ((m : Int) == (L.length : Int)) = true := by simp [hml]
            have b3 : ((s : Int) == (L.flatten.length : Int)) = true := by
              have : s = L.flatten.length := by
                rw [← hs, hj0, hml]
                have h1 : totL (L.take L.length) = totL L := by rw [List.take_length]
                rw [h1]
                unfold totL
                omega
              simp [this]
            clear hml hj0 hs hown4 HAK HTX HOK HR
            generalize L.flatten = F at *
            go_wp2
            go_quiet (fail)
            go_wp2
            go_ret
            exact ⟨rfl, hfin _⟩
          · have b2 : ((m : Int) == (L.length : Int)) = false := by simp; omega
            have hsl : s < L.flatten.length := by
              have h1 : totL (L.take m) + j = s := by omega
              rw [h1] at hget
              rw [List.getElem?_eq_getElem hjl] at hget
              exact (List.getElem?_eq_some_iff.1 hget).1
            have hbyte : L.flatten[s] = (L[m])[j] := by
              have h1 : totL (L.take m) + j = s := by omega
              rw [h1, List.getElem?_eq_getElem hjl, List.getElem?_eq_getElem hsl] at hget
              exact Option.some.inj hget
            obtain ⟨b5, off5, rfl, hbl5, hc5⟩ := hB4 s hsl
            obtain ⟨b6, off6, B6, d6, rfl, hbl6, hc6, hld6, hdm6, hB6⟩ := hD4.at_ m hml
            obtain ⟨b7, off7, rfl, hbl7, hc7⟩ := hB6 j hjl
            rw [hbyte] at hc5
            obtain ⟨x, hx⟩ : ∃ x : Int, (((L[m])[j]).toNat : Int) = x := ⟨_, rfl⟩
            rw [hx] at hc5 hc7
            have bx : (x == x) = true := by simp
            have i1 : (m : Int) < (L.length : Int) := by omega
            have i2 : (s : Int) < (L.flatten.length : Int) := by omega
            have i3 : (j : Int) < ((L[m]).length : Int) := by omega
            have i4 : (0 : Int) ≤ (m : Int) := by omega
            have i5 : (0 : Int) ≤ (s : Int) := by omega
            have i6 : (0 : Int) ≤ (j : Int) := by omega
            generalize L[m] = X at *
            generalize L.flatten = F at *
            clear hget hbyte hx hs hown4 HAK HTX HOK HR hB4 hB6 hld6 hdm6
            go_wp2
            go_quiet (fail)
            go_wp2
            go_ret
            exact ⟨rfl, hfin _⟩

end Go.Proofs.YtpgeanombiociaaDoor.fnChunkFor
