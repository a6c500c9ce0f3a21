/-
  Texts of one claim in one: Open13, P19, P20, P21, D05, D03, D02. Own work.
-/
import Derived.Test.YtaekanhjkpoifaaGreatDoorRp4
import Derived.Test.YtaekanhjkpoifaaGreatDoorRC16
import Derived.Test.YtaekanhjkpoifaaGreatDoorRp6
import Derived.Test.YtaekanhjkpoifaaGreatDoorRp1
import Derived.Test.YtaekanhjkpoifaaGreatDoorRp5
import Derived.Test.YtaekanhjkpoifaaGreatDoorRp0
import Derived.Test.YtaekanhjkpoifaaGreatDoorRS01

/-
 Documents, opened as arguments. Own work.
-/
namespace Go.Proofs.YtaekanhjkpoifaaGreatDoor
open Go.ChangeShapes Go.WideShapes Go.ChangeAt Go.RowKit Go.Deep P
set_option linter.unusedVariables false
set_option maxRecDepth 100000

section
variable {H : Type} {enc : TypeId × Value → H} {w : World} {base : Nat} {spare : Nat → Bool} {held : Bool}

/-- A struct of two fields of one and of three cells. -/
theorem reads_s13 {α0 α1 : Type} {t : TypeId} {f0 f1 : Field} {L0 : Lay α0} {L1 : Lay α1} (ht : Tryz.prog.underlying t = some (.struct #[f0, f1])) (h0 : f0.offset = 0) (c0 : Tryz.prog.cellsOf f0.type = 1) (h1 : f1.offset = 1) (c1 : Tryz.prog.cellsOf f1.type = 3) (hC : Tryz.prog.cellsOf t = 4) (r0 : Reads enc w base spare held f0.type L0) (r1 : Reads enc w base spare held f1.type L1) : Reads enc w base spare held t (Lay.pair L0 L1) := by
 intro fuel cs x hf
 obtain ⟨xs, n, _, hx, hlen, hxl, hg⟩ := DataW.trod_struct ht hf
 rw [hC] at hlen
 have hxl' : xs.length = 2 := by rw [hxl]; rfl
 match cs, hlen with
 | [u0, u1, u2, u3], _ =>
  have g0 := hg 0 f0 rfl
  rw [h0, c0] at g0
  obtain ⟨y0, hy0⟩ : ∃ y, xs[0]? = some y := ⟨xs[0]'(by omega), List.getElem?_eq_getElem (by omega)⟩
  rw [hy0] at g0
  obtain ⟨d0, e0⟩ := r0 n [u0] y0 g0
  have g1 := hg 1 f1 rfl
  rw [h1, c1] at g1
  obtain ⟨y1, hy1⟩ : ∃ y, xs[1]? = some y := ⟨xs[1]'(by omega), List.getElem?_eq_getElem (by omega)⟩
  rw [hy1] at g1
  obtain ⟨d1, e1⟩ := r1 n [u1, u2, u3] y1 g1
  exact ⟨(d0, d1), ⟨[u0], [u1, u2, u3], rfl, e0, e1⟩⟩

/-- A struct of three fields of one, two and two cells. -/
theorem reads_s122 {α0 α1 α2 : Type} {t : TypeId} {f0 f1 f2 : Field} {L0 : Lay α0} {L1 : Lay α1} {L2 : Lay α2} (ht : Tryz.prog.underlying t = some (.struct #[f0, f1, f2])) (h0 : f0.offset = 0) (c0 : Tryz.prog.cellsOf f0.type = 1) (h1 : f1.offset = 1) (c1 : Tryz.prog.cellsOf f1.type = 2) (h2 : f2.offset = 3) (c2 : Tryz.prog.cellsOf f2.type = 2) (hC : Tryz.prog.cellsOf t = 5) (r0 : Reads enc w base spare held f0.type L0) (r1 : Reads enc w base spare held f1.type L1) (r2 : Reads enc w base spare held f2.type L2) : Reads enc w base spare held t (Lay.pair L0 (Lay.pair L1 L2)) := by
 intro fuel cs x hf
 obtain ⟨xs, n, _, hx, hlen, hxl, hg⟩ := DataW.trod_struct ht hf
 rw [hC] at hlen
 have hxl' : xs.length = 3 := by rw [hxl]; rfl
 match cs, hlen with
 | [u0, u1, u2, u3, u4], _ =>
  have g0 := hg 0 f0 rfl
  rw [h0, c0] at g0
  obtain ⟨y0, hy0⟩ : ∃ y, xs[0]? = some y := ⟨xs[0]'(by omega), List.getElem?_eq_getElem (by omega)⟩
  rw [hy0] at g0
  obtain ⟨d0, e0⟩ := r0 n [u0] y0 g0
  have g1 := hg 1 f1 rfl
  rw [h1, c1] at g1
  obtain ⟨y1, hy1⟩ : ∃ y, xs[1]? = some y := ⟨xs[1]'(by omega), List.getElem?_eq_getElem (by omega)⟩
  rw [hy1] at g1
  obtain ⟨d1, e1⟩ := r1 n [u1, u2] y1 g1
  have g2 := hg 2 f2 rfl
  rw [h2, c2] at g2
  obtain ⟨y2, hy2⟩ : ∃ y, xs[2]? = some y := ⟨xs[2]'(by omega), List.getElem?_eq_getElem (by omega)⟩
  rw [hy2] at g2
  obtain ⟨d2, e2⟩ := r2 n [u3, u4] y2 g2
  exact ⟨(d0, (d1, d2)), ⟨[u0], [u1, u2, u3, u4], rfl, e0, ⟨[u1, u2], [u3, u4], rfl, e1, e2⟩⟩⟩

/-- A struct of six fields of one cell each. -/
theorem reads_s6 {α0 α1 α2 α3 α4 α5 : Type} {t : TypeId} {f0 f1 f2 f3 f4 f5 : Field} {L0 : Lay α0} {L1 : Lay α1} {L2 : Lay α2} {L3 : Lay α3} {L4 : Lay α4} {L5 : Lay α5} (ht : Tryz.prog.underlying t = some (.struct #[f0, f1, f2, f3, f4, f5])) (h0 : f0.offset = 0) (c0 : Tryz.prog.cellsOf f0.type = 1) (h1 : f1.offset = 1) (c1 : Tryz.prog.cellsOf f1.type = 1) (h2 : f2.offset = 2) (c2 : Tryz.prog.cellsOf f2.type = 1) (h3 : f3.offset = 3) (c3 : Tryz.prog.cellsOf f3.type = 1) (h4 : f4.offset = 4) (c4 : Tryz.prog.cellsOf f4.type = 1) (h5 : f5.offset = 5) (c5 : Tryz.prog.cellsOf f5.type = 1) (hC : Tryz.prog.cellsOf t = 6) (r0 : Reads enc w base spare held f0.type L0) (r1 : Reads enc w base spare held f1.type L1) (r2 : Reads enc w base spare held f2.type L2) (r3 : Reads enc w base spare held f3.type L3) (r4 : Reads enc w base spare held f4.type L4) (r5 : Reads enc w base spare held f5.type L5) : Reads enc w base spare held t (Lay.pair L0 (Lay.pair L1 (Lay.pair L2 (Lay.pair L3 (Lay.pair L4 L5))))) := by
 intro fuel cs x hf
 obtain ⟨xs, n, _, hx, hlen, hxl, hg⟩ := DataW.trod_struct ht hf
 rw [hC] at hlen
 have hxl' : xs.length = 6 := by rw [hxl]; rfl
 match cs, hlen with
 | [u0, u1, u2, u3, u4, u5], _ =>
  have g0 := hg 0 f0 rfl
  rw [h0, c0] at g0
  obtain ⟨y0, hy0⟩ : ∃ y, xs[0]? = some y := ⟨xs[0]'(by omega), List.getElem?_eq_getElem (by omega)⟩
  rw [hy0] at g0
  obtain ⟨d0, e0⟩ := r0 n [u0] y0 g0
  have g1 := hg 1 f1 rfl
  rw [h1, c1] at g1
  obtain ⟨y1, hy1⟩ : ∃ y, xs[1]? = some y := ⟨xs[1]'(by omega), List.getElem?_eq_getElem (by omega)⟩
  rw [hy1] at g1
  obtain ⟨d1, e1⟩ := r1 n [u1] y1 g1
  have g2 := hg 2 f2 rfl
  rw [h2, c2] at g2
  obtain ⟨y2, hy2⟩ : ∃ y, xs[2]? = some y := ⟨xs[2]'(by omega), List.getElem?_eq_getElem (by omega)⟩
  rw [hy2] at g2
  obtain ⟨d2, e2⟩ := r2 n [u2] y2 g2
  have g3 := hg 3 f3 rfl
  rw [h3, c3] at g3
  obtain ⟨y3, hy3⟩ : ∃ y, xs[3]? = some y := ⟨xs[3]'(by omega), List.getElem?_eq_getElem (by omega)⟩
  rw [hy3] at g3
  obtain ⟨d3, e3⟩ := r3 n [u3] y3 g3
  have g4 := hg 4 f4 rfl
  rw [h4, c4] at g4
  obtain ⟨y4, hy4⟩ : ∃ y, xs[4]? = some y := ⟨xs[4]'(by omega), List.getElem?_eq_getElem (by omega)⟩
  rw [hy4] at g4
  obtain ⟨d4, e4⟩ := r4 n [u4] y4 g4
  have g5 := hg 5 f5 rfl
  rw [h5, c5] at g5
  obtain ⟨y5, hy5⟩ : ∃ y, xs[5]? = some y := ⟨xs[5]'(by omega), List.getElem?_eq_getElem (by omega)⟩
  rw [hy5] at g5
  obtain ⟨d5, e5⟩ := r5 n [u5] y5 g5
  exact ⟨(d0, (d1, (d2, (d3, (d4, d5))))), ⟨[u0], [u1, u2, u3, u4, u5], rfl, e0, ⟨[u1], [u2, u3, u4, u5], rfl, e1, ⟨[u2], [u3, u4, u5], rfl, e2, ⟨[u3], [u4, u5], rfl, e3, ⟨[u4], [u5], rfl, e4, e5⟩⟩⟩⟩⟩⟩

theorem reads_commit (hsp : ∀ b, spare b = true) : Reads enc w base spare held 92 Lay.commit :=
 reads_s13 Tryz.underlying92 rfl (by kernel_rfl) rfl (by kernel_rfl) (by kernel_rfl) reads_int (reads_edit hsp)
theorem reads_commits (hsp : ∀ b, spare b = true) : Reads enc w base spare held 23 (Lay.slice 92 Lay.commit) :=
 reads_slice Tryz.underlying23 (by kernel_rfl) (by decide) (reads_commit hsp)
theorem reads_member (hsp : ∀ b, spare b = true) : Reads enc w base spare held 99 Lay.member :=
 reads_s122 (L0 := Lay.int) (L1 := Lay.selL) (L2 := Lay.stackL) Tryz.underlying99 rfl (by kernel_rfl) rfl (by kernel_rfl) rfl (by kernel_rfl) (by kernel_rfl) reads_int reads_sel (reads_stack hsp)
theorem reads_members (hsp : ∀ b, spare b = true) : Reads enc w base spare held 24 (Lay.slice 99 Lay.member) :=
 reads_slice Tryz.underlying24 (by kernel_rfl) (by decide) (reads_member hsp)

/-- A struct of four fields of one cell each. -/
theorem reads_s1111 {α0 α1 α2 α3 : Type} {t : TypeId} {f0 f1 f2 f3 : Field} {L0 : Lay α0} {L1 : Lay α1} {L2 : Lay α2} {L3 : Lay α3} (ht : Tryz.prog.underlying t = some (.struct #[f0, f1, f2, f3])) (h0 : f0.offset = 0) (c0 : Tryz.prog.cellsOf f0.type = 1) (h1 : f1.offset = 1) (c1 : Tryz.prog.cellsOf f1.type = 1) (h2 : f2.offset = 2) (c2 : Tryz.prog.cellsOf f2.type = 1) (h3 : f3.offset = 3) (c3 : Tryz.prog.cellsOf f3.type = 1) (hC : Tryz.prog.cellsOf t = 4) (r0 : Reads enc w base spare held f0.type L0) (r1 : Reads enc w base spare held f1.type L1) (r2 : Reads enc w base spare held f2.type L2) (r3 : Reads enc w base spare held f3.type L3) : Reads enc w base spare held t (Lay.pair L0 (Lay.pair L1 (Lay.pair L2 L3))) := by
 intro fuel cs x hf
 obtain ⟨xs, n, _, hx, hlen, hxl, hg⟩ := DataW.trod_struct ht hf
 rw [hC] at hlen
 have hxl' : xs.length = 4 := by rw [hxl]; rfl
 match cs, hlen with
 | [u0, u1, u2, u3], _ =>
  have g0 := hg 0 f0 rfl
  rw [h0, c0] at g0
  obtain ⟨y0, hy0⟩ : ∃ y, xs[0]? = some y := ⟨xs[0]'(by omega), List.getElem?_eq_getElem (by omega)⟩
  rw [hy0] at g0
  obtain ⟨d0, e0⟩ := r0 n [u0] y0 g0
  have g1 := hg 1 f1 rfl
  rw [h1, c1] at g1
  obtain ⟨y1, hy1⟩ : ∃ y, xs[1]? = some y := ⟨xs[1]'(by omega), List.getElem?_eq_getElem (by omega)⟩
  rw [hy1] at g1
  obtain ⟨d1, e1⟩ := r1 n [u1] y1 g1
  have g2 := hg 2 f2 rfl
  rw [h2, c2] at g2
  obtain ⟨y2, hy2⟩ : ∃ y, xs[2]? = some y := ⟨xs[2]'(by omega), List.getElem?_eq_getElem (by omega)⟩
  rw [hy2] at g2
  obtain ⟨d2, e2⟩ := r2 n [u2] y2 g2
  have g3 := hg 3 f3 rfl
  rw [h3, c3] at g3
  obtain ⟨y3, hy3⟩ : ∃ y, xs[3]? = some y := ⟨xs[3]'(by omega), List.getElem?_eq_getElem (by omega)⟩
  rw [hy3] at g3
  obtain ⟨d3, e3⟩ := r3 n [u3] y3 g3
  exact ⟨(d0, (d1, (d2, d3))), ⟨[u0], [u1, u2, u3], rfl, e0, ⟨[u1], [u2, u3], rfl, e1, ⟨[u2], [u3], rfl, e2, e3⟩⟩⟩⟩

theorem reads_leaseD : Reads enc w base spare held 108 Lay.lease :=
 reads_s1111 Tryz.underlying108 rfl (by kernel_rfl) rfl (by kernel_rfl) rfl (by kernel_rfl) rfl (by kernel_rfl) (by kernel_rfl) reads_int reads_int reads_int reads_int
theorem reads_leasesD : Reads enc w base spare held 25 (Lay.slice 108 Lay.lease) :=
 reads_slice Tryz.underlying25 (by kernel_rfl) (by decide) reads_leaseD
theorem reads_doc (hsp : ∀ b, spare b = true) : Reads enc w base spare held 27 (Lay.pair Lay.bytes (Lay.pair Lay.bytes (Lay.pair (Lay.slice 92 Lay.commit) (Lay.pair Lay.int (Lay.pair (Lay.slice 99 Lay.member) (Lay.slice 108 Lay.lease)))))) :=
 reads_s6 Tryz.underlying27 rfl (by kernel_rfl) rfl (by kernel_rfl) rfl (by kernel_rfl) rfl (by kernel_rfl) rfl (by kernel_rfl) rfl (by kernel_rfl) (by kernel_rfl) (reads_bytes hsp) (reads_bytes hsp) (reads_commits hsp) reads_int (reads_members hsp) reads_leasesD
end

/-- A document in cells. -/
theorem doc_rd {w : World} {cs : List Value} {x : List UInt8 × List UInt8 × List Cm × Int × List Mb × List Le} (h : (Lay.pair Lay.bytes (Lay.pair Lay.bytes (Lay.pair (Lay.slice 92 Lay.commit) (Lay.pair Lay.int (Lay.pair (Lay.slice 99 Lay.member) (Lay.slice 108 Lay.lease)))))).rd w cs x) :
  ∃ (a : Da) (d : Dc), cs = [.slice a.s d.start.length a.cs, .slice a.t d.text.length a.ct, .slice a.l d.log.length a.cl, .int .i64 d.clock, .slice a.m d.mem.length a.cm, .slice a.e d.lea.length a.ce] ∧ RdD w a d := by
 obtain ⟨x1, x2, x3, x4, x5, x6⟩ := x
 obtain ⟨_, _, rfl, ⟨A1, c1, rfl, g1, k1, h1⟩, _, _, rfl, ⟨A2, c2, rfl, g2, k2, h2⟩, _, _, rfl, ⟨A3, c3, rfl, g3, k3, h3⟩, _, _, rfl, ⟨rfl, h4⟩, _, _, rfl, ⟨A5, c5, rfl, g5, k5, h5⟩, ⟨A6, c6, rfl, g6, k6, h6⟩⟩ := h
 exact ⟨⟨A1, c1, A2, c2, A3, c3, A5, c5, A6, c6⟩, ⟨x1, x2, x3, x4, x5, x6⟩, rfl, ⟨h1, h2, h3, h5, h6, ⟨g1, k1⟩, ⟨g2, k2⟩, ⟨g3, k3⟩, ⟨g5, k5⟩, ⟨g6, k6⟩, h4⟩⟩
end Go.Proofs.YtaekanhjkpoifaaGreatDoor

/-
 Chapter 10, plain mathematics: when a document is valid. Own work.
-/
namespace Go.Proofs.YtaekanhjkpoifaaGreatDoor
open Go.RowKit P
set_option linter.unusedVariables false
set_option linter.unusedSimpArgs false

/-- The edits of a log. -/
def logE (lg : List Cm) : List Ed := lg.map (·.2)
theorem logE_length (lg : List Cm) : (logE lg).length = lg.length := List.length_map _
def ses (n : Int) : Bool := decide (1 ≤ n ∧ n ≤ 8)
theorem ses_iff (n : Int) : ses n = true ↔ 1 ≤ n ∧ n ≤ 8 := by unfold ses; exact decide_eq_true_iff
def runOk (d : Dc) : Bool := decide (edsN d.start (logE d.log) = d.log.length) && decide (edsText d.start (logE d.log) = d.text)
def logOk (d : Dc) : Bool := decide (d.log.length ≤ 60) && (d.log.all (fun c => ses c.1) && runOk d)
def fitE (t : List UInt8) (e : Ed) : Bool := edFits t e.1 e.2.1 e.2.2
/-- A member's stack is valid, and has only edits that fit. -/
def canT (t : List UInt8) (u r : List Ed) : Bool := stOk u r && (u ++ r).all (fitE t)
def mbGood (t : List UInt8) (last : Int) (m : Mb) : Bool := decide (last < m.1) && (ses m.1 && (selOk t m.2.1.1 m.2.1.2 && canT t m.2.2.1 m.2.2.2))
def memOk (t : List UInt8) : Int → List Mb → Bool
 | _, [] => true
 | last, m :: r => mbGood t last m && memOk t m.1 r
def leaGood (t : List UInt8) (now : Int) (es : List Le) (l : Le) : Bool := decide (now < l.2.2.2) && (isBound t l.1 && (isBound t l.2.1 && !heldL es l now))
def leaAll (d : Dc) : Bool := d.lea.all (leaGood d.text d.clock d.lea)
def leaOk (d : Dc) : Bool := leOk d.lea && leaAll d
def clkOk (n : Int) : Bool := decide (0 ≤ n ∧ n ≤ 1000)
def docOk (d : Dc) : Bool := logOk d && (clkOk d.clock && (memOk d.text 0 d.mem && leaOk d))

theorem memOk_len {t : List UInt8} : ∀ (ms : List Mb) (last : Int), memOk t last ms = true → ms = [] ∨ last + ms.length ≤ 8 := by
 intro ms
 induction ms with
 | nil => intro _ _; exact .inl rfl
 | cons m r ih =>
  intro last h
  right
  unfold memOk mbGood at h
  simp only [Bool.and_eq_true, decide_eq_true_eq] at h
  obtain ⟨⟨h1, h2, _⟩, h3⟩ := h
  rw [ses_iff] at h2
  rcases ih m.1 h3 with h4 | h4
  ·subst h4; simp; omega
  ·simp; omega
theorem memOk_le8 {t : List UInt8} {ms : List Mb} (h : memOk t 0 ms = true) : ms.length ≤ 8 := by
 rcases memOk_len ms 0 h with h | h
 ·subst h; simp
 ·omega
/-- The last session ahead of the k-th member. -/
def lastS (ms : List Mb) (k : Nat) : Int := if h : 0 < k ∧ k ≤ ms.length then (ms[k - 1]'(by omega)).1 else 0
theorem lastS_zero (ms : List Mb) : lastS ms 0 = 0 := by unfold lastS; rw [dif_neg (by omega)]
theorem lastS_succ (ms : List Mb) (k : Nat) (hk : k < ms.length) : lastS ms (k + 1) = ms[k].1 := by
 unfold lastS; rw [dif_pos ⟨by omega, by omega⟩]; simp
theorem memOk_step {t : List UInt8} {ms : List Mb} {k : Nat} (hk : k < ms.length) (h : memOk t 0 ms = memOk t (lastS ms k) (ms.drop k)) : memOk t 0 ms = (mbGood t (lastS ms k) ms[k] && memOk t (lastS ms (k + 1)) (ms.drop (k + 1))) := by
 rw [h, List.drop_eq_getElem_cons hk, lastS_succ ms k hk]
 rfl
theorem memOk_done {t : List UInt8} {ms : List Mb} {k : Nat} (hk : k = ms.length) (h : memOk t 0 ms = memOk t (lastS ms k) (ms.drop k)) : memOk t 0 ms = true := by
 rw [h, hk, List.drop_length]
 rfl

theorem edsRun_text (es : List Ed) : ∀ t, isText t = true → isText (edsRun t es).1 = true := by
 induction es with
 | nil => intro t h; exact h
 | cons e es ih =>
  intro t h
  unfold edsRun
  by_cases hok : edOk t e.1 e.2.1 e.2.2 = true
  ·rw [if_pos hok]; exact ih _ (edText_ok hok)
  ·rw [if_neg hok]; exact h
theorem runOk_start {d : Dc} (h : runOk d = true) : isText d.start = true := by
 unfold runOk at h
 rw [Bool.and_eq_true] at h
 have h1 := of_decide_eq_true h.1
 unfold edsN at h1
 by_cases ht : isText d.start = true
 ·exact ht
 ·rw [if_neg ht] at h1; omega
theorem runOk_text {d : Dc} (h : runOk d = true) : isText d.text = true := by
 have hs := runOk_start h
 unfold runOk at h
 rw [Bool.and_eq_true] at h
 have h2 := of_decide_eq_true h.2
 rw [← h2]
 unfold edsText
 rw [if_pos hs]
 exact edsRun_text _ _ hs
theorem logOk_text {d : Dc} (h : logOk d = true) : isText d.text = true := by
 unfold logOk at h
 simp only [Bool.and_eq_true] at h
 exact runOk_text h.2.2

/-- What the model asks of a lease and those ahead of it. -/
def leaPair (t : List UInt8) (now : Int) (es : List Le) (i : Nat) (l : Le) : Bool := decide (now < l.2.2.2) && (isBound t l.1 && (isBound t l.2.1 && !(es.take i).any (barsL l)))
theorem barsL_symm (a b : Le) : barsL a b = barsL b a := by
 unfold barsL
 rw [meet_iff, meet_iff]
 by_cases h : a.2.2.1 = b.2.2.1
 ·simp [h]
 ·have h2 : ¬ b.2.2.1 = a.2.2.1 := fun e => h e.symm
  simp only [ne_eq, h, h2, not_false_eq_true, decide_true, Bool.true_and, decide_eq_decide]
  omega
theorem barsL_self (a : Le) : barsL a a = false := by unfold barsL; simp
theorem leaAll_pairs (d : Dc) : leaAll d = true ↔ ∀ i (h : i < d.lea.length), leaPair d.text d.clock d.lea i d.lea[i] = true := by
 unfold leaAll
 rw [List.all_eq_true]
 constructor
 ·intro h i hi
  have h1 := h _ (List.getElem_mem hi)
  unfold leaGood at h1
  unfold leaPair
  simp only [Bool.and_eq_true, Bool.not_eq_true', decide_eq_true_eq] at h1 ⊢
  refine ⟨h1.1, h1.2.1, h1.2.2.1, ?_⟩
  rw [List.any_eq_false]
  intro o ho hb
  have h2 := h o (List.mem_of_mem_take ho)
  unfold leaGood at h2
  simp only [Bool.and_eq_true, decide_eq_true_eq] at h2
  have h3 := h1.2.2.2
  unfold heldL at h3
  rw [List.any_eq_false] at h3
  exact h3 o (List.mem_of_mem_take ho) (by rw [Bool.and_eq_true]; exact ⟨decide_eq_true h2.1, hb⟩)
 ·intro h l hl
  obtain ⟨i, hi, rfl⟩ := List.getElem_of_mem hl
  have h1 := h i hi
  unfold leaPair at h1
  unfold leaGood
  simp only [Bool.and_eq_true, Bool.not_eq_true', decide_eq_true_eq] at h1 ⊢
  refine ⟨h1.1, h1.2.1, h1.2.2.1, ?_⟩
  unfold heldL
  rw [List.any_eq_false]
  intro o ho hb
  rw [Bool.and_eq_true] at hb
  obtain ⟨k, hk, rfl⟩ := List.getElem_of_mem ho
  have hbb := hb.2
  by_cases e : k = i
  ·subst e; rw [barsL_self] at hbb; cases hbb
  by_cases hlt : k < i
  ·have h2 := h1.2.2.2
   rw [List.any_eq_false] at h2
   exact h2 d.lea[k] (by rw [List.mem_take_iff_getElem]; exact ⟨k, by omega, rfl⟩) hbb
  ·have h2 := h k hk
   unfold leaPair at h2
   simp only [Bool.and_eq_true, Bool.not_eq_true'] at h2
   have h3 := h2.2.2.2
   rw [List.any_eq_false] at h3
   rw [barsL_symm] at hbb
   exact h3 d.lea[i] (by rw [List.mem_take_iff_getElem]; exact ⟨i, by omega, rfl⟩) hbb

/-- What spec.l10Fits asks, on a text. -/
theorem edFits_spec {t : List UInt8} (ht : isText t = true) (a m : Int) (p : List UInt8) : edFits t a m p = (cutOk t a && (decide (0 ≤ m) && (decide (m ≤ (t.length : Int) - a) && (cutOk t (a + m) && isText p)))) := by
 unfold edFits edWhole cutOk
 rw [ht]
 by_cases h1 : isBound t (a + m) = true
 ·have h2 := isBound_range h1
  have h3 : decide (m ≤ (t.length : Int) - a) = true := decide_eq_true (by omega)
  rw [h3, h1]
  cases isText p <;> cases isBound t a <;> cases decide (0 ≤ m) <;> rfl
 ·rw [Bool.not_eq_true] at h1
  rw [h1]
  cases isText p <;> cases isBound t a <;> cases decide (0 ≤ m) <;> simp
end Go.Proofs.YtaekanhjkpoifaaGreatDoor

/-
 Chapter 10, plain mathematics: when a document is not valid, and when it is. Own work.
-/
namespace Go.Proofs.YtaekanhjkpoifaaGreatDoor
open Go.RowKit P
set_option linter.unusedVariables false
set_option linter.unusedSimpArgs false
theorem docOk_long {d : Dc} (h : 60 < d.log.length) : docOk d = false := by
 unfold docOk logOk; rw [decide_eq_false (by omega)]; rfl
theorem docOk_clk {d : Dc} (h : clkOk d.clock = false) : docOk d = false := by
 unfold docOk; rw [h]; simp
theorem docOk_mem8 {d : Dc} (h : 8 < d.mem.length) : docOk d = false := by
 have h2 : memOk d.text 0 d.mem = false := by
  cases h3 : memOk d.text 0 d.mem
  ·rfl
  ·have := memOk_le8 h3; omega
 unfold docOk; rw [h2]; simp
theorem docOk_lea {d : Dc} (h : leOk d.lea = false) : docOk d = false := by
 unfold docOk leaOk; rw [h]; simp
theorem docOk_run {d : Dc} (h : runOk d = false) : docOk d = false := by
 unfold docOk logOk; rw [h]; simp
theorem docOk_ses {d : Dc} {k : Nat} (hk : k < d.log.length) (h : ses d.log[k].1 = false) : docOk d = false := by
 have h2 : d.log.all (fun c => ses c.1) = false := by
  rw [List.all_eq_false]
  exact ⟨_, List.getElem_mem hk, by rw [h]; simp⟩
 unfold docOk logOk; rw [h2]; simp
theorem docOk_mem {d : Dc} (h : memOk d.text 0 d.mem = false) : docOk d = false := by
 unfold docOk; rw [h]; simp
theorem docOk_pair {d : Dc} {i : Nat} (hi : i < d.lea.length) (h : leaPair d.text d.clock d.lea i d.lea[i] = false) : docOk d = false := by
 have h2 : leaAll d = false := by
  cases h3 : leaAll d
  ·rfl
  ·have := (leaAll_pairs d).1 h3 i hi
   rw [h] at this; cases this
 unfold docOk leaOk; rw [h2]; simp
theorem docOk_yes {d : Dc} (h0 : d.log.length ≤ 60) (h1 : clkOk d.clock = true) (h2 : leOk d.lea = true) (h3 : runOk d = true) (h4 : ∀ k (h : k < d.log.length), ses d.log[k].1 = true) (h5 : memOk d.text 0 d.mem = true) (h6 : ∀ i (h : i < d.lea.length), leaPair d.text d.clock d.lea i d.lea[i] = true) : docOk d = true := by
 have h7 := (leaAll_pairs d).2 h6
 have h8 : d.log.all (fun c => ses c.1) = true := by
  rw [List.all_eq_true]
  intro x hx
  obtain ⟨k, hk, rfl⟩ := List.getElem_of_mem hx
  exact h4 k hk
 unfold docOk logOk leaOk
 rw [decide_eq_true h0, h8, h3, h1, h5, h2, h7]
 rfl
theorem canT_eq {t : List UInt8} {u r : List Ed} : canT t u r = (stOk u r && (u.all (fitE t) && r.all (fitE t))) := by
 unfold canT; rw [List.all_append]
theorem any_take_succ (es : List Le) (k : Nat) (hk : k < es.length) (p : Le → Bool) : (es.take (k + 1)).any p = ((es.take k).any p || p es[k]) := by
 rw [List.take_succ_eq_append_getElem hk, List.any_append]; simp
end Go.Proofs.YtaekanhjkpoifaaGreatDoor

/-
 Chapter 10, plain mathematics: the place of a member. Own work.
-/
namespace Go.Proofs.YtaekanhjkpoifaaGreatDoor
open Go.RowKit P
set_option linter.unusedVariables false
set_option linter.unusedSimpArgs false

/-- The first member of a session (the number of members if there is none). -/
def mIx (ms : List Mb) (s : Int) : Nat := ms.findIdx (fun m => decide (m.1 = s))
theorem mIx_le (ms : List Mb) (s : Int) : mIx ms s ≤ ms.length := List.findIdx_le_length
theorem mIx_at {ms : List Mb} {s : Int} (h : mIx ms s < ms.length) : (ms[mIx ms s]).1 = s := by
 have h9 := List.findIdx_getElem (p := fun m : Mb => decide (m.1 = s)) (xs := ms) (w := h)
 exact of_decide_eq_true h9
theorem mIx_before {ms : List Mb} {s : Int} {k : Nat} (hk : k < mIx ms s) (hl : k < ms.length) : ms[k].1 ≠ s := by
 have h9 := List.not_of_lt_findIdx (p := fun m : Mb => decide (m.1 = s)) (xs := ms) hk
 intro e
 simp [e] at h9
theorem mIx_eq {ms : List Mb} {s : Int} {k : Nat} (hk : k < ms.length) (he : ms[k].1 = s) (hb : ∀ j (hj : j < ms.length), j < k → ms[j].1 ≠ s) : mIx ms s = k := by
 have h1 : ¬ mIx ms s < k := fun h => hb _ (by omega) h (mIx_at (by omega))
 have h2 : ¬ k < mIx ms s := fun h => mIx_before h hk he
 omega
theorem mIx_none {ms : List Mb} {s : Int} (hb : ∀ j (hj : j < ms.length), ms[j].1 ≠ s) : mIx ms s = ms.length := by
 have h1 := mIx_le ms s
 have h2 : ¬ mIx ms s < ms.length := fun h => hb _ h (mIx_at h)
 omega
theorem memOk_sorted {t : List UInt8} : ∀ (ms : List Mb) (last : Int), memOk t last ms = true → (∀ k (h : k < ms.length), last < ms[k].1) ∧ ∀ i j (hi : i < ms.length) (hj : j < ms.length), i < j → ms[i].1 < ms[j].1 := by
 intro ms
 induction ms with
 | nil => intro last _; exact ⟨fun k h => by simp at h, fun i j hi => by simp at hi⟩
 | cons m r ih =>
  intro last h
  unfold memOk mbGood at h
  simp only [Bool.and_eq_true, decide_eq_true_eq] at h
  obtain ⟨⟨h1, _⟩, h3⟩ := h
  obtain ⟨h4, h5⟩ := ih m.1 h3
  refine ⟨fun k hk => ?_, fun i j hi hj hij => ?_⟩
  ·cases k with
   | zero => exact h1
   | succ k =>
    have := h4 k (by simpa using hk)
    simp only [List.getElem_cons_succ]
    omega
  ·cases j with
   | zero => omega
   | succ j =>
    cases i with
    | zero => simp only [List.getElem_cons_succ, List.getElem_cons_zero]; exact h4 j (by simpa using hj)
    | succ i => simp only [List.getElem_cons_succ]; exact h5 i j (by simpa using hi) (by simpa using hj) (by omega)
/-- A search that halves: what stands ahead of i is too small, what stands from j on is not. -/
structure Hm (ms : List Mb) (s : Int) (i j : Nat) : Prop where
 le : i ≤ j
 hi : j ≤ ms.length
 lo : ∀ k (h : k < ms.length), k < i → ms[k].1 < s
 up : ∀ k (h : k < ms.length), j ≤ k → s ≤ ms[k].1
theorem Hm.start (ms : List Mb) (s : Int) : Hm ms s 0 ms.length := ⟨Nat.zero_le _, Nat.le_refl _, fun k _ h => by omega, fun k h h2 => by omega⟩
def Srtd (ms : List Mb) : Prop := ∀ i j (hi : i < ms.length) (hj : j < ms.length), i < j → ms[i].1 < ms[j].1
theorem Hm.right {ms : List Mb} {s : Int} {i j k : Nat} (h : Hm ms s i j) (hs : Srtd ms) (hi : i ≤ k) (hk : k < j) (hl : k < ms.length) (hc : ms[k].1 < s) : Hm ms s (k + 1) j :=
 ⟨by omega, h.hi, fun q hq hqk => by
  by_cases e : q = k
  ·subst e; exact hc
  ·have := hs q k hq hl (by omega)
   omega, h.up⟩
theorem Hm.left {ms : List Mb} {s : Int} {i j k : Nat} (h : Hm ms s i j) (hs : Srtd ms) (hi : i ≤ k) (hk : k < j) (hl : k < ms.length) (hc : ¬ ms[k].1 < s) : Hm ms s i k :=
 ⟨by omega, by omega, h.lo, fun q hq hqk => by
  by_cases e : q = k
  ·subst e; omega
  ·have := hs k q hl hq (by omega)
   omega⟩
theorem Hm.found {ms : List Mb} {s : Int} {i : Nat} (h : Hm ms s i i) (hl : i < ms.length) (he : ms[i].1 = s) : mIx ms s = i :=
 mIx_eq hl he (fun j hj hji => by have := h.lo j hj hji; omega)
theorem Hm.missed {ms : List Mb} {s : Int} {i : Nat} (h : Hm ms s i i) (he : ∀ hl : i < ms.length, ms[i].1 ≠ s) (hs : Srtd ms) : mIx ms s = ms.length := by
 refine mIx_none (fun j hj => ?_)
 by_cases h1 : j < i
 ·have := h.lo j hj h1; omega
 ·have h2 := h.up i (by omega) (Nat.le_refl _)
  have h3 := he (by omega)
  by_cases e : j = i
  ·subst e; exact h3
  ·have := hs i j (by omega) hj (by omega)
   omega
theorem docOk_parts {d : Dc} (h : docOk d = true) : d.log.length ≤ 60 ∧ d.mem.length ≤ 8 ∧ Srtd d.mem ∧ leOk d.lea = true ∧ 0 ≤ d.clock ∧ d.clock ≤ 1000 := by
 unfold docOk logOk clkOk leaOk at h
 simp only [Bool.and_eq_true, decide_eq_true_eq] at h
 obtain ⟨⟨h1, _⟩, ⟨h2, h3⟩, h4, h5, _⟩ := h
 exact ⟨h1, memOk_le8 h4, (memOk_sorted _ _ h4).2, h5, h2, h3⟩
theorem memOk_each {t : List UInt8} : ∀ (ms : List Mb) (last : Int), memOk t last ms = true → ∀ m ∈ ms, canT t m.2.2.1 m.2.2.2 = true := by
 intro ms
 induction ms with
 | nil => intro _ _ m hm; cases hm
 | cons x r ih =>
  intro last h m hm
  unfold memOk mbGood at h
  simp only [Bool.and_eq_true] at h
  rcases List.mem_cons.1 hm with rfl | hm
  ·exact h.1.2.2.2
  ·exact ih _ h.2 m hm
end Go.Proofs.YtaekanhjkpoifaaGreatDoor

/-
 Chapter 10: the edits of a log, their puts left where they lie: contracts of the program and of the model. Own work.
-/
namespace Go.Proofs.YtaekanhjkpoifaaGreatDoor
open Go.RowKit P
set_option linter.unusedVariables false
set_option linter.unusedSimpArgs false
set_option maxRecDepth 100000

theorem OwnR.mono {W0 w : World} {base base' : Nat} {v : Value} {l : List Ed} (h : OwnR W0 w base v l) (hb : base' ≤ base) : OwnR W0 w base' v l := by
 obtain ⟨L, e, h1, h2⟩ := h
 refine ⟨L, e, ⟨h1.1, ?_⟩, h2⟩
 rcases h1.2 with h3 | ⟨g, cap, cur, hv, hg, r⟩
 ·exact .inl h3
 ·exact .inr ⟨g, cap, cur, hv, by omega, r⟩
/-- What a list of the edits of a log ends in. -/
def EsOf (lg : List Cm) (w : World) (e : Ending) (w' : World) : Prop := ∃ A c, e = .returned (.slice A lg.length c) ∧ lg.length ≤ c ∧ c ≤ maxLen ∧ Es w' A (logE lg) ∧ Below w.heap.size w w'
theorem logE_take (lg : List Cm) (k : Nat) (hk : k < lg.length) {s a m : Int} {p : List UInt8} (he : lg[k] = (s, a, m, p)) : logE (lg.take (k + 1)) = logE (lg.take k) ++ [(a, m, p)] := by
 unfold logE
 rw [List.take_succ_eq_append_getElem hk, List.map_append, he]
 rfl
theorem EsOf.mk {lg : List Cm} {w w' : World} {v : Value} {base : Nat} (h : OwnR w w' base v (logE lg)) (hb : Below w.heap.size w w') : EsOf lg w (.returned v) w' := by
 obtain ⟨A, c, rfl, h1, h2, h3⟩ := h.es hb
 rw [logE_length] at h1
 exact ⟨A, c, by rw [logE_length], h1, h2, h3, hb⟩

set_option maxHeartbeats 4000000 in
theorem editsOf_any (A : Option Addr) (lg : List Cm) (c : Nat) (w : World) (hl : lg.length ≤ 1000) (hE : Cms w A lg) :
  Calls Tryz.prog 37 #[.slice A lg.length c] w (EsOf lg w) := by
 go_enter Tryz.func37, Tryz.ntmps37
 go_wp2
 go_loopw [3, 8] (fun v i wr => ∃ k : Nat, k ≤ lg.length ∧ i = .int .i64 k ∧ OwnR w wr w.heap.size v (logE (lg.take k)) ∧ Below w.heap.size w wr) (fun _ i _ => lg.length - (intOf i).toNat)
 case atStart => exact ⟨0, Nat.zero_le _, rfl, OwnR.nil _ _ _, Below.refl _ _⟩
 case round =>
  obtain ⟨k, hk, rfl, hown, hb⟩ := hrel
  by_cases hlt : k < lg.length
  ·obtain ⟨b, off, s, a, m, B, p, d, rfl, hbl, hek, k0, k1, k2, k3, hs, ha, hm, hpd, hdm, hBp⟩ := hE.at_ k hlt
   have j0 := (hb.cell (p := ⟨b, off + k * 4, none⟩) hbl).trans k0
   have j1 := (hb.cell (p := ⟨b, off + k * 4 + 1, none⟩) hbl).trans k1
   have j2 := (hb.cell (p := ⟨b, off + k * 4 + 2, none⟩) hbl).trans k2
   have j3 := (hb.cell (p := ⟨b, off + k * 4 + 3, none⟩) hbl).trans k3
   have hnx := logE_take lg k hlt hek
   have HN := Lib.hid hnx
   have hrd : Lay.edit.rd w [.int .i64 a, .int .i64 m, .slice B p.length d] (a, m, p) := rd_edit ha hm hpd hdm hBp
   have HRD := Lib.hid (show ∀ e ∈ [([Value.int .i64 a, .int .i64 m, .slice B p.length d], ((a, m, p) : Ed))], Lay.edit.rd w e.1 e.2 from fun e he => by rw [List.mem_singleton.1 he]; exact hrd)
   have hki : (k : Int) < (lg.length : Int) := by omega
   have hlen : (logE (lg.take k)).length ≤ 1000 := by rw [logE_length, List.length_take]; omega
   obtain ⟨l, hll⟩ : ∃ l, logE (lg.take k) = l := ⟨_, rfl⟩
   rw [hll] at hown hlen HN
   have HO := Lib.hid hown
   have hbs := hb.size
   clear hnx hrd hek hll hown k0 k1 k2 k3 hs ha hm hpd hdm hBp
   go_upto_region 5 with fail
   go_wp2_with (at_builtin; go_must (refine wpList_app_R (W0 := w) rfl _ _ rfl w.heap.size _ l [([Value.int .i64 a, .int .i64 m, .slice B p.length d], ((a, m, p) : Ed))] _ 1 1 rfl rfl rfl (by exact HO.out.below (by (repeat (first | exact Below.refl _ _ | assumption | refine Below.setCell ?_ (by first | (simp; done) | (simp; omega) | omega) _ | refine Below.drew ?_ | refine below_drewN ?_ _ | refine Below.alloc ?_ (by first | (simp; done) | (simp; omega) | omega) _)))) HRD.out (by intro j u hu; have h9 := @cell_new3 (wr.alloc (.cells #[.int .i64 s, .int .i64 a, .int .i64 m, .slice B p.length d] 102)) 71 (.int .i64 a) (.int .i64 m) (.slice B p.length d) j u (by simpa using hu); first | exact h9 | simpa using h9) (by simp; omega) (by simp; omega) ?_))
   intro v4 w4 hown4 hg4 _
   have hb4 : Below w.heap.size w w4 := Below.grown (by (repeat (first | exact Below.refl _ _ | assumption | refine Below.setCell ?_ (by first | (simp; done) | (simp; omega) | omega) _ | refine Below.drew ?_ | refine below_drewN ?_ _ | refine Below.alloc ?_ (by first | (simp; done) | (simp; omega) | omega) _))) hg4 (by simp; omega) (fun x hx => (HO.out.lt x hx).1)
   have HO4 := Lib.hid (show OwnR w w4 w.heap.size v4 (logE (lg.take (k + 1))) by rw [HN.out]; exact hown4)
   clear hown4 hg4 j0 j1 j2 j3
   go_wp2
   go_roundw
   case rel => exact ⟨k + 1, by omega, by go_num, HO4.out, hb4⟩
   case measure => simp [intOf]; omega
  ·have e : k = lg.length := by omega
   subst e
   rw [List.take_length] at hown
   have HE := Lib.hid (EsOf.mk hown hb)
   go_wp2
   go_ret
   exact HE.out

set_option maxHeartbeats 4000000 in
theorem l10Log_any (a : Da) (d : Dc) (w : World) (hl : d.log.length ≤ 1000) (hD : RdD w a d) :
  Calls Tryz.prog 29 #[.agg #[.slice a.s d.start.length a.cs, .slice a.t d.text.length a.ct, .slice a.l d.log.length a.cl, .int .i64 d.clock, .slice a.m d.mem.length a.cm, .slice a.e d.lea.length a.ce]] w (EsOf d.log w) := by
 have hal := ((Below.refl w.heap.size w).alloc (Nat.le_refl _) (.cells #[.slice a.s d.start.length a.cs, .slice a.t d.text.length a.ct, .slice a.l d.log.length a.cl, .int .i64 d.clock, .slice a.m d.mem.length a.cm, .slice a.e d.lea.length a.ce] 36)).alloc (by simp) (.cells #[] 71)
 have BX := Lib.hid ((Blk.new w #[.slice a.s d.start.length a.cs, .slice a.t d.text.length a.ct, .slice a.l d.log.length a.cl, .int .i64 d.clock, .slice a.m d.mem.length a.cm, .slice a.e d.lea.length a.ce] 36).alloc (.cells #[] 71))
 have hsz : (w.alloc (.cells #[.slice a.s d.start.length a.cs, .slice a.t d.text.length a.ct, .slice a.l d.log.length a.cl, .int .i64 d.clock, .slice a.m d.mem.length a.cm, .slice a.e d.lea.length a.ce] 36)).heap.size = w.heap.size + 1 := by simp
 have HO0 : Hid (OwnR w ((w.alloc (.cells #[.slice a.s d.start.length a.cs, .slice a.t d.text.length a.ct, .slice a.l d.log.length a.cl, .int .i64 d.clock, .slice a.m d.mem.length a.cm, .slice a.e d.lea.length a.ce] 36)).alloc (.cells #[] 71)) (w.heap.size + 1) (.slice (some ⟨w.heap.size + 1, 0, none⟩) 0 0) []) := Lib.hid (by have h9 := OwnR.empty w (w.alloc (.cells #[.slice a.s d.start.length a.cs, .slice a.t d.text.length a.ct, .slice a.l d.log.length a.cl, .int .i64 d.clock, .slice a.m d.mem.length a.cm, .slice a.e d.lea.length a.ce] 36)); rw [hsz] at h9; exact h9)
 have HB := Lib.hid hal
 have HL := Lib.hid hD.l
 have hn9 := hD.n9.2.2.1
 clear hal hD hsz
 go_enter Tryz.func29, Tryz.ntmps29
 go_wp2
 go_loopw [3, 4] (fun v i wr => ∃ k : Nat, k ≤ d.log.length ∧ i = .int .i64 k ∧ OwnR w wr (w.heap.size + 1) v (logE (d.log.take k)) ∧ Below w.heap.size w wr ∧ Blk wr w.heap.size #[.slice a.s d.start.length a.cs, .slice a.t d.text.length a.ct, .slice a.l d.log.length a.cl, .int .i64 d.clock, .slice a.m d.mem.length a.cm, .slice a.e d.lea.length a.ce] 36) (fun _ i _ => d.log.length - (intOf i).toNat)
 case atStart => exact ⟨0, Nat.zero_le _, rfl, HO0.out, HB.out, BX.out⟩
 case round =>
  obtain ⟨k, hk, rfl, hown, hb, bx⟩ := hrel
  have p2 := bx.cell 2
  by_cases hlt : k < d.log.length
  ·obtain ⟨b, off, s, x, m, B, p, dd, hA, hbl, hek, k0, k1, k2, k3, hs, ha, hm, hpd, hdm, hBp⟩ := HL.out.at_ k hlt
   clear p2
   have hi0 : (0 : Int) ≤ (k : Int) := by omega
   have p2 : wr.cell? ⟨w.heap.size, 2, none⟩ = some (.slice (some ⟨b, off, none⟩) d.log.length a.cl) := by rw [← hA]; exact bx.cell 2
   have j1 := (hb.cell (p := ⟨b, off + k * 4 + 1, none⟩) hbl).trans k1
   have j2 := (hb.cell (p := ⟨b, off + k * 4 + 2, none⟩) hbl).trans k2
   have j3 := (hb.cell (p := ⟨b, off + k * 4 + 3, none⟩) hbl).trans k3
   have hnx := logE_take d.log k hlt hek
   have HN := Lib.hid hnx
   have hrd : Lay.edit.rd w [.int .i64 x, .int .i64 m, .slice B p.length dd] (x, m, p) := rd_edit ha hm hpd hdm hBp
   have HRD := Lib.hid (show ∀ e ∈ [([Value.int .i64 x, .int .i64 m, .slice B p.length dd], ((x, m, p) : Ed))], Lay.edit.rd w e.1 e.2 from fun e he => by rw [List.mem_singleton.1 he]; exact hrd)
   have hki : (k : Int) < (d.log.length : Int) := by omega
   have hlen : (logE (d.log.take k)).length ≤ 1000 := by rw [logE_length, List.length_take]; omega
   obtain ⟨l, hll⟩ : ∃ l, logE (d.log.take k) = l := ⟨_, rfl⟩
   rw [hll] at hown hlen HN
   have HO := Lib.hid hown
   have BX := Lib.hid bx
   have hbs := hb.size
   have hbl9 := bx.lt
   clear hnx hrd hek hll hown k0 k1 k2 k3 hs ha hm hpd hdm hBp hA bx
   go_upto_region 5 with fail
   go_wp2_with (at_builtin; go_must (refine wpList_app_R (W0 := w) rfl _ _ rfl (w.heap.size + 1) _ l [([Value.int .i64 x, .int .i64 m, .slice B p.length dd], ((x, m, p) : Ed))] _ 1 1 rfl rfl rfl (by exact HO.out.below (by (repeat (first | exact Below.refl _ _ | assumption | refine Below.setCell ?_ (by first | (simp; done) | (simp; omega) | omega) _ | refine Below.drew ?_ | refine below_drewN ?_ _ | refine Below.alloc ?_ (by first | (simp; done) | (simp; omega) | omega) _)))) HRD.out (by intro j u hu; have h9 := @cell_new3 (wr) 71 (.int .i64 x) (.int .i64 m) (.slice B p.length dd) j u (by simpa using hu); first | exact h9 | simpa using h9) (by simp; omega) (by simp; omega) ?_))
   intro v4 w4 hown4 hg4 _
   have hb4 : Below w.heap.size w w4 := Below.grown (by (repeat (first | exact Below.refl _ _ | assumption | refine Below.setCell ?_ (by first | (simp; done) | (simp; omega) | omega) _ | refine Below.drew ?_ | refine below_drewN ?_ _ | refine Below.alloc ?_ (by first | (simp; done) | (simp; omega) | omega) _))) hg4 (by simp; omega) (fun x hx => by have := (HO.out.lt x hx).1; omega)
   have BX4 := Lib.hid ((BX.out.alloc _).of_block (hg4.block _ (by simp; omega) (fun e => by have := (HO.out.lt _ e.symm).1; omega)))
   have HO4 := Lib.hid (show OwnR w w4 (w.heap.size + 1) v4 (logE (d.log.take (k + 1))) by rw [HN.out]; exact hown4)
   clear hown4 hg4 j1 j2 j3 p2
   go_wp2
   go_roundw
   case rel => exact ⟨k + 1, by omega, by go_num, HO4.out, hb4, BX4.out⟩
   case measure => simp [intOf]; omega
  ·have e : k = d.log.length := by omega
   subst e
   rw [List.take_length] at hown
   have HE := Lib.hid (EsOf.mk hown hb)
   go_wp2
   go_ret
   exact HE.out
end Go.Proofs.YtaekanhjkpoifaaGreatDoor

/-
 Chapter 10, the program's closures on commits and on edits, and the searches with them: contracts. Own work.
-/
namespace Go.Proofs.YtaekanhjkpoifaaGreatDoor
open Go.RowKit P
set_option linter.unusedVariables false
set_option linter.unusedSimpArgs false
set_option maxRecDepth 100000

set_option maxHeartbeats 2000000 in
theorem notSession_any (s a m : Int) (P : Option Addr) (n d : Nat) (w : World) :
  Calls Tryz.prog 99 #[.agg #[.int .i64 s, .int .i64 a, .int .i64 m, .slice P n d]] w fun e w' => e = .returned (.bool (!ses s)) ∧ Below w.heap.size w w' := by
 have hal := (Below.refl w.heap.size w).alloc (Nat.le_refl _) (.cells #[.int .i64 s, .int .i64 a, .int .i64 m, .slice P n d] 102)
 obtain ⟨q, hq⟩ : ∃ q, ses s = q := ⟨_, rfl⟩
 have HQ := Lib.hid (show decide (1 ≤ s ∧ s ≤ 8) = q from hq)
 rw [hq]
 clear hq
 go_enter Tryz.func99, Tryz.ntmps99
 go_wp2_with fail
 refine (isSession_any s _).mono ?_
 rintro e w1 ⟨rfl, rfl⟩
 rw [HQ.out]
 go_wp2
 go_ret
 exact ⟨rfl, by first | exact hal | exact Below.refl _ _⟩

set_option maxHeartbeats 4000000 in
theorem badSesIx_any (A : Option Addr) (es : List Cm) (c : Nat)  (p : Cm → Bool) (w : World) (hl : es.length ≤ 1048576) (hA : Cms w A es) (hcall : ∀ (W : World) (s a m : Int) (B : Option Addr) (x : List UInt8) (d : Nat), Below w.heap.size w W → Calls Tryz.prog 99 #[.agg #[.int .i64 s, .int .i64 a, .int .i64 m, .slice B x.length d]] W fun e w' => e = .returned (.bool (p (s, a, m, x))) ∧ Below W.heap.size W w') :
  Calls Tryz.prog 124 #[.slice A es.length c, .func (.func 99) #[] #[]] w fun e w' => (∃ r : Int, e = .returned (.int .i64 r) ∧ decide (0 ≤ r) = es.any p) ∧ Below w.heap.size w w' := by
 have hn9 : es.length ≤ 9223372036854775807 := by omega
 go_enter Tryz.func124, Tryz.ntmps124
 go_wp2
 go_loopw [8] (fun i wr => ∃ k : Nat, k ≤ es.length ∧ i = .int .i64 k ∧ Hid ((es.take k).any p = false) ∧ Below w.heap.size w wr)
  (fun i _ => es.length - (intOf i).toNat)
 case atStart => exact ⟨0, Nat.zero_le _, rfl, Lib.hid (by simp), Below.refl _ _⟩
 case round =>
  obtain ⟨k, hk, rfl, HALL, hb⟩ := hrel
  by_cases hlt : k < es.length
  ·have hki : (k : Int) < (es.length : Int) := by omega
   obtain ⟨b, off, s, a, m, B, x, d, rfl, hbl, hek, k0, k1, k2, k3, hs, ha, hm, hpd, hdm, hBp⟩ := (hA.below hb).at_ k hlt
   have hc := Lib.hid (hcall wr s a m B x d hb)
   have hnx : (es.take (k + 1)).any p = ((es.take k).any p || p (s, a, m, x)) := by
    rw [List.take_succ_eq_append_getElem hlt, List.any_append, hek]; simp
   have hal : p (s, a, m, x) = true → es.any p = true := fun h => List.any_eq_true.2 ⟨_, List.getElem_mem hlt, by rw [hek]; exact h⟩
   have HNX := Lib.hid hnx
   have HAL := Lib.hid hal
   obtain ⟨q, hq⟩ : ∃ q, p (s, a, m, x) = q := ⟨_, rfl⟩
   have HQ := Lib.hid hq
   clear hnx hal hek hq hs ha hm hpd hdm hBp
   go_wp2_with fail
   refine hc.out.mono ?_
   rintro e w1 ⟨rfl, hb1⟩
   rw [HQ.out]
   have hb9 := below_then hb hb1
   clear k0 k1 k2 k3
   cases q
   ·have HN := Lib.hid (show (es.take (k + 1)).any p = false by rw [HNX.out, HALL.out, HQ.out]; rfl)
    go_wp2
    go_roundw
    case rel => exact ⟨k + 1, by omega, by go_num, HN, hb9⟩
    case measure => simp [intOf]; omega
   ·have HN := Lib.hid (HAL.out HQ.out)
    go_wp2
    go_ret
    exact ⟨⟨_, rfl, by rw [HN.out]; exact decide_eq_true (by omega)⟩, hb9⟩
  ·have e : k = es.length := by omega
   have HN := Lib.hid (show es.any p = false by have h9 := HALL.out; rw [e, List.take_length] at h9; exact h9)
   clear e
   go_wp2
   go_ret
   exact ⟨⟨_, rfl, by rw [HN.out]; rfl⟩, hb⟩

set_option maxHeartbeats 4000000 in
theorem badSes_any (A : Option Addr) (es : List Cm) (c : Nat)  (p : Cm → Bool) (w : World) (hl : es.length ≤ 1048576) (hA : Cms w A es) (hcall : ∀ (W : World) (s a m : Int) (B : Option Addr) (x : List UInt8) (d : Nat), Below w.heap.size w W → Calls Tryz.prog 99 #[.agg #[.int .i64 s, .int .i64 a, .int .i64 m, .slice B x.length d]] W fun e w' => e = .returned (.bool (p (s, a, m, x))) ∧ Below W.heap.size W w') :
  Calls Tryz.prog 98 #[.slice A es.length c, .func (.func 99) #[] #[]] w fun e w' => e = .returned (.bool (es.any p)) ∧ Below w.heap.size w w' := by
 have hix := Lib.hid (badSesIx_any A es c  p w hl hA hcall)
 clear hcall hA
 go_enter Tryz.func98, Tryz.ntmps98
 go_wp2_with fail
 refine hix.out.mono ?_
 rintro e w1 ⟨⟨r, rfl, hr⟩, hb1⟩
 have HR := Lib.hid hr
 clear hr
 go_wp2
 go_ret
 exact ⟨ret_bool (by first | exact HR.out | simpa using HR.out), hb1⟩

set_option maxHeartbeats 2000000 in
theorem notFits_any (a m : Int) (P : Option Addr) (p : List UInt8) (d g : Nat) (A : Option Addr) (l : List UInt8) (c : Nat) (w : World) (hl : l.length ≤ 400) (hpd : p.length ≤ d) (hd9 : d ≤ 9223372036854775807) (hm9 : m ≤ 9223372036854775807) (hT : Tab w) (hA : Bs w A l) (hP : Bs w P p) (hB : Blk w g #[.slice A l.length c] 22) :
  Calls Tryz.prog 131 #[.agg #[.int .i64 a, .int .i64 m, .slice P p.length d], .pointer (some ⟨g, 0, none⟩)] w fun e w' => e = .returned (.bool (!fitE l (a, m, p))) ∧ Below w.heap.size w w' := by
 obtain ⟨q, hq⟩ : ∃ q, fitE l (a, m, p) = q := ⟨_, rfl⟩
 have HQ := Lib.hid (show edFits l a m p = q from hq)
 rw [hq]
 clear hq
 have hal := (Below.refl w.heap.size w).alloc (Nat.le_refl _) (.cells #[.int .i64 a, .int .i64 m, .slice P p.length d] 71)
 have p0 := (hB.alloc (.cells #[.int .i64 a, .int .i64 m, .slice P p.length d] 71)).cell 0
 have HT := Lib.hid (hT.below hal)
 have HA := Lib.hid (hA.below hal)
 have HP := Lib.hid (hP.below hal)
 clear hT hA hP hB
 go_enter Tryz.func131, Tryz.ntmps131
 go_wp2_with fail
 refine (fits_any a m P p d A l c _ hl hpd hd9 hm9 (by exact HT.out) (by exact HA.out) (by exact HP.out)).mono ?_
 rintro e w1 ⟨rfl, hb⟩
 rw [HQ.out]
 have hb := below_then hal hb
 go_wp2
 go_ret
 exact ⟨rfl, hb⟩

set_option maxHeartbeats 4000000 in
theorem badFitIx_any (A : Option Addr) (es : List Ed) (c : Nat) (g : Nat) (p : Ed → Bool) (w : World) (hl : es.length ≤ 1048576) (hA : Es w A es) (hcall : ∀ (W : World) (a m : Int) (B : Option Addr) (x : List UInt8) (d : Nat), m ≤ 9223372036854775807 → x.length ≤ d → d ≤ 9223372036854775807 → Bs W B x → Below w.heap.size w W → Calls Tryz.prog 131 #[.agg #[.int .i64 a, .int .i64 m, .slice B x.length d], .pointer (some ⟨g, 0, none⟩)] W fun e w' => e = .returned (.bool (p (a, m, x))) ∧ Below W.heap.size W w') :
  Calls Tryz.prog 151 #[.slice A es.length c, .func (.func 131) #[] #[.pointer (some ⟨g, 0, none⟩)]] w fun e w' => (∃ r : Int, e = .returned (.int .i64 r) ∧ decide (0 ≤ r) = es.any p) ∧ Below w.heap.size w w' := by
 have hn9 : es.length ≤ 9223372036854775807 := by omega
 go_enter Tryz.func151, Tryz.ntmps151
 go_wp2
 go_loopw [8] (fun i wr => ∃ k : Nat, k ≤ es.length ∧ i = .int .i64 k ∧ Hid ((es.take k).any p = false) ∧ Below w.heap.size w wr)
  (fun i _ => es.length - (intOf i).toNat)
 case atStart => exact ⟨0, Nat.zero_le _, rfl, Lib.hid (by simp), Below.refl _ _⟩
 case round =>
  obtain ⟨k, hk, rfl, HALL, hb⟩ := hrel
  by_cases hlt : k < es.length
  ·have hki : (k : Int) < (es.length : Int) := by omega
   obtain ⟨b, off, a, m, B, x, d, rfl, hbl, hek, k0, k1, k2, ha, hm, hpd, hdm, hBp⟩ := (hA.below hb).at_ k hlt
   have hc := Lib.hid (hcall wr a m B x d hm.2 hpd (by unfold maxLen at hdm; omega) hBp hb)
   have hnx : (es.take (k + 1)).any p = ((es.take k).any p || p (a, m, x)) := by
    rw [List.take_succ_eq_append_getElem hlt, List.any_append, hek]; simp
   have hal : p (a, m, x) = true → es.any p = true := fun h => List.any_eq_true.2 ⟨_, List.getElem_mem hlt, by rw [hek]; exact h⟩
   have HNX := Lib.hid hnx
   have HAL := Lib.hid hal
   obtain ⟨q, hq⟩ : ∃ q, p (a, m, x) = q := ⟨_, rfl⟩
   have HQ := Lib.hid hq
   clear hnx hal hek hq ha hm hpd hdm hBp
   go_wp2_with fail
   refine hc.out.mono ?_
   rintro e w1 ⟨rfl, hb1⟩
   rw [HQ.out]
   have hb9 := below_then hb hb1
   clear k0 k1 k2
   cases q
   ·have HN := Lib.hid (show (es.take (k + 1)).any p = false by rw [HNX.out, HALL.out, HQ.out]; rfl)
    go_wp2
    go_roundw
    case rel => exact ⟨k + 1, by omega, by go_num, HN, hb9⟩
    case measure => simp [intOf]; omega
   ·have HN := Lib.hid (HAL.out HQ.out)
    go_wp2
    go_ret
    exact ⟨⟨_, rfl, by rw [HN.out]; exact decide_eq_true (by omega)⟩, hb9⟩
  ·have e : k = es.length := by omega
   have HN := Lib.hid (show es.any p = false by have h9 := HALL.out; rw [e, List.take_length] at h9; exact h9)
   clear e
   go_wp2
   go_ret
   exact ⟨⟨_, rfl, by rw [HN.out]; rfl⟩, hb⟩

set_option maxHeartbeats 4000000 in
theorem badFit_any (A : Option Addr) (es : List Ed) (c : Nat) (g : Nat) (p : Ed → Bool) (w : World) (hl : es.length ≤ 1048576) (hA : Es w A es) (hcall : ∀ (W : World) (a m : Int) (B : Option Addr) (x : List UInt8) (d : Nat), m ≤ 9223372036854775807 → x.length ≤ d → d ≤ 9223372036854775807 → Bs W B x → Below w.heap.size w W → Calls Tryz.prog 131 #[.agg #[.int .i64 a, .int .i64 m, .slice B x.length d], .pointer (some ⟨g, 0, none⟩)] W fun e w' => e = .returned (.bool (p (a, m, x))) ∧ Below W.heap.size W w') :
  Calls Tryz.prog 130 #[.slice A es.length c, .func (.func 131) #[] #[.pointer (some ⟨g, 0, none⟩)]] w fun e w' => e = .returned (.bool (es.any p)) ∧ Below w.heap.size w w' := by
 have hix := Lib.hid (badFitIx_any A es c g p w hl hA hcall)
 clear hcall hA
 go_enter Tryz.func130, Tryz.ntmps130
 go_wp2_with fail
 refine hix.out.mono ?_
 rintro e w1 ⟨⟨r, rfl, hr⟩, hb1⟩
 have HR := Lib.hid hr
 clear hr
 go_wp2
 go_ret
 exact ⟨ret_bool (by first | exact HR.out | simpa using HR.out), hb1⟩
end Go.Proofs.YtaekanhjkpoifaaGreatDoor

/-
 Chapter 10, the model's small functions: a session's number, an edit that fits: contracts. Own work.
-/
namespace Go.Proofs.YtaekanhjkpoifaaGreatDoor
open Go.RowKit P
set_option linter.unusedVariables false
set_option linter.unusedSimpArgs false
set_option maxRecDepth 100000

theorem l10Session_any (n : Int) (w : World) : Calls Tryz.prog 81 #[.int .i64 n] w fun e w' => e = .returned (.bool (ses n)) ∧ Below w.heap.size w w' := by
 have hs : ses n = decide (1 ≤ n ∧ n ≤ 8) := rfl
 rw [hs]
 clear hs
 by_cases h0 : 1 ≤ n
 ·by_cases h1 : n ≤ 8
  ·rw [decide_eq_true ⟨h0, h1⟩]
   have e1 : decide (n ≥ 1) = true := decide_eq_true h0
   have e2 : decide (n ≤ 8) = true := decide_eq_true h1
   go_enter Tryz.func81, Tryz.ntmps81
   go_wp2
   go_ret
   exact ⟨rfl, by (repeat (first | exact Below.refl _ _ | assumption | refine Below.setCell ?_ (by first | (simp; done) | (simp; omega) | omega) _ | refine Below.drew ?_ | refine below_drewN ?_ _ | refine Below.alloc ?_ (by first | (simp; done) | (simp; omega) | omega) _))⟩
  ·rw [decide_eq_false (fun h => h1 h.2)]
   have e1 : decide (n ≥ 1) = true := decide_eq_true h0
   have e2 : decide (n ≤ 8) = false := decide_eq_false h1
   go_enter Tryz.func81, Tryz.ntmps81
   go_wp2
   go_ret
   exact ⟨rfl, by (repeat (first | exact Below.refl _ _ | assumption | refine Below.setCell ?_ (by first | (simp; done) | (simp; omega) | omega) _ | refine Below.drew ?_ | refine below_drewN ?_ _ | refine Below.alloc ?_ (by first | (simp; done) | (simp; omega) | omega) _))⟩
 ·rw [decide_eq_false (fun h => h0 h.1)]
  have e1 : decide (n ≥ 1) = false := decide_eq_false (by omega)
  go_enter Tryz.func81, Tryz.ntmps81
  go_wp2
  go_ret
  exact ⟨rfl, by (repeat (first | exact Below.refl _ _ | assumption | refine Below.setCell ?_ (by first | (simp; done) | (simp; omega) | omega) _ | refine Below.drew ?_ | refine below_drewN ?_ _ | refine Below.alloc ?_ (by first | (simp; done) | (simp; omega) | omega) _))⟩

set_option maxHeartbeats 4000000 in
theorem l10Fits_any (A : Option Addr) (l : List UInt8) (c : Nat) (a m : Int) (P : Option Addr) (p : List UInt8) (d : Nat) (w : World) (hl : l.length ≤ c) (hc9 : c ≤ 9223372036854775807) (hpd : p.length ≤ d) (hd9 : d ≤ 9223372036854775807) (ht : isText l = true) (hA : Bs w A l) (hP : Bs w P p) :
  Calls Tryz.prog 115 #[.slice A l.length c, .agg #[.int .i64 a, .int .i64 m, .slice P p.length d]] w fun e w' => e = .returned (.bool (fitE l (a, m, p))) ∧ Below w.heap.size w w' := by
 have hal := (Below.refl w.heap.size w).alloc (Nat.le_refl _) (.cells #[.int .i64 a, .int .i64 m, .slice P p.length d] 71)
 have bE := EBox.new w a m P p.length d
 have hl4 : l.length ≤ 400 := isText_len ht
 obtain ⟨R, hR⟩ : ∃ R, fitE l (a, m, p) = R := ⟨_, rfl⟩
 rw [hR]
 have hR2 : R = (cutOk l a && (decide (0 ≤ m) && (decide (m ≤ (l.length : Int) - a) && (cutOk l (a + m) && isText p)))) := by rw [← hR]; exact edFits_spec ht a m p
 obtain ⟨q1, h1⟩ : ∃ q, cutOk l a = q := ⟨_, rfl⟩
 obtain ⟨q2, h2⟩ : ∃ q, cutOk l (a + m) = q := ⟨_, rfl⟩
 obtain ⟨q3, h3⟩ : ∃ q, isText p = q := ⟨_, rfl⟩
 have hrg : q1 = true → 0 ≤ a ∧ a ≤ (l.length : Int) := fun h => by
  rw [← h1] at h
  unfold cutOk at h
  rw [Bool.and_eq_true] at h
  exact isBound_range h.2
 rw [h1, h2, h3] at hR2
 have HR := Lib.hid hR2
 have H1 := Lib.hid h1
 have H2 := Lib.hid h2
 have H3 := Lib.hid h3
 have HRG := Lib.hid hrg
 clear h1 h2 h3 hrg hR hR2
 go_enter Tryz.func115, Tryz.ntmps115
 go_wp2_with fail
 generalize w.alloc (.cells #[.int .i64 a, .int .i64 m, .slice P p.length d] 71) = W1 at *
 refine (specCutOk_any A l c a _ hl hc9 (by exact hA.below hal)).mono ?_
 rintro e w2 ⟨rfl, hb⟩
 rw [H1.out]
 have bE := bE.below hb
 have hal := below_then hal hb
 clear hb
 have k0 := bE.c0
 have k1 := bE.c1
 have k2 := bE.c2
 cases q1
 ·have e : R = false := by rw [HR.out]; rfl
  subst e
  go_wp2
  go_ret
  exact ⟨rfl, hal⟩
 obtain ⟨ha0, ha1⟩ := HRG.out rfl
 by_cases hm0 : 0 ≤ m
 ·have e1 : decide (m ≥ 0) = true := decide_eq_true hm0
  by_cases hm1 : m ≤ (l.length : Int) - a
  ·have e2 : decide (m ≤ (l.length : Int) - a) = true := decide_eq_true hm1
   have e3 : decide (0 ≤ m) = true := decide_eq_true hm0
   have hw1 : IntKind.i64.wrap ((l.length : Int) - a) = (l.length : Int) - a := IntWalk.i64_in _ ⟨by omega, by omega⟩
   have hw2 : IntKind.i64.wrap (a + m) = a + m := IntWalk.i64_in _ ⟨by omega, by omega⟩
   have HR := Lib.hid (show R = (q2 && q3) by rw [HR.out, e2, e3]; rfl)
   clear e3
   go_wp2_with fail
   refine (specCutOk_any A l c (a + m) _ hl hc9 (by exact hA.below hal)).mono ?_
   rintro e w3 ⟨rfl, hb⟩
   rw [H2.out]
   have bE := bE.below hb
   have hal := below_then hal hb
   clear hb k0 k1 k2
   have k2 := bE.c2
   cases q2
   ·have e : R = false := by rw [HR.out]; rfl
    subst e
    go_wp2
    go_ret
    exact ⟨rfl, hal⟩
   have e : R = q3 := by rw [HR.out]; rfl
   subst e
   go_wp2_with fail
   refine (specTextOk_any P p d _ hpd hd9 (by exact hP.below hal)).mono ?_
   rintro e w4 ⟨rfl, hb⟩
   rw [H3.out]
   have hal := below_then hal hb
   go_wp2
   go_ret
   exact ⟨rfl, hal⟩
  ·have e2 : decide (m ≤ (l.length : Int) - a) = false := decide_eq_false hm1
   have e3 : decide (0 ≤ m) = true := decide_eq_true hm0
   have hw1 : IntKind.i64.wrap ((l.length : Int) - a) = (l.length : Int) - a := IntWalk.i64_in _ ⟨by omega, by omega⟩
   have e : R = false := by rw [HR.out, e2, e3]; rfl
   subst e
   clear e3
   go_wp2
   go_ret
   exact ⟨rfl, hal⟩
 ·have e1 : decide (m ≥ 0) = false := decide_eq_false (by omega)
  have e3 : decide (0 ≤ m) = false := decide_eq_false (by omega)
  have e : R = false := by rw [HR.out, e3]; rfl
  subst e
  clear e3
  go_wp2
  go_ret
  exact ⟨rfl, hal⟩

set_option maxHeartbeats 4000000 in
theorem l10FitAll_any (A : Option Addr) (l : List UInt8) (c : Nat) (B : Option Addr) (es : List Ed) (d : Nat) (w : World) (hl : l.length ≤ c) (hc9 : c ≤ 9223372036854775807) (hn9 : es.length ≤ 9223372036854775807) (ht : isText l = true) (hA : Bs w A l) (hE : Es w B es) :
  Calls Tryz.prog 84 #[.slice A l.length c, .slice B es.length d] w fun e w' => e = .returned (.bool (es.all (fitE l))) ∧ Below w.heap.size w w' := by
 obtain ⟨z, hz⟩ : ∃ z, es.all (fitE l) = z := ⟨_, rfl⟩
 rw [hz]
 have F0 : ∀ k (h : k < es.length), fitE l es[k] = false → z = false := fun k h h2 => by
  rw [← hz, List.all_eq_false]
  exact ⟨_, List.getElem_mem h, by rw [h2]; simp⟩
 have F1 : (∀ k (h : k < es.length), fitE l es[k] = true) → z = true := fun h => by
  rw [← hz, List.all_eq_true]
  intro x hx
  obtain ⟨k, hk, rfl⟩ := List.getElem_of_mem hx
  exact h k hk
 have G0 := Lib.hid F0
 have G1 := Lib.hid F1
 clear F0 F1 hz
 go_enter Tryz.func84, Tryz.ntmps84
 go_wp2
 go_loopw [5] (fun i wr => ∃ k : Nat, k ≤ es.length ∧ i = .int .i64 k ∧ (∀ j (h : j < es.length), j < k → fitE l es[j] = true) ∧ Below w.heap.size w wr) (fun i _ => es.length - (intOf i).toNat)
 case atStart => exact ⟨0, Nat.zero_le _, rfl, fun j _ h => absurd h (Nat.not_lt_zero _), Below.refl _ _⟩
 case round =>
  obtain ⟨k, hk, rfl, hgood, hb⟩ := hrel
  have HG := Lib.hid hgood
  clear hgood
  by_cases hlt : k < es.length
  ·obtain ⟨b, off, a, m, P, p, d', rfl, hbl, hek, k0, k1, k2, ha, hm, hpd, hdm, hBp⟩ := (hE.below hb).at_ k hlt
   obtain ⟨q, hq⟩ : ∃ q, fitE l (a, m, p) = q := ⟨_, rfl⟩
   have HQ := Lib.hid hq
   have HQ2 := Lib.hid (show fitE l es[k] = q by rw [hek]; exact hq)
   have hd9 : d' ≤ 9223372036854775807 := by unfold maxLen at hdm; omega
   have hki : (k : Int) < (es.length : Int) := by omega
   clear hq hek ha hm
   go_wp2_with fail
   refine (l10Fits_any A l c a m P p d' _ hl hc9 hpd hd9 ht (by exact hA.below hb) (by exact hBp)).mono ?_
   rintro e w1 ⟨rfl, hb1⟩
   rw [HQ.out]
   have hb2 := below_then hb hb1
   clear k0 k1 k2 hb1
   cases q
   ·have e1 := G0.out k hlt HQ2.out
    go_wp2
    go_ret
    exact ⟨ret_bool e1.symm, hb2⟩
   ·go_wp2
    go_roundw
    case rel =>
     refine ⟨k + 1, by omega, by go_num, fun j h hj => ?_, hb2⟩
     by_cases e : j = k
     ·subst e; exact HQ2.out
     ·exact HG.out j h (by omega)
    case measure => simp [intOf]; omega
  ·have e1 := G1.out (fun j h => HG.out j h (by omega))
   go_wp2
   go_ret
   exact ⟨ret_bool e1.symm, hb⟩
end Go.Proofs.YtaekanhjkpoifaaGreatDoor
