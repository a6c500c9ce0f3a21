/-
  Chapter 1 in plain Lean: encodings of code points and texts as lists of bytes. No program here. Own work.
-/
import Derived.PlainAid
namespace Go.Proofs.YtpipkmnmdipeeaaDoor.P

/-- The length of the encoding of r, 0 where r is no code point. -/
def codeSz (r : Int) : Nat :=
  if r < 0 ∨ 1114111 < r ∨ (55296 ≤ r ∧ r ≤ 57343) then 0 else if r < 128 then 1 else if r < 2048 then 2 else if r < 65536 then 3 else 4

theorem codeSz_le (r : Int) : codeSz r ≤ 4 := by unfold codeSz; split <;> (try split) <;> (try split) <;> (try split) <;> omega

/-- The length of the encodings that start with the byte b. -/
def formSz (b : Nat) : Nat := if b < 128 then 1 else if b < 192 then 0 else if b < 224 then 2 else if b < 240 then 3 else if b < 248 then 4 else 0

def isCont (b : Nat) : Bool := decide (128 ≤ b ∧ b < 192)

/-- For a text: is the offset the first byte of a code point, or the end? -/
def isBound (l : List UInt8) (at_ : Int) : Bool :=
  decide (0 ≤ at_ ∧ at_ ≤ l.length) && (decide (at_ = l.length) || !isCont (l.getD at_.toNat 0).toNat)

theorem isBound_out (l : List UInt8) (at_ : Int) (h : at_ < 0 ∨ (l.length : Int) < at_) : isBound l at_ = false := by
  unfold isBound; rw [decide_eq_false (by omega)]; rfl
theorem isBound_end (l : List UInt8) : isBound l l.length = true := by
  unfold isBound; rw [decide_eq_true (by omega), decide_eq_true rfl]; rfl
theorem isBound_lt (l : List UInt8) (k : Nat) (h : k < l.length) : isBound l k = !isCont (l[k]).toNat := by
  unfold isBound; rw [decide_eq_true (by omega), decide_eq_false (by omega)]; simp [h]

/-- One byte more of an encoding. -/
def addC (r : Int) (b : Nat) : Int := if r < 0 ∨ isCont b = false then -1 else r * 64 + ((b % 64 : Nat) : Int)

theorem addC_bd (r : Int) (b : Nat) (m : Int) (h0 : 0 ≤ m) (h : r ≤ m) : addC r b ≤ 64 * m + 63 := by
  unfold addC; split <;> omega

end Go.Proofs.YtpipkmnmdipeeaaDoor.P
