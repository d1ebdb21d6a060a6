/- Layer 1 (scan), plain: remarks; the value of digits; the tokens of a text, token by token. -/
import Derived.Test.YtanbkgifjlobgaaDoorToksMath
import Derived.Test.YtanbkgifjlobgaaDoorWhereMath
namespace Go.Proofs.YtanbkgifjlobgaaDoor
open Go.RowKit Go.Lib

/-- A remark: how many bytes; the first that are no UTF-8, or -1. -/
def remGo (s : ByteArray) : Nat → Nat → Nat × Int
  | 0, pos => (pos, -1)
  | f + 1, pos => if pos < s.size ∧ byteAt s pos ≠ 10 then (if (Utf8.decode s pos).1 = 65533 ∧ (Utf8.decode s pos).2 = 1 then (0, (pos : Int)) else remGo s f (pos + (Utf8.decode s pos).2)) else (pos, -1)
def remOf (s : ByteArray) : Nat × Int := remGo s s.size 0

theorem remGo_end (s : ByteArray) (f pos : Nat) (h : ¬ (pos < s.size ∧ byteAt s pos ≠ 10)) : remGo s f pos = (pos, -1) := by
  cases f with
  | zero => rfl
  | succ f => unfold remGo; rw [if_neg h]
theorem remGo_bad (s : ByteArray) (f pos : Nat) (h : pos < s.size ∧ byteAt s pos ≠ 10) (hb : (Utf8.decode s pos).1 = 65533 ∧ (Utf8.decode s pos).2 = 1) : remGo s (f + 1) pos = (0, (pos : Int)) := by
  unfold remGo; rw [if_pos h, if_pos hb]
theorem remGo_more (s : ByteArray) (f pos : Nat) (h : pos < s.size ∧ byteAt s pos ≠ 10) (hb : ¬ ((Utf8.decode s pos).1 = 65533 ∧ (Utf8.decode s pos).2 = 1)) : remGo s (f + 1) pos = remGo s f (pos + (Utf8.decode s pos).2) := by
  conv => lhs; unfold remGo
  rw [if_pos h, if_neg hb]

/-- The value of a text of digits, no higher than it takes. -/
def valGo (s : ByteArray) : Nat → Nat → Nat → Nat
  | 0, _, v => v
  | f + 1, pos, v => if pos < s.size then valGo s f (pos + 1) (addDigit v (byteAt s pos)) else v
def refVal (s : ByteArray) : Nat := valGo s s.size 0 0
theorem valGo_end (s : ByteArray) (f pos v : Nat) (h : ¬ pos < s.size) : valGo s f pos v = v := by
  cases f <;> simp [valGo, h]
theorem valGo_more (s : ByteArray) (f pos v : Nat) (h : pos < s.size) : valGo s (f + 1) pos v = valGo s f (pos + 1) (addDigit v (byteAt s pos)) := by
  conv => lhs; unfold valGo
  rw [if_pos h]
def markR (r : Int) : Bool := r == 123 || r == 125 || r == 40 || r == 41 || r == 58 || r == 59 || r == 43 || r == 42 || r == 60 || r == 61 || r == 45
end Go.Proofs.YtanbkgifjlobgaaDoor
