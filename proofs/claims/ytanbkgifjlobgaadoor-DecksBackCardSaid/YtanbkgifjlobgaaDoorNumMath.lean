/- Layer 1 (scan), plain: numbers at the beginning of a text; which token stands there. -/
import Derived.Test.YtanbkgifjlobgaaDoorScanMath
import Derived.Lib.RuneCountTail
import Derived.Lib.IndexBytes
namespace Go.Proofs.YtanbkgifjlobgaaDoor
open Go.RowKit Go.Lib

/-- The byte at a place, as a number. -/
def byteAt (s : ByteArray) (i : Nat) : Nat := (s.get! i).toNat

theorem byteAt_lt (s : ByteArray) (i : Nat) : byteAt s i < 256 := (s.get! i).toNat_lt
theorem byteAt_get (s : ByteArray) (i : Nat) (h : i < s.size) : byteAt s i = (s[i]'h).toNat := by
  unfold byteAt
  simp [ByteArray.get!, getElem!_pos, h]
  rfl

theorem decode_low (s : ByteArray) (pos : Nat) (h : pos < s.size) (hb : byteAt s pos < 128) : Utf8.decode s pos = (byteAt s pos, 1) := by
  rw [byteAt_get s pos h] at hb ⊢
  exact decode_ascii s pos h hb
theorem decode_wide (s : ByteArray) (pos : Nat) (h : pos < s.size) (hb : 128 ≤ byteAt s pos) : 128 ≤ (Utf8.decode s pos).1 := by
  rw [byteAt_get s pos h] at hb
  exact (decode_high s pos h hb).1
/-- Where the decoder tells a rune below 128 it is the byte. -/
theorem decode_byte (s : ByteArray) (pos : Nat) (h : pos < s.size) (hr : (Utf8.decode s pos).1 < 128) : Utf8.decode s pos = (byteAt s pos, 1) := by
  by_cases hb : byteAt s pos < 128
  · exact decode_low s pos h hb
  · have := decode_wide s pos h (by omega)
    omega
theorem digB_iff (r : Int) : digB r = true ↔ 48 ≤ r ∧ r ≤ 57 := by simp [digB]
theorem digB_decode (s : ByteArray) (pos : Nat) (h : pos < s.size) : digB (Utf8.decode s pos).1 = digB (byteAt s pos) := by
  by_cases hb : byteAt s pos < 128
  · rw [decode_low s pos h hb]
  · have := decode_wide s pos h (by omega)
    rw [Bool.eq_iff_iff, digB_iff, digB_iff]
    omega

/-- The value of so many digits more, no higher than it takes. -/
def addDigit (v b : Nat) : Nat := min (10 * v + (b - 48)) 100000

def numGo (s : ByteArray) : Nat → Nat → Nat → Nat × Nat
  | 0, pos, v => (pos, v)
  | f + 1, pos, v => if pos < s.size then if digB (byteAt s pos) then numGo s f (pos + 1) (addDigit v (byteAt s pos)) else (pos, v) else (pos, v)
def numOf (s : ByteArray) : Nat × Nat := numGo s s.size 0 0

theorem numGo_end (s : ByteArray) (f pos v : Nat) (h : ¬ pos < s.size) : numGo s f pos v = (pos, v) := by
  cases f <;> simp [numGo, h]
theorem numGo_stop (s : ByteArray) (f pos v : Nat) (h : digB (byteAt s pos) = false) : numGo s f pos v = (pos, v) := by
  cases f <;> simp [numGo, h]
theorem numGo_more (s : ByteArray) (f pos v : Nat) (hp : pos < s.size) (h : digB (byteAt s pos) = true) : numGo s (f + 1) pos v = numGo s f (pos + 1) (addDigit v (byteAt s pos)) := by
  conv => lhs; unfold numGo
  rw [if_pos hp, h, if_pos rfl]
theorem addDigit_le (v b : Nat) : addDigit v b ≤ 100000 := by unfold addDigit; omega
theorem numGo_le (s : ByteArray) : ∀ f pos v, pos ≤ s.size → v ≤ 100000 → (numGo s f pos v).1 ≤ s.size ∧ (numGo s f pos v).2 ≤ 100000
  | 0, pos, v, h1, h2 => ⟨h1, h2⟩
  | f + 1, pos, v, h1, h2 => by
    unfold numGo
    split
    · split
      · exact numGo_le s f _ _ (by omega) (addDigit_le _ _)
      · exact ⟨h1, h2⟩
    · exact ⟨h1, h2⟩
theorem numOf_le (s : ByteArray) : (numOf s).1 ≤ s.size ∧ (numOf s).2 ≤ 100000 := numGo_le s _ _ _ (by omega) (by omega)

/-- The rune right behind. -/
def behindR (s : ByteArray) (n : Nat) : Nat := (decodeGo (s.extract n s.size)).1
theorem behindR_le (s : ByteArray) (n : Nat) : behindR s n ≤ 2147483647 := by
  unfold behindR decodeGo
  split
  · simp
  · exact decode_le _ _

/-- Which error a number of so many digits, of this value, is. -/
def numFault (s : ByteArray) (n v : Nat) : Nat :=
  if 99999 < v then 3 else if byteAt s 0 = 48 ∧ 1 < n then 5 else if letB (behindR s n) then 5 else 0

def marksL : List UInt8 := [123, 125, 40, 41, 58, 59, 43, 42, 60, 61, 45]
def markB (b : Nat) : Bool := marksL.contains b.toUInt8

/-- The token at the beginning: its kind, its size; or its error. -/
def tokOf (s : ByteArray) : Nat × Nat × Nat :=
  if 0 < (wordOf s).1 then (if 24 < (wordOf s).2 then (0, 0, 3) else (1, (wordOf s).1, 0))
  else if 0 < (numOf s).1 then (if numFault s (numOf s).1 (numOf s).2 = 0 then (2, (numOf s).1, 0) else (0, 0, numFault s (numOf s).1 (numOf s).2))
  else if markB (byteAt s 0) then (3, 1, 0) else (0, 0, 4)
end Go.Proofs.YtanbkgifjlobgaaDoor
