/- Layer 1 (scan), plain: words and numbers at the beginning of a text, by the decoder of the model. -/
import Derived.Test.YtanbkgifjlobgaaDoorTabs
import Derived.Test.YtanbkgifjlobgaaDoorBase
namespace Go.Proofs.YtanbkgifjlobgaaDoor
open Go.RowKit Go.Lib

theorem width_pos (s : ByteArray) (pos : Nat) (h : pos < s.size) : 1 ≤ (Utf8.decode s pos).2 := by
  by_cases ha : (s[pos]'h).toNat < 128
  · rw [decode_ascii s pos h ha]
    exact Nat.le_refl _
  · exact (decode_high s pos h (by omega)).2

theorem decode_fits (s : ByteArray) (pos : Nat) (h : pos < s.size) : pos + (Utf8.decode s pos).2 ≤ s.size := by
  rw [decode_at]
  unfold decodeN
  repeat' split
  all_goals simp_all
  all_goals omega

theorem decode_len (s : ByteArray) (pos : Nat) (h : (Utf8.decode s pos).1 ≠ 65533) : Lib.runeLen ((Utf8.decode s pos).1 : Int) = ((Utf8.decode s pos).2 : Int) := by
  have h0 := (s.get! pos).toNat_lt
  have h1 := (s.get! (pos + 1)).toNat_lt
  have h2 := (s.get! (pos + 2)).toNat_lt
  have h3 := (s.get! (pos + 3)).toNat_lt
  rw [decode_at] at h ⊢
  revert h
  generalize (s.get! pos).toNat = b0 at *
  generalize (s.get! (pos + 1)).toNat = b1 at *
  generalize (s.get! (pos + 2)).toNat = b2 at *
  generalize (s.get! (pos + 3)).toNat = b3 at *
  unfold decodeN
  repeat' split
  all_goals intro h
  all_goals first | exact absurd rfl h | skip
  all_goals (unfold runeLen; simp only [])
  all_goals (repeat' split)
  all_goals omega

/-- Does a word end ahead of this rune (is it the first one)? -/
def wStop (first : Bool) (r : Int) : Bool := !letB r && (first || (!(r == 45) && !digB r))

def wordGo (s : ByteArray) : Nat → Nat → Nat → Nat → Nat → Nat × Nat
  | 0, _, _, size, runes => (size, runes)
  | f + 1, pos, seen, size, runes =>
    if pos < s.size then
      if wStop (pos == 0) (Utf8.decode s pos).1 then (size, runes)
      else wordGo s f (pos + (Utf8.decode s pos).2) (seen + 1) (if (Utf8.decode s pos).1 = 45 then size else pos + (Utf8.decode s pos).2) (if (Utf8.decode s pos).1 = 45 then runes else seen + 1)
    else (size, runes)
def wordOf (s : ByteArray) : Nat × Nat := wordGo s s.size 0 0 0 0

theorem wordGo_end (s : ByteArray) (f pos seen size runes : Nat) (h : ¬ pos < s.size) : wordGo s f pos seen size runes = (size, runes) := by
  cases f <;> simp [wordGo, h]
theorem wordGo_stop (s : ByteArray) (f pos seen size runes : Nat) (h : wStop (pos == 0) (Utf8.decode s pos).1 = true) : wordGo s f pos seen size runes = (size, runes) := by
  cases f with
  | zero => rfl
  | succ f => unfold wordGo; rw [h]; simp
theorem wordGo_mark (s : ByteArray) (f pos seen size runes : Nat) (hp : pos < s.size) (h : wStop (pos == 0) (Utf8.decode s pos).1 = false) (h45 : (Utf8.decode s pos).1 = 45) :
    wordGo s (f + 1) pos seen size runes = wordGo s f (pos + (Utf8.decode s pos).2) (seen + 1) size runes := by
  conv => lhs; unfold wordGo
  rw [if_pos hp, h, if_neg (by simp), if_pos h45, if_pos h45]
theorem wordGo_more (s : ByteArray) (f pos seen size runes : Nat) (hp : pos < s.size) (h : wStop (pos == 0) (Utf8.decode s pos).1 = false) (h45 : (Utf8.decode s pos).1 ≠ 45) :
    wordGo s (f + 1) pos seen size runes = wordGo s f (pos + (Utf8.decode s pos).2) (seen + 1) (pos + (Utf8.decode s pos).2) (seen + 1) := by
  conv => lhs; unfold wordGo
  rw [if_pos hp, h, if_neg (by simp), if_neg h45, if_neg h45]

theorem wordGo_le (s : ByteArray) : ∀ f pos seen size runes, size ≤ s.size → runes ≤ seen → seen ≤ pos → pos ≤ s.size → (wordGo s f pos seen size runes).1 ≤ s.size ∧ (wordGo s f pos seen size runes).2 ≤ s.size
  | 0, pos, seen, size, runes, h1, h2, h3, h4 => by simp [wordGo]; omega
  | f + 1, pos, seen, size, runes, h1, h2, h3, h4 => by
    unfold wordGo
    split
    · rename_i hp
      have w1 := width_pos s pos hp
      have w2 := decode_fits s pos hp
      split
      · simp; omega
      · exact wordGo_le s f _ _ _ _ (by split <;> omega) (by split <;> omega) (by omega) w2
    · simp; omega
theorem wordOf_le (s : ByteArray) : (wordOf s).1 ≤ s.size ∧ (wordOf s).2 ≤ s.size := wordGo_le s _ _ _ _ _ (by omega) (by omega) (by omega) (by omega)
end Go.Proofs.YtanbkgifjlobgaaDoor
