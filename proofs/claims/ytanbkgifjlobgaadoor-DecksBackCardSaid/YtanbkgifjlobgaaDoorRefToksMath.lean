/- Layer 1 (scan), plain: the tokens, token by token; what a number's digits come to. -/
import Derived.Test.YtanbkgifjlobgaaDoorRefMath
namespace Go.Proofs.YtanbkgifjlobgaaDoor
open Go.RowKit Go.Lib

def refGo (s : ByteArray) : Nat → Nat → List Tok → Toks
  | 0, _, acc => (acc ++ [endTok (whereOf s s.size)], 0, (0, 0))
  | f + 1, pos, acc =>
    if pos < s.size then
      if blankB (Utf8.decode s pos).1 then refGo s f (pos + 1) acc
      else if (Utf8.decode s pos).1 = 35 then
        if 0 ≤ (remOf (s.extract pos s.size)).2 then ([], 4, whereOf s (pos + (remOf (s.extract pos s.size)).2))
        else refGo s f (pos + (remOf (s.extract pos s.size)).1) acc
      else if (tokOf (s.extract pos s.size)).2.2 = 0 then
        refGo s f (pos + (tokOf (s.extract pos s.size)).2.1) (acc ++ [⟨(tokOf (s.extract pos s.size)).1, s.extract pos (pos + (tokOf (s.extract pos s.size)).2.1), whereOf s pos⟩])
      else ([], (tokOf (s.extract pos s.size)).2.2, whereOf s pos)
    else (acc ++ [endTok (whereOf s s.size)], 0, (0, 0))
def refOf (s : ByteArray) : Toks := if 65536 < s.size then ([], 3, (1, 1)) else refGo s s.size 0 []

section
variable (s : ByteArray) (f pos : Nat) (acc : List Tok)
theorem refGo_end (h : ¬ pos < s.size) : refGo s f pos acc = (acc ++ [endTok (whereOf s s.size)], 0, (0, 0)) := by
  cases f <;> simp [refGo, h]
theorem refGo_blank (hp : pos < s.size) (h : blankB (Utf8.decode s pos).1 = true) : refGo s (f + 1) pos acc = refGo s f (pos + 1) acc := by
  conv => lhs; unfold refGo
  rw [if_pos hp, if_pos h]
theorem refGo_bad (hp : pos < s.size) (h : blankB (Utf8.decode s pos).1 = false) (h2 : (Utf8.decode s pos).1 = 35) (h3 : 0 ≤ (remOf (s.extract pos s.size)).2) :
    refGo s (f + 1) pos acc = ([], 4, whereOf s (pos + (remOf (s.extract pos s.size)).2)) := by
  conv => lhs; unfold refGo
  rw [if_pos hp, if_neg (by simp [h]), if_pos h2, if_pos h3]
theorem refGo_remark (hp : pos < s.size) (h : blankB (Utf8.decode s pos).1 = false) (h2 : (Utf8.decode s pos).1 = 35) (h3 : ¬ 0 ≤ (remOf (s.extract pos s.size)).2) :
    refGo s (f + 1) pos acc = refGo s f (pos + (remOf (s.extract pos s.size)).1) acc := by
  conv => lhs; unfold refGo
  rw [if_pos hp, if_neg (by simp [h]), if_pos h2, if_neg h3]
theorem refGo_tok (hp : pos < s.size) (h : blankB (Utf8.decode s pos).1 = false) (h2 : (Utf8.decode s pos).1 ≠ 35) (h3 : (tokOf (s.extract pos s.size)).2.2 = 0) :
    refGo s (f + 1) pos acc = refGo s f (pos + (tokOf (s.extract pos s.size)).2.1) (acc ++ [⟨(tokOf (s.extract pos s.size)).1, s.extract pos (pos + (tokOf (s.extract pos s.size)).2.1), whereOf s pos⟩]) := by
  conv => lhs; unfold refGo
  rw [if_pos hp, if_neg (by simp [h]), if_neg h2, if_pos h3]
theorem refGo_fault (hp : pos < s.size) (h : blankB (Utf8.decode s pos).1 = false) (h2 : (Utf8.decode s pos).1 ≠ 35) (h3 : (tokOf (s.extract pos s.size)).2.2 ≠ 0) :
    refGo s (f + 1) pos acc = ([], (tokOf (s.extract pos s.size)).2.2, whereOf s pos) := by
  conv => lhs; unfold refGo
  rw [if_pos hp, if_neg (by simp [h]), if_neg h2, if_neg h3]
end

theorem byteAt_extract (s : ByteArray) (a b i : Nat) (h : a + i < b) (hb : b ≤ s.size) : byteAt (s.extract a b) i = byteAt s (a + i) := by
  rw [byteAt_get _ i (by simp; omega), byteAt_get s (a + i) (by omega)]
  congr 1
  simp [ByteArray.getElem_extract]
theorem extract_extract (s : ByteArray) (a n b c : Nat) (h : a + c ≤ b) : (s.extract a b).extract n c = s.extract (a + n) (a + c) := by
  rw [ByteArray.extract_extract]
  congr 1
  omega

theorem numOf_pos (s : ByteArray) (h : 0 < s.size) : 0 < (numOf s).1 ↔ digB (byteAt s 0) = true := by
  unfold numOf
  obtain ⟨f, hf⟩ : ∃ f, s.size = f + 1 := ⟨s.size - 1, by omega⟩
  rw [hf]
  cases hd : digB (byteAt s 0) with
  | true =>
    rw [numGo_more s f 0 0 h hd]
    have : ∀ f pos v, pos ≤ (numGo s f pos v).1 := by
      intro f
      induction f with
      | zero => intro pos v; exact Nat.le_refl _
      | succ f ih =>
        intro pos v
        unfold numGo
        split
        · split
          · have := ih (pos + 1) (addDigit v (byteAt s pos)); omega
          · exact Nat.le_refl _
        · exact Nat.le_refl _
    have := this f (0 + 1) (addDigit 0 (byteAt s 0))
    exact ⟨fun _ => rfl, fun _ => by omega⟩
  | false => rw [numGo_stop s (f + 1) 0 0 hd]; simp
theorem numGo_ge (s : ByteArray) : ∀ f pos v, pos ≤ (numGo s f pos v).1
  | 0, pos, v => Nat.le_refl _
  | f + 1, pos, v => by
    unfold numGo
    split
    · split
      · have := numGo_ge s f (pos + 1) (addDigit v (byteAt s pos)); omega
      · exact Nat.le_refl _
    · exact Nat.le_refl _
theorem numGo_digits (s : ByteArray) : ∀ f pos v i, pos ≤ i → i < (numGo s f pos v).1 → digB (byteAt s i) = true
  | 0, pos, v, i, h1, h2 => by simp [numGo] at h2; omega
  | f + 1, pos, v, i, h1, h2 => by
    unfold numGo at h2
    split at h2
    · split at h2
      · rename_i hd
        by_cases he : i = pos
        · rw [he]; exact hd
        · exact numGo_digits s f (pos + 1) _ i (by omega) h2
      · simp at h2; omega
    · simp at h2; omega
theorem numGo_val (s u : ByteArray) : ∀ f g pos v, (numGo s f pos v).1 ≤ pos + g → u.size = (numGo s f pos v).1 → (∀ i, i < u.size → byteAt u i = byteAt s i) → valGo u g pos v = (numGo s f pos v).2
  | 0, g, pos, v, h1, h2, h3 => by
    simp [numGo] at h2 ⊢
    exact valGo_end u g pos v (by omega)
  | f + 1, g, pos, v, h1, h2, h3 => by
    by_cases hp : pos < s.size
    · cases hd : digB (byteAt s pos) with
      | true =>
        rw [numGo_more s f pos v hp hd] at h1 h2 ⊢
        have hge := numGo_ge s f (pos + 1) (addDigit v (byteAt s pos))
        obtain ⟨g', rfl⟩ : ∃ g', g = g' + 1 := ⟨g - 1, by omega⟩
        rw [valGo_more u g' pos v (by omega), h3 pos (by omega)]
        exact numGo_val s u f g' (pos + 1) _ (by omega) h2 h3
      | false =>
        rw [numGo_stop s (f + 1) pos v hd] at h1 h2 ⊢
        exact valGo_end u g pos v (by omega)
    · rw [numGo_end s (f + 1) pos v hp] at h1 h2 ⊢
      exact valGo_end u g pos v (by omega)
/-- The digits at the beginning, alone: all are digits, and come to the value. -/
theorem numOf_alone (t : ByteArray) : (∀ i, i < (t.extract 0 (numOf t).1).size → digB (byteAt (t.extract 0 (numOf t).1) i) = true) ∧ refVal (t.extract 0 (numOf t).1) = (numOf t).2 := by
  have hle := (numOf_le t).1
  have hsz : (t.extract 0 (numOf t).1).size = (numOf t).1 := by simp; omega
  have hb : ∀ i, i < (t.extract 0 (numOf t).1).size → byteAt (t.extract 0 (numOf t).1) i = byteAt t i := fun i hi => by
    rw [byteAt_extract t 0 _ i (by omega) hle, Nat.zero_add]
  refine ⟨fun i hi => ?_, ?_⟩
  · rw [hb i hi]
    exact numGo_digits t t.size 0 0 i (Nat.zero_le _) (by rw [hsz] at hi; exact hi)
  · exact numGo_val t _ t.size _ 0 0 (by rw [hsz]; unfold numOf; omega) hsz hb

theorem markR_byte : ∀ b : Fin 128, markR (b.val : Int) = markB b.val := by decide +kernel
theorem markB_high : ∀ b : Fin 256, 128 ≤ b.val → markB b.val = false := by decide +kernel
theorem markR_high (r : Nat) (h : 128 ≤ r) : markR r = false := by simp [markR]; omega
theorem markR_at (s : ByteArray) (pos : Nat) (h : pos < s.size) : markR (Utf8.decode s pos).1 = markB (byteAt s pos) := by
  by_cases hb : byteAt s pos < 128
  · rw [decode_low s pos h hb]
    exact markR_byte ⟨_, hb⟩
  · rw [markR_high _ (decode_wide s pos h (by omega)), markB_high ⟨_, byteAt_lt s pos⟩ (by simp; omega)]
end Go.Proofs.YtanbkgifjlobgaaDoor
