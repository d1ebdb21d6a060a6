import Derived.Test.YtbkjminjkjnkpaaGreatDoorQScan
import Derived.Lib.RuneCountTail
/- Layer 1 (scan), plain: the spot of a byte. -/
namespace Go.Proofs.YtbkjminjkjnkpaaGreatDoor
open Go.RowKit Go.Lib

/-- From a rune's beginning on, its spot at hand. -/
def whereGo (s : ByteArray) : Nat → Nat → Int × Int → Int → Int × Int
  | 0, _, here, _ => here
  | f + 1, pos, here, at_ =>
    if pos < s.size then
      if at_ < (pos : Int) + (Utf8.decode s pos).2 then here
      else whereGo s f (pos + (Utf8.decode s pos).2) (nextP here (Utf8.decode s pos).1) at_
    else here
def whereOf (s : ByteArray) (at_ : Int) : Int × Int := whereGo s s.size 0 (1, 1) at_

section
variable (s : ByteArray) (f pos : Nat) (here : Int × Int) (at_ : Int)
theorem whereGo_end (h : ¬ pos < s.size) : whereGo s f pos here at_ = here := by
  cases f <;> simp [whereGo, h]
theorem whereGo_here (h : at_ < (pos : Int) + (Utf8.decode s pos).2) : whereGo s f pos here at_ = here := by
  cases f <;> simp [whereGo, h]
theorem whereGo_more (hp : pos < s.size) (h : ¬ at_ < (pos : Int) + (Utf8.decode s pos).2) :
    whereGo s (f + 1) pos here at_ = whereGo s f (pos + (Utf8.decode s pos).2) (nextP here (Utf8.decode s pos).1) at_ := by
  conv => lhs; unfold whereGo
  rw [if_pos hp, if_neg h]
end
theorem whereOf_neg (s : ByteArray) (at_ : Int) (h : at_ < 0) : whereOf s at_ = (1, 1) := by
  unfold whereOf
  exact whereGo_here s _ _ _ _ (by omega)
end Go.Proofs.YtbkjminjkjnkpaaGreatDoor

/- Layer 1 (scan), plain: remarks; the value of digits; the tokens of a text, token by token. -/
namespace Go.Proofs.YtbkjminjkjnkpaaGreatDoor
open Go.RowKit Go.Lib

/-- A remark: how many bytes; the first that are no UTF-8, or -1. -/
def remGo (s : ByteArray) : Nat → Nat → Nat × Int
  | 0, pos => (pos, -1)
  | f + 1, pos => if pos < s.size ∧ byteAt s pos ≠ 10 then (if (Utf8.decode s pos).1 = 65533 ∧ (Utf8.decode s pos).2 = 1 then (0, (pos : Int)) else remGo s f (pos + (Utf8.decode s pos).2)) else (pos, -1)
def remOf (s : ByteArray) : Nat × Int := remGo s s.size 0

theorem remGo_end (s : ByteArray) (f pos : Nat) (h : ¬ (pos < s.size ∧ byteAt s pos ≠ 10)) : remGo s f pos = (pos, -1) := by
  cases f with
  | zero => rfl
  | succ f => unfold remGo; rw [if_neg h]
theorem remGo_bad (s : ByteArray) (f pos : Nat) (h : pos < s.size ∧ byteAt s pos ≠ 10) (hb : (Utf8.decode s pos).1 = 65533 ∧ (Utf8.decode s pos).2 = 1) : remGo s (f + 1) pos = (0, (pos : Int)) := by
  unfold remGo; rw [if_pos h, if_pos hb]
theorem remGo_more (s : ByteArray) (f pos : Nat) (h : pos < s.size ∧ byteAt s pos ≠ 10) (hb : ¬ ((Utf8.decode s pos).1 = 65533 ∧ (Utf8.decode s pos).2 = 1)) : remGo s (f + 1) pos = remGo s f (pos + (Utf8.decode s pos).2) := by
  conv => lhs; unfold remGo
  rw [if_pos h, if_neg hb]

/-- The value of a text of digits, no higher than it takes. -/
def valGo (s : ByteArray) : Nat → Nat → Nat → Nat
  | 0, _, v => v
  | f + 1, pos, v => if pos < s.size then valGo s f (pos + 1) (addDigit v (byteAt s pos)) else v
def refVal (s : ByteArray) : Nat := valGo s s.size 0 0
theorem valGo_end (s : ByteArray) (f pos v : Nat) (h : ¬ pos < s.size) : valGo s f pos v = v := by
  cases f <;> simp [valGo, h]
theorem valGo_more (s : ByteArray) (f pos v : Nat) (h : pos < s.size) : valGo s (f + 1) pos v = valGo s f (pos + 1) (addDigit v (byteAt s pos)) := by
  conv => lhs; unfold valGo
  rw [if_pos h]
def markR (r : Int) : Bool := r == 123 || r == 125 || r == 40 || r == 41 || r == 58 || r == 59 || r == 43 || r == 42 || r == 60 || r == 61 || r == 45
end Go.Proofs.YtbkjminjkjnkpaaGreatDoor

/- Layer 1 (scan), plain: the tokens, token by token; what a number's digits come to. -/
namespace Go.Proofs.YtbkjminjkjnkpaaGreatDoor
open Go.RowKit Go.Lib

def refGo (s : ByteArray) : Nat → Nat → List Tok → Toks
  | 0, _, acc => (acc ++ [endTok (whereOf s s.size)], 0, (0, 0))
  | f + 1, pos, acc =>
    if pos < s.size then
      if blankB (Utf8.decode s pos).1 then refGo s f (pos + 1) acc
      else if (Utf8.decode s pos).1 = 35 then
        if 0 ≤ (remOf (s.extract pos s.size)).2 then ([], 4, whereOf s (pos + (remOf (s.extract pos s.size)).2))
        else refGo s f (pos + (remOf (s.extract pos s.size)).1) acc
      else if (tokOf (s.extract pos s.size)).2.2 = 0 then
        refGo s f (pos + (tokOf (s.extract pos s.size)).2.1) (acc ++ [⟨(tokOf (s.extract pos s.size)).1, s.extract pos (pos + (tokOf (s.extract pos s.size)).2.1), whereOf s pos⟩])
      else ([], (tokOf (s.extract pos s.size)).2.2, whereOf s pos)
    else (acc ++ [endTok (whereOf s s.size)], 0, (0, 0))
def refOf (s : ByteArray) : Toks := if 65536 < s.size then ([], 3, (1, 1)) else refGo s s.size 0 []

section
variable (s : ByteArray) (f pos : Nat) (acc : List Tok)
theorem refGo_end (h : ¬ pos < s.size) : refGo s f pos acc = (acc ++ [endTok (whereOf s s.size)], 0, (0, 0)) := by
  cases f <;> simp [refGo, h]
theorem refGo_blank (hp : pos < s.size) (h : blankB (Utf8.decode s pos).1 = true) : refGo s (f + 1) pos acc = refGo s f (pos + 1) acc := by
  conv => lhs; unfold refGo
  rw [if_pos hp, if_pos h]
theorem refGo_bad (hp : pos < s.size) (h : blankB (Utf8.decode s pos).1 = false) (h2 : (Utf8.decode s pos).1 = 35) (h3 : 0 ≤ (remOf (s.extract pos s.size)).2) :
    refGo s (f + 1) pos acc = ([], 4, whereOf s (pos + (remOf (s.extract pos s.size)).2)) := by
  conv => lhs; unfold refGo
  rw [if_pos hp, if_neg (by simp [h]), if_pos h2, if_pos h3]
theorem refGo_remark (hp : pos < s.size) (h : blankB (Utf8.decode s pos).1 = false) (h2 : (Utf8.decode s pos).1 = 35) (h3 : ¬ 0 ≤ (remOf (s.extract pos s.size)).2) :
    refGo s (f + 1) pos acc = refGo s f (pos + (remOf (s.extract pos s.size)).1) acc := by
  conv => lhs; unfold refGo
  rw [if_pos hp, if_neg (by simp [h]), if_pos h2, if_neg h3]
theorem refGo_tok (hp : pos < s.size) (h : blankB (Utf8.decode s pos).1 = false) (h2 : (Utf8.decode s pos).1 ≠ 35) (h3 : (tokOf (s.extract pos s.size)).2.2 = 0) :
    refGo s (f + 1) pos acc = refGo s f (pos + (tokOf (s.extract pos s.size)).2.1) (acc ++ [⟨(tokOf (s.extract pos s.size)).1, s.extract pos (pos + (tokOf (s.extract pos s.size)).2.1), whereOf s pos⟩]) := by
  conv => lhs; unfold refGo
  rw [if_pos hp, if_neg (by simp [h]), if_neg h2, if_pos h3]
theorem refGo_fault (hp : pos < s.size) (h : blankB (Utf8.decode s pos).1 = false) (h2 : (Utf8.decode s pos).1 ≠ 35) (h3 : (tokOf (s.extract pos s.size)).2.2 ≠ 0) :
    refGo s (f + 1) pos acc = ([], (tokOf (s.extract pos s.size)).2.2, whereOf s pos) := by
  conv => lhs; unfold refGo
  rw [if_pos hp, if_neg (by simp [h]), if_neg h2, if_neg h3]
end

theorem byteAt_extract (s : ByteArray) (a b i : Nat) (h : a + i < b) (hb : b ≤ s.size) : byteAt (s.extract a b) i = byteAt s (a + i) := by
  rw [byteAt_get _ i (by simp; omega), byteAt_get s (a + i) (by omega)]
  congr 1
  simp [ByteArray.getElem_extract]
theorem extract_extract (s : ByteArray) (a n b c : Nat) (h : a + c ≤ b) : (s.extract a b).extract n c = s.extract (a + n) (a + c) := by
  rw [ByteArray.extract_extract]
  congr 1
  omega

theorem numOf_pos (s : ByteArray) (h : 0 < s.size) : 0 < (numOf s).1 ↔ digB (byteAt s 0) = true := by
  unfold numOf
  obtain ⟨f, hf⟩ : ∃ f, s.size = f + 1 := ⟨s.size - 1, by omega⟩
  rw [hf]
  cases hd : digB (byteAt s 0) with
  | true =>
    rw [numGo_more s f 0 0 h hd]
    have : ∀ f pos v, pos ≤ (numGo s f pos v).1 := by
      intro f
      induction f with
      | zero => intro pos v; exact Nat.le_refl _
      | succ f ih =>
        intro pos v
        unfold numGo
        split
        · split
          · have := ih (pos + 1) (addDigit v (byteAt s pos)); omega
          · exact Nat.le_refl _
        · exact Nat.le_refl _
    have := this f (0 + 1) (addDigit 0 (byteAt s 0))
    exact ⟨fun _ => rfl, fun _ => by omega⟩
  | false => rw [numGo_stop s (f + 1) 0 0 hd]; simp
theorem numGo_ge (s : ByteArray) : ∀ f pos v, pos ≤ (numGo s f pos v).1
  | 0, pos, v => Nat.le_refl _
  | f + 1, pos, v => by
    unfold numGo
    split
    · split
      · have := numGo_ge s f (pos + 1) (addDigit v (byteAt s pos)); omega
      · exact Nat.le_refl _
    · exact Nat.le_refl _
theorem numGo_digits (s : ByteArray) : ∀ f pos v i, pos ≤ i → i < (numGo s f pos v).1 → digB (byteAt s i) = true
  | 0, pos, v, i, h1, h2 => by simp [numGo] at h2; omega
  | f + 1, pos, v, i, h1, h2 => by
    unfold numGo at h2
    split at h2
    · split at h2
      · rename_i hd
        by_cases he : i = pos
        · rw [he]; exact hd
        · exact numGo_digits s f (pos + 1) _ i (by omega) h2
      · simp at h2; omega
    · simp at h2; omega
theorem numGo_val (s u : ByteArray) : ∀ f g pos v, (numGo s f pos v).1 ≤ pos + g → u.size = (numGo s f pos v).1 → (∀ i, i < u.size → byteAt u i = byteAt s i) → valGo u g pos v = (numGo s f pos v).2
  | 0, g, pos, v, h1, h2, h3 => by
    simp [numGo] at h2 ⊢
    exact valGo_end u g pos v (by omega)
  | f + 1, g, pos, v, h1, h2, h3 => by
    by_cases hp : pos < s.size
    · cases hd : digB (byteAt s pos) with
      | true =>
        rw [numGo_more s f pos v hp hd] at h1 h2 ⊢
        have hge := numGo_ge s f (pos + 1) (addDigit v (byteAt s pos))
        obtain ⟨g', rfl⟩ : ∃ g', g = g' + 1 := ⟨g - 1, by omega⟩
        rw [valGo_more u g' pos v (by omega), h3 pos (by omega)]
        exact numGo_val s u f g' (pos + 1) _ (by omega) h2 h3
      | false =>
        rw [numGo_stop s (f + 1) pos v hd] at h1 h2 ⊢
        exact valGo_end u g pos v (by omega)
    · rw [numGo_end s (f + 1) pos v hp] at h1 h2 ⊢
      exact valGo_end u g pos v (by omega)
/-- The digits at the beginning, alone: all are digits, and come to the value. -/
theorem numOf_alone (t : ByteArray) : (∀ i, i < (t.extract 0 (numOf t).1).size → digB (byteAt (t.extract 0 (numOf t).1) i) = true) ∧ refVal (t.extract 0 (numOf t).1) = (numOf t).2 := by
  have hle := (numOf_le t).1
  have hsz : (t.extract 0 (numOf t).1).size = (numOf t).1 := by simp; omega
  have hb : ∀ i, i < (t.extract 0 (numOf t).1).size → byteAt (t.extract 0 (numOf t).1) i = byteAt t i := fun i hi => by
    rw [byteAt_extract t 0 _ i (by omega) hle, Nat.zero_add]
  refine ⟨fun i hi => ?_, ?_⟩
  · rw [hb i hi]
    exact numGo_digits t t.size 0 0 i (Nat.zero_le _) (by rw [hsz] at hi; exact hi)
  · exact numGo_val t _ t.size _ 0 0 (by rw [hsz]; unfold numOf; omega) hsz hb

theorem markR_byte : ∀ b : Fin 128, markR (b.val : Int) = markB b.val := by decide +kernel
theorem markB_high : ∀ b : Fin 256, 128 ≤ b.val → markB b.val = false := by decide +kernel
theorem markR_high (r : Nat) (h : 128 ≤ r) : markR r = false := by simp [markR]; omega
theorem markR_at (s : ByteArray) (pos : Nat) (h : pos < s.size) : markR (Utf8.decode s pos).1 = markB (byteAt s pos) := by
  by_cases hb : byteAt s pos < 128
  · rw [decode_low s pos h hb]
    exact markR_byte ⟨_, hb⟩
  · rw [markR_high _ (decode_wide s pos h (by omega)), markB_high ⟨_, byteAt_lt s pos⟩ (by simp; omega)]
end Go.Proofs.YtbkjminjkjnkpaaGreatDoor

/- Layer 1 (scan), plain: rune by rune, and token by token, come to the same. -/
namespace Go.Proofs.YtbkjminjkjnkpaaGreatDoor
open Go.RowKit Go.Lib

/-- The bytes at a place are no UTF-8. -/
def badAt (s : ByteArray) (p : Nat) : Prop := (Utf8.decode s p).1 = 65533 ∧ (Utf8.decode s p).2 = 1

theorem decodeN_err (n b0 b1 b2 b3 : Nat) (h0 : b0 < 256) (h1 : b1 < 256) (h2 : b2 < 256) (h3 : b3 < 256) (h : (decodeN n b0 b1 b2 b3).1 = 65533) :
    ((decodeN n b0 b1 b2 b3).2 = 1 ∧ ¬ (2 < n ∧ b0 = 239 ∧ b1 = 191 ∧ b2 = 189)) ∨ ((decodeN n b0 b1 b2 b3).2 = 3 ∧ 2 < n ∧ b0 = 239 ∧ b1 = 191 ∧ b2 = 189) := by
  revert h
  unfold decodeN
  repeat' split
  all_goals intro h
  all_goals dsimp only at h
  all_goals first | (exact .inl ⟨rfl, by omega⟩) | (exact .inr ⟨rfl, by omega, by omega, by omega, by omega⟩) | (exfalso; omega)

theorem hasPrefix3 (l : List UInt8) : Lib.hasPrefix l [239, 191, 189] = true ↔ l[0]? = some 239 ∧ l[1]? = some 191 ∧ l[2]? = some 189 := by
  unfold Lib.hasPrefix
  rcases l with _ | ⟨a, _ | ⟨b, _ | ⟨c, l⟩⟩⟩ <;> simp [List.isPrefixOf] <;> grind

theorem brokenB_iff (s : ByteArray) (p : Nat) (hp : p < s.size) : brokenB (s.extract p s.size) (Utf8.decode s p).1 = true ↔ badAt s p := by
  have e := decode_at s p
  have h0 := (s.get! p).toNat_lt
  have h1 := (s.get! (p + 1)).toNat_lt
  have h2 := (s.get! (p + 2)).toNat_lt
  have h3 := (s.get! (p + 3)).toNat_lt
  have hE := decodeN_err (s.size - p) _ _ _ _ h0 h1 h2 h3
  rw [← e] at hE
  have hl : ∀ j, (s.extract p s.size).data.toList[j]? = if p + j < s.size then some (s.get! (p + j)) else none := fun j => by
    rw [extract_to_end]
    by_cases hj : p + j < s.size
    · rw [if_pos hj, List.getElem?_drop]
      simp [ByteArray.get!, hj]
    · rw [if_neg hj, List.getElem?_drop]
      simp; omega
  have hP : Lib.hasPrefix (s.extract p s.size).data.toList [239, 191, 189] = true ↔ (2 < s.size - p ∧ (s.get! p).toNat = 239 ∧ (s.get! (p + 1)).toNat = 191 ∧ (s.get! (p + 2)).toNat = 189) := by
    rw [hasPrefix3, hl 0, hl 1, hl 2]
    have t : ∀ (x y : UInt8), x = y ↔ x.toNat = y.toNat := fun x y => ⟨fun h => h ▸ rfl, fun h => UInt8.toNat_inj.1 h⟩
    by_cases c2 : p + 2 < s.size
    · rw [if_pos (by omega), if_pos (by omega), if_pos c2]
      simp only [Option.some.injEq, Nat.add_zero, t]
      constructor
      · rintro ⟨x, y, z⟩; exact ⟨by omega, x, y, z⟩
      · rintro ⟨_, x, y, z⟩; exact ⟨x, y, z⟩
    · rw [if_neg c2]
      constructor
      · rintro ⟨_, _, x⟩; cases x
      · rintro ⟨x, _⟩; omega
  unfold brokenB badAt
  rw [Bool.and_eq_true, beq_iff_eq, Bool.not_eq_true', ← Bool.not_eq_true, hP]
  constructor
  · rintro ⟨x, y⟩
    have hx : (Utf8.decode s p).1 = 65533 := by omega
    rcases hE hx with ⟨a, _⟩ | ⟨_, b⟩
    · exact ⟨hx, a⟩
    · exact absurd b y
  · rintro ⟨x, y⟩
    rcases hE x with ⟨_, b⟩ | ⟨a, _⟩
    · exact ⟨by omega, b⟩
    · omega
end Go.Proofs.YtbkjminjkjnkpaaGreatDoor

/- Layer 1 (scan), plain: rune by rune, and token by token, come to the same: the spots, the runs of runes, the whole. -/
namespace Go.Proofs.YtbkjminjkjnkpaaGreatDoor
open Go.RowKit Go.Lib

/-- From a place to another one, rune by rune, none of them broken. -/
def Runs (s : ByteArray) : Nat → Nat → Nat → Prop
  | 0, p, q => p = q
  | k + 1, p, q => p = q ∨ (p < s.size ∧ ¬ badAt s p ∧ Runs s k (p + (Utf8.decode s p).2) q)

theorem Runs.step {s : ByteArray} {k p q : Nat} (hp : p < s.size) (hb : ¬ badAt s p) (h : Runs s k (p + (Utf8.decode s p).2) q) : Runs s (k + 1) p q := .inr ⟨hp, hb, h⟩
theorem Runs.first {s : ByteArray} {k p q : Nat} (h : Runs s k p q) (hlt : p < q) : p < s.size ∧ ¬ badAt s p ∧ ∃ k', Runs s k' (p + (Utf8.decode s p).2) q := by
  cases k with
  | zero => exact absurd h (by simp [Runs]; omega)
  | succ k =>
    rcases h with h | ⟨h1, h2, h3⟩
    · omega
    · exact ⟨h1, h2, k, h3⟩
theorem Runs.le {s : ByteArray} : ∀ {k p q : Nat}, Runs s k p q → p ≤ q
  | 0, p, q, h => Nat.le_of_eq h
  | k + 1, p, q, h => by
    rcases h with h | ⟨h1, h2, h3⟩
    · omega
    · have := h3.le; omega

/-- The spot at hand is that of the place. -/
def SpotAt (s : ByteArray) (p : Nat) (here : Int × Int) : Prop := ∀ (f : Nat) (a : Int), s.size - p ≤ f → (p : Int) ≤ a → whereGo s f p here a = whereOf s a

theorem whereGo_fuel (s : ByteArray) : ∀ (f g p : Nat) (here : Int × Int) (a : Int), s.size - p ≤ f → s.size - p ≤ g → whereGo s f p here a = whereGo s g p here a
  | 0, g, p, here, a, h1, h2 => by rw [whereGo_end s 0 p here a (by omega), whereGo_end s g p here a (by omega)]
  | f + 1, g, p, here, a, h1, h2 => by
    by_cases hp : p < s.size
    · obtain ⟨g', rfl⟩ : ∃ g', g = g' + 1 := ⟨g - 1, by omega⟩
      by_cases hc : a < (p : Int) + (Utf8.decode s p).2
      · rw [whereGo_here s (f + 1) p here a hc, whereGo_here s (g' + 1) p here a hc]
      · have := width_pos s p hp
        rw [whereGo_more s f p here a hp hc, whereGo_more s g' p here a hp hc]
        exact whereGo_fuel s f g' _ _ a (by omega) (by omega)
    · rw [whereGo_end s (f + 1) p here a hp, whereGo_end s g p here a hp]
theorem SpotAt.start (s : ByteArray) : SpotAt s 0 (1, 1) := fun f a h _ => whereGo_fuel s f s.size 0 (1, 1) a h (by omega)
theorem SpotAt.next {s : ByteArray} {p : Nat} {here : Int × Int} (h : SpotAt s p here) (hp : p < s.size) : SpotAt s (p + (Utf8.decode s p).2) (nextP here (Utf8.decode s p).1) := by
  intro f a hf ha
  have hw := width_pos s p hp
  have h1 := h (f + 1 + (Utf8.decode s p).2) a (by omega) (by omega)
  rw [show f + 1 + (Utf8.decode s p).2 = (f + (Utf8.decode s p).2) + 1 from by omega, whereGo_more s _ p here a hp (by omega)] at h1
  rw [← h1]
  exact whereGo_fuel s f _ _ _ a hf (by omega)
theorem SpotAt.at_ {s : ByteArray} {p : Nat} {here : Int × Int} (h : SpotAt s p here) : whereOf s p = here := by
  rw [← h s.size p (by omega) (by omega)]
  by_cases hp : p < s.size
  · have := width_pos s p hp
    exact whereGo_here s _ p here _ (by omega)
  · exact whereGo_end s _ p here _ hp

theorem broken_false {s : ByteArray} {p : Nat} (hp : p < s.size) (hb : ¬ badAt s p) : brokenB (s.extract p s.size) (Utf8.decode s p).1 = false := by
  cases h : brokenB (s.extract p s.size) (Utf8.decode s p).1 with
  | false => rfl
  | true => exact absurd ((brokenB_iff s p hp).1 h) hb
theorem broken_true {s : ByteArray} {p : Nat} (hp : p < s.size) (hb : badAt s p) : brokenB (s.extract p s.size) (Utf8.decode s p).1 = true := (brokenB_iff s p hp).2 hb

/-- Inside a token nothing happens. -/
theorem scan_runs (s : ByteArray) (acc : List Tok) (q : Nat) : ∀ (k p f : Nat) (here : Int × Int) (rm : Bool), Runs s k p q → s.size - p ≤ f → SpotAt s p here →
    ∃ f' here', scanGo s f p here rm q acc = scanGo s f' q here' rm q acc ∧ s.size - q ≤ f' ∧ SpotAt s q here'
  | 0, p, f, here, rm, h, hf, hsp => by
    obtain rfl : p = q := h
    exact ⟨f, here, rfl, hf, hsp⟩
  | k + 1, p, f, here, rm, h, hf, hsp => by
    rcases h with rfl | ⟨hp, hb, h⟩
    · exact ⟨f, here, rfl, hf, hsp⟩
    · have hw := width_pos s p hp
      have hle := h.le
      obtain ⟨f0, rfl⟩ : ∃ f0, f = f0 + 1 := ⟨f - 1, by omega⟩
      rw [scanGo_in s f0 p here rm q acc hp (broken_false hp hb) (by omega)]
      exact scan_runs s acc q k _ f0 _ rm h (by omega) (hsp.next hp)

/-- A remark, rune by rune, from a place in it on. -/
theorem scan_remark (s : ByteArray) (acc : List Tok) (b : Nat) : ∀ (g p f : Nat) (here : Int × Int), b ≤ p → p ≤ s.size → s.size - p ≤ g → s.size - p ≤ f → SpotAt s p here →
    (0 ≤ (remGo s g p).2 → scanGo s f p here true b acc = ([], 4, whereOf s (remGo s g p).2)) ∧
    (¬ 0 ≤ (remGo s g p).2 → ∃ f' here', scanGo s f p here true b acc = scanGo s f' (remGo s g p).1 here' true b acc ∧ s.size - (remGo s g p).1 ≤ f' ∧ SpotAt s (remGo s g p).1 here' ∧ p ≤ (remGo s g p).1 ∧ (remGo s g p).1 ≤ s.size ∧
      ((remGo s g p).1 < s.size → byteAt s (remGo s g p).1 = 10))
  | 0, p, f, here, hbp, hps, hg, hf, hsp => by
    refine ⟨fun h => absurd h (by simp [remGo]), fun _ => ⟨f, here, rfl, hf, hsp, Nat.le_refl _, hps, fun h => ?_⟩⟩
    simp [remGo] at h
    omega
  | g + 1, p, f, here, hbp, hps, hg, hf, hsp => by
    by_cases hc : p < s.size ∧ byteAt s p ≠ 10
    · have hp := hc.1
      have hw := width_pos s p hp
      have hwf := decode_fits s p hp
      obtain ⟨f0, rfl⟩ : ∃ f0, f = f0 + 1 := ⟨f - 1, by omega⟩
      by_cases hb : badAt s p
      · rw [remGo_bad s g p hc hb]
        refine ⟨fun _ => ?_, fun h => absurd (Int.natCast_nonneg p) h⟩
        rw [scanGo_broken s f0 p here true b acc hp (broken_true hp hb), hsp.at_]
      · rw [remGo_more s g p hc hb, scanGo_remark s f0 p here b acc hp (broken_false hp hb) (by omega)]
        have h10 : (((Utf8.decode s p).1 : Int) != 10) = true := by
          rw [bne_iff_ne]
          intro e
          have hd := decode_byte s p hp (by omega)
          rw [hd] at e
          exact hc.2 (by simp at e; omega)
        rw [h10]
        have ih := scan_remark s acc b g (p + (Utf8.decode s p).2) f0 _ (by omega) hwf (by omega) (by omega) (hsp.next hp)
        refine ⟨ih.1, fun h => ?_⟩
        obtain ⟨f', here', a1, a2, a3, a4, a5, a6⟩ := ih.2 h
        exact ⟨f', here', a1, a2, a3, by omega, a5, a6⟩
    · rw [remGo_end s (g + 1) p hc]
      refine ⟨fun h => absurd h (by simp), fun _ => ⟨f, here, rfl, hf, hsp, Nat.le_refl _, hps, fun h => ?_⟩⟩
      simp only [not_and] at hc
      have := hc h
      simpa using this
end Go.Proofs.YtbkjminjkjnkpaaGreatDoor

/- Layer 1 (scan), plain: rune by rune, and token by token, come to the same. -/
namespace Go.Proofs.YtbkjminjkjnkpaaGreatDoor
open Go.RowKit Go.Lib

section
variable (s : ByteArray) (pos : Nat)
theorem rem_shift : ∀ (g i : Nat), pos + i ≤ s.size →
    (0 ≤ (remGo (s.extract pos s.size) g i).2 ↔ 0 ≤ (remGo s g (pos + i)).2) ∧ (0 ≤ (remGo (s.extract pos s.size) g i).2 → (remGo s g (pos + i)).2 = pos + (remGo (s.extract pos s.size) g i).2) ∧
    (¬ 0 ≤ (remGo (s.extract pos s.size) g i).2 → (remGo s g (pos + i)).1 = pos + (remGo (s.extract pos s.size) g i).1)
  | 0, i, h => by simp [remGo]
  | g + 1, i, h => by
    have hd : Utf8.decode (s.extract pos s.size) i = Utf8.decode s (pos + i) := tail_decode s pos i
    have hsz : (s.extract pos s.size).size = s.size - pos := by simp
    by_cases hp : pos + i < s.size
    · have hb : byteAt (s.extract pos s.size) i = byteAt s (pos + i) := byteAt_extract s pos s.size i hp (Nat.le_refl _)
      by_cases h10 : byteAt s (pos + i) = 10
      · rw [remGo_end _ _ i (by rw [hb]; exact fun x => x.2 h10), remGo_end s _ (pos + i) (fun x => x.2 h10)]
        simp
      · by_cases hbad : (Utf8.decode s (pos + i)).1 = 65533 ∧ (Utf8.decode s (pos + i)).2 = 1
        · rw [remGo_bad _ g i ⟨by omega, by rw [hb]; exact h10⟩ (by rw [hd]; exact hbad), remGo_bad s g (pos + i) ⟨hp, h10⟩ hbad]
          refine ⟨⟨fun _ => Int.natCast_nonneg _, fun _ => Int.natCast_nonneg _⟩, fun _ => by simp, fun h => absurd (Int.natCast_nonneg i) h⟩
        · have hwf := decode_fits s (pos + i) hp
          rw [remGo_more _ g i ⟨by omega, by rw [hb]; exact h10⟩ (by rw [hd]; exact hbad), remGo_more s g (pos + i) ⟨hp, h10⟩ hbad, hd, Nat.add_assoc]
          exact rem_shift g _ (by omega)
    · rw [remGo_end _ _ i (fun x => by have := x.1; omega), remGo_end s _ (pos + i) (fun x => hp x.1)]
      simp
theorem runs_shift : ∀ (k i j : Nat), Runs (s.extract pos s.size) k i j → Runs s k (pos + i) (pos + j)
  | 0, i, j, h => by rw [show i = j from h]; exact rfl
  | k + 1, i, j, h => by
    rcases h with h | ⟨h1, h2, h3⟩
    · exact .inl (by rw [h])
    · have hd : Utf8.decode (s.extract pos s.size) i = Utf8.decode s (pos + i) := tail_decode s pos i
      have hsz : (s.extract pos s.size).size = s.size - pos := by simp
      rw [hd] at h3
      refine .inr ⟨by omega, fun h => h2 (by unfold badAt; rw [hd]; exact h), ?_⟩
      have := runs_shift k _ _ h3
      rwa [← Nat.add_assoc] at this
end

theorem num_runs (t : ByteArray) : ∀ (f i v : Nat), ∃ k, Runs t k i (numGo t f i v).1
  | 0, i, v => ⟨0, rfl⟩
  | f + 1, i, v => by
    by_cases hp : i < t.size
    · cases hd : digB (byteAt t i) with
      | true =>
        rw [numGo_more t f i v hp hd]
        obtain ⟨k, hk⟩ := num_runs t f (i + 1) (addDigit v (byteAt t i))
        have h2 := (digB_iff _).1 hd
        have hlow := decode_low t i hp (by omega)
        refine ⟨k + 1, Runs.step hp (fun h => ?_) (by rw [hlow]; exact hk)⟩
        unfold badAt at h
        rw [hlow] at h
        have h1 := h.1
        simp only [] at h1
        omega
      | false => rw [numGo_stop t (f + 1) i v hd]; exact ⟨0, rfl⟩
    · rw [numGo_end t (f + 1) i v hp]; exact ⟨0, rfl⟩

theorem word_runs (t : ByteArray) : ∀ (f i seen size runes : Nat), (wordGo t f i seen size runes).1 = size ∨ ∃ k, Runs t k i (wordGo t f i seen size runes).1
  | 0, i, seen, size, runes => .inl rfl
  | f + 1, i, seen, size, runes => by
    by_cases hp : i < t.size
    · cases hs : wStop (i == 0) (Utf8.decode t i).1 with
      | true => rw [wordGo_stop t (f + 1) i seen size runes hs]; exact .inl rfl
      | false =>
        have hb : ¬ badAt t i := fun h => by
          have h1 : ((Utf8.decode t i).1 : Int) = 65533 := by have := h.1; omega
          rw [h1] at hs
          revert hs
          simp [wStop, letB_err, digB]
        by_cases h45 : (Utf8.decode t i).1 = 45
        · rw [wordGo_mark t f i seen size runes hp hs h45]
          rcases word_runs t f (i + (Utf8.decode t i).2) (seen + 1) size runes with h | ⟨k, h⟩
          · exact .inl h
          · exact .inr ⟨k + 1, Runs.step hp hb h⟩
        · rw [wordGo_more t f i seen size runes hp hs h45]
          rcases word_runs t f (i + (Utf8.decode t i).2) (seen + 1) (i + (Utf8.decode t i).2) (seen + 1) with h | ⟨k, h⟩
          · rw [h]; exact .inr ⟨1, Runs.step hp hb rfl⟩
          · exact .inr ⟨k + 1, Runs.step hp hb h⟩
    · rw [wordGo_end t (f + 1) i seen size runes hp]; exact .inl rfl

/-- A token is not empty, and its runes are whole. -/
theorem tok_runs (t : ByteArray) (h0 : 0 < t.size) (h : (tokOf t).2.2 = 0) : 0 < (tokOf t).2.1 ∧ ∃ k, Runs t k 0 (tokOf t).2.1 := by
  by_cases hw : 0 < (wordOf t).1
  · by_cases h24 : 24 < (wordOf t).2
    · exfalso
      revert h
      unfold tokOf
      rw [if_pos hw, if_pos h24]
      simp
    · have e : tokOf t = (1, (wordOf t).1, 0) := by unfold tokOf; rw [if_pos hw, if_neg h24]
      rw [e]
      refine ⟨hw, ?_⟩
      rcases word_runs t t.size 0 0 0 0 with h1 | h1
      · exact absurd h1 (by unfold wordOf at hw; omega)
      · exact h1
  · by_cases hn : 0 < (numOf t).1
    · by_cases hf : numFault t (numOf t).1 (numOf t).2 = 0
      · have e : tokOf t = (2, (numOf t).1, 0) := by unfold tokOf; rw [if_neg hw, if_pos hn, if_pos hf]
        rw [e]
        exact ⟨hn, num_runs t t.size 0 0⟩
      · exfalso
        revert h
        unfold tokOf
        rw [if_neg hw, if_pos hn, if_neg hf]
        exact hf
    · cases hm : markB (byteAt t 0) with
      | true =>
        have e : tokOf t = (3, 1, 0) := by unfold tokOf; rw [if_neg hw, if_neg hn, hm]; rfl
        rw [e]
        refine ⟨by decide, 1, ?_⟩
        have hb : byteAt t 0 < 128 := by
          rcases Nat.lt_or_ge (byteAt t 0) 128 with h | h
          · exact h
          · have := markB_high ⟨_, byteAt_lt t 0⟩ h
            rw [this] at hm
            cases hm
        have hlow := decode_low t 0 h0 hb
        refine Runs.step h0 (fun h => ?_) (by rw [hlow]; exact rfl)
        unfold badAt at h
        rw [hlow] at h
        have h1 := h.1
        simp only [] at h1
        omega
      | false =>
        exfalso
        revert h
        unfold tokOf
        rw [if_neg hw, if_neg hn, hm]
        simp

/-- Bytes that are no UTF-8 are no token. -/
theorem tokOf_bad (t : ByteArray) (h0 : 0 < t.size) (h : (Utf8.decode t 0).1 = 65533) : tokOf t = (0, 0, 4) := by
  have hw : ¬ 0 < (wordOf t).1 := by
    unfold wordOf
    rw [wordGo_stop t _ 0 0 0 0 (by rw [h]; simp [wStop, letB_err, show ((65533 : Nat) : Int) = 65533 from rfl])]
    simp
  have hb : 128 ≤ byteAt t 0 := by
    rcases Nat.lt_or_ge (byteAt t 0) 128 with hb | hb
    · rw [decode_low t 0 h0 hb] at h
      simp only [] at h
      omega
    · exact hb
  have hn : ¬ 0 < (numOf t).1 := by
    rw [numOf_pos t h0]
    have : digB (byteAt t 0) = false := by
      cases hq : digB (byteAt t 0) with
      | false => rfl
      | true => have := (digB_iff _).1 hq; omega
    rw [this]
    simp
  have hm := markB_high ⟨_, byteAt_lt t 0⟩ hb
  unfold tokOf
  rw [if_neg hw, if_neg hn, hm]
  rfl

theorem blank_byte (s : ByteArray) (p : Nat) (hp : p < s.size) (h : blankB (Utf8.decode s p).1 = true) : (Utf8.decode s p).2 = 1 := by
  have : (Utf8.decode s p).1 < 128 := by
    simp [blankB] at h
    omega
  rw [decode_byte s p hp this]

/-- THE WHOLE: rune by rune, and token by token. -/
theorem scan_ref (s : ByteArray) : ∀ (n p f g : Nat) (here : Int × Int) (b : Nat) (acc : List Tok), s.size - p ≤ n → p ≤ s.size → b ≤ p → s.size - p ≤ f → s.size - p ≤ g → SpotAt s p here →
    scanGo s f p here false b acc = refGo s g p acc := by
  intro n
  induction n with
  | zero =>
    intro p f g here b acc hn hps hb hf hg hsp
    have hp : ¬ p < s.size := by omega
    obtain rfl : p = s.size := by omega
    rw [scanGo_end s f _ here false b acc hp, refGo_end s g _ acc hp, hsp.at_]
  | succ n ih =>
    intro p f g here b acc hn hps hb hf hg hsp
    by_cases hp : p < s.size
    · have hw := width_pos s p hp
      have hwf := decode_fits s p hp
      have hsz : (s.extract p s.size).size = s.size - p := by simp
      have hd0 : Utf8.decode (s.extract p s.size) 0 = Utf8.decode s p := tail_decode s p 0
      obtain ⟨f0, rfl⟩ : ∃ f0, f = f0 + 1 := ⟨f - 1, by omega⟩
      obtain ⟨g0, rfl⟩ : ∃ g0, g = g0 + 1 := ⟨g - 1, by omega⟩
      by_cases hbad : badAt s p
      · rw [scanGo_broken s f0 p here false b acc hp (broken_true hp hbad)]
        have hr := hbad.1
        have ht := tokOf_bad (s.extract p s.size) (by omega) (by rw [hd0]; exact hr)
        have h1 : blankB (Utf8.decode s p).1 = false := by rw [hr]; rfl
        rw [refGo_fault s g0 p acc hp h1 (by omega) (by rw [ht]; simp), ht, hsp.at_]
      · have hbf := broken_false hp hbad
        cases hbl : blankB (Utf8.decode s p).1 with
        | true =>
          have hr35 : (Utf8.decode s p).1 ≠ 35 := by
            intro e
            rw [e] at hbl
            revert hbl
            decide
          have hw1 := blank_byte s p hp hbl
          rw [scanGo_blank s f0 p here b acc hp hbf (by omega) hr35 hbl, refGo_blank s g0 p acc hp hbl, hw1]
          exact ih (p + 1) f0 g0 _ b acc (by omega) (by omega) (by omega) (by omega) (by omega) (by rw [← hw1]; exact hsp.next hp)
        | false =>
          by_cases h35 : (Utf8.decode s p).1 = 35
          · have hdec := decode_byte s p hp (by omega)
            have hb35 : byteAt s p = 35 := by rw [hdec] at h35; exact h35
            have hw1 : (Utf8.decode s p).2 = 1 := by rw [hdec]
            rw [scanGo_hash s f0 p here b acc hp hbf (by omega) h35]
            obtain ⟨r1, r2, r3⟩ := rem_shift s p (s.size - p) 0 (by omega)
            have hrem : remOf (s.extract p s.size) = remGo (s.extract p s.size) (s.size - p) 0 := by unfold remOf; rw [hsz]
            rw [← hrem] at r1 r2 r3
            obtain ⟨m, hm⟩ : ∃ m, s.size - p = m + 1 := ⟨s.size - p - 1, by omega⟩
            have hone : remGo s (s.size - p) (p + 0) = remGo s m (p + (Utf8.decode s p).2) := by
              rw [hm]
              exact remGo_more s m p ⟨hp, by omega⟩ hbad
            rw [hone] at r1 r2 r3
            have hsr := scan_remark s acc b m (p + (Utf8.decode s p).2) f0 _ (by omega) hwf (by omega) (by omega) (hsp.next hp)
            by_cases hneg : 0 ≤ (remOf (s.extract p s.size)).2
            · rw [refGo_bad s g0 p acc hp hbl h35 hneg, hsr.1 (r1.1 hneg), r2 hneg]
            · obtain ⟨f', here', a1, a2, a3, a4, a5, a6⟩ := hsr.2 (fun h => hneg (r1.2 h))
              rw [refGo_remark s g0 p acc hp hbl h35 hneg, a1]
              rw [r3 hneg] at a1 a2 a3 a4 a5 a6 ⊢
              generalize (remOf (s.extract p s.size)).1 = q at *
              by_cases hq : p + q < s.size
              · have h10 := a6 hq
                have hdq := decode_low s (p + q) hq (by omega)
                have hnb : ¬ badAt s (p + q) := by
                  unfold badAt
                  rw [hdq, h10]
                  simp
                obtain ⟨f1, rfl⟩ : ∃ f1, f' = f1 + 1 := ⟨f' - 1, by omega⟩
                obtain ⟨g1, rfl⟩ : ∃ g1, g0 = g1 + 1 := ⟨g0 - 1, by omega⟩
                rw [scanGo_remark s f1 (p + q) here' b acc hq (broken_false hq hnb) (by omega), refGo_blank s g1 (p + q) acc hq (by rw [hdq, h10]; rfl)]
                have hnx := a3.next hq
                rw [hdq, h10] at hnx ⊢
                exact ih (p + q + 1) f1 g1 _ b acc (by omega) (by omega) (by omega) (by omega) (by omega) hnx
              · rw [scanGo_end s f' _ here' true b acc hq, refGo_end s g0 _ acc hq]
                have he : p + q = s.size := by omega
                have := a3.at_
                rw [he] at this
                rw [this]
          · by_cases ht : (tokOf (s.extract p s.size)).2.2 = 0
            · obtain ⟨hz, k, hk⟩ := tok_runs (s.extract p s.size) (by omega) ht
              have hk2 := runs_shift s p k 0 _ hk
              rw [Nat.add_zero] at hk2
              obtain ⟨_, _, k', hk3⟩ := hk2.first (by omega)
              have hts := tokOf_size (s.extract p s.size) (by omega)
              rw [hsz] at hts
              rw [scanGo_tok s f0 p here b acc hp hbf (by omega) h35 hbl ht, refGo_tok s g0 p acc hp hbl h35 ht, hsp.at_]
              obtain ⟨f', here', a1, a2, a3⟩ := scan_runs s (acc ++ [⟨(tokOf (s.extract p s.size)).1, s.extract p (p + (tokOf (s.extract p s.size)).2.1), here⟩]) (p + (tokOf (s.extract p s.size)).2.1) k' _ f0 _ false hk3 (by omega) (hsp.next hp)
              rw [a1]
              exact ih _ f' g0 here' _ _ (by omega) (by omega) (Nat.le_refl _) a2 (by omega) a3
            · rw [scanGo_fault s f0 p here b acc hp hbf (by omega) h35 hbl ht, refGo_fault s g0 p acc hp hbl h35 ht, hsp.at_]
    · obtain rfl : p = s.size := by omega
      rw [scanGo_end s f _ here false b acc hp, refGo_end s g _ acc hp, hsp.at_]

theorem scanOf_refOf (s : ByteArray) : scanOf s = refOf s := by
  unfold scanOf refOf
  split
  · rfl
  · exact scan_ref s s.size 0 s.size s.size (1, 1) 0 [] (by omega) (by omega) (by omega) (by omega) (by omega) (SpotAt.start s)
end Go.Proofs.YtbkjminjkjnkpaaGreatDoor

/- joustref01, the small functions: word, number, great, mark, remark, Where, Word. -/
namespace Go.Proofs.YtbkjminjkjnkpaaGreatDoor
open Go.RowKit Go.Lib

set_option maxHeartbeats 400000 in
theorem rdigit_any (r : Int) (w : World) :
    Calls Tryz.prog 40 #[.int .i32 r] w fun e w' => e = .returned (.bool (digB r)) ∧ w = w' := by
  by_cases h1 : (48 : Int) ≤ r <;> by_cases h2 : r ≤ 57
  all_goals
    go_enter Tryz.func40, Tryz.ntmps40
    go_wp2
    go_ret
    exact ⟨ret_bool (by simp [digB, h1, h2]), rfl⟩

def innerB (r : Int) : Bool := letB r || digB r
set_option maxHeartbeats 400000 in
theorem inner_any (r : Int) (w : World) (hlo : -2147483648 ≤ r) (hhi : r ≤ 2147483647) (hT : Tabs w) :
    Calls Tryz.prog 66 #[.int .i32 r] w fun e w' => e = .returned (.bool (innerB r)) ∧ Below w.heap.size w w' := by
  cases hl : letB r with
  | true =>
    have hi : Hid (innerB r = true) := by simp [innerB, hl, Hid]
    go_enter Tryz.func66, Tryz.ntmps66
    go_wp2_with fail
    refine (isLetter_yes _ _ hlo hhi hT hl).mono ?_
    rintro e w1 ⟨rfl, b1⟩
    go_wp2
    go_ret
    exact ⟨ret_bool (by rw [hi.out]), b1⟩
  | false =>
    have hi : Hid (innerB r = digB r) := by simp [innerB, hl, Hid]
    go_enter Tryz.func66, Tryz.ntmps66
    go_wp2_with fail
    refine (isLetter_no _ _ hlo hhi hT hl).mono ?_
    rintro e w1 ⟨rfl, b1⟩
    go_wp2_with fail
    refine (rdigit_any _ _).mono ?_
    rintro e w2 ⟨rfl, rfl⟩
    go_wp2
    go_ret
    exact ⟨ret_bool (by rw [hi.out]), b1⟩

theorem inner_eq (r : Int) (b : Bool) (h : innerB r = b) (w : World) (hlo : -2147483648 ≤ r) (hhi : r ≤ 2147483647) (hT : Tabs w) :
    Calls Tryz.prog 66 #[.int .i32 r] w fun e w' => e = .returned (.bool b) ∧ Below w.heap.size w w' := by
  subst h; exact inner_any r w hlo hhi hT

/-- The decoder, at a place of a text. -/
theorem decode_at_any (s : ByteArray) (pos : Nat) (h : pos < s.size) (w : World) (hT : Tabs w) :
    Calls Tryz.prog 36 #[.string (s.extract pos s.size)] w fun e w' => e = .returned (.tuple #[.int .i32 (Utf8.decode s pos).1, .int .i64 (Utf8.decode s pos).2]) ∧ Below w.heap.size w w' := by
  have hd : decodeGo (s.extract pos s.size) = Utf8.decode s pos := by
    unfold decodeGo
    rw [if_neg (by simp; omega)]
    have := tail_decode s pos 0
    simpa using this
  have := decode_any (s.extract pos s.size) w hT
  rw [hd] at this
  exact this

set_option maxHeartbeats 4000000 in
set_option maxRecDepth 100000 in
theorem rword_any (s : ByteArray) (w : World) (hs : s.size ≤ maxLen) (hT : Tabs w) :
    Calls Tryz.prog 39 #[.string s] w fun e w' => e = .returned (.tuple #[.int .i64 (wordOf s).1, .int .i64 (wordOf s).2]) ∧ Below w.heap.size w w' := by
  unfold maxLen at hs
  go_enter Tryz.func39, Tryz.ntmps39
  go_wp2
  go_loopw [4, 5, 6, 7] (fun vp vn vs vr wr => ∃ (pos fuel seen size runes : Nat), vp = .int .i64 pos ∧ vn = .int .i64 seen ∧ vs = .int .i64 size ∧ vr = .int .i64 runes ∧ Below w.heap.size w wr ∧
      wordGo s fuel pos seen size runes = wordOf s ∧ s.size ≤ pos + fuel ∧ pos ≤ s.size ∧ seen ≤ pos ∧ (seen = 0 ↔ pos = 0)) (fun vp _ _ _ _ => s.size - (RowKit.intOf vp).toNat)
  case atStart =>
    exact ⟨0, s.size, 0, 0, 0, rfl, rfl, rfl, rfl, Below.refl _ _, rfl, by omega, by omega, by omega, by omega⟩
  case round =>
    obtain ⟨pos, fuel, seen, size, runes, rfl, rfl, rfl, rfl, hbw, hgo, hfu, hpos, hsn, h00⟩ := hrel
    by_cases hp : pos < s.size
    · have hwd := width_pos s pos hp
      have hwf := decode_fits s pos hp
      have hd1 := decode_le s pos
      have hT2 := hT.below hbw
      have hdec := decode_at_any s pos hp wr hT2
      obtain ⟨f, rfl⟩ : ∃ f, fuel = f + 1 := ⟨fuel - 1, by omega⟩
      have hstop : wStop (pos == 0) (Utf8.decode s pos).1 = true → (size, runes) = wordOf s := fun h => by rw [← hgo, wordGo_stop _ _ _ _ _ _ h]
      have hmark : wStop (pos == 0) (Utf8.decode s pos).1 = false → (Utf8.decode s pos).1 = 45 → wordGo s f (pos + (Utf8.decode s pos).2) (seen + 1) size runes = wordOf s := fun h h2 => by rw [← hgo, wordGo_mark _ _ _ _ _ _ hp h h2]
      have hmore : wStop (pos == 0) (Utf8.decode s pos).1 = false → (Utf8.decode s pos).1 ≠ 45 → wordGo s f (pos + (Utf8.decode s pos).2) (seen + 1) (pos + (Utf8.decode s pos).2) (seen + 1) = wordOf s := fun h h2 => by rw [← hgo, wordGo_more _ _ _ _ _ _ hp h h2]
      clear hgo
      generalize (Utf8.decode s pos).1 = r at *
      generalize (Utf8.decode s pos).2 = n at *
      have HD := Lib.hid hdec
      have Hstop := Lib.hid hstop
      have Hmark := Lib.hid hmark
      have Hmore := Lib.hid hmore
      have H00 := Lib.hid h00
      clear hdec hstop hmark hmore h00
      have hI := fun (b : Bool) (h : innerB r = b) W hW => inner_eq (r : Int) b h W (by omega) (by omega) hW
      have HI := Lib.hid hI
      clear hI
      by_cases h65 : r = 65533
      · have hl : letB r = false := by rw [h65]; exact letB_err
        have hws : wStop (pos == 0) r = true := by rw [h65]; simp [wStop, letB_err, digB]
        have HG := Lib.hid (Hstop.out hws)
        have hin : innerB r = false := by rw [h65]; simp [innerB, letB_err, digB]
        have q1 : ((r : Int) == 65533) = true := by simp; omega
        have q9 : ((r : Int) != 45) = true := by simp; omega
        clear hws h65
        by_cases hn : n = 1
        · have q2 : ((n : Int) == 1) = true := by simp; omega
          clear hn
          go_wp2_with fail
          refine HD.out.mono ?_
          rintro e w1 ⟨rfl, b1⟩
          have T1 := hT2.below b1
          go_wp2
          go_ret2
          exact ⟨by rw [← HG.out]; rfl, (hbw.trans (b1.mono (by have := hbw.size; have := b1.size; omega)))⟩
        · have q2 : ((n : Int) == 1) = false := by simp; omega
          by_cases h0 : seen = 0
          · have q3 : ((seen : Int) == 0) = true := by simp; omega
            clear h0
            go_wp2_with fail
            refine HD.out.mono ?_
            rintro e w1 ⟨rfl, b1⟩
            have T1 := hT2.below b1
            go_wp2_with fail
            refine (isLetter_no _ _ (by omega) (by omega) T1 hl).mono ?_
            rintro e w2 ⟨rfl, b2⟩
            have T2 := T1.below b2
            go_wp2
            go_ret2
            exact ⟨by rw [← HG.out]; rfl, ((hbw.trans (b1.mono (by have := hbw.size; have := b1.size; have := b2.size; omega))).trans (b2.mono (by have := hbw.size; have := b1.size; have := b2.size; omega)))⟩
          · have q3 : ((seen : Int) == 0) = false := by simp; omega
            clear h0
            go_wp2_with fail
            refine HD.out.mono ?_
            rintro e w1 ⟨rfl, b1⟩
            have T1 := hT2.below b1
            go_wp2_with fail
            refine (HI.out false hin _ T1).mono ?_
            rintro e w3 ⟨rfl, b3⟩
            go_wp2
            go_ret2
            exact ⟨by rw [← HG.out]; rfl, ((hbw.trans (b1.mono (by have := hbw.size; have := b1.size; have := b3.size; omega))).trans (b3.mono (by have := hbw.size; have := b1.size; have := b3.size; omega)))⟩
      · have q1 : ((r : Int) == 65533) = false := by simp; omega
        clear h65
        by_cases h0 : seen = 0
        · have hpz : pos = 0 := H00.out.1 h0
          have q3 : ((seen : Int) == 0) = true := by simp; omega
          cases hl : letB r with
          | true =>
            have h45 : r ≠ 45 := fun e => by subst e; exact absurd hl (by rw [show letB ((45 : Nat) : Int) = false from letB_mark]; simp)
            have hws : wStop (pos == 0) r = false := by simp [wStop, hl]
            have HG := Lib.hid (Hmore.out hws h45)
            have hin : innerB r = true := by simp [innerB, hl]
            have q9 : ((r : Int) != 45) = true := by simp; omega
            clear hws h45 hpz h0
            go_wp2_with fail
            refine HD.out.mono ?_
            rintro e w1 ⟨rfl, b1⟩
            have T1 := hT2.below b1
            go_wp2_with fail
            refine (isLetter_yes _ _ (by omega) (by omega) T1 hl).mono ?_
            rintro e w2 ⟨rfl, b2⟩
            have T2 := T1.below b2
            go_wp2_with fail
            refine (HI.out true hin _ T2).mono ?_
            rintro e w3 ⟨rfl, b3⟩
            go_wp2
            go_roundw
            case rel => exact ⟨pos + n, f, seen + 1, pos + n, seen + 1, by go_num, by go_num, by go_num, by go_num, (((hbw.trans (b1.mono (by have := hbw.size; have := b1.size; have := b2.size; have := b3.size; omega))).trans (b2.mono (by have := hbw.size; have := b1.size; have := b2.size; have := b3.size; omega))).trans (b3.mono (by have := hbw.size; have := b1.size; have := b2.size; have := b3.size; omega))), HG.out, by omega, by omega, by omega, by omega⟩
            case measure => simp [RowKit.intOf]; omega
          | false =>
            have hws : wStop (pos == 0) r = true := by simp [wStop, hl, hpz]
            have HG := Lib.hid (Hstop.out hws)
            clear hws hpz h0
            go_wp2_with fail
            refine HD.out.mono ?_
            rintro e w1 ⟨rfl, b1⟩
            have T1 := hT2.below b1
            go_wp2_with fail
            refine (isLetter_no _ _ (by omega) (by omega) T1 hl).mono ?_
            rintro e w2 ⟨rfl, b2⟩
            have T2 := T1.below b2
            go_wp2
            go_ret2
            exact ⟨by rw [← HG.out]; rfl, ((hbw.trans (b1.mono (by have := hbw.size; have := b1.size; have := b2.size; omega))).trans (b2.mono (by have := hbw.size; have := b1.size; have := b2.size; omega)))⟩
        · have hpz : ¬ pos = 0 := fun e => h0 (H00.out.2 e)
          have q3 : ((seen : Int) == 0) = false := by simp; omega
          by_cases hin : innerB r = true
          · have h45 : r ≠ 45 := fun e => by subst e; exact absurd hin (by simp [innerB, letB_mark, digB])
            have hws : wStop (pos == 0) r = false := by
              have hi := hin
              simp only [innerB, Bool.or_eq_true] at hi
              rcases hi with hi | hi <;> simp [wStop, hi, hpz]
            have HG := Lib.hid (Hmore.out hws h45)
            have q9 : ((r : Int) != 45) = true := by simp; omega
            clear hws h45 hpz h0
            go_wp2_with fail
            refine HD.out.mono ?_
            rintro e w1 ⟨rfl, b1⟩
            have T1 := hT2.below b1
            go_wp2_with fail
            refine (HI.out true hin _ T1).mono ?_
            rintro e w3 ⟨rfl, b3⟩
            go_wp2
            go_roundw
            case rel => exact ⟨pos + n, f, seen + 1, pos + n, seen + 1, by go_num, by go_num, by go_num, by go_num, ((hbw.trans (b1.mono (by have := hbw.size; have := b1.size; have := b3.size; omega))).trans (b3.mono (by have := hbw.size; have := b1.size; have := b3.size; omega))), HG.out, by omega, by omega, by omega, by omega⟩
            case measure => simp [RowKit.intOf]; omega
          · have hin : innerB r = false := by simpa using hin
            have hl : letB r = false := by simp only [innerB, Bool.or_eq_false_iff] at hin; exact hin.1
            have hd : digB r = false := by simp only [innerB, Bool.or_eq_false_iff] at hin; exact hin.2
            by_cases h45 : r = 45
            · have hws : wStop (pos == 0) r = false := by simp [wStop, hpz, h45]
              have HG := Lib.hid (Hmark.out hws h45)
              have q9 : ((r : Int) != 45) = false := by simp; omega
              clear hws h45 hpz h0
              go_wp2_with fail
              refine HD.out.mono ?_
              rintro e w1 ⟨rfl, b1⟩
              have T1 := hT2.below b1
              go_wp2_with fail
              refine (HI.out false hin _ T1).mono ?_
              rintro e w3 ⟨rfl, b3⟩
              go_wp2
              go_roundw
              case rel => exact ⟨pos + n, f, seen + 1, size, runes, by go_num, by go_num, by go_num, by go_num, ((hbw.trans (b1.mono (by have := hbw.size; have := b1.size; have := b3.size; omega))).trans (b3.mono (by have := hbw.size; have := b1.size; have := b3.size; omega))), HG.out, by omega, by omega, by omega, by omega⟩
              case measure => simp [RowKit.intOf]; omega
            · have hws : wStop (pos == 0) r = true := by simp [wStop, hl, hd, show ((r : Int) == 45) = false from by simp; omega]
              have HG := Lib.hid (Hstop.out hws)
              have q9 : ((r : Int) != 45) = true := by simp; omega
              clear hws h45 hpz h0
              go_wp2_with fail
              refine HD.out.mono ?_
              rintro e w1 ⟨rfl, b1⟩
              have T1 := hT2.below b1
              go_wp2_with fail
              refine (HI.out false hin _ T1).mono ?_
              rintro e w3 ⟨rfl, b3⟩
              go_wp2
              go_ret2
              exact ⟨by rw [← HG.out]; rfl, ((hbw.trans (b1.mono (by have := hbw.size; have := b1.size; have := b3.size; omega))).trans (b3.mono (by have := hbw.size; have := b1.size; have := b3.size; omega)))⟩
    · have HG : Hid ((size, runes) = wordOf s) := by rw [← hgo, wordGo_end _ _ _ _ _ _ hp]; exact rfl
      clear hgo
      go_wp2
      go_ret2
      exact ⟨by rw [← HG.out]; rfl, hbw⟩
end Go.Proofs.YtbkjminjkjnkpaaGreatDoor

/- joustref01: number, great, mark, remark, Where, Word: what they answer. -/
namespace Go.Proofs.YtbkjminjkjnkpaaGreatDoor
open Go.RowKit Go.Lib

theorem byteAt_val (s : ByteArray) (i : Nat) (h : i < s.size) : (((s[i]'h).toNat : Nat) : Int) = (byteAt s i : Int) := by rw [byteAt_get s i h]

set_option maxHeartbeats 2000000 in
set_option maxRecDepth 100000 in
theorem rWhere_any (s : ByteArray) (at_ : Int) (w : World) (hs : s.size ≤ 4611686018427387000) (hT : Tabs w) :
    Calls Tryz.prog 37 #[.string s, .int .i64 at_] w fun e w' => e = .returned (.agg #[.int .i64 (whereOf s at_).1, .int .i64 (whereOf s at_).2]) ∧ Below w.heap.size w w' := by
  go_enter Tryz.func37, Tryz.ntmps37
  go_wp2
  go_loopw [6] (fun vp wr => ∃ (pos fuel : Nat) (here : Int × Int), vp = .int .i64 pos ∧ wr.heap[w.heap.size]? = some (.cells #[.int .i64 0, .int .i64 0] 29 (0, 0)) ∧
      wr.heap[w.heap.size + 1]? = some (.cells #[.int .i64 here.1, .int .i64 here.2] 29 (0, 0)) ∧ Below w.heap.size w wr ∧
      whereGo s fuel pos here at_ = whereOf s at_ ∧ s.size ≤ pos + fuel ∧ pos ≤ s.size ∧ (0 ≤ here.1 ∧ 0 ≤ here.2 ∧ here.1 ≤ pos + 1 ∧ here.2 ≤ pos + 1)) (fun vp _ => s.size - (RowKit.intOf vp).toNat)
  case atStart =>
    refine ⟨0, s.size, (1, 1), rfl, ?_, ?_, ((Below.refl _ w).alloc (Nat.le_refl _) _).alloc (by simp) _, rfl, by omega, by omega, by simp⟩
    · rw [Below.heap_alloc _ _ _ (by simp)]; exact heap_alloc_new w _
    · have := heap_alloc_new (w.alloc (.cells #[.int .i64 0, .int .i64 0] 29)) (.cells #[.int .i64 1, .int .i64 1] 29)
      simpa using this
  case round =>
    obtain ⟨pos, fuel, here, rfl, hR, hH, hbw, hgo, hfu, hpos, hh⟩ := hrel
    have c0 := cell_blk (i := 0) hH
    have c1 := cell_blk (i := 1) hH
    have f0 := free_blk (i := 0) hH
    have f1 := free_blk (i := 1) hH
    have e0 := cell_blk (i := 0) hR
    have e1 := cell_blk (i := 1) hR
    have d0 := free_blk (i := 0) hR
    have d1 := free_blk (i := 1) hR
    simp at c0 c1 e0 e1
    by_cases hp : pos < s.size
    · have hwd := width_pos s pos hp
      have hwf := decode_fits s pos hp
      have hd1 := decode_le s pos
      have hdec := decode_at_any s pos hp wr (hT.below hbw)
      obtain ⟨f, rfl⟩ : ∃ f, fuel = f + 1 := ⟨fuel - 1, by omega⟩
      have hg1 := whereGo_here s (f + 1) pos here at_
      have hg2 := whereGo_more s f pos here at_ hp
      have hnp := nextP_bd here (Utf8.decode s pos).1 pos hh
      have hne : nextP here (Utf8.decode s pos).1 = if ((Utf8.decode s pos).1 : Int) = 10 then (here.1 + 1, 1) else (here.1, here.2 + 1) := rfl
      rw [hgo] at hg1 hg2
      generalize nextP here (Utf8.decode s pos).1 = here' at *
      generalize (Utf8.decode s pos).1 = r at *
      generalize (Utf8.decode s pos).2 = n at *
      have HD := Lib.hid hdec
      have H1 := Lib.hid hg1
      have H2 := Lib.hid hg2
      have HE := Lib.hid hne
      clear hdec hg1 hg2 hgo hne
      by_cases hc : at_ < (pos : Int) + n
      · have HR := Lib.hid (H1.out hc)
        go_wp2_with fail
        refine HD.out.mono ?_
        rintro e w1 ⟨rfl, b1⟩
        have hH1 := (b1.block _ (heap_lt hH)).trans hH
        have hR1 := (b1.block _ (heap_lt hR)).trans hR
        have c0' := cell_blk (i := 0) hH1
        have c1' := cell_blk (i := 1) hH1
        have e0' := cell_blk (i := 0) hR1
        have e1' := cell_blk (i := 1) hR1
        have d0' := free_blk (i := 0) hR1
        have d1' := free_blk (i := 1) hR1
        simp at c0' c1' e0' e1'
        have hbw1 := hbw.trans (b1.mono hbw.size)
        go_wp2
        refine bodyPost_ret (v := .agg #[.int .i64 here.1, .int .i64 here.2]) (by simp [results, Tryz.results37, go_sem, c0', c1', e0', e1']) rfl ?_
        exact ⟨by rw [HR.out], (hbw1.setCell (p := ⟨w.heap.size, 0, none⟩) (Nat.le_refl _) _).setCell (p := ⟨w.heap.size, 1, none⟩) (Nat.le_refl _) _⟩
      · have HR := Lib.hid (H2.out hc)
        by_cases h10 : (r : Int) = 10
        · have HX : Hid (here' = (here.1 + 1, 1)) := by rw [HE.out, if_pos h10]; exact rfl
          have q : ((r : Int) == 10) = true := by simp; omega
          clear h10
          go_wp2_with fail
          refine HD.out.mono ?_
          rintro e w1 ⟨rfl, b1⟩
          have hH1 := (b1.block _ (heap_lt hH)).trans hH
          have hR1 := (b1.block _ (heap_lt hR)).trans hR
          have c0' := cell_blk (i := 0) hH1
          have c1' := cell_blk (i := 1) hH1
          have f0' := free_blk (i := 0) hH1
          have f1' := free_blk (i := 1) hH1
          simp at c0' c1'
          have hbw1 := hbw.trans (b1.mono hbw.size)
          go_wp2
          go_roundw
          case rel =>
            refine ⟨pos + n, f, here', by go_num, ?_, ?_, ?_, HR.out.symm, by omega, by omega, by omega⟩
            · rw [heap_set_far (by simp), heap_set_far (by simp), heap_set_far (by simp)]; exact hR1
            · rw [heap_set (heap_set (heap_set hH1 _) _) _, HX.out]; rfl
            · exact ((hbw1.setCell (p := ⟨w.heap.size + 1, 1, none⟩) (by simp) _).setCell (p := ⟨w.heap.size + 1, 0, none⟩) (by simp) _).setCell (p := ⟨w.heap.size + 1, 1, none⟩) (by simp) _
          case measure => simp [RowKit.intOf]; omega
        · have HX : Hid (here' = (here.1, here.2 + 1)) := by rw [HE.out, if_neg h10]; exact rfl
          have q : ((r : Int) == 10) = false := by simp; omega
          clear h10
          go_wp2_with fail
          refine HD.out.mono ?_
          rintro e w1 ⟨rfl, b1⟩
          have hH1 := (b1.block _ (heap_lt hH)).trans hH
          have hR1 := (b1.block _ (heap_lt hR)).trans hR
          have c0' := cell_blk (i := 0) hH1
          have c1' := cell_blk (i := 1) hH1
          have f0' := free_blk (i := 0) hH1
          have f1' := free_blk (i := 1) hH1
          simp at c0' c1'
          have hbw1 := hbw.trans (b1.mono hbw.size)
          go_wp2
          go_roundw
          case rel =>
            refine ⟨pos + n, f, here', by go_num, ?_, ?_, ?_, HR.out.symm, by omega, by omega, by omega⟩
            · rw [heap_set_far (by simp)]; exact hR1
            · rw [heap_set hH1 _, HX.out]; rfl
            · exact hbw1.setCell (p := ⟨w.heap.size + 1, 1, none⟩) (by simp) _
          case measure => simp [RowKit.intOf]; omega
    · have HR : Hid (here = whereOf s at_) := by rw [← hgo, whereGo_end _ _ _ _ _ hp]; exact rfl
      clear hgo
      go_wp2
      refine bodyPost_ret (v := .agg #[.int .i64 here.1, .int .i64 here.2]) (by simp [results, Tryz.results37, go_sem, c0, c1, e0, e1]) rfl ?_
      exact ⟨by rw [HR.out], (hbw.setCell (p := ⟨w.heap.size, 0, none⟩) (Nat.le_refl _) _).setCell (p := ⟨w.heap.size, 1, none⟩) (Nat.le_refl _) _⟩
end Go.Proofs.YtbkjminjkjnkpaaGreatDoor

/- joustref01: number, great, mark, remark: what they answer. -/
namespace Go.Proofs.YtbkjminjkjnkpaaGreatDoor
open Go.RowKit Go.Lib

theorem rdigit_eq (r : Int) (b : Bool) (h : digB r = b) (w : World) : Calls Tryz.prog 40 #[.int .i32 r] w fun e w' => e = .returned (.bool b) ∧ w = w' := by
  subst h; exact rdigit_any r w

set_option maxHeartbeats 1000000 in
theorem rnumber_any (s : ByteArray) (w : World) (hs : s.size ≤ maxLen) :
    Calls Tryz.prog 41 #[.string s] w fun e w' => e = .returned (.int .i64 (numOf s).1) ∧ Below w.heap.size w w' := by
  unfold maxLen at hs
  go_enter Tryz.func41, Tryz.ntmps41
  go_wp2
  go_loopw [3] (fun vp wr => ∃ (pos fuel v : Nat), vp = .int .i64 pos ∧ Below w.heap.size w wr ∧ numGo s fuel pos v = numOf s ∧ s.size ≤ pos + fuel ∧ pos ≤ s.size) (fun vp _ => s.size - (RowKit.intOf vp).toNat)
  case atStart => exact ⟨0, s.size, 0, rfl, Below.refl _ _, rfl, by omega, by omega⟩
  case round =>
    obtain ⟨pos, fuel, v, rfl, hbw, hgo, hfu, hpos⟩ := hrel
    by_cases hp : pos < s.size
    · obtain ⟨f, rfl⟩ : ∃ f, fuel = f + 1 := ⟨fuel - 1, by omega⟩
      have hbv := byteAt_val s pos hp
      have hlt := byteAt_lt s pos
      have hm := numGo_more s f pos v hp
      have hst := numGo_stop s (f + 1) pos v
      rw [hgo] at hm hst
      have HM := Lib.hid hm
      have HS := Lib.hid hst
      have HB := Lib.hid hbv
      clear hm hst hgo hbv
      generalize byteAt s pos = b at *
      cases hd : digB b with
      | true =>
        have HR := Lib.hid (HM.out hd)
        have hd' : digB ((s[pos]'hp).toNat : Int) = true := by rw [HB.out]; exact hd
        have HD := fun W => rdigit_eq ((s[pos]'hp).toNat : Int) true hd' W
        have HD := Lib.hid HD
        have h255 : ((s[pos]'hp).toNat : Int) ≤ 255 := by have := (s[pos]'hp).toNat_lt; omega
        clear hd hd'
        go_wp2_with (go_at_call 40; refine (HD.out _).mono ?_; rintro e w1 ⟨rfl, rfl⟩)
        go_roundw
        case rel => exact ⟨pos + 1, f, _, by go_num, hbw, HR.out.symm, by omega, by omega⟩
        case measure => simp [RowKit.intOf]; omega
      | false =>
        have HR := Lib.hid (HS.out hd)
        have hd' : digB ((s[pos]'hp).toNat : Int) = false := by rw [HB.out]; exact hd
        have HD := fun W => rdigit_eq ((s[pos]'hp).toNat : Int) false hd' W
        have HD := Lib.hid HD
        have h255 : ((s[pos]'hp).toNat : Int) ≤ 255 := by have := (s[pos]'hp).toNat_lt; omega
        clear hd hd'
        go_wp2_with (go_at_call 40; refine (HD.out _).mono ?_; rintro e w1 ⟨rfl, rfl⟩)
        go_ret
        exact ⟨ret_int' (by rw [HR.out]), hbw⟩
    · have HR : Hid ((pos, v) = numOf s) := by rw [← hgo, numGo_end _ _ _ _ hp]; exact rfl
      clear hgo
      go_wp2
      go_ret
      exact ⟨ret_int' (by rw [← HR.out]), hbw⟩

set_option maxHeartbeats 1000000 in
theorem rgreat_any (s : ByteArray) (w : World) (hs : s.size ≤ maxLen) (hd : ∀ i, i < s.size → digB (byteAt s i) = true) :
    Calls Tryz.prog 42 #[.string s] w fun e w' => e = .returned (.bool (decide (99999 < refVal s))) ∧ Below w.heap.size w w' := by
  unfold maxLen at hs
  have HDg := Lib.hid hd
  clear hd
  go_enter Tryz.func42, Tryz.ntmps42
  go_wp2
  go_loopw [3, 4] (fun vv vp wr => ∃ (pos fuel v : Nat), vv = .int .i64 v ∧ vp = .int .i64 pos ∧ Below w.heap.size w wr ∧ valGo s fuel pos v = refVal s ∧ s.size ≤ pos + fuel ∧ pos ≤ s.size ∧ v ≤ 100000) (fun _ vp _ => s.size - (RowKit.intOf vp).toNat)
  case atStart => exact ⟨0, s.size, 0, rfl, rfl, Below.refl _ _, rfl, by omega, by omega, by omega⟩
  case round =>
    obtain ⟨pos, fuel, v, rfl, rfl, hbw, hgo, hfu, hpos, hv⟩ := hrel
    by_cases hp : pos < s.size
    · obtain ⟨f, rfl⟩ : ∃ f, fuel = f + 1 := ⟨fuel - 1, by omega⟩
      have hbv := byteAt_val s pos hp
      have hdg := (digB_iff _).1 (HDg.out pos hp)
      have hm := valGo_more s f pos v hp
      have ha := addDigit_le v (byteAt s pos)
      have HA : Hid (addDigit v (byteAt s pos) = min (10 * v + (byteAt s pos - 48)) 100000) := rfl
      rw [hgo] at hm
      generalize addDigit v (byteAt s pos) = q at *
      generalize byteAt s pos = b at *
      have h48 : (48 : Int) ≤ ((s[pos]'hp).toNat : Int) := by rw [hbv]; exact hdg.1
      have h57 : ((s[pos]'hp).toNat : Int) ≤ 57 := by rw [hbv]; exact hdg.2
      have HM := Lib.hid hm
      have HB := Lib.hid hbv
      clear hm hgo hbv
      go_wp2
      go_roundw
      case rel => exact ⟨pos + 1, f, q, (by rw [HA.out, HB.out]; exact congrArg (Value.int .i64) (by omega)), by go_num, hbw, HM.out.symm, by omega, by omega, by omega⟩
      case measure => simp [RowKit.intOf]; omega
    · have HR : Hid (v = refVal s) := by rw [← hgo, valGo_end _ _ _ _ hp]; exact rfl
      clear hgo
      go_wp2
      go_ret
      exact ⟨ret_bool (by rw [← HR.out]; exact decide_eq_decide.2 (by omega)), hbw⟩

set_option maxHeartbeats 1000000 in
theorem rremark_any (s : ByteArray) (w : World) (hs : s.size ≤ maxLen) (hT : Tabs w) :
    Calls Tryz.prog 38 #[.string s] w fun e w' => e = .returned (.tuple #[.int .i64 (remOf s).1, .int .i64 (remOf s).2]) ∧ Below w.heap.size w w' := by
  unfold maxLen at hs
  go_enter Tryz.func38, Tryz.ntmps38
  go_wp2
  go_loopw [4] (fun vp wr => ∃ (pos fuel : Nat), vp = .int .i64 pos ∧ Below w.heap.size w wr ∧ remGo s fuel pos = remOf s ∧ s.size ≤ pos + fuel ∧ pos ≤ s.size) (fun vp _ => s.size - (RowKit.intOf vp).toNat)
  case atStart => exact ⟨0, s.size, rfl, Below.refl _ _, rfl, by omega, by omega⟩
  case round =>
    obtain ⟨pos, fuel, rfl, hbw, hgo, hfu, hpos⟩ := hrel
    by_cases hp : pos < s.size
    · obtain ⟨f, rfl⟩ : ∃ f, fuel = f + 1 := ⟨fuel - 1, by omega⟩
      have hbv := byteAt_val s pos hp
      have hwd := width_pos s pos hp
      have hwf := decode_fits s pos hp
      have hd1 := decode_le s pos
      have hdec := decode_at_any s pos hp wr (hT.below hbw)
      have he := remGo_end s (f + 1) pos
      have hb := remGo_bad s f pos
      have hm := remGo_more s f pos
      rw [hgo] at he hb hm
      have HB := Lib.hid hbv
      have HD := Lib.hid hdec
      have HE := Lib.hid he
      have HBad := Lib.hid hb
      have HM := Lib.hid hm
      clear hgo hbv hdec he hb hm
      generalize byteAt s pos = b at *
      generalize (Utf8.decode s pos).1 = r at *
      generalize (Utf8.decode s pos).2 = n at *
      by_cases h10 : b = 10
      · have q : (((s[pos]'hp).toNat : Int) != 10) = false := by rw [HB.out]; simp; omega
        have HR := Lib.hid (HE.out (fun h => h.2 h10))
        clear h10
        go_wp2
        go_ret2
        exact ⟨by rw [HR.out]; rfl, hbw⟩
      · have q : (((s[pos]'hp).toNat : Int) != 10) = true := by rw [HB.out]; simp; omega
        by_cases h65 : r = 65533
        · have q1 : ((r : Int) == 65533) = true := by simp; omega
          by_cases hn : n = 1
          · have q2 : ((n : Int) == 1) = true := by simp; omega
            have HR := Lib.hid (HBad.out ⟨hp, h10⟩ ⟨h65, hn⟩)
            clear h10 h65 hn
            go_wp2_with (go_at_call 36; refine HD.out.mono ?_; rintro e w1 ⟨rfl, b1⟩)
            go_ret2
            exact ⟨by rw [HR.out]; rfl, hbw.trans (b1.mono hbw.size)⟩
          · have q2 : ((n : Int) == 1) = false := by simp; omega
            have HR := Lib.hid (HM.out ⟨hp, h10⟩ (fun h => hn h.2))
            clear h10 h65 hn
            go_wp2_with (go_at_call 36; refine HD.out.mono ?_; rintro e w1 ⟨rfl, b1⟩)
            go_roundw
            case rel => exact ⟨pos + n, f, by go_num, hbw.trans (b1.mono hbw.size), HR.out.symm, by omega, by omega⟩
            case measure => simp [RowKit.intOf]; omega
        · have q1 : ((r : Int) == 65533) = false := by simp; omega
          have HR := Lib.hid (HM.out ⟨hp, h10⟩ (fun h => h65 h.1))
          clear h10 h65
          go_wp2_with (go_at_call 36; refine HD.out.mono ?_; rintro e w1 ⟨rfl, b1⟩)
          go_roundw
          case rel => exact ⟨pos + n, f, by go_num, hbw.trans (b1.mono hbw.size), HR.out.symm, by omega, by omega⟩
          case measure => simp [RowKit.intOf]; omega
    · have HR : Hid ((pos, -1) = remOf s) := by rw [← hgo, remGo_end _ _ _ (fun h => hp h.1)]; exact rfl
      clear hgo
      go_wp2
      go_ret2
      exact ⟨by rw [← HR.out]; rfl, hbw⟩

set_option maxHeartbeats 4000000 in
theorem rmark_any (r : Int) (w : World) :
    Calls Tryz.prog 44 #[.int .i32 r] w fun e w' => e = .returned (.bool (markR r)) ∧ w = w' := by
  have k0 : ((⟨#[123, 125, 40, 41, 58, 59, 43, 42, 60, 61, 45]⟩ : ByteArray)[0]'(by decide)).toNat = 123 := rfl
  have k1 : ((⟨#[123, 125, 40, 41, 58, 59, 43, 42, 60, 61, 45]⟩ : ByteArray)[1]'(by decide)).toNat = 125 := rfl
  have k2 : ((⟨#[123, 125, 40, 41, 58, 59, 43, 42, 60, 61, 45]⟩ : ByteArray)[2]'(by decide)).toNat = 40 := rfl
  have k3 : ((⟨#[123, 125, 40, 41, 58, 59, 43, 42, 60, 61, 45]⟩ : ByteArray)[3]'(by decide)).toNat = 41 := rfl
  have k4 : ((⟨#[123, 125, 40, 41, 58, 59, 43, 42, 60, 61, 45]⟩ : ByteArray)[4]'(by decide)).toNat = 58 := rfl
  have k5 : ((⟨#[123, 125, 40, 41, 58, 59, 43, 42, 60, 61, 45]⟩ : ByteArray)[5]'(by decide)).toNat = 59 := rfl
  have k6 : ((⟨#[123, 125, 40, 41, 58, 59, 43, 42, 60, 61, 45]⟩ : ByteArray)[6]'(by decide)).toNat = 43 := rfl
  have k7 : ((⟨#[123, 125, 40, 41, 58, 59, 43, 42, 60, 61, 45]⟩ : ByteArray)[7]'(by decide)).toNat = 42 := rfl
  have k8 : ((⟨#[123, 125, 40, 41, 58, 59, 43, 42, 60, 61, 45]⟩ : ByteArray)[8]'(by decide)).toNat = 60 := rfl
  have k9 : ((⟨#[123, 125, 40, 41, 58, 59, 43, 42, 60, 61, 45]⟩ : ByteArray)[9]'(by decide)).toNat = 61 := rfl
  have k10 : ((⟨#[123, 125, 40, 41, 58, 59, 43, 42, 60, 61, 45]⟩ : ByteArray)[10]'(by decide)).toNat = 45 := rfl
  by_cases h0 : r = 123
  · subst h0
    have HR : Hid (markR 123 = true) := rfl
    go_enter Tryz.func44, Tryz.ntmps44
    go_wp2
    refine wp_loop_rounds 1 ?_
    rw [rounds_succ]
    go_wp2
    go_ret
    exact ⟨ret_bool (by rw [HR.out]), rfl⟩
  by_cases h1 : r = 125
  · subst h1
    have HR : Hid (markR 125 = true) := rfl
    go_enter Tryz.func44, Tryz.ntmps44
    go_wp2
    refine wp_loop_rounds 2 ?_
    rw [rounds_succ]
    go_wp2
    rw [rounds_succ]
    go_wp2
    go_ret
    exact ⟨ret_bool (by rw [HR.out]), rfl⟩
  by_cases h2 : r = 40
  · subst h2
    have HR : Hid (markR 40 = true) := rfl
    go_enter Tryz.func44, Tryz.ntmps44
    go_wp2
    refine wp_loop_rounds 3 ?_
    rw [rounds_succ]
    go_wp2
    rw [rounds_succ]
    go_wp2
    rw [rounds_succ]
    go_wp2
    go_ret
    exact ⟨ret_bool (by rw [HR.out]), rfl⟩
  by_cases h3 : r = 41
  · subst h3
    have HR : Hid (markR 41 = true) := rfl
    go_enter Tryz.func44, Tryz.ntmps44
    go_wp2
    refine wp_loop_rounds 4 ?_
    rw [rounds_succ]
    go_wp2
    rw [rounds_succ]
    go_wp2
    rw [rounds_succ]
    go_wp2
    rw [rounds_succ]
    go_wp2
    go_ret
    exact ⟨ret_bool (by rw [HR.out]), rfl⟩
  by_cases h4 : r = 58
  · subst h4
    have HR : Hid (markR 58 = true) := rfl
    go_enter Tryz.func44, Tryz.ntmps44
    go_wp2
    refine wp_loop_rounds 5 ?_
    rw [rounds_succ]
    go_wp2
    rw [rounds_succ]
    go_wp2
    rw [rounds_succ]
    go_wp2
    rw [rounds_succ]
    go_wp2
    rw [rounds_succ]
    go_wp2
    go_ret
    exact ⟨ret_bool (by rw [HR.out]), rfl⟩
  by_cases h5 : r = 59
  · subst h5
    have HR : Hid (markR 59 = true) := rfl
    go_enter Tryz.func44, Tryz.ntmps44
    go_wp2
    refine wp_loop_rounds 6 ?_
    rw [rounds_succ]
    go_wp2
    rw [rounds_succ]
    go_wp2
    rw [rounds_succ]
    go_wp2
    rw [rounds_succ]
    go_wp2
    rw [rounds_succ]
    go_wp2
    rw [rounds_succ]
    go_wp2
    go_ret
    exact ⟨ret_bool (by rw [HR.out]), rfl⟩
  by_cases h6 : r = 43
  · subst h6
    have HR : Hid (markR 43 = true) := rfl
    go_enter Tryz.func44, Tryz.ntmps44
    go_wp2
    refine wp_loop_rounds 7 ?_
    rw [rounds_succ]
    go_wp2
    rw [rounds_succ]
    go_wp2
    rw [rounds_succ]
    go_wp2
    rw [rounds_succ]
    go_wp2
    rw [rounds_succ]
    go_wp2
    rw [rounds_succ]
    go_wp2
    rw [rounds_succ]
    go_wp2
    go_ret
    exact ⟨ret_bool (by rw [HR.out]), rfl⟩
  by_cases h7 : r = 42
  · subst h7
    have HR : Hid (markR 42 = true) := rfl
    go_enter Tryz.func44, Tryz.ntmps44
    go_wp2
    refine wp_loop_rounds 8 ?_
    rw [rounds_succ]
    go_wp2
    rw [rounds_succ]
    go_wp2
    rw [rounds_succ]
    go_wp2
    rw [rounds_succ]
    go_wp2
    rw [rounds_succ]
    go_wp2
    rw [rounds_succ]
    go_wp2
    rw [rounds_succ]
    go_wp2
    rw [rounds_succ]
    go_wp2
    go_ret
    exact ⟨ret_bool (by rw [HR.out]), rfl⟩
  by_cases h8 : r = 60
  · subst h8
    have HR : Hid (markR 60 = true) := rfl
    go_enter Tryz.func44, Tryz.ntmps44
    go_wp2
    refine wp_loop_rounds 9 ?_
    rw [rounds_succ]
    go_wp2
    rw [rounds_succ]
    go_wp2
    rw [rounds_succ]
    go_wp2
    rw [rounds_succ]
    go_wp2
    rw [rounds_succ]
    go_wp2
    rw [rounds_succ]
    go_wp2
    rw [rounds_succ]
    go_wp2
    rw [rounds_succ]
    go_wp2
    rw [rounds_succ]
    go_wp2
    go_ret
    exact ⟨ret_bool (by rw [HR.out]), rfl⟩
  by_cases h9 : r = 61
  · subst h9
    have HR : Hid (markR 61 = true) := rfl
    go_enter Tryz.func44, Tryz.ntmps44
    go_wp2
    refine wp_loop_rounds 10 ?_
    rw [rounds_succ]
    go_wp2
    rw [rounds_succ]
    go_wp2
    rw [rounds_succ]
    go_wp2
    rw [rounds_succ]
    go_wp2
    rw [rounds_succ]
    go_wp2
    rw [rounds_succ]
    go_wp2
    rw [rounds_succ]
    go_wp2
    rw [rounds_succ]
    go_wp2
    rw [rounds_succ]
    go_wp2
    rw [rounds_succ]
    go_wp2
    go_ret
    exact ⟨ret_bool (by rw [HR.out]), rfl⟩
  by_cases h10 : r = 45
  · subst h10
    have HR : Hid (markR 45 = true) := rfl
    go_enter Tryz.func44, Tryz.ntmps44
    go_wp2
    refine wp_loop_rounds 11 ?_
    rw [rounds_succ]
    go_wp2
    rw [rounds_succ]
    go_wp2
    rw [rounds_succ]
    go_wp2
    rw [rounds_succ]
    go_wp2
    rw [rounds_succ]
    go_wp2
    rw [rounds_succ]
    go_wp2
    rw [rounds_succ]
    go_wp2
    rw [rounds_succ]
    go_wp2
    rw [rounds_succ]
    go_wp2
    rw [rounds_succ]
    go_wp2
    rw [rounds_succ]
    go_wp2
    go_ret
    exact ⟨ret_bool (by rw [HR.out]), rfl⟩
  have HR : Hid (markR r = false) := by simp [markR, Hid, h0, h1, h2, h3, h4, h5, h6, h7, h8, h9, h10]
  have q0 : (((123 : Int)) == r) = false := by simp; omega
  have q1 : (((125 : Int)) == r) = false := by simp; omega
  have q2 : (((40 : Int)) == r) = false := by simp; omega
  have q3 : (((41 : Int)) == r) = false := by simp; omega
  have q4 : (((58 : Int)) == r) = false := by simp; omega
  have q5 : (((59 : Int)) == r) = false := by simp; omega
  have q6 : (((43 : Int)) == r) = false := by simp; omega
  have q7 : (((42 : Int)) == r) = false := by simp; omega
  have q8 : (((60 : Int)) == r) = false := by simp; omega
  have q9 : (((61 : Int)) == r) = false := by simp; omega
  have q10 : (((45 : Int)) == r) = false := by simp; omega
  clear h0 h1 h2 h3 h4 h5 h6 h7 h8 h9 h10
  go_enter Tryz.func44, Tryz.ntmps44
  go_wp2
  refine wp_loop_rounds 12 ?_
  rw [rounds_succ]
  go_wp2
  rw [rounds_succ]
  go_wp2
  rw [rounds_succ]
  go_wp2
  rw [rounds_succ]
  go_wp2
  rw [rounds_succ]
  go_wp2
  rw [rounds_succ]
  go_wp2
  rw [rounds_succ]
  go_wp2
  rw [rounds_succ]
  go_wp2
  rw [rounds_succ]
  go_wp2
  rw [rounds_succ]
  go_wp2
  rw [rounds_succ]
  go_wp2
  rw [rounds_succ]
  go_wp2
  go_ret
  exact ⟨ret_bool (by rw [HR.out]), rfl⟩
end Go.Proofs.YtbkjminjkjnkpaaGreatDoor
