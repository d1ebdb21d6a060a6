/- Layer 1 (scan), plain: the tokens of a text, rune by rune. -/
import Derived.Test.YtanbkgifjlobgaaDoorNumMath
import Derived.Test.YtanbkgifjlobgaaDoorTokenAt
namespace Go.Proofs.YtanbkgifjlobgaaDoor
open Go.RowKit Go.Lib

structure Tok where
  kind : Nat
  text : ByteArray
  spot : Int × Int

def Tok.cells (t : Tok) : List Value := [.int .u8 t.kind, .string t.text, .int .i64 t.spot.1, .int .i64 t.spot.2]
def toksCells (l : List Tok) : List Value := l.flatMap Tok.cells
theorem toksCells_len (l : List Tok) : (toksCells l).length = l.length * 4 := by
  induction l with
  | nil => rfl
  | cons t l ih => simp only [toksCells, List.flatMap_cons, List.length_append, List.length_cons] at ih ⊢; rw [ih]; simp [Tok.cells]; omega
theorem toksCells_snoc (l : List Tok) (t : Tok) : toksCells (l ++ [t]) = toksCells l ++ t.cells := by simp [toksCells]
theorem toksCells_one (l : List Tok) : ∀ u ∈ toksCells l, u.oneCell' = true := by
  intro u hu
  simp only [toksCells, List.mem_flatMap] at hu
  obtain ⟨t, _, hu⟩ := hu
  simp [Tok.cells] at hu
  rcases hu with rfl | rfl | rfl | rfl <;> rfl

/-- A list of tokens, or a fault: its number, its spot. -/
abbrev Toks := List Tok × Nat × (Int × Int)

def endTok (here : Int × Int) : Tok := ⟨0, ⟨#[]⟩, here⟩

def scanGo (s : ByteArray) : Nat → Nat → Int × Int → Bool → Nat → List Tok → Toks
  | 0, _, here, _, _, acc => (acc ++ [endTok here], 0, (0, 0))
  | f + 1, pos, here, remark, behind, acc =>
    if pos < s.size then
      if brokenB (s.extract pos s.size) (Utf8.decode s pos).1 then ([], 4, here)
      else if pos < behind then scanGo s f (pos + (Utf8.decode s pos).2) (nextP here (Utf8.decode s pos).1) remark behind acc
      else if remark then scanGo s f (pos + (Utf8.decode s pos).2) (nextP here (Utf8.decode s pos).1) (((Utf8.decode s pos).1 : Int) != 10) behind acc
      else if (Utf8.decode s pos).1 = 35 then scanGo s f (pos + (Utf8.decode s pos).2) (nextP here (Utf8.decode s pos).1) true behind acc
      else if blankB (Utf8.decode s pos).1 then scanGo s f (pos + (Utf8.decode s pos).2) (nextP here (Utf8.decode s pos).1) false behind acc
      else if (tokOf (s.extract pos s.size)).2.2 = 0 then
        scanGo s f (pos + (Utf8.decode s pos).2) (nextP here (Utf8.decode s pos).1) false (pos + (tokOf (s.extract pos s.size)).2.1)
          (acc ++ [⟨(tokOf (s.extract pos s.size)).1, s.extract pos (pos + (tokOf (s.extract pos s.size)).2.1), here⟩])
      else ([], (tokOf (s.extract pos s.size)).2.2, here)
    else (acc ++ [endTok here], 0, (0, 0))

/-- What scan.Tokens answers. -/
def scanOf (s : ByteArray) : Toks := if 65536 < s.size then ([], 3, (1, 1)) else scanGo s s.size 0 (1, 1) false 0 []

section
variable (s : ByteArray) (f pos : Nat) (here : Int × Int) (remark : Bool) (behind : Nat) (acc : List Tok)
theorem scanGo_end (h : ¬ pos < s.size) : scanGo s f pos here remark behind acc = (acc ++ [endTok here], 0, (0, 0)) := by
  cases f <;> simp [scanGo, h]
theorem scanGo_broken (hp : pos < s.size) (hb : brokenB (s.extract pos s.size) (Utf8.decode s pos).1 = true) : scanGo s (f + 1) pos here remark behind acc = ([], 4, here) := by
  conv => lhs; unfold scanGo
  rw [if_pos hp, if_pos hb]
theorem scanGo_in (hp : pos < s.size) (hb : brokenB (s.extract pos s.size) (Utf8.decode s pos).1 = false) (h1 : pos < behind) :
    scanGo s (f + 1) pos here remark behind acc = scanGo s f (pos + (Utf8.decode s pos).2) (nextP here (Utf8.decode s pos).1) remark behind acc := by
  conv => lhs; unfold scanGo
  rw [if_pos hp, if_neg (by simp [hb]), if_pos h1]
theorem scanGo_remark (hp : pos < s.size) (hb : brokenB (s.extract pos s.size) (Utf8.decode s pos).1 = false) (h1 : ¬ pos < behind) :
    scanGo s (f + 1) pos here true behind acc = scanGo s f (pos + (Utf8.decode s pos).2) (nextP here (Utf8.decode s pos).1) (((Utf8.decode s pos).1 : Int) != 10) behind acc := by
  conv => lhs; unfold scanGo
  rw [if_pos hp, if_neg (by simp [hb]), if_neg h1, if_pos rfl]
theorem scanGo_hash (hp : pos < s.size) (hb : brokenB (s.extract pos s.size) (Utf8.decode s pos).1 = false) (h1 : ¬ pos < behind) (h2 : (Utf8.decode s pos).1 = 35) :
    scanGo s (f + 1) pos here false behind acc = scanGo s f (pos + (Utf8.decode s pos).2) (nextP here (Utf8.decode s pos).1) true behind acc := by
  conv => lhs; unfold scanGo
  rw [if_pos hp, if_neg (by simp [hb]), if_neg h1, if_neg (by simp), if_pos h2]
theorem scanGo_blank (hp : pos < s.size) (hb : brokenB (s.extract pos s.size) (Utf8.decode s pos).1 = false) (h1 : ¬ pos < behind) (h2 : (Utf8.decode s pos).1 ≠ 35) (h3 : blankB (Utf8.decode s pos).1 = true) :
    scanGo s (f + 1) pos here false behind acc = scanGo s f (pos + (Utf8.decode s pos).2) (nextP here (Utf8.decode s pos).1) false behind acc := by
  conv => lhs; unfold scanGo
  rw [if_pos hp, if_neg (by simp [hb]), if_neg h1, if_neg (by simp), if_neg h2, if_pos h3]
theorem scanGo_tok (hp : pos < s.size) (hb : brokenB (s.extract pos s.size) (Utf8.decode s pos).1 = false) (h1 : ¬ pos < behind) (h2 : (Utf8.decode s pos).1 ≠ 35) (h3 : blankB (Utf8.decode s pos).1 = false)
    (h4 : (tokOf (s.extract pos s.size)).2.2 = 0) :
    scanGo s (f + 1) pos here false behind acc = scanGo s f (pos + (Utf8.decode s pos).2) (nextP here (Utf8.decode s pos).1) false (pos + (tokOf (s.extract pos s.size)).2.1)
      (acc ++ [⟨(tokOf (s.extract pos s.size)).1, s.extract pos (pos + (tokOf (s.extract pos s.size)).2.1), here⟩]) := by
  conv => lhs; unfold scanGo
  rw [if_pos hp, if_neg (by simp [hb]), if_neg h1, if_neg (by simp), if_neg h2, if_neg (by simp [h3]), if_pos h4]
theorem scanGo_fault (hp : pos < s.size) (hb : brokenB (s.extract pos s.size) (Utf8.decode s pos).1 = false) (h1 : ¬ pos < behind) (h2 : (Utf8.decode s pos).1 ≠ 35) (h3 : blankB (Utf8.decode s pos).1 = false)
    (h4 : (tokOf (s.extract pos s.size)).2.2 ≠ 0) :
    scanGo s (f + 1) pos here false behind acc = ([], (tokOf (s.extract pos s.size)).2.2, here) := by
  conv => lhs; unfold scanGo
  rw [if_pos hp, if_neg (by simp [hb]), if_neg h1, if_neg (by simp), if_neg h2, if_neg (by simp [h3]), if_neg h4]
end

theorem tokOf_size (s : ByteArray) (h : 0 < s.size) : (tokOf s).2.1 ≤ s.size := by
  have h1 := (wordOf_le s).1
  have h2 := (numOf_le s).1
  unfold tokOf
  repeat' split
  all_goals simp
  all_goals omega
theorem tokOf_kind (s : ByteArray) : (tokOf s).1 ≤ 3 := by
  unfold tokOf
  repeat' split
  all_goals simp
theorem nextP_bd (h : Int × Int) (r : Int) (k : Nat) (h1 : 0 ≤ h.1 ∧ 0 ≤ h.2 ∧ h.1 ≤ k + 1 ∧ h.2 ≤ k + 1) : 0 ≤ (nextP h r).1 ∧ 0 ≤ (nextP h r).2 ∧ (nextP h r).1 ≤ k + 2 ∧ (nextP h r).2 ≤ k + 2 := by
  unfold nextP
  split <;> simp <;> omega
end Go.Proofs.YtanbkgifjlobgaaDoor
