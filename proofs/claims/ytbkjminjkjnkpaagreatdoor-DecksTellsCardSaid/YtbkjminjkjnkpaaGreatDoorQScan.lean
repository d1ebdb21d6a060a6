import Derived.Test.YtbkjminjkjnkpaaGreatDoorShelf
import Derived.Test.YtbkjminjkjnkpaaGreatDoorRows
import Derived.WalkSmall
import Derived.Lib.IsU
import Derived.WalkKit
import Derived.WalkSpells
import Derived.WalkLawsBesides
import Derived.Deep.QuietTactic
import Derived.BigQuiet
import Derived.Lib.Hide
import Derived.Lib.RuneCountTail
import Derived.Lib.IndexBytes
import Derived.BigCall
import Derived.Deep.AppendLies
import Derived.Deep.RegionHeld3
import Derived.Deep.DeepCutAuto
import Derived.RegionTactic
import Derived.ChangeAlike
import Derived.BigRegion
/- What the calls ask of the world: Go's tables of letters and of UTF-8, where the program lays them; kept while new memory is made. -/
namespace Go.Proofs.YtbkjminjkjnkpaaGreatDoor
open Go.RowKit Go.Lib

theorem cell_later {w wx : World} {a : Addr} {v : Value} (hb : Below w.heap.size w wx) (h : w.cell? a = some v) : wx.cell? a = some v := (hb.cell (World.block_lt_of_cell? _ _ h)).trans h

structure Tabs (w : World) : Prop where
  props : Lib.TabIs Tryz.prog w "unicode.properties" .u8 Lib.propertiesTab
  letters : RVar 1 letterT w
  utf8 : Utf8Tabs 2 3 w
  size : 4 ≤ w.heap.size

theorem g_props : Tryz.prog.globalNamed "unicode.properties" = some 0 := by kernel_rfl

theorem Tabs.below {w w' : World} (h : Tabs w) (hb : Below w.heap.size w w') : Tabs w' := by
  obtain ⟨hp, ⟨Tb, oT, h0, a16, a32, R16, o16, c16, R32, o32, c32, h1, h2, h3, h4, h5, h6, h7, h8⟩, ⟨h9, h10⟩, hz⟩ := h
  refine ⟨var?_below hb g_props (by omega) hp, ⟨Tb, oT, cell_later hb h0, a16, a32, R16, o16, c16, R32, o32, c32, cell_later hb h1, cell_later hb h2, cell_later hb h3, h4, h5, ?_, ?_, h8⟩, ⟨?_, ?_⟩, ?_⟩
  · intro i hi
    obtain ⟨x, y, z⟩ := h6 i hi
    exact ⟨cell_later hb x, cell_later hb y, cell_later hb z⟩
  · intro i hi
    obtain ⟨x, y, z⟩ := h7 i hi
    exact ⟨cell_later hb x, cell_later hb y, cell_later hb z⟩
  · intro c hc
    exact cell_later hb (h9 c hc)
  · intro i hi
    exact ⟨cell_later hb (h10 i hi).1, cell_later hb (h10 i hi).2⟩
  · exact Nat.le_trans hz hb.size

def letB (r : Int) : Bool := if latin1 r then isLetterL r else exclGo letterT r

theorem letB_mark : letB 45 = false := by kernel_rfl
theorem letB_err : letB 65533 = false := by kernel_rfl

theorem isLetter_any (r : Int) (w : World) (hlo : -2147483648 ≤ r) (hhi : r ≤ 2147483647) (hT : Tabs w) :
    Calls Tryz.prog 43 #[.int .i32 r] w fun e w' => e = .returned (.bool (letB r)) ∧ Below w.heap.size w w' :=
  Tryz.unicode_IsLetter_any letterT r w hlo hhi hT.props hT.letters letterT_ok

theorem isLetter_yes (r : Int) (w : World) (hlo : -2147483648 ≤ r) (hhi : r ≤ 2147483647) (hT : Tabs w) (h : letB r = true) :
    Calls Tryz.prog 43 #[.int .i32 r] w fun e w' => e = .returned (.bool true) ∧ Below w.heap.size w w' := by
  rw [← h]; exact isLetter_any r w hlo hhi hT
theorem isLetter_no (r : Int) (w : World) (hlo : -2147483648 ≤ r) (hhi : r ≤ 2147483647) (hT : Tabs w) (h : letB r = false) :
    Calls Tryz.prog 43 #[.int .i32 r] w fun e w' => e = .returned (.bool false) ∧ Below w.heap.size w w' := by
  rw [← h]; exact isLetter_any r w hlo hhi hT
theorem decode_any (s : ByteArray) (w : World) (hT : Tabs w) :
    Calls Tryz.prog 36 #[.string s] w fun e w' => e = .returned (.tuple #[.int .i32 (decodeGo s).1, .int .i64 (decodeGo s).2]) ∧ Below w.heap.size w w' :=
  Tryz.utf8_DecodeRuneInString s w hT.utf8
end Go.Proofs.YtbkjminjkjnkpaaGreatDoor

/- Small functions of layer 1 (scan): what each call answers. -/
namespace Go.Proofs.YtbkjminjkjnkpaaGreatDoor
open Go.RowKit

def digB (r : Int) : Bool := decide (48 ≤ r) && decide (r ≤ 57)
def blankB (r : Int) : Bool := decide (r = 32) || decide (r = 9) || decide (r = 13) || decide (r = 10)

theorem ret_bool {a b : Bool} (h : a = b) : Ending.returned (.bool a) = .returned (.bool b) := by rw [h]

set_option maxHeartbeats 400000 in
theorem digit_any (r : Int) (w : World) :
    Calls Tryz.prog 73 #[.int .i32 r] w fun e w' => e = .returned (.bool (digB r)) ∧ w = w' := by
  by_cases h1 : (48 : Int) ≤ r <;> by_cases h2 : r ≤ 57
  all_goals
    go_enter Tryz.func73, Tryz.ntmps73
    go_wp2
    go_ret
    exact ⟨ret_bool (by simp [digB, h1, h2]), rfl⟩

theorem digit_yes (r : Int) (w : World) (h : digB r = true) :
    Calls Tryz.prog 73 #[.int .i32 r] w fun e w' => e = .returned (.bool true) ∧ w = w' := by
  rw [← h]; exact digit_any r w
theorem digit_no (r : Int) (w : World) (h : digB r = false) :
    Calls Tryz.prog 73 #[.int .i32 r] w fun e w' => e = .returned (.bool false) ∧ w = w' := by
  rw [← h]; exact digit_any r w

set_option maxHeartbeats 400000 in
theorem blank_any (r : Int) (w : World) :
    Calls Tryz.prog 30 #[.int .i32 r] w fun e w' => e = .returned (.bool (blankB r)) ∧ w = w' := by
  by_cases h1 : r = 32
  · subst h1
    go_enter Tryz.func30, Tryz.ntmps30
    go_wp2
    go_ret
    exact ⟨ret_bool (by rfl), rfl⟩
  by_cases h2 : r = 9
  · subst h2
    go_enter Tryz.func30, Tryz.ntmps30
    go_wp2
    go_ret
    exact ⟨ret_bool (by rfl), rfl⟩
  by_cases h3 : r = 13
  · subst h3
    go_enter Tryz.func30, Tryz.ntmps30
    go_wp2
    go_ret
    exact ⟨ret_bool (by rfl), rfl⟩
  by_cases h4 : r = 10
  · subst h4
    go_enter Tryz.func30, Tryz.ntmps30
    go_wp2
    go_ret
    exact ⟨ret_bool (by rfl), rfl⟩
  · have e1 : (r == 32) = false := by simpa using h1
    have e2 : (r == 9) = false := by simpa using h2
    have e3 : (r == 13) = false := by simpa using h3
    have e4 : (r == 10) = false := by simpa using h4
    have e : blankB r = false := by simp [blankB, h1, h2, h3, h4]
    clear h1 h2 h3 h4
    have E := Lib.hid e
    clear e
    go_enter Tryz.func30, Tryz.ntmps30
    go_wp2
    go_ret
    exact ⟨ret_bool (by rw [E.out]), rfl⟩

def spotV (p : Int × Int) : Value := .agg #[.int .i64 p.1, .int .i64 p.2]
def nextP (p : Int × Int) (r : Int) : Int × Int := if r = 10 then (p.1 + 1, 1) else (p.1, p.2 + 1)

set_option maxHeartbeats 400000 in
theorem beginning_any (w : World) :
    Calls Tryz.prog 28 #[] w fun e w' => e = .returned (.agg #[.int .i64 1, .int .i64 1]) ∧ Below w.heap.size w w' := by
  go_enter Tryz.func28, Tryz.ntmps28
  go_wp2
  refine bodyPost_ret (v := .agg #[.int .i64 1, .int .i64 1]) (by simp [results, Tryz.results28, go_sem]) rfl ⟨rfl, ?_⟩
  exact (Below.refl _ _).alloc (Nat.le_refl _) _

set_option maxHeartbeats 400000 in
theorem next_any (l c r : Int) (w : World) (hl0 : 0 ≤ l) (hl : l ≤ 4611686018427387904) (hc0 : 0 ≤ c) (hc : c ≤ 4611686018427387904) :
    Calls Tryz.prog 33 #[.agg #[.int .i64 l, .int .i64 c], .int .i32 r] w fun e w' => e = .returned (.agg #[.int .i64 (nextP (l, c) r).1, .int .i64 (nextP (l, c) r).2]) ∧ Below w.heap.size w w' := by
  by_cases h : r = 10
  · subst h
    go_enter Tryz.func33, Tryz.ntmps33
    go_wp2
    refine bodyPost_ret (v := .agg #[.int .i64 (l + 1), .int .i64 1]) (by simp [results, Tryz.results33, go_sem]) rfl ⟨rfl, ?_⟩
    exact ((Below.refl _ _).alloc (Nat.le_refl _) _).alloc (by simp) _
  · have e : (r == 10) = false := by simpa using h
    have E : Hid (nextP (l, c) r = (l, c + 1)) := by simp [nextP, h, Hid]
    clear h
    go_enter Tryz.func33, Tryz.ntmps33
    go_wp2
    rw [E.out]
    refine bodyPost_ret (v := .agg #[.int .i64 l, .int .i64 (c + 1)]) (by simp [results, Tryz.results33, go_sem]) rfl ⟨rfl, ?_⟩
    exact ((Below.refl _ _).alloc (Nat.le_refl _) _).alloc (by simp) _
end Go.Proofs.YtbkjminjkjnkpaaGreatDoor

/- Layer 1 (scan), plain: words and numbers at the beginning of a text, by the decoder of the model. -/
namespace Go.Proofs.YtbkjminjkjnkpaaGreatDoor
open Go.RowKit Go.Lib

theorem width_pos (s : ByteArray) (pos : Nat) (h : pos < s.size) : 1 ≤ (Utf8.decode s pos).2 := by
  by_cases ha : (s[pos]'h).toNat < 128
  · rw [decode_ascii s pos h ha]
    exact Nat.le_refl _
  · exact (decode_high s pos h (by omega)).2

theorem decode_fits (s : ByteArray) (pos : Nat) (h : pos < s.size) : pos + (Utf8.decode s pos).2 ≤ s.size := by
  rw [decode_at]
  unfold decodeN
  repeat' split
  all_goals simp_all
  all_goals omega

theorem decode_len (s : ByteArray) (pos : Nat) (h : (Utf8.decode s pos).1 ≠ 65533) : Lib.runeLen ((Utf8.decode s pos).1 : Int) = ((Utf8.decode s pos).2 : Int) := by
  have h0 := (s.get! pos).toNat_lt
  have h1 := (s.get! (pos + 1)).toNat_lt
  have h2 := (s.get! (pos + 2)).toNat_lt
  have h3 := (s.get! (pos + 3)).toNat_lt
  rw [decode_at] at h ⊢
  revert h
  generalize (s.get! pos).toNat = b0 at *
  generalize (s.get! (pos + 1)).toNat = b1 at *
  generalize (s.get! (pos + 2)).toNat = b2 at *
  generalize (s.get! (pos + 3)).toNat = b3 at *
  unfold decodeN
  repeat' split
  all_goals intro h
  all_goals first | exact absurd rfl h | skip
  all_goals (unfold runeLen; simp only [])
  all_goals (repeat' split)
  all_goals omega

/-- Does a word end ahead of this rune (is it the first one)? -/
def wStop (first : Bool) (r : Int) : Bool := !letB r && (first || (!(r == 45) && !digB r))

def wordGo (s : ByteArray) : Nat → Nat → Nat → Nat → Nat → Nat × Nat
  | 0, _, _, size, runes => (size, runes)
  | f + 1, pos, seen, size, runes =>
    if pos < s.size then
      if wStop (pos == 0) (Utf8.decode s pos).1 then (size, runes)
      else wordGo s f (pos + (Utf8.decode s pos).2) (seen + 1) (if (Utf8.decode s pos).1 = 45 then size else pos + (Utf8.decode s pos).2) (if (Utf8.decode s pos).1 = 45 then runes else seen + 1)
    else (size, runes)
def wordOf (s : ByteArray) : Nat × Nat := wordGo s s.size 0 0 0 0

theorem wordGo_end (s : ByteArray) (f pos seen size runes : Nat) (h : ¬ pos < s.size) : wordGo s f pos seen size runes = (size, runes) := by
  cases f <;> simp [wordGo, h]
theorem wordGo_stop (s : ByteArray) (f pos seen size runes : Nat) (h : wStop (pos == 0) (Utf8.decode s pos).1 = true) : wordGo s f pos seen size runes = (size, runes) := by
  cases f with
  | zero => rfl
  | succ f => unfold wordGo; rw [h]; simp
theorem wordGo_mark (s : ByteArray) (f pos seen size runes : Nat) (hp : pos < s.size) (h : wStop (pos == 0) (Utf8.decode s pos).1 = false) (h45 : (Utf8.decode s pos).1 = 45) :
    wordGo s (f + 1) pos seen size runes = wordGo s f (pos + (Utf8.decode s pos).2) (seen + 1) size runes := by
  conv => lhs; unfold wordGo
  rw [if_pos hp, h, if_neg (by simp), if_pos h45, if_pos h45]
theorem wordGo_more (s : ByteArray) (f pos seen size runes : Nat) (hp : pos < s.size) (h : wStop (pos == 0) (Utf8.decode s pos).1 = false) (h45 : (Utf8.decode s pos).1 ≠ 45) :
    wordGo s (f + 1) pos seen size runes = wordGo s f (pos + (Utf8.decode s pos).2) (seen + 1) (pos + (Utf8.decode s pos).2) (seen + 1) := by
  conv => lhs; unfold wordGo
  rw [if_pos hp, h, if_neg (by simp), if_neg h45, if_neg h45]

theorem wordGo_le (s : ByteArray) : ∀ f pos seen size runes, size ≤ s.size → runes ≤ seen → seen ≤ pos → pos ≤ s.size → (wordGo s f pos seen size runes).1 ≤ s.size ∧ (wordGo s f pos seen size runes).2 ≤ s.size
  | 0, pos, seen, size, runes, h1, h2, h3, h4 => by simp [wordGo]; omega
  | f + 1, pos, seen, size, runes, h1, h2, h3, h4 => by
    unfold wordGo
    split
    · rename_i hp
      have w1 := width_pos s pos hp
      have w2 := decode_fits s pos hp
      split
      · simp; omega
      · exact wordGo_le s f _ _ _ _ (by split <;> omega) (by split <;> omega) (by omega) w2
    · simp; omega
theorem wordOf_le (s : ByteArray) : (wordOf s).1 ≤ s.size ∧ (wordOf s).2 ≤ s.size := wordGo_le s _ _ _ _ _ (by omega) (by omega) (by omega) (by omega)
end Go.Proofs.YtbkjminjkjnkpaaGreatDoor

/- Layer 1 (scan), plain: numbers at the beginning of a text; which token stands there. -/
namespace Go.Proofs.YtbkjminjkjnkpaaGreatDoor
open Go.RowKit Go.Lib

/-- The byte at a place, as a number. -/
def byteAt (s : ByteArray) (i : Nat) : Nat := (s.get! i).toNat

theorem byteAt_lt (s : ByteArray) (i : Nat) : byteAt s i < 256 := (s.get! i).toNat_lt
theorem byteAt_get (s : ByteArray) (i : Nat) (h : i < s.size) : byteAt s i = (s[i]'h).toNat := by
  unfold byteAt
  simp [ByteArray.get!, getElem!_pos, h]
  rfl

theorem decode_low (s : ByteArray) (pos : Nat) (h : pos < s.size) (hb : byteAt s pos < 128) : Utf8.decode s pos = (byteAt s pos, 1) := by
  rw [byteAt_get s pos h] at hb ⊢
  exact decode_ascii s pos h hb
theorem decode_wide (s : ByteArray) (pos : Nat) (h : pos < s.size) (hb : 128 ≤ byteAt s pos) : 128 ≤ (Utf8.decode s pos).1 := by
  rw [byteAt_get s pos h] at hb
  exact (decode_high s pos h hb).1
/-- Where the decoder tells a rune below 128 it is the byte. -/
theorem decode_byte (s : ByteArray) (pos : Nat) (h : pos < s.size) (hr : (Utf8.decode s pos).1 < 128) : Utf8.decode s pos = (byteAt s pos, 1) := by
  by_cases hb : byteAt s pos < 128
  · exact decode_low s pos h hb
  · have := decode_wide s pos h (by omega)
    omega
theorem digB_iff (r : Int) : digB r = true ↔ 48 ≤ r ∧ r ≤ 57 := by simp [digB]
theorem digB_decode (s : ByteArray) (pos : Nat) (h : pos < s.size) : digB (Utf8.decode s pos).1 = digB (byteAt s pos) := by
  by_cases hb : byteAt s pos < 128
  · rw [decode_low s pos h hb]
  · have := decode_wide s pos h (by omega)
    rw [Bool.eq_iff_iff, digB_iff, digB_iff]
    omega

/-- The value of so many digits more, no higher than it takes. -/
def addDigit (v b : Nat) : Nat := min (10 * v + (b - 48)) 100000

def numGo (s : ByteArray) : Nat → Nat → Nat → Nat × Nat
  | 0, pos, v => (pos, v)
  | f + 1, pos, v => if pos < s.size then if digB (byteAt s pos) then numGo s f (pos + 1) (addDigit v (byteAt s pos)) else (pos, v) else (pos, v)
def numOf (s : ByteArray) : Nat × Nat := numGo s s.size 0 0

theorem numGo_end (s : ByteArray) (f pos v : Nat) (h : ¬ pos < s.size) : numGo s f pos v = (pos, v) := by
  cases f <;> simp [numGo, h]
theorem numGo_stop (s : ByteArray) (f pos v : Nat) (h : digB (byteAt s pos) = false) : numGo s f pos v = (pos, v) := by
  cases f <;> simp [numGo, h]
theorem numGo_more (s : ByteArray) (f pos v : Nat) (hp : pos < s.size) (h : digB (byteAt s pos) = true) : numGo s (f + 1) pos v = numGo s f (pos + 1) (addDigit v (byteAt s pos)) := by
  conv => lhs; unfold numGo
  rw [if_pos hp, h, if_pos rfl]
theorem addDigit_le (v b : Nat) : addDigit v b ≤ 100000 := by unfold addDigit; omega
theorem numGo_le (s : ByteArray) : ∀ f pos v, pos ≤ s.size → v ≤ 100000 → (numGo s f pos v).1 ≤ s.size ∧ (numGo s f pos v).2 ≤ 100000
  | 0, pos, v, h1, h2 => ⟨h1, h2⟩
  | f + 1, pos, v, h1, h2 => by
    unfold numGo
    split
    · split
      · exact numGo_le s f _ _ (by omega) (addDigit_le _ _)
      · exact ⟨h1, h2⟩
    · exact ⟨h1, h2⟩
theorem numOf_le (s : ByteArray) : (numOf s).1 ≤ s.size ∧ (numOf s).2 ≤ 100000 := numGo_le s _ _ _ (by omega) (by omega)

/-- The rune right behind. -/
def behindR (s : ByteArray) (n : Nat) : Nat := (decodeGo (s.extract n s.size)).1
theorem behindR_le (s : ByteArray) (n : Nat) : behindR s n ≤ 2147483647 := by
  unfold behindR decodeGo
  split
  · simp
  · exact decode_le _ _

/-- Which error a number of so many digits, of this value, is. -/
def numFault (s : ByteArray) (n v : Nat) : Nat :=
  if 99999 < v then 3 else if byteAt s 0 = 48 ∧ 1 < n then 5 else if letB (behindR s n) then 5 else 0

def marksL : List UInt8 := [123, 125, 40, 41, 58, 59, 43, 42, 60, 61, 45]
def markB (b : Nat) : Bool := marksL.contains b.toUInt8

/-- The token at the beginning: its kind, its size; or its error. -/
def tokOf (s : ByteArray) : Nat × Nat × Nat :=
  if 0 < (wordOf s).1 then (if 24 < (wordOf s).2 then (0, 0, 3) else (1, (wordOf s).1, 0))
  else if 0 < (numOf s).1 then (if numFault s (numOf s).1 (numOf s).2 = 0 then (2, (numOf s).1, 0) else (0, 0, numFault s (numOf s).1 (numOf s).2))
  else if markB (byteAt s 0) then (3, 1, 0) else (0, 0, 4)
end Go.Proofs.YtbkjminjkjnkpaaGreatDoor

/- scan.wordAt and scan.Word: what they answer, for every text. -/
namespace Go.Proofs.YtbkjminjkjnkpaaGreatDoor
open Go.RowKit Go.Lib

theorem ret_two {a b c d : Int} (h1 : a = c) (h2 : b = d) : Ending.returned (.tuple #[.int .i64 a, .int .i64 b]) = .returned (.tuple #[.int .i64 c, .int .i64 d]) := by rw [h1, h2]
theorem measure_iter {w : World} {k : Nat} {s : ByteArray} {p : Nat} (h : w.heap[k]? = some (.stringIter s p)) : w.iterPos k = p := iterPos_of h

set_option maxHeartbeats 2000000 in
set_option maxRecDepth 100000 in
theorem wordAt_any (s : ByteArray) (w : World) (hs : s.size ≤ maxLen) (hT : Tabs w) :
    Calls Tryz.prog 54 #[.string s] w fun e w' => e = .returned (.tuple #[.int .i64 (wordOf s).1, .int .i64 (wordOf s).2]) ∧ Below w.heap.size w w' := by
  unfold maxLen at hs
  go_enter Tryz.func54, Tryz.ntmps54
  go_wp2
  go_loopw [2, 3, 4] (fun vs vr vn wr => ∃ (pos fuel seen size runes : Nat), vs = .int .i64 size ∧ vr = .int .i64 runes ∧ vn = .int .i64 seen ∧ wr.heap[w.heap.size]? = some (.stringIter s pos) ∧ Below w.heap.size w wr ∧
      wordGo s fuel pos seen size runes = wordOf s ∧ s.size ≤ pos + fuel ∧ pos ≤ s.size ∧ seen ≤ pos) (fun _ _ _ wr => s.size - wr.iterPos w.heap.size)
  case atStart =>
    exact ⟨0, s.size, 0, 0, 0, rfl, rfl, rfl, World.iter_heap w s 0, (Below.refl _ w).alloc (Nat.le_refl _) _, rfl, by omega, by omega, by omega⟩
  case round =>
    obtain ⟨pos, fuel, seen, size, runes, rfl, rfl, rfl, hit, hbw, hgo, hfu, hpos, hsn⟩ := hrel
    have hsz : w.heap.size < wr.heap.size := (Array.getElem?_eq_some_iff.1 hit).1
    have hmeas := iterPos_of hit
    have HM := Lib.hid hmeas
    clear hmeas
    by_cases hp : pos < s.size
    · have hnx : ∀ ty, (Instr.next (.pointer (some ⟨w.heap.size, 0, none⟩)) true ty).run Tryz.prog wr = _ := fun ty => Lib.run_next_any_at wr w.heap.size s pos ty hit hp
      have hwd := width_pos s pos hp
      have hwf := decode_fits s pos hp
      have hd1 := decode_le s pos
      have hlen := decode_len s pos
      have hit2 := Lib.iterAt_heap wr w.heap.size s pos (pos + (Utf8.decode s pos).2) hit
      have hbw2 := Lib.below_iterAt hbw (k := w.heap.size) (by omega) s (pos + (Utf8.decode s pos).2)
      have hT2 := hT.below hbw2
      have hsz2 : w.heap.size < (wr.iterAt w.heap.size s (pos + (Utf8.decode s pos).2)).heap.size := by rw [Lib.iterAt_size]; omega
      obtain ⟨f, rfl⟩ : ∃ f, fuel = f + 1 := ⟨fuel - 1, by omega⟩
      have hstop : wStop (pos == 0) (Utf8.decode s pos).1 = true → (size, runes) = wordOf s := fun h => by rw [← hgo, wordGo_stop _ _ _ _ _ _ h]
      have hmark : wStop (pos == 0) (Utf8.decode s pos).1 = false → (Utf8.decode s pos).1 = 45 → wordGo s f (pos + (Utf8.decode s pos).2) (seen + 1) size runes = wordOf s := fun h h2 => by rw [← hgo, wordGo_mark _ _ _ _ _ _ hp h h2]
      have hmore : wStop (pos == 0) (Utf8.decode s pos).1 = false → (Utf8.decode s pos).1 ≠ 45 → wordGo s f (pos + (Utf8.decode s pos).2) (seen + 1) (pos + (Utf8.decode s pos).2) (seen + 1) = wordOf s := fun h h2 => by rw [← hgo, wordGo_more _ _ _ _ _ _ hp h h2]
      have hwide : ∀ r' : Nat, (Utf8.decode s pos).1 = r' → r' ≤ 2147483647 := fun _ h => h ▸ hd1
      clear hgo hit hwide
      generalize (Utf8.decode s pos).1 = r at *
      generalize (Utf8.decode s pos).2 = n at *
      have Hlen := Lib.hid hlen
      have Hstop := Lib.hid hstop
      have Hmark := Lib.hid hmark
      have Hmore := Lib.hid hmore
      have Hit := Lib.hid hit2
      have hps : ∀ W : World, Below (wr.iterAt w.heap.size s (pos + n)).heap.size (wr.iterAt w.heap.size s (pos + n)) W → W.heap[w.heap.size]? = some (.stringIter s (pos + n)) := fun W hb => (hb.block _ hsz2).trans hit2
      have Hps := Lib.hid hps
      clear hlen hstop hmark hmore hit2 hps
      by_cases hl : letB r = true
      · have h45 : r ≠ 45 := fun e => by subst e; exact absurd hl (by rw [show letB ((45 : Nat) : Int) = false from letB_mark]; simp)
        have h65 : r ≠ 65533 := fun e => by subst e; exact absurd hl (by rw [show letB ((65533 : Nat) : Int) = false from letB_err]; simp)
        have hws : wStop (pos == 0) r = false := by simp [wStop, hl]
        have HG := Lib.hid (Hmore.out hws h45)
        have HL := Lib.hid (Hlen.out h65)
        clear hws h65
        go_wp2_with fail
        refine (isLetter_yes _ _ (by omega) (by omega) hT2 hl).mono ?_
        rintro e w1 ⟨rfl, b1⟩
        have hin := Lib.hid (Hps.out w1 b1)
        go_wp2_with fail
        refine (Tryz.utf8_RuneLen _ _).mono ?_
        rintro e w2 ⟨rfl, rfl⟩
        rw [HL.out]
        go_wp2
        go_roundw
        case rel => exact ⟨pos + n, f, seen + 1, pos + n, seen + 1, by go_num, by go_num, by go_num, hin.out, hbw2.trans (b1.mono (by omega)), HG.out, by omega, by omega, by omega⟩
        case measure => rw [HM.out, iterPos_of hin.out]; omega
      · have hl' : letB r = false := by simpa using hl
        by_cases h0 : pos = 0
        · have hws : wStop (pos == 0) r = true := by simp [wStop, hl', h0]
          have HG := Lib.hid (Hstop.out hws)
          clear hws
          subst h0
          simp only [Nat.zero_add] at hT2 hbw2 hsz2
          go_wp2_with fail
          refine (isLetter_no _ _ (by omega) (by omega) hT2 hl').mono ?_
          rintro e w1 ⟨rfl, b1⟩
          go_wp2
          go_ret2
          exact ⟨by rw [← HG.out]; rfl, hbw2.trans (b1.mono (by omega))⟩
        · by_cases h45 : r = 45
          · have hws : wStop (pos == 0) r = false := by simp [wStop, hl', h0, h45]
            have HG := Lib.hid (Hmark.out hws h45)
            clear hws
            subst h45
            go_wp2_with fail
            refine (isLetter_no _ _ (by omega) (by omega) hT2 hl').mono ?_
            rintro e w1 ⟨rfl, b1⟩
            have hin := Lib.hid (Hps.out w1 b1)
            go_wp2
            go_roundw
            case rel => exact ⟨pos + n, f, seen + 1, size, runes, by go_num, by go_num, by go_num, hin.out, hbw2.trans (b1.mono (by omega)), HG.out, by omega, by omega, by omega⟩
            case measure => rw [HM.out, iterPos_of hin.out]; omega
          · by_cases hd : digB r = true
            · have hws : wStop (pos == 0) r = false := by simp [wStop, hl', h0, h45, hd]
              have h65 : r ≠ 65533 := fun e => by subst e; exact absurd hd (by decide)
              have HG := Lib.hid (Hmore.out hws h45)
              have HL := Lib.hid (Hlen.out h65)
              clear hws h65
              go_wp2_with fail
              refine (isLetter_no _ _ (by omega) (by omega) hT2 hl').mono ?_
              rintro e w1 ⟨rfl, b1⟩
              have hin := Lib.hid (Hps.out w1 b1)
              go_wp2_with (go_at_call 73; refine (digit_yes _ _ hd).mono ?_; rintro e w' ⟨rfl, rfl⟩)
              refine (Tryz.utf8_RuneLen _ _).mono ?_
              rintro e w2 ⟨rfl, rfl⟩
              rw [HL.out]
              go_wp2
              go_roundw
              case rel => exact ⟨pos + n, f, seen + 1, pos + n, seen + 1, by go_num, by go_num, by go_num, hin.out, hbw2.trans (b1.mono (by omega)), HG.out, by omega, by omega, by omega⟩
              case measure => rw [HM.out, iterPos_of hin.out]; omega
            · have hd' : digB r = false := by simpa using hd
              have hws : wStop (pos == 0) r = true := by simp [wStop, hl', hd', show ((r : Int) == 45) = false from by simp; omega]
              have HG := Lib.hid (Hstop.out hws)
              have q1 : ((pos : Int) == 0) = false := by simp; omega
              have q2 : ((r : Int) != 45) = true := by simp; omega
              clear hws
              go_wp2_with fail
              refine (isLetter_no _ _ (by omega) (by omega) hT2 hl').mono ?_
              rintro e w1 ⟨rfl, b1⟩
              go_wp2_with (go_at_call 73; refine (digit_no _ _ hd').mono ?_; rintro e w' ⟨rfl, rfl⟩)
              go_ret2
              exact ⟨by rw [← HG.out]; rfl, hbw2.trans (b1.mono (by omega))⟩
    · have hnx : ∀ ty, (Instr.next (.pointer (some ⟨w.heap.size, 0, none⟩)) true ty).run Tryz.prog wr = _ := fun ty => Lib.run_next_end_at wr w.heap.size s pos ty hit hp
      have HG : Hid ((size, runes) = wordOf s) := by rw [← hgo, wordGo_end _ _ _ _ _ _ hp]; exact rfl
      clear hgo
      go_wp2
      go_ret2
      exact ⟨by rw [← HG.out]; rfl, hbw⟩

/-- Is it a word, as a whole? -/
def wordB (s : ByteArray) : Bool := decide (0 < (wordOf s).1) && decide ((wordOf s).1 = s.size) && decide ((wordOf s).2 ≤ 24)

end Go.Proofs.YtbkjminjkjnkpaaGreatDoor

/- scan.numberAt, scan.numberFault: what they answer, for every text. -/
namespace Go.Proofs.YtbkjminjkjnkpaaGreatDoor
open Go.RowKit Go.Lib

theorem ret_two' {a b c d : Int} (h1 : a = c) (h2 : b = d) : Ending.returned (.tuple #[.int .i64 a, .int .i64 b]) = .returned (.tuple #[.int .i64 c, .int .i64 d]) := by rw [h1, h2]

set_option maxHeartbeats 2000000 in
set_option maxRecDepth 100000 in
theorem numberAt_any (s : ByteArray) (w : World) (hs : s.size ≤ maxLen) :
    Calls Tryz.prog 55 #[.string s] w fun e w' => e = .returned (.tuple #[.int .i64 (numOf s).1, .int .i64 (numOf s).2]) ∧ Below w.heap.size w w' := by
  unfold maxLen at hs
  go_enter Tryz.func55, Tryz.ntmps55
  go_wp2
  go_loopw [2, 3] (fun vs vv wr => ∃ (pos fuel v : Nat), vs = .int .i64 pos ∧ vv = .int .i64 v ∧ wr.heap[w.heap.size]? = some (.stringIter s pos) ∧ Below w.heap.size w wr ∧
      numGo s fuel pos v = numOf s ∧ s.size ≤ pos + fuel ∧ pos ≤ s.size ∧ v ≤ 100000) (fun _ _ wr => s.size - wr.iterPos w.heap.size)
  case atStart =>
    exact ⟨0, s.size, 0, rfl, rfl, World.iter_heap w s 0, (Below.refl _ w).alloc (Nat.le_refl _) _, rfl, by omega, by omega, by omega⟩
  case round =>
    obtain ⟨pos, fuel, v, rfl, rfl, hit, hbw, hgo, hfu, hpos, hv⟩ := hrel
    have hsz : w.heap.size < wr.heap.size := (Array.getElem?_eq_some_iff.1 hit).1
    have hmeas := iterPos_of hit
    have HM := Lib.hid hmeas
    clear hmeas
    by_cases hp : pos < s.size
    · have hnx : ∀ ty, (Instr.next (.pointer (some ⟨w.heap.size, 0, none⟩)) true ty).run Tryz.prog wr = _ := fun ty => Lib.run_next_any_at wr w.heap.size s pos ty hit hp
      have hd1 := decode_le s pos
      have hit2 := Lib.iterAt_heap wr w.heap.size s pos (pos + (Utf8.decode s pos).2) hit
      have hbw2 := Lib.below_iterAt hbw (k := w.heap.size) (by omega) s (pos + (Utf8.decode s pos).2)
      obtain ⟨f, rfl⟩ : ∃ f, fuel = f + 1 := ⟨fuel - 1, by omega⟩
      by_cases hd : digB (Utf8.decode s pos).1 = true
      · have hd2 := (digB_iff _).1 hd
        have hdec := decode_byte s pos hp (by omega)
        have hb : digB (byteAt s pos) = true := by rw [← digB_decode s pos hp]; exact hd
        have HG : Hid (numGo s f (pos + 1) (addDigit v (byteAt s pos)) = numOf s) := by rw [← numGo_more s f pos v hp hb]; exact hgo
        have ha := addDigit_le v (byteAt s pos)
        have HA : Hid (addDigit v (byteAt s pos) = min (10 * v + (byteAt s pos - 48)) 100000) := rfl
        rw [hdec] at hit2 hbw2 hnx hd hd2
        clear hb hgo hdec hd1 hit
        generalize addDigit v (byteAt s pos) = q at *
        generalize byteAt s pos = r at *
        have Hit := Lib.hid hit2
        clear hit2
        simp only [] at hd2
        have hr1 : (48 : Int) ≤ (r : Int) := by omega
        have hr2 : (r : Int) ≤ 57 := by omega
        clear hd2
        go_wp2_with (go_at_call 73; refine (digit_yes _ _ hd).mono ?_; rintro e w' ⟨rfl, rfl⟩)
        go_roundw
        case rel => exact ⟨pos + 1, f, q, by go_num, by rw [HA.out]; exact congrArg (Value.int .i64) (by omega), Hit.out, hbw2, HG.out, by omega, by omega, by omega⟩
        case measure => rw [HM.out, iterPos_of Hit.out]; omega
      · have hd' : digB (Utf8.decode s pos).1 = false := by simpa using hd
        have hb : digB (byteAt s pos) = false := by rw [← digB_decode s pos hp]; exact hd'
        have HG : Hid ((pos, v) = numOf s) := by rw [← hgo, numGo_stop _ _ _ _ hb]; exact rfl
        clear hgo hb hit
        generalize (Utf8.decode s pos).1 = r at *
        generalize (Utf8.decode s pos).2 = n at *
        clear hit2
        go_wp2_with (go_at_call 73; refine (digit_no _ _ hd').mono ?_; rintro e w' ⟨rfl, rfl⟩)
        go_ret2
        exact ⟨by rw [← HG.out]; rfl, hbw2⟩
    · have hnx : ∀ ty, (Instr.next (.pointer (some ⟨w.heap.size, 0, none⟩)) true ty).run Tryz.prog wr = _ := fun ty => Lib.run_next_end_at wr w.heap.size s pos ty hit hp
      have HG : Hid ((pos, v) = numOf s) := by rw [← hgo, numGo_end _ _ _ _ hp]; exact rfl
      clear hgo
      go_wp2
      go_ret2
      exact ⟨by rw [← HG.out]; rfl, hbw⟩

theorem ret_int' {k : IntKind} {a b : Int} (h : a = b) : Ending.returned (.int k a) = .returned (.int k b) := by rw [h]

set_option maxHeartbeats 2000000 in
theorem numberFault_any (s : ByteArray) (n v : Nat) (w : World) (hs : s.size ≤ maxLen) (hn : n ≤ s.size) (h0 : 0 < s.size) (hv : v ≤ 100000) (hT : Tabs w) :
    Calls Tryz.prog 56 #[.string s, .int .i64 n, .int .i64 v] w fun e w' => e = .returned (.int .i64 (numFault s n v)) ∧ Below w.heap.size w w' := by
  have hc := decode_any (s.extract n s.size) w hT
  have hbr := behindR_le s n
  have hbd : (decodeGo (s.extract n s.size)).1 = behindR s n := rfl
  rw [hbd] at hc
  have hb0 := byteAt_lt s 0
  have hb1 : ((s[0]'h0).toNat : Int) = (byteAt s 0 : Int) := by rw [byteAt_get s 0 h0]
  have hnf : numFault s n v = if 99999 < v then 3 else if byteAt s 0 = 48 ∧ 1 < n then 5 else if letB (behindR s n) then 5 else 0 := rfl
  generalize (decodeGo (s.extract n s.size)).2 = m at *
  generalize behindR s n = r at *
  generalize byteAt s 0 = b at *
  have HC := Lib.hid hc
  have HF := Lib.hid hnf
  have HB := Lib.hid hb1
  clear hc hnf hb1 hbd
  unfold maxLen at hs
  by_cases c1 : 99999 < v
  · have HR : Hid (numFault s n v = 3) := by rw [HF.out, if_pos c1]; exact rfl
    go_enter Tryz.func56, Tryz.ntmps56
    go_wp2_with fail
    refine HC.out.mono ?_
    rintro e w1 ⟨rfl, b1⟩
    go_wp2
    go_ret
    exact ⟨ret_int' (by rw [HR.out]; rfl), b1⟩
  · by_cases c2 : b = 48
    · have hq : ((s[0]'h0).toNat : Int) = 48 := by rw [HB.out]; omega
      by_cases c3 : 1 < n
      · have HR : Hid (numFault s n v = 5) := by rw [HF.out, if_neg c1, if_pos ⟨c2, c3⟩]; exact rfl
        clear c2
        go_enter Tryz.func56, Tryz.ntmps56
        go_wp2_with fail
        refine HC.out.mono ?_
        rintro e w1 ⟨rfl, b1⟩
        go_wp2
        go_ret
        exact ⟨ret_int' (by rw [HR.out]; rfl), b1⟩
      · cases hl : letB r with
        | true =>
          have HR : Hid (numFault s n v = 5) := by rw [HF.out, if_neg c1, if_neg (by omega), hl]; exact rfl
          clear c2
          go_enter Tryz.func56, Tryz.ntmps56
          go_wp2_with fail
          refine HC.out.mono ?_
          rintro e w1 ⟨rfl, b1⟩
          have hT1 := hT.below b1
          go_wp2_with (go_at_call 43; refine (isLetter_yes _ _ (by omega) (by omega) hT1 hl).mono ?_; rintro e w2 ⟨rfl, b2⟩)
          go_ret
          exact ⟨ret_int' (by rw [HR.out]; rfl), b1.trans (b2.mono b1.size)⟩
        | false =>
          have HR : Hid (numFault s n v = 0) := by rw [HF.out, if_neg c1, if_neg (by omega), hl]; exact rfl
          clear c2
          go_enter Tryz.func56, Tryz.ntmps56
          go_wp2_with fail
          refine HC.out.mono ?_
          rintro e w1 ⟨rfl, b1⟩
          have hT1 := hT.below b1
          go_wp2_with (go_at_call 43; refine (isLetter_no _ _ (by omega) (by omega) hT1 hl).mono ?_; rintro e w2 ⟨rfl, b2⟩)
          go_ret
          exact ⟨ret_int' (by rw [HR.out]; rfl), b1.trans (b2.mono b1.size)⟩
    · have hq : ¬ ((s[0]'h0).toNat : Int) = 48 := by rw [HB.out]; omega
      cases hl : letB r with
      | true =>
        have HR : Hid (numFault s n v = 5) := by rw [HF.out, if_neg c1, if_neg (by omega), hl]; exact rfl
        clear c2
        go_enter Tryz.func56, Tryz.ntmps56
        go_wp2_with fail
        refine HC.out.mono ?_
        rintro e w1 ⟨rfl, b1⟩
        have hT1 := hT.below b1
        go_wp2_with (go_at_call 43; refine (isLetter_yes _ _ (by omega) (by omega) hT1 hl).mono ?_; rintro e w2 ⟨rfl, b2⟩)
        go_ret
        exact ⟨ret_int' (by rw [HR.out]; rfl), b1.trans (b2.mono b1.size)⟩
      | false =>
        have HR : Hid (numFault s n v = 0) := by rw [HF.out, if_neg c1, if_neg (by omega), hl]; exact rfl
        clear c2
        go_enter Tryz.func56, Tryz.ntmps56
        go_wp2_with fail
        refine HC.out.mono ?_
        rintro e w1 ⟨rfl, b1⟩
        have hT1 := hT.below b1
        go_wp2_with (go_at_call 43; refine (isLetter_no _ _ (by omega) (by omega) hT1 hl).mono ?_; rintro e w2 ⟨rfl, b2⟩)
        go_ret
        exact ⟨ret_int' (by rw [HR.out]; rfl), b1.trans (b2.mono b1.size)⟩
end Go.Proofs.YtbkjminjkjnkpaaGreatDoor

/- scan.tokenAt, scan.broken: what they answer, for every text that is not empty. -/
namespace Go.Proofs.YtbkjminjkjnkpaaGreatDoor
open Go.RowKit Go.Lib

theorem marks_all : ∀ b : Fin 256, decide (0 ≤ Lib.indexByte marksL (((b.val : Nat) : Int).toNat.toUInt8)) = markB b.val := by decide +kernel
theorem marks_one (b : Nat) (h : b < 256) : decide (0 ≤ Lib.indexByte marksL ((b : Int).toNat.toUInt8)) = markB b := marks_all ⟨b, h⟩

theorem ret_tok {a b c a' b' c' : Int} (h1 : a = a') (h2 : b = b') (h3 : c = c') : Ending.returned (.tuple #[.int .u8 a, .int .i64 b, .int .i64 c]) = .returned (.tuple #[.int .u8 a', .int .i64 b', .int .i64 c']) := by rw [h1, h2, h3]

set_option maxHeartbeats 2000000 in
set_option maxRecDepth 100000 in
theorem tokenAt_any (s : ByteArray) (w : World) (hs : s.size ≤ maxLen) (h0 : 0 < s.size) (hT : Tabs w) :
    Calls Tryz.prog 31 #[.string s] w fun e w' => e = .returned (.tuple #[.int .u8 (tokOf s).1, .int .i64 (tokOf s).2.1, .int .i64 (tokOf s).2.2]) ∧ Below w.heap.size w w' := by
  have hc := wordAt_any s w hs hT
  have hn : ∀ W, Calls Tryz.prog 55 #[.string s] W fun e w' => e = .returned (.tuple #[.int .i64 (numOf s).1, .int .i64 (numOf s).2]) ∧ Below W.heap.size W w' := fun W => numberAt_any s W hs
  have hf : ∀ W, Tabs W → Calls Tryz.prog 56 #[.string s, .int .i64 (numOf s).1, .int .i64 (numOf s).2] W fun e w' => e = .returned (.int .i64 (numFault s (numOf s).1 (numOf s).2)) ∧ Below W.heap.size W w' :=
    fun W h => numberFault_any s _ _ W hs (numOf_le s).1 h0 (numOf_le s).2 h
  have hm : ∀ W, Calls Tryz.prog 57 #[.string ⟨#[123, 125, 40, 41, 58, 59, 43, 42, 60, 61, 45]⟩, .int .u8 ((s[0]'h0).toNat)] W fun e w' => e = .returned (.int .i64 (Lib.indexByte marksL ((byteAt s 0 : Int).toNat.toUInt8))) ∧ w' = W := fun W => by
    have := Tryz.strings_IndexByte ⟨#[123, 125, 40, 41, 58, 59, 43, 42, 60, 61, 45]⟩ ((s[0]'h0).toNat) W
    rw [byteAt_get s 0 h0]
    exact this
  have hk := marks_one (byteAt s 0) (byteAt_lt s 0)
  have hspec : tokOf s = if 0 < (wordOf s).1 then (if 24 < (wordOf s).2 then (0, 0, 3) else (1, (wordOf s).1, 0))
      else if 0 < (numOf s).1 then (if numFault s (numOf s).1 (numOf s).2 = 0 then (2, (numOf s).1, 0) else (0, 0, numFault s (numOf s).1 (numOf s).2))
      else if markB (byteAt s 0) then (3, 1, 0) else (0, 0, 4) := rfl
  have hwl := wordOf_le s
  have hnl := numOf_le s
  generalize numFault s (numOf s).1 (numOf s).2 = nf at *
  generalize wordOf s = p at *
  generalize numOf s = q at *
  obtain ⟨a, b⟩ := p
  obtain ⟨c, d⟩ := q
  generalize Lib.indexByte marksL ((byteAt s 0 : Int).toNat.toUInt8) = ix at *
  generalize markB (byteAt s 0) = mk at *
  simp only [] at hc hn hf hspec hwl hnl
  have HC := Lib.hid hc
  have HN := Lib.hid hn
  have HF := Lib.hid hf
  have HM := Lib.hid hm
  have HS := Lib.hid hspec
  have HK := Lib.hid hk
  clear hc hn hf hm hspec hk
  unfold maxLen at hs
  by_cases c1 : 0 < a
  · by_cases c2 : 24 < b
    · have HR : Hid (tokOf s = (0, 0, 3)) := by rw [HS.out, if_pos c1, if_pos c2]; exact rfl
      go_enter Tryz.func31, Tryz.ntmps31
      go_wp2_with fail
      refine HC.out.mono ?_
      rintro e w1 ⟨rfl, b1⟩
      go_wp2
      go_ret3
      exact ⟨by rw [HR.out]; rfl, b1⟩
    · have HR : Hid (tokOf s = (1, a, 0)) := by rw [HS.out, if_pos c1, if_neg c2]; exact rfl
      go_enter Tryz.func31, Tryz.ntmps31
      go_wp2_with fail
      refine HC.out.mono ?_
      rintro e w1 ⟨rfl, b1⟩
      go_wp2
      go_ret3
      exact ⟨by rw [HR.out]; rfl, b1⟩
  · by_cases c3 : 0 < c
    · by_cases c4 : nf = 0
      · have HR : Hid (tokOf s = (2, c, 0)) := by rw [HS.out, if_neg c1, if_pos c3, if_pos c4]; exact rfl
        subst c4
        go_enter Tryz.func31, Tryz.ntmps31
        go_wp2_with fail
        refine HC.out.mono ?_
        rintro e w1 ⟨rfl, b1⟩
        go_wp2_with fail
        refine (HN.out w1).mono ?_
        rintro e w2 ⟨rfl, b2⟩
        go_wp2_with fail
        refine (HF.out w2 (hT.below (b1.trans (b2.mono b1.size)))).mono ?_
        rintro e w3 ⟨rfl, b3⟩
        go_wp2
        go_ret3
        exact ⟨by rw [HR.out]; rfl, (b1.trans (b2.mono b1.size)).trans (b3.mono (Nat.le_trans b1.size b2.size))⟩
      · have HR : Hid (tokOf s = (0, 0, nf)) := by rw [HS.out, if_neg c1, if_pos c3, if_neg c4]; exact rfl
        have q1 : ((nf : Int) != 0) = true := by simp; omega
        go_enter Tryz.func31, Tryz.ntmps31
        go_wp2_with fail
        refine HC.out.mono ?_
        rintro e w1 ⟨rfl, b1⟩
        go_wp2_with fail
        refine (HN.out w1).mono ?_
        rintro e w2 ⟨rfl, b2⟩
        go_wp2_with fail
        refine (HF.out w2 (hT.below (b1.trans (b2.mono b1.size)))).mono ?_
        rintro e w3 ⟨rfl, b3⟩
        go_wp2
        go_ret3
        exact ⟨by rw [HR.out]; rfl, (b1.trans (b2.mono b1.size)).trans (b3.mono (Nat.le_trans b1.size b2.size))⟩
    · cases mk with
      | true =>
        have HR : Hid (tokOf s = (3, 1, 0)) := by rw [HS.out, if_neg c1, if_neg c3]; exact rfl
        have hix : 0 ≤ ix := of_decide_eq_true HK.out
        go_enter Tryz.func31, Tryz.ntmps31
        go_wp2_with fail
        refine HC.out.mono ?_
        rintro e w1 ⟨rfl, b1⟩
        go_wp2_with fail
        refine (HN.out w1).mono ?_
        rintro e w2 ⟨rfl, b2⟩
        go_wp2_with fail
        refine (HM.out w2).mono ?_
        rintro e w3 ⟨rfl, rfl⟩
        go_wp2
        go_ret3
        exact ⟨by rw [HR.out]; rfl, b1.trans (b2.mono b1.size)⟩
      | false =>
        have HR : Hid (tokOf s = (0, 0, 4)) := by rw [HS.out, if_neg c1, if_neg c3]; exact rfl
        have hix : ¬ 0 ≤ ix := of_decide_eq_false HK.out
        go_enter Tryz.func31, Tryz.ntmps31
        go_wp2_with fail
        refine HC.out.mono ?_
        rintro e w1 ⟨rfl, b1⟩
        go_wp2_with fail
        refine (HN.out w1).mono ?_
        rintro e w2 ⟨rfl, b2⟩
        go_wp2_with fail
        refine (HM.out w2).mono ?_
        rintro e w3 ⟨rfl, rfl⟩
        go_wp2
        go_ret3
        exact ⟨by rw [HR.out]; rfl, b1.trans (b2.mono b1.size)⟩

/-- Bytes at the beginning that are no UTF-8, beside the rune that the decoder tells of them. -/
def brokenB (s : ByteArray) (r : Int) : Bool := (r == 65533) && !(Lib.hasPrefix s.data.toList [239, 191, 189])

set_option maxHeartbeats 1000000 in
theorem broken_any (s : ByteArray) (r : Int) (w : World) :
    Calls Tryz.prog 29 #[.string s, .int .i32 r] w fun e w' => e = .returned (.bool (brokenB s r)) ∧ w = w' := by
  have hp : ∀ W, Calls Tryz.prog 53 #[.string s, .string ⟨#[239, 191, 189]⟩] W fun e w' => e = .returned (.bool (Lib.hasPrefix s.data.toList [239, 191, 189])) ∧ w' = W := fun W => Tryz.strings_HasPrefix s ⟨#[239, 191, 189]⟩ W
  have HP := Lib.hid hp
  clear hp
  by_cases h : r = 65533
  · have HR : Hid (brokenB s r = !(Lib.hasPrefix s.data.toList [239, 191, 189])) := by rw [h]; exact rfl
    subst h
    go_enter Tryz.func29, Tryz.ntmps29
    go_wp2_with fail
    refine (HP.out w).mono ?_
    rintro e w1 ⟨rfl, rfl⟩
    go_wp2
    go_ret
    exact ⟨ret_bool (by rw [HR.out]), rfl⟩
  · have q : (r == 65533) = false := by simpa using h
    have HR : Hid (brokenB s r = false) := by unfold brokenB; rw [q]; exact rfl
    clear h
    go_enter Tryz.func29, Tryz.ntmps29
    go_wp2
    go_ret
    exact ⟨ret_bool (by rw [HR.out]), rfl⟩
end Go.Proofs.YtbkjminjkjnkpaaGreatDoor

/- Layer 1 (scan), plain: the tokens of a text, rune by rune. -/
namespace Go.Proofs.YtbkjminjkjnkpaaGreatDoor
open Go.RowKit Go.Lib

structure Tok where
  kind : Nat
  text : ByteArray
  spot : Int × Int

def Tok.cells (t : Tok) : List Value := [.int .u8 t.kind, .string t.text, .int .i64 t.spot.1, .int .i64 t.spot.2]
def toksCells (l : List Tok) : List Value := l.flatMap Tok.cells
theorem toksCells_len (l : List Tok) : (toksCells l).length = l.length * 4 := by
  induction l with
  | nil => rfl
  | cons t l ih => simp only [toksCells, List.flatMap_cons, List.length_append, List.length_cons] at ih ⊢; rw [ih]; simp [Tok.cells]; omega
theorem toksCells_snoc (l : List Tok) (t : Tok) : toksCells (l ++ [t]) = toksCells l ++ t.cells := by simp [toksCells]
theorem toksCells_one (l : List Tok) : ∀ u ∈ toksCells l, u.oneCell' = true := by
  intro u hu
  simp only [toksCells, List.mem_flatMap] at hu
  obtain ⟨t, _, hu⟩ := hu
  simp [Tok.cells] at hu
  rcases hu with rfl | rfl | rfl | rfl <;> rfl

/-- A list of tokens, or a fault: its number, its spot. -/
abbrev Toks := List Tok × Nat × (Int × Int)

def endTok (here : Int × Int) : Tok := ⟨0, ⟨#[]⟩, here⟩

def scanGo (s : ByteArray) : Nat → Nat → Int × Int → Bool → Nat → List Tok → Toks
  | 0, _, here, _, _, acc => (acc ++ [endTok here], 0, (0, 0))
  | f + 1, pos, here, remark, behind, acc =>
    if pos < s.size then
      if brokenB (s.extract pos s.size) (Utf8.decode s pos).1 then ([], 4, here)
      else if pos < behind then scanGo s f (pos + (Utf8.decode s pos).2) (nextP here (Utf8.decode s pos).1) remark behind acc
      else if remark then scanGo s f (pos + (Utf8.decode s pos).2) (nextP here (Utf8.decode s pos).1) (((Utf8.decode s pos).1 : Int) != 10) behind acc
      else if (Utf8.decode s pos).1 = 35 then scanGo s f (pos + (Utf8.decode s pos).2) (nextP here (Utf8.decode s pos).1) true behind acc
      else if blankB (Utf8.decode s pos).1 then scanGo s f (pos + (Utf8.decode s pos).2) (nextP here (Utf8.decode s pos).1) false behind acc
      else if (tokOf (s.extract pos s.size)).2.2 = 0 then
        scanGo s f (pos + (Utf8.decode s pos).2) (nextP here (Utf8.decode s pos).1) false (pos + (tokOf (s.extract pos s.size)).2.1)
          (acc ++ [⟨(tokOf (s.extract pos s.size)).1, s.extract pos (pos + (tokOf (s.extract pos s.size)).2.1), here⟩])
      else ([], (tokOf (s.extract pos s.size)).2.2, here)
    else (acc ++ [endTok here], 0, (0, 0))

/-- What scan.Tokens answers. -/
def scanOf (s : ByteArray) : Toks := if 65536 < s.size then ([], 3, (1, 1)) else scanGo s s.size 0 (1, 1) false 0 []

section
variable (s : ByteArray) (f pos : Nat) (here : Int × Int) (remark : Bool) (behind : Nat) (acc : List Tok)
theorem scanGo_end (h : ¬ pos < s.size) : scanGo s f pos here remark behind acc = (acc ++ [endTok here], 0, (0, 0)) := by
  cases f <;> simp [scanGo, h]
theorem scanGo_broken (hp : pos < s.size) (hb : brokenB (s.extract pos s.size) (Utf8.decode s pos).1 = true) : scanGo s (f + 1) pos here remark behind acc = ([], 4, here) := by
  conv => lhs; unfold scanGo
  rw [if_pos hp, if_pos hb]
theorem scanGo_in (hp : pos < s.size) (hb : brokenB (s.extract pos s.size) (Utf8.decode s pos).1 = false) (h1 : pos < behind) :
    scanGo s (f + 1) pos here remark behind acc = scanGo s f (pos + (Utf8.decode s pos).2) (nextP here (Utf8.decode s pos).1) remark behind acc := by
  conv => lhs; unfold scanGo
  rw [if_pos hp, if_neg (by simp [hb]), if_pos h1]
theorem scanGo_remark (hp : pos < s.size) (hb : brokenB (s.extract pos s.size) (Utf8.decode s pos).1 = false) (h1 : ¬ pos < behind) :
    scanGo s (f + 1) pos here true behind acc = scanGo s f (pos + (Utf8.decode s pos).2) (nextP here (Utf8.decode s pos).1) (((Utf8.decode s pos).1 : Int) != 10) behind acc := by
  conv => lhs; unfold scanGo
  rw [if_pos hp, if_neg (by simp [hb]), if_neg h1, if_pos rfl]
theorem scanGo_hash (hp : pos < s.size) (hb : brokenB (s.extract pos s.size) (Utf8.decode s pos).1 = false) (h1 : ¬ pos < behind) (h2 : (Utf8.decode s pos).1 = 35) :
    scanGo s (f + 1) pos here false behind acc = scanGo s f (pos + (Utf8.decode s pos).2) (nextP here (Utf8.decode s pos).1) true behind acc := by
  conv => lhs; unfold scanGo
  rw [if_pos hp, if_neg (by simp [hb]), if_neg h1, if_neg (by simp), if_pos h2]
theorem scanGo_blank (hp : pos < s.size) (hb : brokenB (s.extract pos s.size) (Utf8.decode s pos).1 = false) (h1 : ¬ pos < behind) (h2 : (Utf8.decode s pos).1 ≠ 35) (h3 : blankB (Utf8.decode s pos).1 = true) :
    scanGo s (f + 1) pos here false behind acc = scanGo s f (pos + (Utf8.decode s pos).2) (nextP here (Utf8.decode s pos).1) false behind acc := by
  conv => lhs; unfold scanGo
  rw [if_pos hp, if_neg (by simp [hb]), if_neg h1, if_neg (by simp), if_neg h2, if_pos h3]
theorem scanGo_tok (hp : pos < s.size) (hb : brokenB (s.extract pos s.size) (Utf8.decode s pos).1 = false) (h1 : ¬ pos < behind) (h2 : (Utf8.decode s pos).1 ≠ 35) (h3 : blankB (Utf8.decode s pos).1 = false)
    (h4 : (tokOf (s.extract pos s.size)).2.2 = 0) :
    scanGo s (f + 1) pos here false behind acc = scanGo s f (pos + (Utf8.decode s pos).2) (nextP here (Utf8.decode s pos).1) false (pos + (tokOf (s.extract pos s.size)).2.1)
      (acc ++ [⟨(tokOf (s.extract pos s.size)).1, s.extract pos (pos + (tokOf (s.extract pos s.size)).2.1), here⟩]) := by
  conv => lhs; unfold scanGo
  rw [if_pos hp, if_neg (by simp [hb]), if_neg h1, if_neg (by simp), if_neg h2, if_neg (by simp [h3]), if_pos h4]
theorem scanGo_fault (hp : pos < s.size) (hb : brokenB (s.extract pos s.size) (Utf8.decode s pos).1 = false) (h1 : ¬ pos < behind) (h2 : (Utf8.decode s pos).1 ≠ 35) (h3 : blankB (Utf8.decode s pos).1 = false)
    (h4 : (tokOf (s.extract pos s.size)).2.2 ≠ 0) :
    scanGo s (f + 1) pos here false behind acc = ([], (tokOf (s.extract pos s.size)).2.2, here) := by
  conv => lhs; unfold scanGo
  rw [if_pos hp, if_neg (by simp [hb]), if_neg h1, if_neg (by simp), if_neg h2, if_neg (by simp [h3]), if_neg h4]
end

theorem tokOf_size (s : ByteArray) (h : 0 < s.size) : (tokOf s).2.1 ≤ s.size := by
  have h1 := (wordOf_le s).1
  have h2 := (numOf_le s).1
  unfold tokOf
  repeat' split
  all_goals simp
  all_goals omega
theorem tokOf_kind (s : ByteArray) : (tokOf s).1 ≤ 3 := by
  unfold tokOf
  repeat' split
  all_goals simp
theorem nextP_bd (h : Int × Int) (r : Int) (k : Nat) (h1 : 0 ≤ h.1 ∧ 0 ≤ h.2 ∧ h.1 ≤ k + 1 ∧ h.2 ≤ k + 1) : 0 ≤ (nextP h r).1 ∧ 0 ≤ (nextP h r).2 ∧ (nextP h r).1 ≤ k + 2 ∧ (nextP h r).2 ≤ k + 2 := by
  unfold nextP
  split <;> simp <;> omega
end Go.Proofs.YtbkjminjkjnkpaaGreatDoor

/- What scan.Tokens keeps in memory from rune to rune. -/
namespace Go.Proofs.YtbkjminjkjnkpaaGreatDoor
open Go.RowKit Go.Lib

theorem ownsRow_later {w w' : World} {base : Nat} {e : TypeId} {size : Nat} {v : Value} {n : Nat} {xs : List Value} (h : w.ownsRow base e size v n xs) (hb : Below w.heap.size w w') : w'.ownsRow base e size v n xs := by
  refine ⟨h.1, ?_⟩
  rcases h.2 with h0 | ⟨g, cap, cur, hv, hg, hh, r⟩
  · exact .inl h0
  · have hlt : g < w.heap.size := (Array.getElem?_eq_some_iff.1 hh).1
    exact .inr ⟨g, cap, cur, hv, hg, (hb.block g hlt).trans hh, r⟩
theorem ownsRow_base {w : World} {base base' : Nat} {e : TypeId} {size : Nat} {v : Value} {n : Nat} {xs : List Value} (h : w.ownsRow base e size v n xs) (hb : base' ≤ base) : w.ownsRow base' e size v n xs := by
  refine ⟨h.1, ?_⟩
  rcases h.2 with h0 | ⟨g, cap, cur, hv, hg, r⟩
  · exact .inl h0
  · exact .inr ⟨g, cap, cur, hv, Nat.le_trans hb hg, r⟩
/-- A write below the base. -/
theorem ownsRow_set {w : World} {base : Nat} {e : TypeId} {size : Nat} {v : Value} {n : Nat} {xs : List Value} (h : w.ownsRow base e size v n xs) {a : Addr} (ha : a.block < base) (u : Value) : (w.setCell a u).ownsRow base e size v n xs :=
  ownsRow_setCell_below h ha u
theorem heap_lt {w : World} {g : Nat} {o : Obj} (h : w.heap[g]? = some o) : g < w.heap.size := (Array.getElem?_eq_some_iff.1 h).1
theorem cell_blk {w : World} {g i : Nat} {t : TypeId} {cs : Array Value} {fz : Nat × Nat} (h : w.heap[g]? = some (.cells cs t fz)) : w.cell? ⟨g, i, none⟩ = cs[i]? := by
  simp [World.cell?, h]
theorem free_blk {w : World} {g i : Nat} {t : TypeId} {cs : Array Value} (h : w.heap[g]? = some (.cells cs t (0, 0))) : w.frozen? ⟨g, i, none⟩ = false := by
  simp [World.frozen?, h]
theorem heap_set {w : World} {g i : Nat} {t : TypeId} {cs : Array Value} (h : w.heap[g]? = some (.cells cs t (0, 0))) (u : Value) : (w.setCell ⟨g, i, none⟩ u).heap[g]? = some (.cells (cs.setIfInBounds i u) t (0, 0)) := by
  simp [World.setCell, Array.getElem?_modify, h]
theorem heap_set_far {w : World} {g : Nat} {a : Addr} (hne : g ≠ a.block) (u : Value) : (w.setCell a u).heap[g]? = w.heap[g]? := Below.heap_setCell w a u g hne

structure AtRune (w wr : World) (B H : Nat) (s : ByteArray) (pos : Nat) (here : Int × Int) (v : Value) (acc : List Tok) : Prop where
  fault : wr.heap[B]? = some (.cells #[.int .i64 0, .int .i64 0, .int .i64 0] 31 (0, 0))
  spot : wr.heap[H]? = some (.cells #[.int .i64 here.1, .int .i64 here.2] 29 (0, 0))
  iter : wr.heap[H + 1]? = some (.stringIter s pos)
  own : wr.ownsRow (H + 2) 66 4 v acc.length (toksCells acc)
  below : Below B w wr
  lt : B < H

section
variable {w wr wr' : World} {B H : Nat} {s : ByteArray} {pos : Nat} {here : Int × Int} {v : Value} {acc : List Tok}
theorem AtRune.size (h : AtRune w wr B H s pos here v acc) : H + 1 < wr.heap.size := heap_lt h.iter
theorem AtRune.next (h : AtRune w wr B H s pos here v acc) (pos' : Nat) : AtRune w (wr.iterAt (H + 1) s pos') B H s pos' here v acc := by
  have hl := h.lt
  refine ⟨?_, ?_, Lib.iterAt_heap _ _ _ _ _ h.iter, ownsRow_iterAt h.own (by omega) s pos', Lib.below_iterAt h.below (by omega) s pos', hl⟩
  · rw [Lib.iterAt_other _ _ _ _ _ (by omega)]; exact h.fault
  · rw [Lib.iterAt_other _ _ _ _ _ (by omega)]; exact h.spot
theorem AtRune.later (h : AtRune w wr B H s pos here v acc) (hb : Below wr.heap.size wr wr') : AtRune w wr' B H s pos here v acc := by
  have hl := h.lt
  have hz := h.size
  exact ⟨(hb.block _ (by omega)).trans h.fault, (hb.block _ (by omega)).trans h.spot, (hb.block _ (by omega)).trans h.iter, ownsRow_later h.own hb, h.below.trans (hb.mono (by omega)), hl⟩
theorem AtRune.drew (h : AtRune w wr B H s pos here v acc) : AtRune w wr.drew B H s pos here v acc := h.later (Below.refl _ _).drew
theorem AtRune.alloc (h : AtRune w wr B H s pos here v acc) (o : Obj) : AtRune w (wr.alloc o) B H s pos here v acc := h.later ((Below.refl _ _).alloc (Nat.le_refl _) _)
/-- Behind an append. -/
theorem AtRune.grown (h : AtRune w wr B H s pos here v acc) {v' : Value} {acc' : List Tok} (ho : wr'.ownsRow (H + 2) 66 4 v' acc'.length (toksCells acc')) (hg : wr.grownBy wr' v.ownBlock) : AtRune w wr' B H s pos here v' acc' := by
  have hl := h.lt
  have hz := h.size
  have hr : ∀ k, v.ownBlock = some k → H + 2 ≤ k := fun k hk => (h.own.lt k hk).1
  have hk : ∀ i, i < H + 2 → wr'.heap[i]? = wr.heap[i]? := fun i hi => hg.block i (by omega) (fun e => by have := hr _ e.symm; omega)
  exact ⟨(hk _ (by omega)).trans h.fault, (hk _ (by omega)).trans h.spot, (hk _ (by omega)).trans h.iter, ho, h.below.grown hg (by omega) (fun k hk => by have := hr k hk; omega), hl⟩
theorem AtRune.cells (h : AtRune w wr B H s pos here v acc) : wr.cell? ⟨H, 0, none⟩ = some (.int .i64 here.1) ∧ wr.cell? ⟨H, 1, none⟩ = some (.int .i64 here.2) ∧ wr.frozen? ⟨H, 0, none⟩ = false ∧ wr.frozen? ⟨H, 1, none⟩ = false :=
  ⟨by rw [cell_blk h.spot]; rfl, by rw [cell_blk h.spot]; rfl, free_blk h.spot, free_blk h.spot⟩
theorem AtRune.faults (h : AtRune w wr B H s pos here v acc) : wr.cell? ⟨B, 0, none⟩ = some (.int .i64 0) ∧ wr.cell? ⟨B, 1, none⟩ = some (.int .i64 0) ∧ wr.cell? ⟨B, 2, none⟩ = some (.int .i64 0) ∧
    wr.frozen? ⟨B, 0, none⟩ = false ∧ wr.frozen? ⟨B, 1, none⟩ = false ∧ wr.frozen? ⟨B, 2, none⟩ = false :=
  ⟨by rw [cell_blk h.fault]; rfl, by rw [cell_blk h.fault]; rfl, by rw [cell_blk h.fault]; rfl, free_blk h.fault, free_blk h.fault, free_blk h.fault⟩
/-- The spot is written anew. -/
theorem AtRune.set (h : AtRune w wr B H s pos here v acc) (l c : Int) : AtRune w ((wr.setCell ⟨H, 0, none⟩ (.int .i64 l)).setCell ⟨H, 1, none⟩ (.int .i64 c)) B H s pos (l, c) v acc := by
  have hl := h.lt
  refine ⟨?_, heap_set (heap_set h.spot _) _, ?_, ownsRow_set (ownsRow_set h.own (by simp) _) (by simp) _, (h.below.setCell (p := ⟨H, 0, none⟩) (by simp; omega) _).setCell (p := ⟨H, 1, none⟩) (by simp; omega) _, hl⟩
  · rw [heap_set_far (by simp; omega), heap_set_far (by simp; omega)]; exact h.fault
  · rw [heap_set_far (by simp), heap_set_far (by simp)]; exact h.iter
end
end Go.Proofs.YtbkjminjkjnkpaaGreatDoor

/- scan.Tokens: what it answers, for every text. -/
namespace Go.Proofs.YtbkjminjkjnkpaaGreatDoor
open Go.RowKit Go.Lib

theorem clone_any (s : ByteArray) (w : World) (hs : s.size ≤ 281474976710656) :
    Calls Tryz.prog 32 #[.string s] w fun e w' => e = .returned (.string s) ∧ Below w.heap.size w w' := by
  have hc := Tryz.stringslite_Clone s w hs
  have HC := Lib.hid hc
  clear hc
  go_enter Tryz.func32, Tryz.ntmps32
  go_wp2_with fail
  refine HC.out.mono ?_
  rintro e w1 ⟨rfl, b1⟩
  go_wp2
  go_ret
  exact ⟨rfl, b1⟩

theorem tok_info : (Tryz.prog.info? 66).map (fun i => (i.zero, i.size, i.bytes)) = some (some (.agg #[.int .u8 0, .string ⟨#[]⟩, .int .i64 0, .int .i64 0]), 4, 40) := by kernel_rfl

/-- What the call hands back, in memory. -/
def Answers (w : World) (r : Toks) (e : Ending) (w' : World) : Prop :=
  ∃ v, e = .returned (.tuple #[v, .agg #[.int .i64 r.2.1, .int .i64 r.2.2.1, .int .i64 r.2.2.2]]) ∧ w'.ownsRow w.heap.size 66 4 v r.1.length (toksCells r.1) ∧ Below w.heap.size w w'

set_option maxHeartbeats 4000000 in
set_option maxRecDepth 100000 in
theorem tokens_small (s : ByteArray) (w : World) (hs : s.size ≤ 65536) (hT : Tabs w) :
    Calls Tryz.prog 16 #[.string s] w (Answers w (scanOf s)) := by
  have hd : decide ((65536 : Int) < (s.size : Int)) = false := by simp; omega
  have HO : Hid (scanOf s = scanGo s s.size 0 (1, 1) false 0 []) := by unfold scanOf; rw [if_neg (by omega)]; exact rfl
  obtain ⟨i0, hi0, hz0, hz1, hz2⟩ := info_parts tok_info
  go_enter Tryz.func16, Tryz.ntmps16
  go_wp2_with fail
  refine (beginning_any _).mono ?_
  rintro e w1 ⟨rfl, b1⟩
  have hB1 : w.heap.size + 1 ≤ w1.heap.size := by have := b1.size; simpa using this
  have hF1 : w1.heap[w.heap.size]? = some (.cells #[.int .i64 0, .int .i64 0, .int .i64 0] 31 (0, 0)) := by
    rw [b1.block _ (by simp)]
    exact heap_alloc_new w _
  have hb0 : Below w.heap.size w w1 := ((Below.refl _ w).alloc (Nat.le_refl _) _).trans (b1.mono (by simp))
  go_wp2
  go_loopw [5, 6, 7] (fun v5 v6 v7 wr => ∃ (pos fuel behind : Nat) (here : Int × Int) (remark : Bool) (acc : List Tok), v6 = .bool remark ∧ v7 = .int .i64 behind ∧ AtRune w wr w.heap.size w1.heap.size s pos here v5 acc ∧
      scanGo s fuel pos here remark behind acc = scanOf s ∧ s.size ≤ pos + fuel ∧ pos ≤ s.size ∧ behind ≤ s.size ∧ acc.length ≤ pos ∧ (0 ≤ here.1 ∧ 0 ≤ here.2 ∧ here.1 ≤ pos + 1 ∧ here.2 ≤ pos + 1)) (fun _ _ _ wr => s.size - wr.iterPos (w1.heap.size + 1))
  case atStart =>
    refine ⟨0, s.size, 0, (1, 1), false, [], rfl, rfl, ⟨?_, ?_, ?_, World.ownsRow_nil _ _ _ _, ?_, by omega⟩, HO.out.symm, by omega, by omega, by omega, by simp, by simp⟩
    · rw [World.iter, Below.heap_alloc _ _ _ (by simp; omega), Below.heap_alloc _ _ _ (by omega)]; exact hF1
    · rw [World.iter, Below.heap_alloc _ _ _ (by simp)]; exact heap_alloc_new w1 _
    · have := World.iter_heap (w1.alloc (.cells #[.int .i64 1, .int .i64 1] 29)) s 0
      simpa using this
    · exact (hb0.alloc (by omega) _).alloc (by simp; omega) _
  case round =>
    obtain ⟨pos, fuel, behind, here, remark, acc, rfl, rfl, hat, hgo, hfu, hpos, hbe, hal, hh⟩ := hrel
    have hmeas := iterPos_of hat.iter
    have HM := Lib.hid hmeas
    have hsz := hat.size
    have hl := hat.lt
    clear hmeas b1 hF1 hb0
    by_cases hp : pos < s.size
    · have hnx : ∀ ty, (Instr.next (.pointer (some ⟨w1.heap.size + 1, 0, none⟩)) true ty).run Tryz.prog wr = _ := fun ty => Lib.run_next_any_at wr (w1.heap.size + 1) s pos ty hat.iter hp
      have hwd := width_pos s pos hp
      have hwf := decode_fits s pos hp
      have hd1 := decode_le s pos
      have hat2 := hat.next (pos + (Utf8.decode s pos).2)
      obtain ⟨f, rfl⟩ : ∃ f, fuel = f + 1 := ⟨fuel - 1, by omega⟩
      have h1 := scanGo_broken s f pos here remark behind acc hp
      have h2 := scanGo_in s f pos here remark behind acc hp
      have h3 := scanGo_remark s f pos here behind acc hp
      have h4 := scanGo_hash s f pos here behind acc hp
      have h5 := scanGo_blank s f pos here behind acc hp
      have h6 := scanGo_tok s f pos here behind acc hp
      have h7 := scanGo_fault s f pos here behind acc hp
      have hts := tokOf_size (s.extract pos s.size) (by simp; omega)
      have htk := tokOf_kind (s.extract pos s.size)
      have htok := fun W hW => tokenAt_any (s.extract pos s.size) W (by simp [maxLen]; omega) (by simp; omega) hW
      have hnp := nextP_bd here (Utf8.decode s pos).1 pos hh
      have hnc := fun W => next_any here.1 here.2 (Utf8.decode s pos).1 W (by omega) (by omega) (by omega) (by omega)
      have hbr := fun W => broken_any (s.extract pos s.size) (Utf8.decode s pos).1 W
      have hz2 : (s.extract pos s.size).size = s.size - pos := by simp
      rw [hz2] at hts
      clear hz2
      generalize brokenB (s.extract pos s.size) (Utf8.decode s pos).1 = bb at *
      generalize nextP here (Utf8.decode s pos).1 = here' at *
      generalize wr.iterAt (w1.heap.size + 1) s (pos + (Utf8.decode s pos).2) = W2 at *
      generalize (Utf8.decode s pos).1 = r at *
      generalize (Utf8.decode s pos).2 = n at *
      generalize tokOf (s.extract pos s.size) = tk at *
      obtain ⟨kd, sz, er⟩ := tk
      simp only [] at *
      have HG := Lib.hid hgo
      have H1 := Lib.hid h1
      have H2 := Lib.hid h2
      have H3 := Lib.hid h3
      have H4 := Lib.hid h4
      have H5 := Lib.hid h5
      have H6 := Lib.hid h6
      have H7 := Lib.hid h7
      have HT := Lib.hid htok
      have HN := Lib.hid hnc
      have HB := Lib.hid hbr
      clear hgo h1 h2 h3 h4 h5 h6 h7 htok hnc hbr
      have hsz2 := hat2.size
      obtain ⟨c0, c1, f0, f1⟩ := hat2.cells
      obtain ⟨e0, e1, e2, d0, d1, d2⟩ := hat2.faults
      cases hbb : bb with
      | true =>
        subst hbb
        go_wp2_with (go_at_call 29; refine (HB.out _).mono ?_; rintro e w' ⟨rfl, rfl⟩)
        go_region
        go_wp2
        refine bodyPost_ret (v := .tuple #[.slice none 0 0, .agg #[.int .i64 4, .int .i64 here.1, .int .i64 here.2]]) (by simp [results, Tryz.results16, go_sem, c0, c1, e0, e1, e2]) rfl ?_
        have HR : scanOf s = ([], 4, here) := by rw [← HG.out, H1.out trivial]
        rw [HR]
        exact ⟨_, rfl, World.ownsRow_nil _ _ _ _, (((hat2.below.setCell (p := ⟨w.heap.size, 0, none⟩) (Nat.le_refl _) _).setCell (p := ⟨w.heap.size, 1, none⟩) (Nat.le_refl _) _).setCell (p := ⟨w.heap.size, 2, none⟩) (Nat.le_refl _) _).drew⟩
      | false =>
        subst hbb
        by_cases hbd : pos < behind
        · have HR := Lib.hid (H2.out rfl hbd)
          rw [HG.out] at HR
          go_wp2_with (go_at_call 29; refine (HB.out _).mono ?_; rintro e w' ⟨rfl, rfl⟩)
          refine (HN.out _).mono ?_
          rintro e w4 ⟨rfl, b4⟩
          have hat4 := hat2.later b4
          obtain ⟨c0', c1', f0', f1'⟩ := hat4.cells
          have hat5 := hat4.set here'.1 here'.2
          go_wp2
          go_roundw
          case rel => exact ⟨pos + n, f, behind, here', remark, acc, rfl, rfl, hat5, HR.out.symm, by omega, by omega, by omega, by omega, by omega⟩
          case measure => rw [HM.out, iterPos_of hat5.iter]; omega
        · cases hre : remark with
          | true =>
            subst hre
            have HR := Lib.hid (H3.out rfl hbd)
            rw [HG.out] at HR
            go_wp2_with (go_at_call 29; refine (HB.out _).mono ?_; rintro e w' ⟨rfl, rfl⟩)
            refine (HN.out _).mono ?_
            rintro e w4 ⟨rfl, b4⟩
            have hat4 := hat2.later b4
            obtain ⟨c0', c1', f0', f1'⟩ := hat4.cells
            have hat5 := hat4.set here'.1 here'.2
            go_wp2
            go_roundw
            case rel => exact ⟨pos + n, f, behind, here', ((r : Int) != 10), acc, rfl, rfl, hat5, HR.out.symm, by omega, by omega, by omega, by omega, by omega⟩
            case measure => rw [HM.out, iterPos_of hat5.iter]; omega
          | false =>
            subst hre
            by_cases hr : r = 35
            · have HR := Lib.hid (H4.out rfl hbd hr)
              rw [HG.out] at HR
              have q : ((r : Int) == 35) = true := by simp; omega
              clear hr
              go_wp2_with (go_at_call 29; refine (HB.out _).mono ?_; rintro e w' ⟨rfl, rfl⟩)
              refine (HN.out _).mono ?_
              rintro e w4 ⟨rfl, b4⟩
              have hat4 := hat2.later b4
              obtain ⟨c0', c1', f0', f1'⟩ := hat4.cells
              have hat5 := hat4.set here'.1 here'.2
              go_wp2
              go_roundw
              case rel => exact ⟨pos + n, f, behind, here', true, acc, rfl, rfl, hat5, HR.out.symm, by omega, by omega, by omega, by omega, by omega⟩
              case measure => rw [HM.out, iterPos_of hat5.iter]; omega
            · have q : ((r : Int) == 35) = false := by simp; omega
              cases hbl : blankB r with
              | true =>
                have HR := Lib.hid (H5.out rfl hbd hr hbl)
                rw [HG.out] at HR
                clear hr
                go_wp2_with (first | (go_at_call 29; refine (HB.out _).mono ?_; rintro e w' ⟨rfl, rfl⟩) | (go_at_call 30; refine (blank_any _ _).mono ?_; rintro e w' ⟨rfl, rfl⟩))
                refine (HN.out _).mono ?_
                rintro e w4 ⟨rfl, b4⟩
                have hat4 := hat2.later b4
                obtain ⟨c0', c1', f0', f1'⟩ := hat4.cells
                have hat5 := hat4.set here'.1 here'.2
                go_wp2
                go_roundw
                case rel => exact ⟨pos + n, f, behind, here', false, acc, rfl, rfl, hat5, HR.out.symm, by omega, by omega, by omega, by omega, by omega⟩
                case measure => rw [HM.out, iterPos_of hat5.iter]; omega
              | false =>
                by_cases her : er = 0
                · have HR := Lib.hid (H6.out rfl hbd hr hbl her)
                  rw [HG.out] at HR
                  clear hr
                  subst her
                  go_wp2_with (first | (go_at_call 29; refine (HB.out _).mono ?_; rintro e w' ⟨rfl, rfl⟩) | (go_at_call 30; refine (blank_any _ _).mono ?_; rintro e w' ⟨rfl, rfl⟩))
                  refine (HT.out _ (hT.below hat2.below)).mono ?_
                  rintro e w3 ⟨rfl, b3⟩
                  have hat3 := hat2.later b3
                  obtain ⟨c0'', c1'', f0'', f1''⟩ := hat3.cells
                  have hkd : Hid (acc.length + 1 ≤ 65537) := by unfold Hid; omega
                  have Hat3 := Lib.hid hat3
                  have hsx : (s.extract pos (pos + sz)).size ≤ 281474976710656 := by simp; omega
                  go_wp2_with fail
                  obtain ⟨q, hq⟩ : ∃ q, q = pos + sz := ⟨_, rfl⟩
                  rw [show (pos : Int) + (sz : Int) = (q : Int) from by omega]
                  rw [← hq] at hsx HR
                  have hq1 : pos ≤ q := by omega
                  have hq2 : q ≤ s.size := by omega
                  have HQ := Lib.hid hq
                  clear hq
                  go_region_held3 (fun w' => w'.cell? ⟨w1.heap.size, 0, none⟩ = some (.int .i64 here.1) ∧ w'.cell? ⟨w1.heap.size, 1, none⟩ = some (.int .i64 here.2))
                    (first
                      | go_keep
                      | (exact ⟨((Hat3.out.later b5).cells).1, ((Hat3.out.later b5).cells).2.1⟩) | (exact ⟨((Hat3.out.drew.later b5).cells).1, ((Hat3.out.drew.later b5).cells).2.1⟩)
                      | (have hatE := (hat5.alloc _).grown (acc' := acc ++ [⟨kd, s.extract pos q, here⟩]) (by rw [toksCells_snoc, List.length_append]; exact hown6) hgrow; exact ⟨hatE.cells.1, hatE.cells.2.1⟩))
                    (first
                      | (go_at_call 32; refine (clone_any _ _ hsx).mono ?_; rintro e w5 ⟨rfl, b5⟩)
                      | (have hat5 : AtRune w w5 w.heap.size w1.heap.size s (pos + n) here _ acc := (by first | exact Hat3.out.drew.later b5 | exact Hat3.out.later b5)
                         (refine step_append_lies _ (by rfl) _ _ _ (by rfl) (w1.heap.size + 2) 66 i0 _ 4 40 Tryz.underlying56 hi0 hz0 hz1 hz2 rfl (by omega) _ acc.length (toksCells acc) (by rfl) (hat5.own.alloc _) ⟨w5.heap.size, 0, none⟩ 1 1 (Tok.cells ⟨kd, s.extract pos q, here⟩) (by rfl) (by rfl) (World.news_of_block (cs := #[.int .u8 kd, .string (s.extract pos q), .int .i64 here.1, .int .i64 here.2]) (t := 66) (fr := (0, 0)) (heap_alloc_new _ _)) (by simp [Tok.cells, Value.oneCell']) (by omega) (by unfold maxLen; have := hkd.out; omega) (by have := hkd.out; omega) (by have := hat5.size; simp; omega) _ rfl ?_; intro g cap w6 hown6 hgrow hat6 hlt)))
                  have hatE := (hat5.alloc _).grown (acc' := acc ++ [⟨kd, s.extract pos q, here⟩]) (by rw [toksCells_snoc, List.length_append]; exact hown6) hgrow
                  go_wp2_with fail
                  refine (HN.out _).mono ?_
                  rintro e w7 ⟨rfl, b7⟩
                  have hat7 : AtRune w w7 w.heap.size w1.heap.size s (pos + n) here _ (acc ++ [⟨kd, s.extract pos q, here⟩]) := (by first | exact hatE.drew.later b7 | exact hatE.later b7)
                  obtain ⟨c0', c1', f0', f1'⟩ := hat7.cells
                  have hat8 := hat7.set here'.1 here'.2
                  go_wp2
                  go_roundw
                  case rel => exact ⟨pos + n, f, q, here', false, acc ++ [⟨kd, s.extract pos q, here⟩], rfl, rfl, hat8, HR.out.symm, by omega, by omega, by omega, by rw [List.length_append]; simp; omega, by omega⟩
                  case measure => rw [HM.out, iterPos_of hat8.iter]; omega
                · have HR : Hid (scanOf s = ([], er, here)) := by rw [← HG.out, H7.out rfl hbd hr hbl her]; exact rfl
                  have q2 : ((er : Int) != 0) = true := by simp; omega
                  clear hr her
                  go_wp2_with (first | (go_at_call 29; refine (HB.out _).mono ?_; rintro e w' ⟨rfl, rfl⟩) | (go_at_call 30; refine (blank_any _ _).mono ?_; rintro e w' ⟨rfl, rfl⟩))
                  refine (HT.out _ (hT.below hat2.below)).mono ?_
                  rintro e w3 ⟨rfl, b3⟩
                  have hat3 := hat2.later b3
                  obtain ⟨c0'', c1'', f0'', f1''⟩ := hat3.cells
                  obtain ⟨e0'', e1'', e2'', d0'', d1'', d2''⟩ := hat3.faults
                  go_wp2
                  go_region
                  go_wp2
                  refine bodyPost_ret (v := .tuple #[.slice none 0 0, .agg #[.int .i64 er, .int .i64 here.1, .int .i64 here.2]]) (by simp [results, Tryz.results16, go_sem, c0'', c1'', e0'', e1'', e2'']) rfl ?_
                  rw [HR.out]
                  exact ⟨_, rfl, World.ownsRow_nil _ _ _ _, (((hat3.below.setCell (p := ⟨w.heap.size, 0, none⟩) (Nat.le_refl _) _).setCell (p := ⟨w.heap.size, 1, none⟩) (Nat.le_refl _) _).setCell (p := ⟨w.heap.size, 2, none⟩) (Nat.le_refl _) _).drew⟩
    · have hnx : ∀ ty, (Instr.next (.pointer (some ⟨w1.heap.size + 1, 0, none⟩)) true ty).run Tryz.prog wr = _ := fun ty => Lib.run_next_end_at wr (w1.heap.size + 1) s pos ty hat.iter hp
      have hend := scanGo_end s fuel pos here remark behind acc hp
      rw [hgo] at hend
      have HR := Lib.hid hend
      clear hgo hend
      obtain ⟨c0, c1, f0, f1⟩ := hat.cells
      obtain ⟨e0, e1, e2, d0, d1, d2⟩ := hat.faults
      have HA := Lib.hid hat
      clear hat
      go_wp2_with (at_builtin; (refine wpList_append_lies _ rfl (.tmp 78) (.tmp 81) 56 rfl (w1.heap.size + 2) 66 i0 _ 4 40 Tryz.underlying56 hi0 hz0 hz1 hz2 rfl (by omega) _ acc.length (toksCells acc) rfl (HA.out.own.alloc _) ⟨wr.heap.size, 0, none⟩ 1 1 (endTok here).cells rfl rfl (World.news_of_block (cs := #[.int .u8 0, .string ⟨#[]⟩, .int .i64 here.1, .int .i64 here.2]) (t := 66) (fr := (0, 0)) (heap_alloc_new _ _)) (by simp [endTok, Tok.cells, Value.oneCell']) (by omega) (by unfold maxLen; omega) (by omega) (by simp; omega) _ rfl ?_; intro g cap w2 hown2 hgrow hat2 hlt; have hatE := (HA.out.alloc _).grown (acc' := acc ++ [endTok here]) (by rw [toksCells_snoc, List.length_append]; exact hown2) hgrow; obtain ⟨q0, q1, q2, p0, p1, p2⟩ := hatE.faults))
      refine bodyPost_ret (v := .tuple #[.slice (some ⟨g, 0, none⟩) (acc.length + 1) cap, .agg #[.int .i64 0, .int .i64 0, .int .i64 0]]) (by simp [results, Tryz.results16, go_sem, q0, q1, q2]) rfl ?_
      rw [HR.out]
      refine ⟨_, rfl, ?_, ?_⟩
      · have ho := ownsRow_set (ownsRow_set (ownsRow_set hatE.own (a := ⟨w.heap.size, 0, none⟩) (by simp; omega) (.int .i64 0)) (a := ⟨w.heap.size, 1, none⟩) (by simp; omega) (.int .i64 0)) (a := ⟨w.heap.size, 2, none⟩) (by simp; omega) (.int .i64 0)
        exact ownsRow_base ho (by omega)
      · exact ((hatE.below.setCell (p := ⟨w.heap.size, 0, none⟩) (Nat.le_refl _) _).setCell (p := ⟨w.heap.size, 1, none⟩) (Nat.le_refl _) _).setCell (p := ⟨w.heap.size, 2, none⟩) (Nat.le_refl _) _

set_option maxHeartbeats 1000000 in
theorem tokens_great (s : ByteArray) (w : World) (hs : 65536 < s.size) (hm : s.size ≤ maxLen) :
    Calls Tryz.prog 16 #[.string s] w (Answers w (scanOf s)) := by
  have HO : Hid (scanOf s = ([], 3, (1, 1))) := by unfold scanOf; rw [if_pos hs]; exact rfl
  unfold maxLen at hm
  go_enter Tryz.func16, Tryz.ntmps16
  go_wp2_with fail
  refine (beginning_any _).mono ?_
  rintro e w1 ⟨rfl, b1⟩
  have hB1 : w.heap.size + 1 ≤ w1.heap.size := by have := b1.size; simpa using this
  have hF1 : w1.heap[w.heap.size]? = some (.cells #[.int .i64 0, .int .i64 0, .int .i64 0] 31 (0, 0)) := by
    rw [b1.block _ (by simp)]
    exact heap_alloc_new w _
  have hb0 : Below w.heap.size w w1 := ((Below.refl _ w).alloc (Nat.le_refl _) _).trans (b1.mono (by simp))
  have e0 : w1.cell? ⟨w.heap.size, 0, none⟩ = some (.int .i64 0) := by rw [cell_blk hF1]; rfl
  have e1 : w1.cell? ⟨w.heap.size, 1, none⟩ = some (.int .i64 0) := by rw [cell_blk hF1]; rfl
  have e2 : w1.cell? ⟨w.heap.size, 2, none⟩ = some (.int .i64 0) := by rw [cell_blk hF1]; rfl
  have d0 := free_blk (i := 0) hF1
  have d1 := free_blk (i := 1) hF1
  have d2 := free_blk (i := 2) hF1
  have lt : w.heap.size < w1.heap.size := by omega
  have ne : w1.heap.size ≠ w.heap.size := by omega
  clear b1 hF1
  go_wp2
  go_region
  go_wp2
  refine bodyPost_ret (v := .tuple #[.slice none 0 0, .agg #[.int .i64 3, .int .i64 1, .int .i64 1]]) (by simp [results, Tryz.results16, go_sem, e0, e1, e2, lt, ne]) rfl ?_
  rw [HO.out]
  refine ⟨_, rfl, World.ownsRow_nil _ _ _ _, ?_⟩
  exact ((((hb0.setCell (p := ⟨w.heap.size, 0, none⟩) (Nat.le_refl _) _).setCell (p := ⟨w.heap.size, 1, none⟩) (Nat.le_refl _) _).setCell (p := ⟨w.heap.size, 2, none⟩) (Nat.le_refl _) _).alloc (by simp; omega) _).drew

theorem tokens_any (s : ByteArray) (w : World) (hm : s.size ≤ maxLen) (hT : Tabs w) :
    Calls Tryz.prog 16 #[.string s] w (Answers w (scanOf s)) := by
  by_cases h : 65536 < s.size
  · exact tokens_great s w h hm
  · exact tokens_small s w (by omega) hT
end Go.Proofs.YtbkjminjkjnkpaaGreatDoor

/- Lists of tokens in memory; what a call that answers one leaves. -/
namespace Go.Proofs.YtbkjminjkjnkpaaGreatDoor
open Go.RowKit Go.Lib

/-- A slice of tokens, in memory. -/
def HasToks (w : World) (v : Value) (ts : List Tok) : Prop := ∃ base, w.ownsRow base 66 4 v ts.length (toksCells ts)
theorem HasToks.later {w w' : World} {v : Value} {ts : List Tok} (h : HasToks w v ts) (hb : Below w.heap.size w w') : HasToks w' v ts := h.imp fun _ h => ownsRow_later h hb

theorem flat4 (ts : List Tok) : ∀ (k j : Nat) (t : Tok), ts[k]? = some t → j < 4 → (toksCells ts)[k * 4 + j]? = t.cells[j]? := by
  induction ts with
  | nil => intro k j t h; simp at h
  | cons x l ih =>
    intro k j t h hj
    have e : toksCells (x :: l) = x.cells ++ toksCells l := by simp [toksCells]
    have hx : x.cells.length = 4 := rfl
    rw [e]
    cases k with
    | zero =>
      simp at h
      subst h
      rw [List.getElem?_append_left (by omega)]
      simp
    | succ k =>
      simp at h
      rw [List.getElem?_append_right (by omega), ← ih k j t h hj]
      congr 1
      omega

/-- A slice of tokens is nil and empty, or its cells lie in one block. -/
theorem HasToks.open {w : World} {v : Value} {ts : List Tok} (h : HasToks w v ts) :
    (v = .slice none 0 0 ∧ ts = []) ∨ ∃ g cap, v = .slice (some ⟨g, 0, none⟩) ts.length cap ∧ ts.length ≤ cap ∧ cap ≤ maxLen ∧
      ∀ k t, ts[k]? = some t → w.cell? ⟨g, k * 4, none⟩ = some (.int .u8 t.kind) ∧ w.cell? ⟨g, k * 4 + 1, none⟩ = some (.string t.text) ∧ w.cell? ⟨g, k * 4 + 2, none⟩ = some (.int .i64 t.spot.1) ∧ w.cell? ⟨g, k * 4 + 3, none⟩ = some (.int .i64 t.spot.2) := by
  obtain ⟨base, hl, h⟩ := h
  rcases h with ⟨hv, hn⟩ | ⟨g, cap, cur, hv, _, hh, hc, hm, _, ht⟩
  · exact .inl ⟨hv, List.eq_nil_of_length_eq_zero hn⟩
  · refine .inr ⟨g, cap, hv, hc, hm, fun k t hk => ?_⟩
    have hlt : k < ts.length := (List.getElem?_eq_some_iff.1 hk).1
    have hcell : ∀ j, j < 4 → w.cell? ⟨g, k * 4 + j, none⟩ = t.cells[j]? := fun j hj => by
      rw [cell_blk hh, ← flat4 ts k j t hk hj, ← ht, List.getElem?_take_of_lt (by omega)]
      simp
    exact ⟨hcell 0 (by omega), hcell 1 (by omega), hcell 2 (by omega), hcell 3 (by omega)⟩

def ToksAt (w : World) (ts : List Tok) (er : Int) (at_ : Int × Int) (e : Ending) (w' : World) : Prop :=
  ∃ v, e = .returned (.tuple #[v, .agg #[.int .i64 er, .int .i64 at_.1, .int .i64 at_.2]]) ∧ HasToks w' v ts ∧ Below w.heap.size w w'
theorem Answers.at_ {w w' : World} {r : Toks} {e : Ending} (h : Answers w r e w') : ToksAt w r.1 r.2.1 r.2.2 e w' := by
  obtain ⟨v, he, ho, hb⟩ := h
  exact ⟨v, he, ⟨_, ho⟩, hb⟩
theorem later_trans {a b c : World} (h : Below a.heap.size a b) (k : Below b.heap.size b c) : Below a.heap.size a c := h.trans (k.mono h.size)
theorem later_alloc {a b : World} (h : Below a.heap.size a b) (o : Obj) : Below a.heap.size a (b.alloc o) := h.alloc h.size o
theorem Tabs.alloc {w : World} (h : Tabs w) (o : Obj) : Tabs (w.alloc o) := h.below ((Below.refl _ _).alloc (Nat.le_refl _) _)

theorem made_toks (w : World) (ts : List Tok) (h : ts.length ≤ maxLen) : HasToks (w.alloc (.cells (toksCells ts).toArray 66)) (.slice (some ⟨w.heap.size, 0, none⟩) ts.length ts.length) ts := by
  refine ⟨w.heap.size, toksCells_len ts, .inr ⟨w.heap.size, ts.length, (toksCells ts).toArray, rfl, Nat.le_refl _, heap_alloc_new w _, Nat.le_refl _, h, ?_, ?_⟩⟩
  · simp [toksCells_len]
  · rw [← toksCells_len]; simp

end Go.Proofs.YtbkjminjkjnkpaaGreatDoor
