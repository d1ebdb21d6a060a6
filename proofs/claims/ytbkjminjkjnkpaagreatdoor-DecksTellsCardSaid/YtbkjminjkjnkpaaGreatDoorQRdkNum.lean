import Derived.Test.YtbkjminjkjnkpaaGreatDoorQDkMath
import Derived.Test.YtbkjminjkjnkpaaGreatDoorQDkInts
import Derived.Test.YtbkjminjkjnkpaaGreatDoorQRef
/- The reference of layer 5 (joustref05): number. -/
namespace Go.Proofs.YtbkjminjkjnkpaaGreatDoor
open Go.RowKit Go.Lib

/-- A number of one digit that may be a count; 0 of others. -/
def numR (s : ByteArray) : Nat := if s.size = 1 ∧ 48 ≤ byteAt s 0 ∧ byteAt s 0 ≤ 51 then byteAt s 0 - 48 else 0
theorem ret_int {a b : Int} (h : a = b) : Ending.returned (.int .i64 a) = .returned (.int .i64 b) := by rw [h]

set_option maxHeartbeats 2000000 in
set_option maxRecDepth 100000 in
theorem rnum_any (s : ByteArray) (w : World) (hs : s.size ≤ maxLen) : Calls Tryz.prog 45 #[.string s] w fun e w' => e = .returned (.int .i64 (numR s)) ∧ Below w.heap.size w w' := by
  unfold maxLen at hs
  by_cases h1 : s.size = 1
  · have q : ((s.size : Int) == 1) = true := by simp [h1]
    have hp : 0 < s.size := by omega
    have hb := byteAt_get s 0 hp
    have hl := (s[0]'hp).toNat_lt
    by_cases hx : 48 ≤ byteAt s 0 ∧ byteAt s 0 ≤ 51
    · have hn : numR s = byteAt s 0 - 48 := if_pos ⟨h1, hx⟩
      have HN := Lib.hid hn
      rw [hb] at hx
      have q3 : (((s[0]'hp).toNat : Int) - 48) % 256 ≤ 3 := by omega
      have he : (((s[0]'hp).toNat : Int) - 48) % 256 = ((byteAt s 0 - 48 : Nat) : Int) := by rw [hb]; omega
      have HE := Lib.hid he
      clear he hx hb hl hn
      go_enter Tryz.func45, Tryz.ntmps45
      go_wp2
      go_ret
      exact ⟨ret_int (by rw [HN.out, ← HE.out]), Below.refl _ _⟩
    · have hn : numR s = 0 := if_neg (fun h => hx h.2)
      have HN := Lib.hid hn
      rw [hb] at hx
      have q3 : ¬ ((((s[0]'hp).toNat : Int) - 48) % 256 ≤ 3) := by omega
      clear hx hb hl hn
      go_enter Tryz.func45, Tryz.ntmps45
      go_wp2
      go_ret
      exact ⟨ret_int (by rw [HN.out]; rfl), Below.refl _ _⟩
  · have q : ((s.size : Int) == 1) = false := by simp; omega
    have hn : numR s = 0 := if_neg (fun h => h1 h.1)
    have HN := Lib.hid hn
    go_enter Tryz.func45, Tryz.ntmps45
    go_wp2
    go_ret
    exact ⟨ret_int (by rw [HN.out]; rfl), by first | exact Below.refl _ _ | exact (Below.refl _ _).drew⟩

/-! ### numbers' texts -/
theorem fold_le : ∀ (l : List UInt8) (v : Nat), v ≤ l.foldl (fun v b => 10 * v + (b.toNat - 48)) v
  | [], _ => Nat.le_refl _
  | b :: l, v => Nat.le_trans (by omega) (fold_le l (10 * v + (b.toNat - 48)))
theorem val_big {b c : UInt8} {l : List UInt8} (h : 49 ≤ b.toNat) : 10 ≤ valOf (b :: c :: l) := by
  unfold valOf
  simp only [List.foldl_cons]
  exact Nat.le_trans (by omega) (fold_le l _)
/-- A number's text has no 0 ahead. -/
def Lead (x : ByteArray) : Prop := x.size = 1 ∨ byteAt x 0 ≠ 48
theorem lead_of {x : ByteArray} (h : TokOK 2 x) : Lead x := by
  have hp := tok_pos h
  obtain ⟨u, h0, ht, hx, -, -⟩ := h
  unfold tokOf at ht
  by_cases hw : 0 < (wordOf u).1
  · rw [if_pos hw] at ht
    by_cases h24 : 24 < (wordOf u).2
    · rw [if_pos h24] at ht; simp at ht
    · rw [if_neg h24] at ht; simp at ht
  · rw [if_neg hw] at ht
    by_cases hn : 0 < (numOf u).1
    · rw [if_pos hn] at ht
      by_cases hf : numFault u (numOf u).1 (numOf u).2 = 0
      · rw [if_pos hf] at ht
        simp only [Prod.mk.injEq, true_and, and_true] at ht
        unfold numFault at hf
        by_cases h9 : 99999 < (numOf u).2
        · rw [if_pos h9] at hf; cases hf
        · rw [if_neg h9] at hf
          by_cases hl : byteAt u 0 = 48 ∧ 1 < (numOf u).1
          · rw [if_pos hl] at hf; cases hf
          · by_cases h1 : x.size = 1
            · exact .inl h1
            · refine .inr fun e => hl ⟨?_, by omega⟩
              have hsz : x.size ≤ u.size := by
                have := congrArg ByteArray.size hx
                rw [ByteArray.size_extract] at this
                omega
              have hg := byteAt_extract u 0 x.size 0 (by omega) hsz
              rw [← hx, Nat.zero_add] at hg
              rw [← hg]; exact e
      · rw [if_neg hf] at ht; simp at ht
    · rw [if_neg hn] at ht
      by_cases hm : markB (byteAt u 0) = true
      · rw [if_pos hm] at ht; simp at ht
      · rw [if_neg hm] at ht; simp at ht
theorem num_is {x : ByteArray} (hd : ∀ b ∈ x.data.toList, 48 ≤ b.toNat ∧ b.toNat ≤ 57) (hp : 0 < x.size) (hl : Lead x) : numR x = if numK (2, x) < 1 ∨ 3 < numK (2, x) then 0 else numK (2, x) := by
  unfold numK numR
  have hb := byteAt_get x 0 hp
  have hsz : x.data.toList.length = x.size := Array.length_toList
  simp only []
  cases hx : x.data.toList with
  | nil => rw [hx] at hsz; simp at hsz; omega
  | cons b l =>
    have h0 := byte_list x 0 hp
    rw [hx] at h0 hsz hd
    have e0 : b = x[0]'hp := by simpa using h0
    rw [hb, ← e0]
    have hbd := hd b List.mem_cons_self
    cases l with
    | nil =>
      have hs1 : x.size = 1 := by simpa using hsz.symm
      unfold valOf
      simp only [List.foldl_cons, List.foldl_nil, Nat.mul_zero, Nat.zero_add]
      by_cases h3 : b.toNat ≤ 51
      · rw [if_pos ⟨hs1, hbd.1, h3⟩]
        split <;> omega
      · rw [if_neg (fun h => h3 h.2.2), if_pos (.inr (by omega))]
    | cons c l =>
      have hs2 : ¬ x.size = 1 := by rw [← hsz]; simp
      rw [if_neg (fun h => hs2 h.1)]
      have : b.toNat ≠ 48 := by
        rcases hl with h | h
        · exact absurd h hs2
        · rw [hb, ← e0] at h; exact h
      rw [if_pos (.inr (by have := val_big (b := b) (c := c) (l := l) (by omega); omega))]
end Go.Proofs.YtbkjminjkjnkpaaGreatDoor
