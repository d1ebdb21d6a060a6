/- Layer 1 (scan), plain: rune by rune, and token by token, come to the same. -/
import Derived.Test.YtanbkgifjlobgaaDoorRefToksMath
namespace Go.Proofs.YtanbkgifjlobgaaDoor
open Go.RowKit Go.Lib

/-- The bytes at a place are no UTF-8. -/
def badAt (s : ByteArray) (p : Nat) : Prop := (Utf8.decode s p).1 = 65533 ∧ (Utf8.decode s p).2 = 1

theorem decodeN_err (n b0 b1 b2 b3 : Nat) (h0 : b0 < 256) (h1 : b1 < 256) (h2 : b2 < 256) (h3 : b3 < 256) (h : (decodeN n b0 b1 b2 b3).1 = 65533) :
    ((decodeN n b0 b1 b2 b3).2 = 1 ∧ ¬ (2 < n ∧ b0 = 239 ∧ b1 = 191 ∧ b2 = 189)) ∨ ((decodeN n b0 b1 b2 b3).2 = 3 ∧ 2 < n ∧ b0 = 239 ∧ b1 = 191 ∧ b2 = 189) := by
  revert h
  unfold decodeN
  repeat' split
  all_goals intro h
  all_goals dsimp only at h
  all_goals first | (exact .inl ⟨rfl, by omega⟩) | (exact .inr ⟨rfl, by omega, by omega, by omega, by omega⟩) | (exfalso; omega)

theorem hasPrefix3 (l : List UInt8) : Lib.hasPrefix l [239, 191, 189] = true ↔ l[0]? = some 239 ∧ l[1]? = some 191 ∧ l[2]? = some 189 := by
  unfold Lib.hasPrefix
  rcases l with _ | ⟨a, _ | ⟨b, _ | ⟨c, l⟩⟩⟩ <;> simp [List.isPrefixOf] <;> grind

theorem brokenB_iff (s : ByteArray) (p : Nat) (hp : p < s.size) : brokenB (s.extract p s.size) (Utf8.decode s p).1 = true ↔ badAt s p := by
  have e := decode_at s p
  have h0 := (s.get! p).toNat_lt
  have h1 := (s.get! (p + 1)).toNat_lt
  have h2 := (s.get! (p + 2)).toNat_lt
  have h3 := (s.get! (p + 3)).toNat_lt
  have hE := decodeN_err (s.size - p) _ _ _ _ h0 h1 h2 h3
  rw [← e] at hE
  have hl : ∀ j, (s.extract p s.size).data.toList[j]? = if p + j < s.size then some (s.get! (p + j)) else none := fun j => by
    rw [extract_to_end]
    by_cases hj : p + j < s.size
    · rw [if_pos hj, List.getElem?_drop]
      simp [ByteArray.get!, hj]
    · rw [if_neg hj, List.getElem?_drop]
      simp; omega
  have hP : Lib.hasPrefix (s.extract p s.size).data.toList [239, 191, 189] = true ↔ (2 < s.size - p ∧ (s.get! p).toNat = 239 ∧ (s.get! (p + 1)).toNat = 191 ∧ (s.get! (p + 2)).toNat = 189) := by
    rw [hasPrefix3, hl 0, hl 1, hl 2]
    have t : ∀ (x y : UInt8), x = y ↔ x.toNat = y.toNat := fun x y => ⟨fun h => h ▸ rfl, fun h => UInt8.toNat_inj.1 h⟩
    by_cases c2 : p + 2 < s.size
    · rw [if_pos (by omega), if_pos (by omega), if_pos c2]
      simp only [Option.some.injEq, Nat.add_zero, t]
      constructor
      · rintro ⟨x, y, z⟩; exact ⟨by omega, x, y, z⟩
      · rintro ⟨_, x, y, z⟩; exact ⟨x, y, z⟩
    · rw [if_neg c2]
      constructor
      · rintro ⟨_, _, x⟩; cases x
      · rintro ⟨x, _⟩; omega
  unfold brokenB badAt
  rw [Bool.and_eq_true, beq_iff_eq, Bool.not_eq_true', ← Bool.not_eq_true, hP]
  constructor
  · rintro ⟨x, y⟩
    have hx : (Utf8.decode s p).1 = 65533 := by omega
    rcases hE hx with ⟨a, _⟩ | ⟨_, b⟩
    · exact ⟨hx, a⟩
    · exact absurd b y
  · rintro ⟨x, y⟩
    rcases hE x with ⟨_, b⟩ | ⟨a, _⟩
    · exact ⟨by omega, b⟩
    · omega
end Go.Proofs.YtanbkgifjlobgaaDoor
