import Derived.Test.YtbkjminjkjnkpaaGreatDoorQAgainMath
/- Layer 1 (scan), plain: tokens, parted by blanks and remarks, are read as the same tokens. -/
namespace Go.Proofs.YtbkjminjkjnkpaaGreatDoor
open Go.RowKit Go.Lib

/-- A byte at which no word and no number goes on. -/
def partB (b : Nat) : Prop := b = 32 ∨ b = 10 ∨ b = 9 ∨ b = 13 ∨ b = 35

theorem part_letter (b : Nat) (h : partB b) : letB b = false := by
  rcases h with rfl | rfl | rfl | rfl | rfl <;> kernel_rfl
theorem part_stop (v : ByteArray) (n : Nat) (hn : n < v.size) (h : partB (byteAt v n)) : wStop false (Utf8.decode v n).1 = true := by
  have hl := part_letter _ h
  have hlt : byteAt v n < 128 := by rcases h with h | h | h | h | h <;> omega
  rw [decode_low v n hn hlt]
  have hd : digB (byteAt v n) = false := by
    cases hq : digB (byteAt v n) with
    | false => rfl
    | true => have := (digB_iff _).1 hq; rcases h with h | h | h | h | h <;> omega
  have h45 : ((byteAt v n : Int) == 45) = false := by simp; rcases h with h | h | h | h | h <;> omega
  simp [wStop, hl, hd, h45]

/-- What may stand behind a token: nothing, or a blank, or a remark. -/
def Behind (r : ByteArray) : Prop := 0 < r.size → partB (byteAt r 0)

/-- A token, by itself: it was read so somewhere. -/
def TokOK (k : Nat) (x : ByteArray) : Prop := ∃ u : ByteArray, 0 < u.size ∧ tokOf u = (k, x.size, 0) ∧ x = u.extract 0 x.size ∧ blankB (Utf8.decode u 0).1 = false ∧ (Utf8.decode u 0).1 ≠ 35

theorem tok_pos {k : Nat} {x : ByteArray} (h : TokOK k x) : 0 < x.size := by
  obtain ⟨u, h0, ht, _⟩ := h
  have := (tok_runs u h0 (by rw [ht])).1
  rw [ht] at this
  exact this

theorem letter_low : ∀ b : Fin 128, digB b.val = true → letB b.val = false := by decide +kernel

/-- A token is read again, whatever stands behind it. -/
theorem tok_again {k : Nat} {x : ByteArray} (h : TokOK k x) (rest : ByteArray) (hr : Behind rest) :
    tokOf (x ++ rest) = (k, x.size, 0) ∧ Utf8.decode (x ++ rest) 0 = Utf8.decode (x ++ rest) 0 ∧ blankB (Utf8.decode (x ++ rest) 0).1 = false ∧ (Utf8.decode (x ++ rest) 0).1 ≠ 35 := by
  have hx0 := tok_pos h
  obtain ⟨u, h0, ht, hx, hbl, h35⟩ := h
  have hts := tokOf_size u h0
  rw [ht] at hts
  simp only [] at hts
  have hsz : (x ++ rest).size = x.size + rest.size := size_app x rest
  have hb : ∀ j, j < x.size → byteAt (x ++ rest) j = byteAt u j := fun j hj => by
    rw [byte_left x rest j hj]
    conv => lhs; rw [hx]
    rw [byteAt_extract u 0 x.size j (by omega) hts, Nat.zero_add]
  have hpart : x.size < (x ++ rest).size → partB (byteAt (x ++ rest) x.size) := fun hlt => by
    have := byte_right x rest 0 (by omega)
    rw [Nat.add_zero] at this
    rw [this]
    exact hr (by omega)
  have hdigit : x.size < (x ++ rest).size → digB (byteAt (x ++ rest) x.size) = false := fun hlt => by
    have hp := hpart hlt
    cases hq : digB (byteAt (x ++ rest) x.size) with
    | false => rfl
    | true => have := (digB_iff _).1 hq; rcases hp with h | h | h | h | h <;> omega
  -- the first rune is the same
  have hruns := (tok_runs u h0 (by rw [ht])).2
  rw [ht] at hruns
  obtain ⟨kk, hk⟩ := hruns
  obtain ⟨_, hnb, k', hk'⟩ := hk.first hx0
  have hfit : (Utf8.decode u 0).2 ≤ x.size := by have hq : 0 + (Utf8.decode u 0).2 ≤ x.size := hk'.le; omega
  have h65 : (Utf8.decode u 0).1 ≠ 65533 := fun e => by
    have := tokOf_bad u h0 e
    rw [ht] at this
    simp at this
  have hd0 : Utf8.decode (x ++ rest) 0 = Utf8.decode u 0 := decode_same u (x ++ rest) 0 h65 (by omega) (by omega) (by omega) h0 (fun j hj => hb j (by omega)) (hb 0 hx0)
  refine ⟨?_, rfl, by rw [hd0]; exact hbl, by rw [hd0]; exact h35⟩
  by_cases hw : 0 < (wordOf u).1
  · have ht' := ht
    unfold tokOf at ht'
    rw [if_pos hw] at ht'
    by_cases h24 : 24 < (wordOf u).2
    · rw [if_pos h24] at ht'; simp at ht'
    · rw [if_neg h24] at ht'
      simp only [Prod.mk.injEq] at ht'
      obtain ⟨rfl, hwn, _⟩ := ht'
      have hword : wordOf (x ++ rest) = (x.size, (wordOf u).2) := by
        refine word_same u (x ++ rest) x.size (wordOf u).2 hts (by omega) hb (fun hlt => part_stop _ _ hlt (hpart hlt)) u.size _ 0 0 0 0 ?_ hx0 (by omega)
        rw [← hwn]
        rfl
      unfold tokOf
      rw [hword, if_pos hx0, if_neg h24]
  · have hw' : ¬ 0 < (wordOf (x ++ rest)).1 := by
      -- the first rune is no letter
      have hst : wStop true (Utf8.decode u 0).1 = true := by
        cases hs : wStop true (Utf8.decode u 0).1 with
        | true => rfl
        | false =>
          exfalso
          apply hw
          have h45 : (Utf8.decode u 0).1 ≠ 45 := fun e => by rw [e] at hs; revert hs; simp [wStop, letB_mark, show ((45 : Nat) : Int) = 45 from rfl]
          obtain ⟨f, hf⟩ : ∃ f, u.size = f + 1 := ⟨u.size - 1, by omega⟩
          unfold wordOf
          rw [hf, wordGo_more u f 0 0 0 0 h0 hs h45]
          have hwp := width_pos u 0 h0
          rcases wordGo_cases u f (0 + (Utf8.decode u 0).2) (0 + 1) (0 + (Utf8.decode u 0).2) (0 + 1) with hc | hc
          · rw [hc]; simp; omega
          · omega
      unfold wordOf
      rw [wordGo_stop (x ++ rest) _ 0 0 0 0 (by rw [hd0]; exact hst)]
      simp
    by_cases hn : 0 < (numOf u).1
    · have ht' := ht
      unfold tokOf at ht'
      rw [if_neg hw, if_pos hn] at ht'
      by_cases hf : numFault u (numOf u).1 (numOf u).2 = 0
      · rw [if_pos hf] at ht'
        simp only [Prod.mk.injEq] at ht'
        obtain ⟨rfl, hnn, _⟩ := ht'
        have hnum : numOf (x ++ rest) = (x.size, (numOf u).2) := by
          refine num_same u (x ++ rest) x.size (numOf u).2 (by omega) hb hdigit u.size _ 0 0 ?_ (by omega)
          rw [← hnn]
          rfl
        have hfault : numFault (x ++ rest) x.size (numOf u).2 = 0 := by
          have hf' := hf
          rw [hnn] at hf'
          unfold numFault at hf' ⊢
          split at hf'
          · cases hf'
          · rename_i c1
            rw [if_neg c1]
            split at hf'
            · cases hf'
            · rename_i c2
              rw [hb 0 hx0, if_neg c2]
              have hbehind : letB (behindR (x ++ rest) x.size) = false := by
                unfold behindR
                rw [app_drop]
                unfold decodeGo
                split
                · exact letB_err
                · rename_i hz
                  have hp := hr (by omega)
                  have hlt : byteAt rest 0 < 128 := by rcases hp with h | h | h | h | h <;> omega
                  rw [decode_low rest 0 (by omega) hlt]
                  exact part_letter _ hp
              rw [hbehind]
              rfl
        unfold tokOf
        rw [if_neg hw', hnum, if_pos hx0, if_pos hfault]
      · rw [if_neg hf] at ht'
        simp only [Prod.mk.injEq] at ht'
        exact absurd ht'.2.2 hf
    · have ht' := ht
      unfold tokOf at ht'
      rw [if_neg hw, if_neg hn] at ht'
      cases hm : markB (byteAt u 0) with
      | true =>
        rw [hm] at ht'
        simp only [if_true, Prod.mk.injEq] at ht'
        obtain ⟨rfl, h1, _⟩ := ht'
        have hn' : ¬ 0 < (numOf (x ++ rest)).1 := by
          rw [numOf_pos _ (by omega), hb 0 hx0, ← numOf_pos u h0]
          exact hn
        unfold tokOf
        rw [if_neg hw', if_neg hn', hb 0 hx0, hm, ← h1]
        rfl
      | false =>
        rw [hm] at ht'
        simp at ht'
end Go.Proofs.YtbkjminjkjnkpaaGreatDoor
