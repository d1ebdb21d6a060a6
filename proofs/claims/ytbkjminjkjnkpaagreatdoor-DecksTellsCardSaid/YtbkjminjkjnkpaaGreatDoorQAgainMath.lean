import Derived.Test.YtbkjminjkjnkpaaGreatDoorQRef
/- Layer 1 (scan), plain: a token stands by itself: whatever follows, if it is a blank or a remark. -/
namespace Go.Proofs.YtbkjminjkjnkpaaGreatDoor
open Go.RowKit Go.Lib

/-! ### bytes of a text put together -/
theorem size_app (a b : ByteArray) : (a ++ b).size = a.size + b.size := ByteArray.size_append
theorem byte_left (a b : ByteArray) (i : Nat) (h : i < a.size) : byteAt (a ++ b) i = byteAt a i := by
  rw [byteAt_get _ i (by rw [size_app]; omega), byteAt_get a i h]
  congr 1
  exact ByteArray.getElem_append_left h
theorem byte_right (a b : ByteArray) (i : Nat) (h : i < b.size) : byteAt (a ++ b) (a.size + i) = byteAt b i := by
  rw [byteAt_get _ (a.size + i) (by rw [size_app]; omega), byteAt_get b i h]
  have := ByteArray.getElem_append_right (a := a) (b := b) (i := a.size + i) (h := by rw [size_app]; omega) (by omega)
  rw [this]
  simp
theorem app_drop (a b : ByteArray) : (a ++ b).extract a.size (a ++ b).size = b := ByteArray.extract_append_eq_right rfl (size_app a b)
theorem app_take (a b : ByteArray) : (a ++ b).extract 0 a.size = a := ByteArray.extract_append_eq_left rfl

/-! ### the decoder looks at no more than the rune -/
set_option maxRecDepth 100000 in
set_option maxHeartbeats 2000000 in
theorem decodeN_local (n n' b0 b1 b2 b3 c1 c2 c3 : Nat) (h : (decodeN n b0 b1 b2 b3).1 ≠ 65533) (hn : (decodeN n b0 b1 b2 b3).2 ≤ n')
    (h1 : 1 < (decodeN n b0 b1 b2 b3).2 → c1 = b1) (h2 : 2 < (decodeN n b0 b1 b2 b3).2 → c2 = b2) (h3 : 3 < (decodeN n b0 b1 b2 b3).2 → c3 = b3) : decodeN n' b0 c1 c2 c3 = decodeN n b0 b1 b2 b3 := by
  revert h hn h1 h2 h3
  generalize hd : decodeN n b0 b1 b2 b3 = d
  unfold decodeN at hd
  repeat' split at hd
  all_goals subst hd
  all_goals intro h hn h1 h2 h3
  all_goals dsimp only at h hn h1 h2 h3
  all_goals first | exact absurd rfl h | skip
  all_goals unfold decodeN
  all_goals (repeat' split)
  all_goals first | rfl | (exfalso; omega) | (apply Prod.ext <;> dsimp only <;> omega)

theorem decode_same (u v : ByteArray) (i : Nat) (h : (Utf8.decode u i).1 ≠ 65533) (hv : i + (Utf8.decode u i).2 ≤ v.size) (hi : i < v.size) (hu : i + (Utf8.decode u i).2 ≤ u.size) (hiu : i < u.size)
    (hb : ∀ j, j < i + (Utf8.decode u i).2 → byteAt v j = byteAt u j) (hb0 : byteAt v i = byteAt u i) : Utf8.decode v i = Utf8.decode u i := by
  have hb' : ∀ j, j < i + (Utf8.decode u i).2 → (v.get! j).toNat = (u.get! j).toNat := hb
  have hb0' : (v.get! i).toNat = (u.get! i).toNat := hb0
  rw [decode_at v i, decode_at u i] at *
  rw [hb0']
  exact decodeN_local _ _ _ _ _ _ _ _ _ h (by omega) (fun h1 => hb' _ (by omega)) (fun h2 => hb' _ (by omega)) (fun h3 => hb' _ (by omega))

theorem wordGo_cases (t : ByteArray) : ∀ f i seen size runes, wordGo t f i seen size runes = (size, runes) ∨ i < (wordGo t f i seen size runes).1
  | 0, i, seen, size, runes => .inl rfl
  | f + 1, i, seen, size, runes => by
    by_cases hp : i < t.size
    · cases hs : wStop (i == 0) (Utf8.decode t i).1 with
      | true => rw [wordGo_stop t (f + 1) i seen size runes hs]; exact .inl rfl
      | false =>
        have hw := width_pos t i hp
        by_cases h45 : (Utf8.decode t i).1 = 45
        · rw [wordGo_mark t f i seen size runes hp hs h45]
          rcases wordGo_cases t f (i + (Utf8.decode t i).2) (seen + 1) size runes with h | h
          · exact .inl h
          · exact .inr (by omega)
        · rw [wordGo_more t f i seen size runes hp hs h45]
          rcases wordGo_cases t f (i + (Utf8.decode t i).2) (seen + 1) (i + (Utf8.decode t i).2) (seen + 1) with h | h
          · rw [h]; exact .inr (by simp; omega)
          · exact .inr (by omega)
    · rw [wordGo_end t (f + 1) i seen size runes hp]; exact .inl rfl

/-- A word ends where it ended, if what follows there is no part of one. -/
theorem word_same (u v : ByteArray) (n m : Nat) (hnu : n ≤ u.size) (hnv : n ≤ v.size) (hb : ∀ j, j < n → byteAt v j = byteAt u j) (hst : n < v.size → wStop false (Utf8.decode v n).1 = true) :
    ∀ fu fv i seen size runes, wordGo u fu i seen size runes = (n, m) → size < n → v.size - i ≤ fv → wordGo v fv i seen size runes = (n, m) := by
  intro fu
  induction fu with
  | zero => intro fv i seen size runes h hs _; simp [wordGo] at h; omega
  | succ fu ih =>
    intro fv i seen size runes h hsz hf
    by_cases hp : i < u.size
    · cases hs : wStop (i == 0) (Utf8.decode u i).1 with
      | true => rw [wordGo_stop u (fu + 1) i seen size runes hs] at h; simp at h; omega
      | false =>
        have hw := width_pos u i hp
        have hwf := decode_fits u i hp
        have h65 : (Utf8.decode u i).1 ≠ 65533 := fun e => by
          rw [e] at hs
          revert hs
          simp [wStop, letB_err, digB, show ((65533 : Nat) : Int) = 65533 from rfl]
        by_cases h45 : (Utf8.decode u i).1 = 45
        · rw [wordGo_mark u fu i seen size runes hp hs h45] at h
          have hin : i + (Utf8.decode u i).2 < n := by
            rcases wordGo_cases u fu (i + (Utf8.decode u i).2) (seen + 1) size runes with hc | hc
            · rw [h] at hc; simp at hc; omega
            · rw [h] at hc; exact hc
          have hd := decode_same u v i h65 (by omega) (by omega) hwf hp (fun j hj => hb j (by omega)) (hb i (by omega))
          obtain ⟨fv', rfl⟩ : ∃ fv', fv = fv' + 1 := ⟨fv - 1, by omega⟩
          rw [wordGo_mark v fv' i seen size runes (by omega) (by rw [hd]; exact hs) (by rw [hd]; exact h45), hd]
          exact ih fv' _ _ _ _ h hsz (by omega)
        · rw [wordGo_more u fu i seen size runes hp hs h45] at h
          have hin : i + (Utf8.decode u i).2 ≤ n := by
            rcases wordGo_cases u fu (i + (Utf8.decode u i).2) (seen + 1) (i + (Utf8.decode u i).2) (seen + 1) with hc | hc
            · rw [h] at hc; simp at hc; omega
            · rw [h] at hc; exact Nat.le_of_lt hc
          have hd := decode_same u v i h65 (by omega) (by omega) hwf hp (fun j hj => hb j (by omega)) (hb i (by omega))
          obtain ⟨fv', rfl⟩ : ∃ fv', fv = fv' + 1 := ⟨fv - 1, by omega⟩
          rw [wordGo_more v fv' i seen size runes (by omega) (by rw [hd]; exact hs) (by rw [hd]; exact h45), hd]
          by_cases he : i + (Utf8.decode u i).2 = n
          · have hm : seen + 1 = m := by
              rcases wordGo_cases u fu (i + (Utf8.decode u i).2) (seen + 1) (i + (Utf8.decode u i).2) (seen + 1) with hc | hc
              · rw [h] at hc; simp at hc; omega
              · rw [h] at hc; simp at hc; omega
            rw [he, hm]
            by_cases hv : n < v.size
            · exact wordGo_stop v fv' n _ _ _ (by rw [show (n == 0) = false from by simp; omega]; exact hst hv)
            · exact wordGo_end v fv' n _ _ _ hv
          · exact ih fv' _ _ _ _ h (by omega) (by omega)
    · rw [wordGo_end u (fu + 1) i seen size runes hp] at h; simp at h; omega

theorem num_same (u v : ByteArray) (n x : Nat) (hnv : n ≤ v.size) (hb : ∀ j, j < n → byteAt v j = byteAt u j) (hst : n < v.size → digB (byteAt v n) = false) :
    ∀ fu fv i a, numGo u fu i a = (n, x) → v.size - i ≤ fv → numGo v fv i a = (n, x) := by
  intro fu
  induction fu with
  | zero =>
    intro fv i a h hf
    simp [numGo] at h
    obtain ⟨rfl, rfl⟩ := h
    by_cases hv : i < v.size
    · exact numGo_stop v fv i a (hst hv)
    · exact numGo_end v fv i a hv
  | succ fu ih =>
    intro fv i a h hf
    have hge : i ≤ n := by have := numGo_ge u (fu + 1) i a; rw [h] at this; exact this
    by_cases he : i = n
    · have hx : a = x := by
        rw [he] at h
        by_cases hp : n < u.size
        · cases hd : digB (byteAt u n) with
          | true =>
            rw [numGo_more u fu n a hp hd] at h
            have := numGo_ge u fu (n + 1) (addDigit a (byteAt u n))
            rw [h] at this
            simp at this
            omega
          | false => rw [numGo_stop u (fu + 1) n a hd] at h; simpa using h
        · rw [numGo_end u (fu + 1) n a hp] at h; simpa using h
      rw [he, hx]
      by_cases hv : n < v.size
      · exact numGo_stop v fv n x (hst hv)
      · exact numGo_end v fv n x hv
    · by_cases hp : i < u.size
      · cases hd : digB (byteAt u i) with
        | true =>
          rw [numGo_more u fu i a hp hd] at h
          obtain ⟨fv', rfl⟩ : ∃ fv', fv = fv' + 1 := ⟨fv - 1, by omega⟩
          have hbi := hb i (by omega)
          rw [numGo_more v fv' i a (by omega) (by rw [hbi]; exact hd), hbi]
          exact ih fv' _ _ h (by omega)
        | false => rw [numGo_stop u (fu + 1) i a hd] at h; simp at h; omega
      · rw [numGo_end u (fu + 1) i a hp] at h; simp at h; omega
end Go.Proofs.YtbkjminjkjnkpaaGreatDoor
