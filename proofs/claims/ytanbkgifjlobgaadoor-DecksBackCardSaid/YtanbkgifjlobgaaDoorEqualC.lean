/- Layer 1 (scan), plain: rune by rune, and token by token, come to the same. -/
import Derived.Test.YtanbkgifjlobgaaDoorEqualB
namespace Go.Proofs.YtanbkgifjlobgaaDoor
open Go.RowKit Go.Lib

section
variable (s : ByteArray) (pos : Nat)
theorem rem_shift : ∀ (g i : Nat), pos + i ≤ s.size →
    (0 ≤ (remGo (s.extract pos s.size) g i).2 ↔ 0 ≤ (remGo s g (pos + i)).2) ∧ (0 ≤ (remGo (s.extract pos s.size) g i).2 → (remGo s g (pos + i)).2 = pos + (remGo (s.extract pos s.size) g i).2) ∧
    (¬ 0 ≤ (remGo (s.extract pos s.size) g i).2 → (remGo s g (pos + i)).1 = pos + (remGo (s.extract pos s.size) g i).1)
  | 0, i, h => by simp [remGo]
  | g + 1, i, h => by
    have hd : Utf8.decode (s.extract pos s.size) i = Utf8.decode s (pos + i) := tail_decode s pos i
    have hsz : (s.extract pos s.size).size = s.size - pos := by simp
    by_cases hp : pos + i < s.size
    · have hb : byteAt (s.extract pos s.size) i = byteAt s (pos + i) := byteAt_extract s pos s.size i hp (Nat.le_refl _)
      by_cases h10 : byteAt s (pos + i) = 10
      · rw [remGo_end _ _ i (by rw [hb]; exact fun x => x.2 h10), remGo_end s _ (pos + i) (fun x => x.2 h10)]
        simp
      · by_cases hbad : (Utf8.decode s (pos + i)).1 = 65533 ∧ (Utf8.decode s (pos + i)).2 = 1
        · rw [remGo_bad _ g i ⟨by omega, by rw [hb]; exact h10⟩ (by rw [hd]; exact hbad), remGo_bad s g (pos + i) ⟨hp, h10⟩ hbad]
          refine ⟨⟨fun _ => Int.natCast_nonneg _, fun _ => Int.natCast_nonneg _⟩, fun _ => by simp, fun h => absurd (Int.natCast_nonneg i) h⟩
        · have hwf := decode_fits s (pos + i) hp
          rw [remGo_more _ g i ⟨by omega, by rw [hb]; exact h10⟩ (by rw [hd]; exact hbad), remGo_more s g (pos + i) ⟨hp, h10⟩ hbad, hd, Nat.add_assoc]
          exact rem_shift g _ (by omega)
    · rw [remGo_end _ _ i (fun x => by have := x.1; omega), remGo_end s _ (pos + i) (fun x => hp x.1)]
      simp
theorem runs_shift : ∀ (k i j : Nat), Runs (s.extract pos s.size) k i j → Runs s k (pos + i) (pos + j)
  | 0, i, j, h => by rw [show i = j from h]; exact rfl
  | k + 1, i, j, h => by
    rcases h with h | ⟨h1, h2, h3⟩
    · exact .inl (by rw [h])
    · have hd : Utf8.decode (s.extract pos s.size) i = Utf8.decode s (pos + i) := tail_decode s pos i
      have hsz : (s.extract pos s.size).size = s.size - pos := by simp
      rw [hd] at h3
      refine .inr ⟨by omega, fun h => h2 (by unfold badAt; rw [hd]; exact h), ?_⟩
      have := runs_shift k _ _ h3
      rwa [← Nat.add_assoc] at this
end

theorem num_runs (t : ByteArray) : ∀ (f i v : Nat), ∃ k, Runs t k i (numGo t f i v).1
  | 0, i, v => ⟨0, rfl⟩
  | f + 1, i, v => by
    by_cases hp : i < t.size
    · cases hd : digB (byteAt t i) with
      | true =>
        rw [numGo_more t f i v hp hd]
        obtain ⟨k, hk⟩ := num_runs t f (i + 1) (addDigit v (byteAt t i))
        have h2 := (digB_iff _).1 hd
        have hlow := decode_low t i hp (by omega)
        refine ⟨k + 1, Runs.step hp (fun h => ?_) (by rw [hlow]; exact hk)⟩
        unfold badAt at h
        rw [hlow] at h
        have h1 := h.1
        simp only [] at h1
        omega
      | false => rw [numGo_stop t (f + 1) i v hd]; exact ⟨0, rfl⟩
    · rw [numGo_end t (f + 1) i v hp]; exact ⟨0, rfl⟩

theorem word_runs (t : ByteArray) : ∀ (f i seen size runes : Nat), (wordGo t f i seen size runes).1 = size ∨ ∃ k, Runs t k i (wordGo t f i seen size runes).1
  | 0, i, seen, size, runes => .inl rfl
  | f + 1, i, seen, size, runes => by
    by_cases hp : i < t.size
    · cases hs : wStop (i == 0) (Utf8.decode t i).1 with
      | true => rw [wordGo_stop t (f + 1) i seen size runes hs]; exact .inl rfl
      | false =>
        have hb : ¬ badAt t i := fun h => by
          have h1 : ((Utf8.decode t i).1 : Int) = 65533 := by have := h.1; omega
          rw [h1] at hs
          revert hs
          simp [wStop, letB_err, digB]
        by_cases h45 : (Utf8.decode t i).1 = 45
        · rw [wordGo_mark t f i seen size runes hp hs h45]
          rcases word_runs t f (i + (Utf8.decode t i).2) (seen + 1) size runes with h | ⟨k, h⟩
          · exact .inl h
          · exact .inr ⟨k + 1, Runs.step hp hb h⟩
        · rw [wordGo_more t f i seen size runes hp hs h45]
          rcases word_runs t f (i + (Utf8.decode t i).2) (seen + 1) (i + (Utf8.decode t i).2) (seen + 1) with h | ⟨k, h⟩
          · rw [h]; exact .inr ⟨1, Runs.step hp hb rfl⟩
          · exact .inr ⟨k + 1, Runs.step hp hb h⟩
    · rw [wordGo_end t (f + 1) i seen size runes hp]; exact .inl rfl

/-- A token is not empty, and its runes are whole. -/
theorem tok_runs (t : ByteArray) (h0 : 0 < t.size) (h : (tokOf t).2.2 = 0) : 0 < (tokOf t).2.1 ∧ ∃ k, Runs t k 0 (tokOf t).2.1 := by
  by_cases hw : 0 < (wordOf t).1
  · by_cases h24 : 24 < (wordOf t).2
    · exfalso
      revert h
      unfold tokOf
      rw [if_pos hw, if_pos h24]
      simp
    · have e : tokOf t = (1, (wordOf t).1, 0) := by unfold tokOf; rw [if_pos hw, if_neg h24]
      rw [e]
      refine ⟨hw, ?_⟩
      rcases word_runs t t.size 0 0 0 0 with h1 | h1
      · exact absurd h1 (by unfold wordOf at hw; omega)
      · exact h1
  · by_cases hn : 0 < (numOf t).1
    · by_cases hf : numFault t (numOf t).1 (numOf t).2 = 0
      · have e : tokOf t = (2, (numOf t).1, 0) := by unfold tokOf; rw [if_neg hw, if_pos hn, if_pos hf]
        rw [e]
        exact ⟨hn, num_runs t t.size 0 0⟩
      · exfalso
        revert h
        unfold tokOf
        rw [if_neg hw, if_pos hn, if_neg hf]
        exact hf
    · cases hm : markB (byteAt t 0) with
      | true =>
        have e : tokOf t = (3, 1, 0) := by unfold tokOf; rw [if_neg hw, if_neg hn, hm]; rfl
        rw [e]
        refine ⟨by decide, 1, ?_⟩
        have hb : byteAt t 0 < 128 := by
          rcases Nat.lt_or_ge (byteAt t 0) 128 with h | h
          · exact h
          · have := markB_high ⟨_, byteAt_lt t 0⟩ h
            rw [this] at hm
            cases hm
        have hlow := decode_low t 0 h0 hb
        refine Runs.step h0 (fun h => ?_) (by rw [hlow]; exact rfl)
        unfold badAt at h
        rw [hlow] at h
        have h1 := h.1
        simp only [] at h1
        omega
      | false =>
        exfalso
        revert h
        unfold tokOf
        rw [if_neg hw, if_neg hn, hm]
        simp

/-- Bytes that are no UTF-8 are no token. -/
theorem tokOf_bad (t : ByteArray) (h0 : 0 < t.size) (h : (Utf8.decode t 0).1 = 65533) : tokOf t = (0, 0, 4) := by
  have hw : ¬ 0 < (wordOf t).1 := by
    unfold wordOf
    rw [wordGo_stop t _ 0 0 0 0 (by rw [h]; simp [wStop, letB_err, show ((65533 : Nat) : Int) = 65533 from rfl])]
    simp
  have hb : 128 ≤ byteAt t 0 := by
    rcases Nat.lt_or_ge (byteAt t 0) 128 with hb | hb
    · rw [decode_low t 0 h0 hb] at h
      simp only [] at h
      omega
    · exact hb
  have hn : ¬ 0 < (numOf t).1 := by
    rw [numOf_pos t h0]
    have : digB (byteAt t 0) = false := by
      cases hq : digB (byteAt t 0) with
      | false => rfl
      | true => have := (digB_iff _).1 hq; omega
    rw [this]
    simp
  have hm := markB_high ⟨_, byteAt_lt t 0⟩ hb
  unfold tokOf
  rw [if_neg hw, if_neg hn, hm]
  rfl

theorem blank_byte (s : ByteArray) (p : Nat) (hp : p < s.size) (h : blankB (Utf8.decode s p).1 = true) : (Utf8.decode s p).2 = 1 := by
  have : (Utf8.decode s p).1 < 128 := by
    simp [blankB] at h
    omega
  rw [decode_byte s p hp this]

/-- THE WHOLE: rune by rune, and token by token. -/
theorem scan_ref (s : ByteArray) : ∀ (n p f g : Nat) (here : Int × Int) (b : Nat) (acc : List Tok), s.size - p ≤ n → p ≤ s.size → b ≤ p → s.size - p ≤ f → s.size - p ≤ g → SpotAt s p here →
    scanGo s f p here false b acc = refGo s g p acc := by
  intro n
  induction n with
  | zero =>
    intro p f g here b acc hn hps hb hf hg hsp
    have hp : ¬ p < s.size := by omega
    obtain rfl : p = s.size := by omega
    rw [scanGo_end s f _ here false b acc hp, refGo_end s g _ acc hp, hsp.at_]
  | succ n ih =>
    intro p f g here b acc hn hps hb hf hg hsp
    by_cases hp : p < s.size
    · have hw := width_pos s p hp
      have hwf := decode_fits s p hp
      have hsz : (s.extract p s.size).size = s.size - p := by simp
      have hd0 : Utf8.decode (s.extract p s.size) 0 = Utf8.decode s p := tail_decode s p 0
      obtain ⟨f0, rfl⟩ : ∃ f0, f = f0 + 1 := ⟨f - 1, by omega⟩
      obtain ⟨g0, rfl⟩ : ∃ g0, g = g0 + 1 := ⟨g - 1, by omega⟩
      by_cases hbad : badAt s p
      · rw [scanGo_broken s f0 p here false b acc hp (broken_true hp hbad)]
        have hr := hbad.1
        have ht := tokOf_bad (s.extract p s.size) (by omega) (by rw [hd0]; exact hr)
        have h1 : blankB (Utf8.decode s p).1 = false := by rw [hr]; rfl
        rw [refGo_fault s g0 p acc hp h1 (by omega) (by rw [ht]; simp), ht, hsp.at_]
      · have hbf := broken_false hp hbad
        cases hbl : blankB (Utf8.decode s p).1 with
        | true =>
          have hr35 : (Utf8.decode s p).1 ≠ 35 := by
            intro e
            rw [e] at hbl
            revert hbl
            decide
          have hw1 := blank_byte s p hp hbl
          rw [scanGo_blank s f0 p here b acc hp hbf (by omega) hr35 hbl, refGo_blank s g0 p acc hp hbl, hw1]
          exact ih (p + 1) f0 g0 _ b acc (by omega) (by omega) (by omega) (by omega) (by omega) (by rw [← hw1]; exact hsp.next hp)
        | false =>
          by_cases h35 : (Utf8.decode s p).1 = 35
          · have hdec := decode_byte s p hp (by omega)
            have hb35 : byteAt s p = 35 := by rw [hdec] at h35; exact h35
            have hw1 : (Utf8.decode s p).2 = 1 := by rw [hdec]
            rw [scanGo_hash s f0 p here b acc hp hbf (by omega) h35]
            obtain ⟨r1, r2, r3⟩ := rem_shift s p (s.size - p) 0 (by omega)
            have hrem : remOf (s.extract p s.size) = remGo (s.extract p s.size) (s.size - p) 0 := by unfold remOf; rw [hsz]
            rw [← hrem] at r1 r2 r3
            obtain ⟨m, hm⟩ : ∃ m, s.size - p = m + 1 := ⟨s.size - p - 1, by omega⟩
            have hone : remGo s (s.size - p) (p + 0) = remGo s m (p + (Utf8.decode s p).2) := by
              rw [hm]
              exact remGo_more s m p ⟨hp, by omega⟩ hbad
            rw [hone] at r1 r2 r3
            have hsr := scan_remark s acc b m (p + (Utf8.decode s p).2) f0 _ (by omega) hwf (by omega) (by omega) (hsp.next hp)
            by_cases hneg : 0 ≤ (remOf (s.extract p s.size)).2
            · rw [refGo_bad s g0 p acc hp hbl h35 hneg, hsr.1 (r1.1 hneg), r2 hneg]
            · obtain ⟨f', here', a1, a2, a3, a4, a5, a6⟩ := hsr.2 (fun h => hneg (r1.2 h))
              rw [refGo_remark s g0 p acc hp hbl h35 hneg, a1]
              rw [r3 hneg] at a1 a2 a3 a4 a5 a6 ⊢
              generalize (remOf (s.extract p s.size)).1 = q at *
              by_cases hq : p + q < s.size
              · have h10 := a6 hq
                have hdq := decode_low s (p + q) hq (by omega)
                have hnb : ¬ badAt s (p + q) := by
                  unfold badAt
                  rw [hdq, h10]
                  simp
                obtain ⟨f1, rfl⟩ : ∃ f1, f' = f1 + 1 := ⟨f' - 1, by omega⟩
                obtain ⟨g1, rfl⟩ : ∃ g1, g0 = g1 + 1 := ⟨g0 - 1, by omega⟩
                rw [scanGo_remark s f1 (p + q) here' b acc hq (broken_false hq hnb) (by omega), refGo_blank s g1 (p + q) acc hq (by rw [hdq, h10]; rfl)]
                have hnx := a3.next hq
                rw [hdq, h10] at hnx ⊢
                exact ih (p + q + 1) f1 g1 _ b acc (by omega) (by omega) (by omega) (by omega) (by omega) hnx
              · rw [scanGo_end s f' _ here' true b acc hq, refGo_end s g0 _ acc hq]
                have he : p + q = s.size := by omega
                have := a3.at_
                rw [he] at this
                rw [this]
          · by_cases ht : (tokOf (s.extract p s.size)).2.2 = 0
            · obtain ⟨hz, k, hk⟩ := tok_runs (s.extract p s.size) (by omega) ht
              have hk2 := runs_shift s p k 0 _ hk
              rw [Nat.add_zero] at hk2
              obtain ⟨_, _, k', hk3⟩ := hk2.first (by omega)
              have hts := tokOf_size (s.extract p s.size) (by omega)
              rw [hsz] at hts
              rw [scanGo_tok s f0 p here b acc hp hbf (by omega) h35 hbl ht, refGo_tok s g0 p acc hp hbl h35 ht, hsp.at_]
              obtain ⟨f', here', a1, a2, a3⟩ := scan_runs s (acc ++ [⟨(tokOf (s.extract p s.size)).1, s.extract p (p + (tokOf (s.extract p s.size)).2.1), here⟩]) (p + (tokOf (s.extract p s.size)).2.1) k' _ f0 _ false hk3 (by omega) (hsp.next hp)
              rw [a1]
              exact ih _ f' g0 here' _ _ (by omega) (by omega) (Nat.le_refl _) a2 (by omega) a3
            · rw [scanGo_fault s f0 p here b acc hp hbf (by omega) h35 hbl ht, refGo_fault s g0 p acc hp hbl h35 ht, hsp.at_]
    · obtain rfl : p = s.size := by omega
      rw [scanGo_end s f _ here false b acc hp, refGo_end s g _ acc hp, hsp.at_]

theorem scanOf_refOf (s : ByteArray) : scanOf s = refOf s := by
  unfold scanOf refOf
  split
  · rfl
  · exact scan_ref s s.size 0 s.size s.size (1, 1) 0 [] (by omega) (by omega) (by omega) (by omega) (by omega) (SpotAt.start s)
end Go.Proofs.YtanbkgifjlobgaaDoor
