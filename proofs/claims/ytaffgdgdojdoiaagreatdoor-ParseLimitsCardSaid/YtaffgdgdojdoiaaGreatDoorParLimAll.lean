import Derived.Test.YtaffgdgdojdoiaaGreatDoorRefToksMath
import Derived.Test.YtaffgdgdojdoiaaGreatDoorParSpec
/- Layer 1 (scan), plain: rune by rune, and token by token, come to the same. -/
namespace Go.Proofs.YtaffgdgdojdoiaaGreatDoor
open Go.RowKit Go.Lib

/-- The bytes at a place are no UTF-8. -/
def badAt (s : ByteArray) (p : Nat) : Prop := (Utf8.decode s p).1 = 65533 ∧ (Utf8.decode s p).2 = 1

theorem decodeN_err (n b0 b1 b2 b3 : Nat) (h0 : b0 < 256) (h1 : b1 < 256) (h2 : b2 < 256) (h3 : b3 < 256) (h : (decodeN n b0 b1 b2 b3).1 = 65533) :
    ((decodeN n b0 b1 b2 b3).2 = 1 ∧ ¬ (2 < n ∧ b0 = 239 ∧ b1 = 191 ∧ b2 = 189)) ∨ ((decodeN n b0 b1 b2 b3).2 = 3 ∧ 2 < n ∧ b0 = 239 ∧ b1 = 191 ∧ b2 = 189) := by
  revert h
  unfold decodeN
  repeat' split
  all_goals intro h
  all_goals dsimp only at h
  all_goals first | (exact .inl ⟨rfl, by omega⟩) | (exact .inr ⟨rfl, by omega, by omega, by omega, by omega⟩) | (exfalso; omega)

theorem hasPrefix3 (l : List UInt8) : Lib.hasPrefix l [239, 191, 189] = true ↔ l[0]? = some 239 ∧ l[1]? = some 191 ∧ l[2]? = some 189 := by
  unfold Lib.hasPrefix
  rcases l with _ | ⟨a, _ | ⟨b, _ | ⟨c, l⟩⟩⟩ <;> simp [List.isPrefixOf] <;> grind

theorem brokenB_iff (s : ByteArray) (p : Nat) (hp : p < s.size) : brokenB (s.extract p s.size) (Utf8.decode s p).1 = true ↔ badAt s p := by
  have e := decode_at s p
  have h0 := (s.get! p).toNat_lt
  have h1 := (s.get! (p + 1)).toNat_lt
  have h2 := (s.get! (p + 2)).toNat_lt
  have h3 := (s.get! (p + 3)).toNat_lt
  have hE := decodeN_err (s.size - p) _ _ _ _ h0 h1 h2 h3
  rw [← e] at hE
  have hl : ∀ j, (s.extract p s.size).data.toList[j]? = if p + j < s.size then some (s.get! (p + j)) else none := fun j => by
    rw [extract_to_end]
    by_cases hj : p + j < s.size
    · rw [if_pos hj, List.getElem?_drop]
      simp [ByteArray.get!, hj]
    · rw [if_neg hj, List.getElem?_drop]
      simp; omega
  have hP : Lib.hasPrefix (s.extract p s.size).data.toList [239, 191, 189] = true ↔ (2 < s.size - p ∧ (s.get! p).toNat = 239 ∧ (s.get! (p + 1)).toNat = 191 ∧ (s.get! (p + 2)).toNat = 189) := by
    rw [hasPrefix3, hl 0, hl 1, hl 2]
    have t : ∀ (x y : UInt8), x = y ↔ x.toNat = y.toNat := fun x y => ⟨fun h => h ▸ rfl, fun h => UInt8.toNat_inj.1 h⟩
    by_cases c2 : p + 2 < s.size
    · rw [if_pos (by omega), if_pos (by omega), if_pos c2]
      simp only [Option.some.injEq, Nat.add_zero, t]
      constructor
      · rintro ⟨x, y, z⟩; exact ⟨by omega, x, y, z⟩
      · rintro ⟨_, x, y, z⟩; exact ⟨x, y, z⟩
    · rw [if_neg c2]
      constructor
      · rintro ⟨_, _, x⟩; cases x
      · rintro ⟨x, _⟩; omega
  unfold brokenB badAt
  rw [Bool.and_eq_true, beq_iff_eq, Bool.not_eq_true', ← Bool.not_eq_true, hP]
  constructor
  · rintro ⟨x, y⟩
    have hx : (Utf8.decode s p).1 = 65533 := by omega
    rcases hE hx with ⟨a, _⟩ | ⟨_, b⟩
    · exact ⟨hx, a⟩
    · exact absurd b y
  · rintro ⟨x, y⟩
    rcases hE x with ⟨_, b⟩ | ⟨a, _⟩
    · exact ⟨by omega, b⟩
    · omega
end Go.Proofs.YtaffgdgdojdoiaaGreatDoor

/- Layer 1 (scan), plain: rune by rune, and token by token, come to the same: the spots, the runs of runes, the whole. -/
namespace Go.Proofs.YtaffgdgdojdoiaaGreatDoor
open Go.RowKit Go.Lib

/-- From a place to another one, rune by rune, none of them broken. -/
def Runs (s : ByteArray) : Nat → Nat → Nat → Prop
  | 0, p, q => p = q
  | k + 1, p, q => p = q ∨ (p < s.size ∧ ¬ badAt s p ∧ Runs s k (p + (Utf8.decode s p).2) q)

theorem Runs.step {s : ByteArray} {k p q : Nat} (hp : p < s.size) (hb : ¬ badAt s p) (h : Runs s k (p + (Utf8.decode s p).2) q) : Runs s (k + 1) p q := .inr ⟨hp, hb, h⟩
theorem Runs.first {s : ByteArray} {k p q : Nat} (h : Runs s k p q) (hlt : p < q) : p < s.size ∧ ¬ badAt s p ∧ ∃ k', Runs s k' (p + (Utf8.decode s p).2) q := by
  cases k with
  | zero => exact absurd h (by simp [Runs]; omega)
  | succ k =>
    rcases h with h | ⟨h1, h2, h3⟩
    · omega
    · exact ⟨h1, h2, k, h3⟩
theorem Runs.le {s : ByteArray} : ∀ {k p q : Nat}, Runs s k p q → p ≤ q
  | 0, p, q, h => Nat.le_of_eq h
  | k + 1, p, q, h => by
    rcases h with h | ⟨h1, h2, h3⟩
    · omega
    · have := h3.le; omega

/-- The spot at hand is that of the place. -/
def SpotAt (s : ByteArray) (p : Nat) (here : Int × Int) : Prop := ∀ (f : Nat) (a : Int), s.size - p ≤ f → (p : Int) ≤ a → whereGo s f p here a = whereOf s a

theorem whereGo_fuel (s : ByteArray) : ∀ (f g p : Nat) (here : Int × Int) (a : Int), s.size - p ≤ f → s.size - p ≤ g → whereGo s f p here a = whereGo s g p here a
  | 0, g, p, here, a, h1, h2 => by rw [whereGo_end s 0 p here a (by omega), whereGo_end s g p here a (by omega)]
  | f + 1, g, p, here, a, h1, h2 => by
    by_cases hp : p < s.size
    · obtain ⟨g', rfl⟩ : ∃ g', g = g' + 1 := ⟨g - 1, by omega⟩
      by_cases hc : a < (p : Int) + (Utf8.decode s p).2
      · rw [whereGo_here s (f + 1) p here a hc, whereGo_here s (g' + 1) p here a hc]
      · have := width_pos s p hp
        rw [whereGo_more s f p here a hp hc, whereGo_more s g' p here a hp hc]
        exact whereGo_fuel s f g' _ _ a (by omega) (by omega)
    · rw [whereGo_end s (f + 1) p here a hp, whereGo_end s g p here a hp]
theorem SpotAt.start (s : ByteArray) : SpotAt s 0 (1, 1) := fun f a h _ => whereGo_fuel s f s.size 0 (1, 1) a h (by omega)
theorem SpotAt.next {s : ByteArray} {p : Nat} {here : Int × Int} (h : SpotAt s p here) (hp : p < s.size) : SpotAt s (p + (Utf8.decode s p).2) (nextP here (Utf8.decode s p).1) := by
  intro f a hf ha
  have hw := width_pos s p hp
  have h1 := h (f + 1 + (Utf8.decode s p).2) a (by omega) (by omega)
  rw [show f + 1 + (Utf8.decode s p).2 = (f + (Utf8.decode s p).2) + 1 from by omega, whereGo_more s _ p here a hp (by omega)] at h1
  rw [← h1]
  exact whereGo_fuel s f _ _ _ a hf (by omega)
theorem SpotAt.at_ {s : ByteArray} {p : Nat} {here : Int × Int} (h : SpotAt s p here) : whereOf s p = here := by
  rw [← h s.size p (by omega) (by omega)]
  by_cases hp : p < s.size
  · have := width_pos s p hp
    exact whereGo_here s _ p here _ (by omega)
  · exact whereGo_end s _ p here _ hp

theorem broken_false {s : ByteArray} {p : Nat} (hp : p < s.size) (hb : ¬ badAt s p) : brokenB (s.extract p s.size) (Utf8.decode s p).1 = false := by
  cases h : brokenB (s.extract p s.size) (Utf8.decode s p).1 with
  | false => rfl
  | true => exact absurd ((brokenB_iff s p hp).1 h) hb
theorem broken_true {s : ByteArray} {p : Nat} (hp : p < s.size) (hb : badAt s p) : brokenB (s.extract p s.size) (Utf8.decode s p).1 = true := (brokenB_iff s p hp).2 hb

/-- Inside a token nothing happens. -/
theorem scan_runs (s : ByteArray) (acc : List Tok) (q : Nat) : ∀ (k p f : Nat) (here : Int × Int) (rm : Bool), Runs s k p q → s.size - p ≤ f → SpotAt s p here →
    ∃ f' here', scanGo s f p here rm q acc = scanGo s f' q here' rm q acc ∧ s.size - q ≤ f' ∧ SpotAt s q here'
  | 0, p, f, here, rm, h, hf, hsp => by
    obtain rfl : p = q := h
    exact ⟨f, here, rfl, hf, hsp⟩
  | k + 1, p, f, here, rm, h, hf, hsp => by
    rcases h with rfl | ⟨hp, hb, h⟩
    · exact ⟨f, here, rfl, hf, hsp⟩
    · have hw := width_pos s p hp
      have hle := h.le
      obtain ⟨f0, rfl⟩ : ∃ f0, f = f0 + 1 := ⟨f - 1, by omega⟩
      rw [scanGo_in s f0 p here rm q acc hp (broken_false hp hb) (by omega)]
      exact scan_runs s acc q k _ f0 _ rm h (by omega) (hsp.next hp)

/-- A remark, rune by rune, from a place in it on. -/
theorem scan_remark (s : ByteArray) (acc : List Tok) (b : Nat) : ∀ (g p f : Nat) (here : Int × Int), b ≤ p → p ≤ s.size → s.size - p ≤ g → s.size - p ≤ f → SpotAt s p here →
    (0 ≤ (remGo s g p).2 → scanGo s f p here true b acc = ([], 4, whereOf s (remGo s g p).2)) ∧
    (¬ 0 ≤ (remGo s g p).2 → ∃ f' here', scanGo s f p here true b acc = scanGo s f' (remGo s g p).1 here' true b acc ∧ s.size - (remGo s g p).1 ≤ f' ∧ SpotAt s (remGo s g p).1 here' ∧ p ≤ (remGo s g p).1 ∧ (remGo s g p).1 ≤ s.size ∧
      ((remGo s g p).1 < s.size → byteAt s (remGo s g p).1 = 10))
  | 0, p, f, here, hbp, hps, hg, hf, hsp => by
    refine ⟨fun h => absurd h (by simp [remGo]), fun _ => ⟨f, here, rfl, hf, hsp, Nat.le_refl _, hps, fun h => ?_⟩⟩
    simp [remGo] at h
    omega
  | g + 1, p, f, here, hbp, hps, hg, hf, hsp => by
    by_cases hc : p < s.size ∧ byteAt s p ≠ 10
    · have hp := hc.1
      have hw := width_pos s p hp
      have hwf := decode_fits s p hp
      obtain ⟨f0, rfl⟩ : ∃ f0, f = f0 + 1 := ⟨f - 1, by omega⟩
      by_cases hb : badAt s p
      · rw [remGo_bad s g p hc hb]
        refine ⟨fun _ => ?_, fun h => absurd (Int.natCast_nonneg p) h⟩
        rw [scanGo_broken s f0 p here true b acc hp (broken_true hp hb), hsp.at_]
      · rw [remGo_more s g p hc hb, scanGo_remark s f0 p here b acc hp (broken_false hp hb) (by omega)]
        have h10 : (((Utf8.decode s p).1 : Int) != 10) = true := by
          rw [bne_iff_ne]
          intro e
          have hd := decode_byte s p hp (by omega)
          rw [hd] at e
          exact hc.2 (by simp at e; omega)
        rw [h10]
        have ih := scan_remark s acc b g (p + (Utf8.decode s p).2) f0 _ (by omega) hwf (by omega) (by omega) (hsp.next hp)
        refine ⟨ih.1, fun h => ?_⟩
        obtain ⟨f', here', a1, a2, a3, a4, a5, a6⟩ := ih.2 h
        exact ⟨f', here', a1, a2, a3, by omega, a5, a6⟩
    · rw [remGo_end s (g + 1) p hc]
      refine ⟨fun h => absurd h (by simp), fun _ => ⟨f, here, rfl, hf, hsp, Nat.le_refl _, hps, fun h => ?_⟩⟩
      simp only [not_and] at hc
      have := hc h
      simpa using this
end Go.Proofs.YtaffgdgdojdoiaaGreatDoor

/- Layer 1 (scan), plain: rune by rune, and token by token, come to the same. -/
namespace Go.Proofs.YtaffgdgdojdoiaaGreatDoor
open Go.RowKit Go.Lib

section
variable (s : ByteArray) (pos : Nat)
theorem rem_shift : ∀ (g i : Nat), pos + i ≤ s.size →
    (0 ≤ (remGo (s.extract pos s.size) g i).2 ↔ 0 ≤ (remGo s g (pos + i)).2) ∧ (0 ≤ (remGo (s.extract pos s.size) g i).2 → (remGo s g (pos + i)).2 = pos + (remGo (s.extract pos s.size) g i).2) ∧
    (¬ 0 ≤ (remGo (s.extract pos s.size) g i).2 → (remGo s g (pos + i)).1 = pos + (remGo (s.extract pos s.size) g i).1)
  | 0, i, h => by simp [remGo]
  | g + 1, i, h => by
    have hd : Utf8.decode (s.extract pos s.size) i = Utf8.decode s (pos + i) := tail_decode s pos i
    have hsz : (s.extract pos s.size).size = s.size - pos := by simp
    by_cases hp : pos + i < s.size
    · have hb : byteAt (s.extract pos s.size) i = byteAt s (pos + i) := byteAt_extract s pos s.size i hp (Nat.le_refl _)
      by_cases h10 : byteAt s (pos + i) = 10
      · rw [remGo_end _ _ i (by rw [hb]; exact fun x => x.2 h10), remGo_end s _ (pos + i) (fun x => x.2 h10)]
        simp
      · by_cases hbad : (Utf8.decode s (pos + i)).1 = 65533 ∧ (Utf8.decode s (pos + i)).2 = 1
        · rw [remGo_bad _ g i ⟨by omega, by rw [hb]; exact h10⟩ (by rw [hd]; exact hbad), remGo_bad s g (pos + i) ⟨hp, h10⟩ hbad]
          refine ⟨⟨fun _ => Int.natCast_nonneg _, fun _ => Int.natCast_nonneg _⟩, fun _ => by simp, fun h => absurd (Int.natCast_nonneg i) h⟩
        · have hwf := decode_fits s (pos + i) hp
          rw [remGo_more _ g i ⟨by omega, by rw [hb]; exact h10⟩ (by rw [hd]; exact hbad), remGo_more s g (pos + i) ⟨hp, h10⟩ hbad, hd, Nat.add_assoc]
          exact rem_shift g _ (by omega)
    · rw [remGo_end _ _ i (fun x => by have := x.1; omega), remGo_end s _ (pos + i) (fun x => hp x.1)]
      simp
theorem runs_shift : ∀ (k i j : Nat), Runs (s.extract pos s.size) k i j → Runs s k (pos + i) (pos + j)
  | 0, i, j, h => by rw [show i = j from h]; exact rfl
  | k + 1, i, j, h => by
    rcases h with h | ⟨h1, h2, h3⟩
    · exact .inl (by rw [h])
    · have hd : Utf8.decode (s.extract pos s.size) i = Utf8.decode s (pos + i) := tail_decode s pos i
      have hsz : (s.extract pos s.size).size = s.size - pos := by simp
      rw [hd] at h3
      refine .inr ⟨by omega, fun h => h2 (by unfold badAt; rw [hd]; exact h), ?_⟩
      have := runs_shift k _ _ h3
      rwa [← Nat.add_assoc] at this
end

theorem num_runs (t : ByteArray) : ∀ (f i v : Nat), ∃ k, Runs t k i (numGo t f i v).1
  | 0, i, v => ⟨0, rfl⟩
  | f + 1, i, v => by
    by_cases hp : i < t.size
    · cases hd : digB (byteAt t i) with
      | true =>
        rw [numGo_more t f i v hp hd]
        obtain ⟨k, hk⟩ := num_runs t f (i + 1) (addDigit v (byteAt t i))
        have h2 := (digB_iff _).1 hd
        have hlow := decode_low t i hp (by omega)
        refine ⟨k + 1, Runs.step hp (fun h => ?_) (by rw [hlow]; exact hk)⟩
        unfold badAt at h
        rw [hlow] at h
        have h1 := h.1
        simp only [] at h1
        omega
      | false => rw [numGo_stop t (f + 1) i v hd]; exact ⟨0, rfl⟩
    · rw [numGo_end t (f + 1) i v hp]; exact ⟨0, rfl⟩

theorem word_runs (t : ByteArray) : ∀ (f i seen size runes : Nat), (wordGo t f i seen size runes).1 = size ∨ ∃ k, Runs t k i (wordGo t f i seen size runes).1
  | 0, i, seen, size, runes => .inl rfl
  | f + 1, i, seen, size, runes => by
    by_cases hp : i < t.size
    · cases hs : wStop (i == 0) (Utf8.decode t i).1 with
      | true => rw [wordGo_stop t (f + 1) i seen size runes hs]; exact .inl rfl
      | false =>
        have hb : ¬ badAt t i := fun h => by
          have h1 : ((Utf8.decode t i).1 : Int) = 65533 := by have := h.1; omega
          rw [h1] at hs
          revert hs
          simp [wStop, letB_err, digB]
        by_cases h45 : (Utf8.decode t i).1 = 45
        · rw [wordGo_mark t f i seen size runes hp hs h45]
          rcases word_runs t f (i + (Utf8.decode t i).2) (seen + 1) size runes with h | ⟨k, h⟩
          · exact .inl h
          · exact .inr ⟨k + 1, Runs.step hp hb h⟩
        · rw [wordGo_more t f i seen size runes hp hs h45]
          rcases word_runs t f (i + (Utf8.decode t i).2) (seen + 1) (i + (Utf8.decode t i).2) (seen + 1) with h | ⟨k, h⟩
          · rw [h]; exact .inr ⟨1, Runs.step hp hb rfl⟩
          · exact .inr ⟨k + 1, Runs.step hp hb h⟩
    · rw [wordGo_end t (f + 1) i seen size runes hp]; exact .inl rfl

/-- A token is not empty, and its runes are whole. -/
theorem tok_runs (t : ByteArray) (h0 : 0 < t.size) (h : (tokOf t).2.2 = 0) : 0 < (tokOf t).2.1 ∧ ∃ k, Runs t k 0 (tokOf t).2.1 := by
  by_cases hw : 0 < (wordOf t).1
  · by_cases h24 : 24 < (wordOf t).2
    · exfalso
      revert h
      unfold tokOf
      rw [if_pos hw, if_pos h24]
      simp
    · have e : tokOf t = (1, (wordOf t).1, 0) := by unfold tokOf; rw [if_pos hw, if_neg h24]
      rw [e]
      refine ⟨hw, ?_⟩
      rcases word_runs t t.size 0 0 0 0 with h1 | h1
      · exact absurd h1 (by unfold wordOf at hw; omega)
      · exact h1
  · by_cases hn : 0 < (numOf t).1
    · by_cases hf : numFault t (numOf t).1 (numOf t).2 = 0
      · have e : tokOf t = (2, (numOf t).1, 0) := by unfold tokOf; rw [if_neg hw, if_pos hn, if_pos hf]
        rw [e]
        exact ⟨hn, num_runs t t.size 0 0⟩
      · exfalso
        revert h
        unfold tokOf
        rw [if_neg hw, if_pos hn, if_neg hf]
        exact hf
    · cases hm : markB (byteAt t 0) with
      | true =>
        have e : tokOf t = (3, 1, 0) := by unfold tokOf; rw [if_neg hw, if_neg hn, hm]; rfl
        rw [e]
        refine ⟨by decide, 1, ?_⟩
        have hb : byteAt t 0 < 128 := by
          rcases Nat.lt_or_ge (byteAt t 0) 128 with h | h
          · exact h
          · have := markB_high ⟨_, byteAt_lt t 0⟩ h
            rw [this] at hm
            cases hm
        have hlow := decode_low t 0 h0 hb
        refine Runs.step h0 (fun h => ?_) (by rw [hlow]; exact rfl)
        unfold badAt at h
        rw [hlow] at h
        have h1 := h.1
        simp only [] at h1
        omega
      | false =>
        exfalso
        revert h
        unfold tokOf
        rw [if_neg hw, if_neg hn, hm]
        simp

/-- Bytes that are no UTF-8 are no token. -/
theorem tokOf_bad (t : ByteArray) (h0 : 0 < t.size) (h : (Utf8.decode t 0).1 = 65533) : tokOf t = (0, 0, 4) := by
  have hw : ¬ 0 < (wordOf t).1 := by
    unfold wordOf
    rw [wordGo_stop t _ 0 0 0 0 (by rw [h]; simp [wStop, letB_err, show ((65533 : Nat) : Int) = 65533 from rfl])]
    simp
  have hb : 128 ≤ byteAt t 0 := by
    rcases Nat.lt_or_ge (byteAt t 0) 128 with hb | hb
    · rw [decode_low t 0 h0 hb] at h
      simp only [] at h
      omega
    · exact hb
  have hn : ¬ 0 < (numOf t).1 := by
    rw [numOf_pos t h0]
    have : digB (byteAt t 0) = false := by
      cases hq : digB (byteAt t 0) with
      | false => rfl
      | true => have := (digB_iff _).1 hq; omega
    rw [this]
    simp
  have hm := markB_high ⟨_, byteAt_lt t 0⟩ hb
  unfold tokOf
  rw [if_neg hw, if_neg hn, hm]
  rfl

theorem blank_byte (s : ByteArray) (p : Nat) (hp : p < s.size) (h : blankB (Utf8.decode s p).1 = true) : (Utf8.decode s p).2 = 1 := by
  have : (Utf8.decode s p).1 < 128 := by
    simp [blankB] at h
    omega
  rw [decode_byte s p hp this]

/-- THE WHOLE: rune by rune, and token by token. -/
theorem scan_ref (s : ByteArray) : ∀ (n p f g : Nat) (here : Int × Int) (b : Nat) (acc : List Tok), s.size - p ≤ n → p ≤ s.size → b ≤ p → s.size - p ≤ f → s.size - p ≤ g → SpotAt s p here →
    scanGo s f p here false b acc = refGo s g p acc := by
  intro n
  induction n with
  | zero =>
    intro p f g here b acc hn hps hb hf hg hsp
    have hp : ¬ p < s.size := by omega
    obtain rfl : p = s.size := by omega
    rw [scanGo_end s f _ here false b acc hp, refGo_end s g _ acc hp, hsp.at_]
  | succ n ih =>
    intro p f g here b acc hn hps hb hf hg hsp
    by_cases hp : p < s.size
    · have hw := width_pos s p hp
      have hwf := decode_fits s p hp
      have hsz : (s.extract p s.size).size = s.size - p := by simp
      have hd0 : Utf8.decode (s.extract p s.size) 0 = Utf8.decode s p := tail_decode s p 0
      obtain ⟨f0, rfl⟩ : ∃ f0, f = f0 + 1 := ⟨f - 1, by omega⟩
      obtain ⟨g0, rfl⟩ : ∃ g0, g = g0 + 1 := ⟨g - 1, by omega⟩
      by_cases hbad : badAt s p
      · rw [scanGo_broken s f0 p here false b acc hp (broken_true hp hbad)]
        have hr := hbad.1
        have ht := tokOf_bad (s.extract p s.size) (by omega) (by rw [hd0]; exact hr)
        have h1 : blankB (Utf8.decode s p).1 = false := by rw [hr]; rfl
        rw [refGo_fault s g0 p acc hp h1 (by omega) (by rw [ht]; simp), ht, hsp.at_]
      · have hbf := broken_false hp hbad
        cases hbl : blankB (Utf8.decode s p).1 with
        | true =>
          have hr35 : (Utf8.decode s p).1 ≠ 35 := by
            intro e
            rw [e] at hbl
            revert hbl
            decide
          have hw1 := blank_byte s p hp hbl
          rw [scanGo_blank s f0 p here b acc hp hbf (by omega) hr35 hbl, refGo_blank s g0 p acc hp hbl, hw1]
          exact ih (p + 1) f0 g0 _ b acc (by omega) (by omega) (by omega) (by omega) (by omega) (by rw [← hw1]; exact hsp.next hp)
        | false =>
          by_cases h35 : (Utf8.decode s p).1 = 35
          · have hdec := decode_byte s p hp (by omega)
            have hb35 : byteAt s p = 35 := by rw [hdec] at h35; exact h35
            have hw1 : (Utf8.decode s p).2 = 1 := by rw [hdec]
            rw [scanGo_hash s f0 p here b acc hp hbf (by omega) h35]
            obtain ⟨r1, r2, r3⟩ := rem_shift s p (s.size - p) 0 (by omega)
            have hrem : remOf (s.extract p s.size) = remGo (s.extract p s.size) (s.size - p) 0 := by unfold remOf; rw [hsz]
            rw [← hrem] at r1 r2 r3
            obtain ⟨m, hm⟩ : ∃ m, s.size - p = m + 1 := ⟨s.size - p - 1, by omega⟩
            have hone : remGo s (s.size - p) (p + 0) = remGo s m (p + (Utf8.decode s p).2) := by
              rw [hm]
              exact remGo_more s m p ⟨hp, by omega⟩ hbad
            rw [hone] at r1 r2 r3
            have hsr := scan_remark s acc b m (p + (Utf8.decode s p).2) f0 _ (by omega) hwf (by omega) (by omega) (hsp.next hp)
            by_cases hneg : 0 ≤ (remOf (s.extract p s.size)).2
            · rw [refGo_bad s g0 p acc hp hbl h35 hneg, hsr.1 (r1.1 hneg), r2 hneg]
            · obtain ⟨f', here', a1, a2, a3, a4, a5, a6⟩ := hsr.2 (fun h => hneg (r1.2 h))
              rw [refGo_remark s g0 p acc hp hbl h35 hneg, a1]
              rw [r3 hneg] at a1 a2 a3 a4 a5 a6 ⊢
              generalize (remOf (s.extract p s.size)).1 = q at *
              by_cases hq : p + q < s.size
              · have h10 := a6 hq
                have hdq := decode_low s (p + q) hq (by omega)
                have hnb : ¬ badAt s (p + q) := by
                  unfold badAt
                  rw [hdq, h10]
                  simp
                obtain ⟨f1, rfl⟩ : ∃ f1, f' = f1 + 1 := ⟨f' - 1, by omega⟩
                obtain ⟨g1, rfl⟩ : ∃ g1, g0 = g1 + 1 := ⟨g0 - 1, by omega⟩
                rw [scanGo_remark s f1 (p + q) here' b acc hq (broken_false hq hnb) (by omega), refGo_blank s g1 (p + q) acc hq (by rw [hdq, h10]; rfl)]
                have hnx := a3.next hq
                rw [hdq, h10] at hnx ⊢
                exact ih (p + q + 1) f1 g1 _ b acc (by omega) (by omega) (by omega) (by omega) (by omega) hnx
              · rw [scanGo_end s f' _ here' true b acc hq, refGo_end s g0 _ acc hq]
                have he : p + q = s.size := by omega
                have := a3.at_
                rw [he] at this
                rw [this]
          · by_cases ht : (tokOf (s.extract p s.size)).2.2 = 0
            · obtain ⟨hz, k, hk⟩ := tok_runs (s.extract p s.size) (by omega) ht
              have hk2 := runs_shift s p k 0 _ hk
              rw [Nat.add_zero] at hk2
              obtain ⟨_, _, k', hk3⟩ := hk2.first (by omega)
              have hts := tokOf_size (s.extract p s.size) (by omega)
              rw [hsz] at hts
              rw [scanGo_tok s f0 p here b acc hp hbf (by omega) h35 hbl ht, refGo_tok s g0 p acc hp hbl h35 ht, hsp.at_]
              obtain ⟨f', here', a1, a2, a3⟩ := scan_runs s (acc ++ [⟨(tokOf (s.extract p s.size)).1, s.extract p (p + (tokOf (s.extract p s.size)).2.1), here⟩]) (p + (tokOf (s.extract p s.size)).2.1) k' _ f0 _ false hk3 (by omega) (hsp.next hp)
              rw [a1]
              exact ih _ f' g0 here' _ _ (by omega) (by omega) (Nat.le_refl _) a2 (by omega) a3
            · rw [scanGo_fault s f0 p here b acc hp hbf (by omega) h35 hbl ht, refGo_fault s g0 p acc hp hbl h35 ht, hsp.at_]
    · obtain rfl : p = s.size := by omega
      rw [scanGo_end s f _ here false b acc hp, refGo_end s g _ acc hp, hsp.at_]

theorem scanOf_refOf (s : ByteArray) : scanOf s = refOf s := by
  unfold scanOf refOf
  split
  · rfl
  · exact scan_ref s s.size 0 s.size s.size (1, 1) 0 [] (by omega) (by omega) (by omega) (by omega) (by omega) (SpotAt.start s)
end Go.Proofs.YtaffgdgdojdoiaaGreatDoor

/- Layer 1 (scan), plain: a token stands by itself: whatever follows, if it is a blank or a remark. -/
namespace Go.Proofs.YtaffgdgdojdoiaaGreatDoor
open Go.RowKit Go.Lib

/-! ### bytes of a text put together -/
theorem size_app (a b : ByteArray) : (a ++ b).size = a.size + b.size := ByteArray.size_append
theorem byte_left (a b : ByteArray) (i : Nat) (h : i < a.size) : byteAt (a ++ b) i = byteAt a i := by
  rw [byteAt_get _ i (by rw [size_app]; omega), byteAt_get a i h]
  congr 1
  exact ByteArray.getElem_append_left h
theorem byte_right (a b : ByteArray) (i : Nat) (h : i < b.size) : byteAt (a ++ b) (a.size + i) = byteAt b i := by
  rw [byteAt_get _ (a.size + i) (by rw [size_app]; omega), byteAt_get b i h]
  have := ByteArray.getElem_append_right (a := a) (b := b) (i := a.size + i) (h := by rw [size_app]; omega) (by omega)
  rw [this]
  simp
theorem app_drop (a b : ByteArray) : (a ++ b).extract a.size (a ++ b).size = b := ByteArray.extract_append_eq_right rfl (size_app a b)
theorem app_take (a b : ByteArray) : (a ++ b).extract 0 a.size = a := ByteArray.extract_append_eq_left rfl

/-! ### the decoder looks at no more than the rune -/
set_option maxRecDepth 100000 in
set_option maxHeartbeats 2000000 in
theorem decodeN_local (n n' b0 b1 b2 b3 c1 c2 c3 : Nat) (h : (decodeN n b0 b1 b2 b3).1 ≠ 65533) (hn : (decodeN n b0 b1 b2 b3).2 ≤ n')
    (h1 : 1 < (decodeN n b0 b1 b2 b3).2 → c1 = b1) (h2 : 2 < (decodeN n b0 b1 b2 b3).2 → c2 = b2) (h3 : 3 < (decodeN n b0 b1 b2 b3).2 → c3 = b3) : decodeN n' b0 c1 c2 c3 = decodeN n b0 b1 b2 b3 := by
  revert h hn h1 h2 h3
  generalize hd : decodeN n b0 b1 b2 b3 = d
  unfold decodeN at hd
  repeat' split at hd
  all_goals subst hd
  all_goals intro h hn h1 h2 h3
  all_goals dsimp only at h hn h1 h2 h3
  all_goals first | exact absurd rfl h | skip
  all_goals unfold decodeN
  all_goals (repeat' split)
  all_goals first | rfl | (exfalso; omega) | (apply Prod.ext <;> dsimp only <;> omega)

theorem decode_same (u v : ByteArray) (i : Nat) (h : (Utf8.decode u i).1 ≠ 65533) (hv : i + (Utf8.decode u i).2 ≤ v.size) (hi : i < v.size) (hu : i + (Utf8.decode u i).2 ≤ u.size) (hiu : i < u.size)
    (hb : ∀ j, j < i + (Utf8.decode u i).2 → byteAt v j = byteAt u j) (hb0 : byteAt v i = byteAt u i) : Utf8.decode v i = Utf8.decode u i := by
  have hb' : ∀ j, j < i + (Utf8.decode u i).2 → (v.get! j).toNat = (u.get! j).toNat := hb
  have hb0' : (v.get! i).toNat = (u.get! i).toNat := hb0
  rw [decode_at v i, decode_at u i] at *
  rw [hb0']
  exact decodeN_local _ _ _ _ _ _ _ _ _ h (by omega) (fun h1 => hb' _ (by omega)) (fun h2 => hb' _ (by omega)) (fun h3 => hb' _ (by omega))

theorem wordGo_cases (t : ByteArray) : ∀ f i seen size runes, wordGo t f i seen size runes = (size, runes) ∨ i < (wordGo t f i seen size runes).1
  | 0, i, seen, size, runes => .inl rfl
  | f + 1, i, seen, size, runes => by
    by_cases hp : i < t.size
    · cases hs : wStop (i == 0) (Utf8.decode t i).1 with
      | true => rw [wordGo_stop t (f + 1) i seen size runes hs]; exact .inl rfl
      | false =>
        have hw := width_pos t i hp
        by_cases h45 : (Utf8.decode t i).1 = 45
        · rw [wordGo_mark t f i seen size runes hp hs h45]
          rcases wordGo_cases t f (i + (Utf8.decode t i).2) (seen + 1) size runes with h | h
          · exact .inl h
          · exact .inr (by omega)
        · rw [wordGo_more t f i seen size runes hp hs h45]
          rcases wordGo_cases t f (i + (Utf8.decode t i).2) (seen + 1) (i + (Utf8.decode t i).2) (seen + 1) with h | h
          · rw [h]; exact .inr (by simp; omega)
          · exact .inr (by omega)
    · rw [wordGo_end t (f + 1) i seen size runes hp]; exact .inl rfl

/-- A word ends where it ended, if what follows there is no part of one. -/
theorem word_same (u v : ByteArray) (n m : Nat) (hnu : n ≤ u.size) (hnv : n ≤ v.size) (hb : ∀ j, j < n → byteAt v j = byteAt u j) (hst : n < v.size → wStop false (Utf8.decode v n).1 = true) :
    ∀ fu fv i seen size runes, wordGo u fu i seen size runes = (n, m) → size < n → v.size - i ≤ fv → wordGo v fv i seen size runes = (n, m) := by
  intro fu
  induction fu with
  | zero => intro fv i seen size runes h hs _; simp [wordGo] at h; omega
  | succ fu ih =>
    intro fv i seen size runes h hsz hf
    by_cases hp : i < u.size
    · cases hs : wStop (i == 0) (Utf8.decode u i).1 with
      | true => rw [wordGo_stop u (fu + 1) i seen size runes hs] at h; simp at h; omega
      | false =>
        have hw := width_pos u i hp
        have hwf := decode_fits u i hp
        have h65 : (Utf8.decode u i).1 ≠ 65533 := fun e => by
          rw [e] at hs
          revert hs
          simp [wStop, letB_err, digB, show ((65533 : Nat) : Int) = 65533 from rfl]
        by_cases h45 : (Utf8.decode u i).1 = 45
        · rw [wordGo_mark u fu i seen size runes hp hs h45] at h
          have hin : i + (Utf8.decode u i).2 < n := by
            rcases wordGo_cases u fu (i + (Utf8.decode u i).2) (seen + 1) size runes with hc | hc
            · rw [h] at hc; simp at hc; omega
            · rw [h] at hc; exact hc
          have hd := decode_same u v i h65 (by omega) (by omega) hwf hp (fun j hj => hb j (by omega)) (hb i (by omega))
          obtain ⟨fv', rfl⟩ : ∃ fv', fv = fv' + 1 := ⟨fv - 1, by omega⟩
          rw [wordGo_mark v fv' i seen size runes (by omega) (by rw [hd]; exact hs) (by rw [hd]; exact h45), hd]
          exact ih fv' _ _ _ _ h hsz (by omega)
        · rw [wordGo_more u fu i seen size runes hp hs h45] at h
          have hin : i + (Utf8.decode u i).2 ≤ n := by
            rcases wordGo_cases u fu (i + (Utf8.decode u i).2) (seen + 1) (i + (Utf8.decode u i).2) (seen + 1) with hc | hc
            · rw [h] at hc; simp at hc; omega
            · rw [h] at hc; exact Nat.le_of_lt hc
          have hd := decode_same u v i h65 (by omega) (by omega) hwf hp (fun j hj => hb j (by omega)) (hb i (by omega))
          obtain ⟨fv', rfl⟩ : ∃ fv', fv = fv' + 1 := ⟨fv - 1, by omega⟩
          rw [wordGo_more v fv' i seen size runes (by omega) (by rw [hd]; exact hs) (by rw [hd]; exact h45), hd]
          by_cases he : i + (Utf8.decode u i).2 = n
          · have hm : seen + 1 = m := by
              rcases wordGo_cases u fu (i + (Utf8.decode u i).2) (seen + 1) (i + (Utf8.decode u i).2) (seen + 1) with hc | hc
              · rw [h] at hc; simp at hc; omega
              · rw [h] at hc; simp at hc; omega
            rw [he, hm]
            by_cases hv : n < v.size
            · exact wordGo_stop v fv' n _ _ _ (by rw [show (n == 0) = false from by simp; omega]; exact hst hv)
            · exact wordGo_end v fv' n _ _ _ hv
          · exact ih fv' _ _ _ _ h (by omega) (by omega)
    · rw [wordGo_end u (fu + 1) i seen size runes hp] at h; simp at h; omega

theorem num_same (u v : ByteArray) (n x : Nat) (hnv : n ≤ v.size) (hb : ∀ j, j < n → byteAt v j = byteAt u j) (hst : n < v.size → digB (byteAt v n) = false) :
    ∀ fu fv i a, numGo u fu i a = (n, x) → v.size - i ≤ fv → numGo v fv i a = (n, x) := by
  intro fu
  induction fu with
  | zero =>
    intro fv i a h hf
    simp [numGo] at h
    obtain ⟨rfl, rfl⟩ := h
    by_cases hv : i < v.size
    · exact numGo_stop v fv i a (hst hv)
    · exact numGo_end v fv i a hv
  | succ fu ih =>
    intro fv i a h hf
    have hge : i ≤ n := by have := numGo_ge u (fu + 1) i a; rw [h] at this; exact this
    by_cases he : i = n
    · have hx : a = x := by
        rw [he] at h
        by_cases hp : n < u.size
        · cases hd : digB (byteAt u n) with
          | true =>
            rw [numGo_more u fu n a hp hd] at h
            have := numGo_ge u fu (n + 1) (addDigit a (byteAt u n))
            rw [h] at this
            simp at this
            omega
          | false => rw [numGo_stop u (fu + 1) n a hd] at h; simpa using h
        · rw [numGo_end u (fu + 1) n a hp] at h; simpa using h
      rw [he, hx]
      by_cases hv : n < v.size
      · exact numGo_stop v fv n x (hst hv)
      · exact numGo_end v fv n x hv
    · by_cases hp : i < u.size
      · cases hd : digB (byteAt u i) with
        | true =>
          rw [numGo_more u fu i a hp hd] at h
          obtain ⟨fv', rfl⟩ : ∃ fv', fv = fv' + 1 := ⟨fv - 1, by omega⟩
          have hbi := hb i (by omega)
          rw [numGo_more v fv' i a (by omega) (by rw [hbi]; exact hd), hbi]
          exact ih fv' _ _ h (by omega)
        | false => rw [numGo_stop u (fu + 1) i a hd] at h; simp at h; omega
      · rw [numGo_end u (fu + 1) i a hp] at h; simp at h; omega
end Go.Proofs.YtaffgdgdojdoiaaGreatDoor

/- Layer 1 (scan), plain: tokens, parted by blanks and remarks, are read as the same tokens. -/
namespace Go.Proofs.YtaffgdgdojdoiaaGreatDoor
open Go.RowKit Go.Lib

/-- A byte at which no word and no number goes on. -/
def partB (b : Nat) : Prop := b = 32 ∨ b = 10 ∨ b = 9 ∨ b = 13 ∨ b = 35

theorem part_letter (b : Nat) (h : partB b) : letB b = false := by
  rcases h with rfl | rfl | rfl | rfl | rfl <;> kernel_rfl
theorem part_stop (v : ByteArray) (n : Nat) (hn : n < v.size) (h : partB (byteAt v n)) : wStop false (Utf8.decode v n).1 = true := by
  have hl := part_letter _ h
  have hlt : byteAt v n < 128 := by rcases h with h | h | h | h | h <;> omega
  rw [decode_low v n hn hlt]
  have hd : digB (byteAt v n) = false := by
    cases hq : digB (byteAt v n) with
    | false => rfl
    | true => have := (digB_iff _).1 hq; rcases h with h | h | h | h | h <;> omega
  have h45 : ((byteAt v n : Int) == 45) = false := by simp; rcases h with h | h | h | h | h <;> omega
  simp [wStop, hl, hd, h45]

/-- What may stand behind a token: nothing, or a blank, or a remark. -/
def Behind (r : ByteArray) : Prop := 0 < r.size → partB (byteAt r 0)

/-- A token, by itself: it was read so somewhere. -/
def TokOK (k : Nat) (x : ByteArray) : Prop := ∃ u : ByteArray, 0 < u.size ∧ tokOf u = (k, x.size, 0) ∧ x = u.extract 0 x.size ∧ blankB (Utf8.decode u 0).1 = false ∧ (Utf8.decode u 0).1 ≠ 35

theorem tok_pos {k : Nat} {x : ByteArray} (h : TokOK k x) : 0 < x.size := by
  obtain ⟨u, h0, ht, _⟩ := h
  have := (tok_runs u h0 (by rw [ht])).1
  rw [ht] at this
  exact this

theorem letter_low : ∀ b : Fin 128, digB b.val = true → letB b.val = false := by decide +kernel

/-- A token is read again, whatever stands behind it. -/
theorem tok_again {k : Nat} {x : ByteArray} (h : TokOK k x) (rest : ByteArray) (hr : Behind rest) :
    tokOf (x ++ rest) = (k, x.size, 0) ∧ Utf8.decode (x ++ rest) 0 = Utf8.decode (x ++ rest) 0 ∧ blankB (Utf8.decode (x ++ rest) 0).1 = false ∧ (Utf8.decode (x ++ rest) 0).1 ≠ 35 := by
  have hx0 := tok_pos h
  obtain ⟨u, h0, ht, hx, hbl, h35⟩ := h
  have hts := tokOf_size u h0
  rw [ht] at hts
  simp only [] at hts
  have hsz : (x ++ rest).size = x.size + rest.size := size_app x rest
  have hb : ∀ j, j < x.size → byteAt (x ++ rest) j = byteAt u j := fun j hj => by
    rw [byte_left x rest j hj]
    conv => lhs; rw [hx]
    rw [byteAt_extract u 0 x.size j (by omega) hts, Nat.zero_add]
  have hpart : x.size < (x ++ rest).size → partB (byteAt (x ++ rest) x.size) := fun hlt => by
    have := byte_right x rest 0 (by omega)
    rw [Nat.add_zero] at this
    rw [this]
    exact hr (by omega)
  have hdigit : x.size < (x ++ rest).size → digB (byteAt (x ++ rest) x.size) = false := fun hlt => by
    have hp := hpart hlt
    cases hq : digB (byteAt (x ++ rest) x.size) with
    | false => rfl
    | true => have := (digB_iff _).1 hq; rcases hp with h | h | h | h | h <;> omega
  -- the first rune is the same
  have hruns := (tok_runs u h0 (by rw [ht])).2
  rw [ht] at hruns
  obtain ⟨kk, hk⟩ := hruns
  obtain ⟨_, hnb, k', hk'⟩ := hk.first hx0
  have hfit : (Utf8.decode u 0).2 ≤ x.size := by have hq : 0 + (Utf8.decode u 0).2 ≤ x.size := hk'.le; omega
  have h65 : (Utf8.decode u 0).1 ≠ 65533 := fun e => by
    have := tokOf_bad u h0 e
    rw [ht] at this
    simp at this
  have hd0 : Utf8.decode (x ++ rest) 0 = Utf8.decode u 0 := decode_same u (x ++ rest) 0 h65 (by omega) (by omega) (by omega) h0 (fun j hj => hb j (by omega)) (hb 0 hx0)
  refine ⟨?_, rfl, by rw [hd0]; exact hbl, by rw [hd0]; exact h35⟩
  by_cases hw : 0 < (wordOf u).1
  · have ht' := ht
    unfold tokOf at ht'
    rw [if_pos hw] at ht'
    by_cases h24 : 24 < (wordOf u).2
    · rw [if_pos h24] at ht'; simp at ht'
    · rw [if_neg h24] at ht'
      simp only [Prod.mk.injEq] at ht'
      obtain ⟨rfl, hwn, _⟩ := ht'
      have hword : wordOf (x ++ rest) = (x.size, (wordOf u).2) := by
        refine word_same u (x ++ rest) x.size (wordOf u).2 hts (by omega) hb (fun hlt => part_stop _ _ hlt (hpart hlt)) u.size _ 0 0 0 0 ?_ hx0 (by omega)
        rw [← hwn]
        rfl
      unfold tokOf
      rw [hword, if_pos hx0, if_neg h24]
  · have hw' : ¬ 0 < (wordOf (x ++ rest)).1 := by
      -- the first rune is no letter
      have hst : wStop true (Utf8.decode u 0).1 = true := by
        cases hs : wStop true (Utf8.decode u 0).1 with
        | true => rfl
        | false =>
          exfalso
          apply hw
          have h45 : (Utf8.decode u 0).1 ≠ 45 := fun e => by rw [e] at hs; revert hs; simp [wStop, letB_mark, show ((45 : Nat) : Int) = 45 from rfl]
          obtain ⟨f, hf⟩ : ∃ f, u.size = f + 1 := ⟨u.size - 1, by omega⟩
          unfold wordOf
          rw [hf, wordGo_more u f 0 0 0 0 h0 hs h45]
          have hwp := width_pos u 0 h0
          rcases wordGo_cases u f (0 + (Utf8.decode u 0).2) (0 + 1) (0 + (Utf8.decode u 0).2) (0 + 1) with hc | hc
          · rw [hc]; simp; omega
          · omega
      unfold wordOf
      rw [wordGo_stop (x ++ rest) _ 0 0 0 0 (by rw [hd0]; exact hst)]
      simp
    by_cases hn : 0 < (numOf u).1
    · have ht' := ht
      unfold tokOf at ht'
      rw [if_neg hw, if_pos hn] at ht'
      by_cases hf : numFault u (numOf u).1 (numOf u).2 = 0
      · rw [if_pos hf] at ht'
        simp only [Prod.mk.injEq] at ht'
        obtain ⟨rfl, hnn, _⟩ := ht'
        have hnum : numOf (x ++ rest) = (x.size, (numOf u).2) := by
          refine num_same u (x ++ rest) x.size (numOf u).2 (by omega) hb hdigit u.size _ 0 0 ?_ (by omega)
          rw [← hnn]
          rfl
        have hfault : numFault (x ++ rest) x.size (numOf u).2 = 0 := by
          have hf' := hf
          rw [hnn] at hf'
          unfold numFault at hf' ⊢
          split at hf'
          · cases hf'
          · rename_i c1
            rw [if_neg c1]
            split at hf'
            · cases hf'
            · rename_i c2
              rw [hb 0 hx0, if_neg c2]
              have hbehind : letB (behindR (x ++ rest) x.size) = false := by
                unfold behindR
                rw [app_drop]
                unfold decodeGo
                split
                · exact letB_err
                · rename_i hz
                  have hp := hr (by omega)
                  have hlt : byteAt rest 0 < 128 := by rcases hp with h | h | h | h | h <;> omega
                  rw [decode_low rest 0 (by omega) hlt]
                  exact part_letter _ hp
              rw [hbehind]
              rfl
        unfold tokOf
        rw [if_neg hw', hnum, if_pos hx0, if_pos hfault]
      · rw [if_neg hf] at ht'
        simp only [Prod.mk.injEq] at ht'
        exact absurd ht'.2.2 hf
    · have ht' := ht
      unfold tokOf at ht'
      rw [if_neg hw, if_neg hn] at ht'
      cases hm : markB (byteAt u 0) with
      | true =>
        rw [hm] at ht'
        simp only [if_true, Prod.mk.injEq] at ht'
        obtain ⟨rfl, h1, _⟩ := ht'
        have hn' : ¬ 0 < (numOf (x ++ rest)).1 := by
          rw [numOf_pos _ (by omega), hb 0 hx0, ← numOf_pos u h0]
          exact hn
        unfold tokOf
        rw [if_neg hw', if_neg hn', hb 0 hx0, hm, ← h1]
        rfl
      | false =>
        rw [hm] at ht'
        simp at ht'
end Go.Proofs.YtaffgdgdojdoiaaGreatDoor

/- Layer 1 (scan), plain: tokens with one blank behind each, in one line: each is read, at its column. -/
namespace Go.Proofs.YtaffgdgdojdoiaaGreatDoor
open Go.RowKit Go.Lib

/-- A kind, and a text. -/
abbrev Item := Nat × ByteArray
def blank1 : ByteArray := ⟨#[32]⟩
def textI : List Item → ByteArray
  | [] => ⟨#[]⟩
  | t :: l => t.2 ++ (blank1 ++ textI l)
def toksI (c : Nat) : List Item → List Tok
  | [] => [endTok (1, c)]
  | t :: l => ⟨t.1, t.2, (1, c)⟩ :: toksI (c + t.2.size + 1) l
/-- A token of letters, digits, marks alone, as it stands by itself. -/
structure LowItem (t : Item) : Prop where
  ok : TokOK t.1 t.2
  low : ∀ j, j < t.2.size → byteAt t.2 j < 128 ∧ byteAt t.2 j ≠ 10

theorem nextP_col (c : Nat) (r : Nat) (h : r ≠ 10) : nextP (1, (c : Int)) (r : Int) = (1, ((c + 1 : Nat) : Int)) := by
  unfold nextP
  rw [if_neg (by omega)]
  simp
theorem broken_low (s : ByteArray) (r : Nat) (h : r < 128) : brokenB s (r : Int) = false := by
  unfold brokenB
  rw [show ((r : Int) == 65533) = false by simp; omega]
  rfl
/-- What stands inside a token is passed. -/
theorem scan_skip (s : ByteArray) (behind : Nat) (acc : List Tok) : ∀ (n f pos c : Nat), behind = pos + n → (∀ j, j < n → pos + j < s.size ∧ byteAt s (pos + j) < 128 ∧ byteAt s (pos + j) ≠ 10) →
    scanGo s (f + n) pos (1, (c : Int)) false behind acc = scanGo s f (pos + n) (1, ((c + n : Nat) : Int)) false behind acc
  | 0, f, pos, c, _, _ => by simp
  | n + 1, f, pos, c, hb, hj => by
    obtain ⟨h1, h2, h3⟩ := hj 0 (by omega)
    rw [Nat.add_zero] at h1 h2 h3
    have hd := decode_low s pos h1 h2
    rw [show f + (n + 1) = (f + n) + 1 by omega, scanGo_in s (f + n) pos (1, (c : Int)) false behind acc h1 (by rw [hd]; exact broken_low _ _ h2) (by omega), hd, nextP_col c _ h3]
    rw [scan_skip s behind acc n f (pos + 1) (c + 1) (by omega) (fun j hj' => by
      have := hj (j + 1) (by omega)
      rw [show pos + (j + 1) = pos + 1 + j by omega] at this
      exact this)]
    congr 1 <;> first | omega | (congr 2; omega) | skip
theorem scan_items : ∀ (l : List Item) (pre : ByteArray) (f c behind : Nat) (acc : List Tok), (∀ t ∈ l, LowItem t) → behind ≤ pre.size → (textI l).size ≤ f →
    scanGo (pre ++ textI l) f pre.size (1, (c : Int)) false behind acc = (acc ++ toksI c l, 0, (0, 0))
  | [], pre, f, c, behind, acc, _, _, _ => by
    have he : pre ++ textI [] = pre := by ext1; simp [textI]
    rw [he, scanGo_end _ _ _ _ _ _ _ (by omega)]
    rfl
  | t :: l, pre, f, c, behind, acc, hl, hb, hf => by
    obtain ⟨hok, hlow⟩ := hl t List.mem_cons_self
    have hx0 := tok_pos hok
    have hsz : (textI (t :: l)).size = t.2.size + (1 + (textI l).size) := by simp only [textI, size_app]; rfl
    have hs : (pre ++ textI (t :: l)).size = pre.size + (t.2.size + (1 + (textI l).size)) := by rw [size_app, hsz]
    have hbyte : ∀ j, j < t.2.size → byteAt (pre ++ textI (t :: l)) (pre.size + j) = byteAt t.2 j := fun j hj => by
      rw [byte_right _ _ _ (by omega)]
      exact byte_left _ _ _ hj
    have hbl : byteAt (pre ++ textI (t :: l)) (pre.size + t.2.size) = 32 := by
      rw [byte_right _ _ _ (by omega)]
      have h1 := byte_right t.2 (blank1 ++ textI l) 0 (by rw [size_app]; simp [blank1]; exact Nat.succ_le_of_lt (by show 0 < 1 + _; omega))
      rw [Nat.add_zero] at h1
      show byteAt (t.2 ++ (blank1 ++ textI l)) t.2.size = 32
      rw [h1, byte_left blank1 (textI l) 0 (by decide)]
      rfl
    have hdrop := app_drop pre (textI (t :: l))
    have hagain := tok_again hok (blank1 ++ textI l) (fun _ => .inl (by rw [byte_left blank1 (textI l) 0 (by decide)]; rfl))
    have hp : pre.size < (pre ++ textI (t :: l)).size := by omega
    obtain ⟨h0, h0n⟩ := hlow 0 hx0
    have hd := decode_low _ pre.size hp (by have := hbyte 0 hx0; rw [Nat.add_zero] at this; rw [this]; exact h0)
    have hb0 : byteAt (pre ++ textI (t :: l)) pre.size = byteAt t.2 0 := by have := hbyte 0 hx0; rwa [Nat.add_zero] at this
    rw [hb0] at hd
    have hd2 : Utf8.decode (t.2 ++ (blank1 ++ textI l)) 0 = (byteAt t.2 0, 1) := by
      have h3 := byte_left t.2 (blank1 ++ textI l) 0 hx0
      rw [decode_low _ 0 (by rw [size_app]; omega) (by rw [h3]; exact h0), h3]
    obtain ⟨g1, -, g2, g3⟩ := hagain
    rw [hd2] at g2 g3
    have hwhole : (pre ++ textI (t :: l)).extract pre.size (pre ++ textI (t :: l)).size = t.2 ++ (blank1 ++ textI l) := hdrop
    obtain ⟨f', rfl⟩ : ∃ f', f = f' + 1 + (t.2.size - 1) + 1 := ⟨f - t.2.size - 1, by omega⟩
    rw [scanGo_tok _ _ _ _ _ _ hp (by rw [hd]; exact broken_low _ _ h0) (by omega) (by rw [hd]; exact g3) (by rw [hd]; exact g2) (by rw [hwhole, g1]), hwhole, g1, hd, nextP_col c _ h0n]
    simp only []
    have hext : (pre ++ textI (t :: l)).extract pre.size (pre.size + t.2.size) = t.2 := by
      ext1
      rw [ByteArray.data_extract]
      simp only [textI, ByteArray.data_append]
      rw [Array.extract_append, Array.extract_append]
      have hz : pre.data.size = pre.size := rfl
      have hz2 : t.2.data.size = t.2.size := rfl
      simp only [hz, hz2, Nat.add_sub_cancel_left, Nat.sub_self]
      have h1 : pre.data.extract pre.size (pre.size + t.2.size) = #[] := by rw [Array.extract_eq_empty_iff]; omega
      have h2 : t.2.data.extract 0 t.2.size = t.2.data := by rw [← hz2]; exact Array.extract_size
      simp [h1, h2]
    rw [hext, scan_skip (pre ++ textI (t :: l)) (pre.size + t.2.size) _ (t.2.size - 1) (f' + 1) (pre.size + 1) (c + 1) (by omega) (fun j hj => by
      have h4 := hlow (j + 1) (by omega)
      have h5 := hbyte (j + 1) (by omega)
      rw [show pre.size + (j + 1) = pre.size + 1 + j by omega] at h5
      rw [h5]
      exact ⟨by omega, h4⟩)]
    have e1 : pre.size + 1 + (t.2.size - 1) = pre.size + t.2.size := by omega
    have e2 : c + 1 + (t.2.size - 1) = c + t.2.size := by omega
    rw [e1, e2]
    have hp2 : pre.size + t.2.size < (pre ++ textI (t :: l)).size := by omega
    have hd3 := decode_low _ _ hp2 (by rw [hbl]; omega)
    rw [hbl] at hd3
    rw [scanGo_blank _ _ _ _ _ _ hp2 (by rw [hd3]; exact broken_low _ _ (by omega)) (by omega) (by rw [hd3]; decide) (by rw [hd3]; rfl), hd3, nextP_col _ 32 (by omega)]
    have e3 : pre ++ textI (t :: l) = (pre ++ t.2 ++ blank1) ++ textI l := by simp only [textI, ByteArray.append_assoc]
    have e4 : (pre ++ t.2 ++ blank1).size = pre.size + t.2.size + 1 := by simp only [size_app]; rfl
    rw [e3, ← e4, scan_items l (pre ++ t.2 ++ blank1) f' _ _ _ (fun x hx => hl x (List.mem_cons_of_mem _ hx)) (by omega) (by omega)]
    simp [toksI]
end Go.Proofs.YtaffgdgdojdoiaaGreatDoor

/- Layer 2, plain: the texts of ParseLimits, and what is told of them. -/
namespace Go.Proofs.YtaffgdgdojdoiaaGreatDoor
open Go.RowKit Go.Lib

def lowB (t : Item) : Bool := decide (0 < t.2.size) && (decide (tokOf t.2 = (t.1, t.2.size, 0)) && (decide (t.2 = t.2.extract 0 t.2.size) && (decide (blankB (Utf8.decode t.2 0).1 = false) && (decide ((Utf8.decode t.2 0).1 ≠ 35) &&
  (List.range t.2.size).all fun j => decide (byteAt t.2 j < 128 ∧ byteAt t.2 j ≠ 10)))))
theorem lowB_ok {t : Item} (h : lowB t = true) : LowItem t := by
  simp only [lowB, Bool.and_eq_true, decide_eq_true_eq, List.all_eq_true, List.mem_range] at h
  obtain ⟨h1, h2, h3, h4, h5, h6⟩ := h
  exact ⟨⟨t.2, h1, h2, h3, h4, h5⟩, h6⟩

theorem scan_simple (l : List Item) (h : l.all lowB = true) (hs : (textI l).size ≤ 65536) : scanOf (textI l) = (toksI 1 l, 0, (0, 0)) := by
  have he : (⟨#[]⟩ : ByteArray) ++ textI l = textI l := by ext1; simp
  have := scan_items l ⟨#[]⟩ (textI l).size 1 0 [] (fun t ht => lowB_ok (List.all_eq_true.1 h t ht)) (Nat.zero_le _) (Nat.le_refl _)
  rw [he] at this
  unfold scanOf
  rw [if_neg (by omega)]
  exact this

def faultR {α : Type} : Except Flt (α × Nat) → Flt
  | .error f => f
  | .ok _ => (0, 0, 0)
theorem read_simple {α : Type} (p : List Tok → Par (List α)) (l : List Item) (h : l.all lowB = true) (hs : (textI l).size ≤ 65536) : (readAll p (textI l)).2 = faultR (p (toksI 1 l) 0) := by
  unfold readAll
  rw [scan_simple l h hs, if_pos rfl]
  cases p (toksI 1 l) 0 with
  | error f => rfl
  | ok r => rfl

theorem textI_app : ∀ a b : List Item, textI (a ++ b) = textI a ++ textI b
  | [], b => by ext1; simp [textI]
  | t :: a, b => by
    show t.2 ++ (blank1 ++ textI (a ++ b)) = t.2 ++ (blank1 ++ textI a) ++ textI b
    rw [textI_app a b, ByteArray.append_assoc, ByteArray.append_assoc]

def iTrap : Item := (1, ⟨#[116, 114, 97, 112]⟩)
def iT : Item := (1, ⟨#[116]⟩)
def iOpen : Item := (3, ⟨#[123]⟩)
def iShut : Item := (3, ⟨#[125]⟩)
def iPlay : Item := (1, ⟨#[112, 108, 97, 121]⟩)
def iColon : Item := (3, ⟨#[58]⟩)
def iNeeds : Item := (1, ⟨#[110, 101, 101, 100, 115]⟩)
def iNum : Item := (2, ⟨#[49]⟩)
def iNegate : Item := (1, ⟨#[110, 101, 103, 97, 116, 101]⟩)
def iSemi : Item := (3, ⟨#[59]⟩)
def iPar : Item := (3, ⟨#[40]⟩)
def iNot : Item := (1, ⟨#[110, 111, 116]⟩)
def iRap : Item := (3, ⟨#[41]⟩)
def aheadI : Nat → List Item
  | 1 => [iTrap, iT, iOpen]
  | 2 => [iTrap, iT, iOpen, iPlay]
  | 3 => [iTrap, iT, iOpen, iPlay, iColon]
  | _ => []
def oneI : Nat → List Item
  | 0 => [iTrap, iT, iOpen, iShut]
  | 1 => [iPlay, iColon]
  | 2 => [iNeeds, iNum]
  | 3 => [iNegate, iSemi]
  | 4 => [iPar, iNot]
  | _ => [iNum]
def behindI : Nat → List Item
  | 1 => [iShut]
  | 2 => [iColon, iShut]
  | 3 => [iShut]
  | 4 => [iNum]
  | _ => []
def mostI : Nat → Nat
  | 0 => 64
  | 1 => 4
  | 4 => 5
  | _ => 6
def reps (l : List Item) : Nat → List Item
  | 0 => []
  | n + 1 => reps l n ++ l
def headI (k n : Nat) : List Item := aheadI k ++ reps (oneI k) n
def midI (k n : Nat) : List Item := headI k n ++ behindI k
def limI (k n : Nat) : List Item := midI k n ++ reps [iRap] (if k = 4 then n else 0)
theorem head_zero (k : Nat) : textI (headI k 0) = textI (aheadI k) := by simp [headI, reps]
theorem head_more (k n : Nat) : textI (headI k (n + 1)) = textI (headI k n) ++ textI (oneI k) := by
  rw [← textI_app]; simp [headI, reps]
theorem mid_text (k n : Nat) : textI (midI k n) = textI (headI k n) ++ textI (behindI k) := textI_app _ _
theorem lim_more (l : List Item) (n : Nat) : textI (l ++ reps [iRap] (n + 1)) = textI (l ++ reps [iRap] n) ++ textI [iRap] := by
  rw [← textI_app]; simp [reps]
theorem lim_zero (l : List Item) : textI (l ++ reps [iRap] 0) = textI l := by simp [reps]

def wantF (k n : Nat) : Flt := if n ≤ mostI k then (0, 0, 0) else (3, 1, (((textI (aheadI k)).size + mostI k * (textI (oneI k)).size + 1 : Nat) : Int))
def toldF (k : Nat) (l : List Item) : Flt := if 3 < k then faultR (pExprs (toksI 1 l) 0) else faultR (pPool (toksI 1 l) 0)
def goodL (k n : Nat) : Bool := (limI k n).all lowB && (decide ((textI (limI k n)).size ≤ 3000) && decide (toldF k (limI k n) = wantF k n))
set_option maxRecDepth 100000 in
theorem good_few : ((List.range 5).all fun k => (List.range (mostI (k + 1) + 4)).all fun n => goodL (k + 1) n) = true := by decide +kernel
/-- Four of the row of cards at once. -/
def four (b : Nat) : Bool := (List.range' (4 * b) 4).all (goodL 0)
set_option maxRecDepth 100000 in
theorem four_0 : four 0 = true := by decide +kernel
set_option maxRecDepth 100000 in
theorem four_1 : four 1 = true := by decide +kernel
set_option maxRecDepth 100000 in
theorem four_2 : four 2 = true := by decide +kernel
set_option maxRecDepth 100000 in
theorem four_3 : four 3 = true := by decide +kernel
set_option maxRecDepth 100000 in
theorem four_4 : four 4 = true := by decide +kernel
set_option maxRecDepth 100000 in
theorem four_5 : four 5 = true := by decide +kernel
set_option maxRecDepth 100000 in
theorem four_6 : four 6 = true := by decide +kernel
set_option maxRecDepth 100000 in
theorem four_7 : four 7 = true := by decide +kernel
set_option maxRecDepth 100000 in
theorem four_8 : four 8 = true := by decide +kernel
set_option maxRecDepth 100000 in
theorem four_9 : four 9 = true := by decide +kernel
set_option maxRecDepth 100000 in
theorem four_10 : four 10 = true := by decide +kernel
set_option maxRecDepth 100000 in
theorem four_11 : four 11 = true := by decide +kernel
set_option maxRecDepth 100000 in
theorem four_12 : four 12 = true := by decide +kernel
set_option maxRecDepth 100000 in
theorem four_13 : four 13 = true := by decide +kernel
set_option maxRecDepth 100000 in
theorem four_14 : four 14 = true := by decide +kernel
set_option maxRecDepth 100000 in
theorem four_15 : four 15 = true := by decide +kernel
set_option maxRecDepth 100000 in
theorem four_16 : four 16 = true := by decide +kernel
theorem four_all : ∀ b, b < 17 → four b = true
  | 0, _ => four_0
  | 1, _ => four_1
  | 2, _ => four_2
  | 3, _ => four_3
  | 4, _ => four_4
  | 5, _ => four_5
  | 6, _ => four_6
  | 7, _ => four_7
  | 8, _ => four_8
  | 9, _ => four_9
  | 10, _ => four_10
  | 11, _ => four_11
  | 12, _ => four_12
  | 13, _ => four_13
  | 14, _ => four_14
  | 15, _ => four_15
  | 16, _ => four_16
  | b + 17, h => absurd h (by omega)
theorem good_at {k n : Nat} (hk : k < 6) (hn : n < mostI k + 4) : goodL k n = true := by
  match k, hk, hn with
  | 0, _, hn =>
    have hn' : n < 68 := hn
    have h := four_all (n / 4) (by omega)
    simp only [four, List.all_eq_true, List.mem_range'] at h
    exact h n ⟨n % 4, by omega, by omega⟩
  | k + 1, hk, hn =>
    have h := good_few
    simp only [List.all_eq_true, List.mem_range] at h
    exact h k (by omega) n hn
/-- What the reader tells of such a text. -/
theorem lim_told {k n : Nat} (hk : k < 6) (hn : n < mostI k + 4) : (textI (limI k n)).size ≤ 3000 ∧ (if 3 < k then (exprsOf (textI (limI k n))).2 else (poolOf (textI (limI k n))).2) = wantF k n := by
  have h := good_at hk hn
  simp only [goodL, Bool.and_eq_true, decide_eq_true_eq] at h
  obtain ⟨h1, h2, h3⟩ := h
  refine ⟨h2, ?_⟩
  rw [← h3]
  unfold toldF exprsOf poolOf
  rw [read_simple pExprs _ h1 (by omega), read_simple pPool _ h1 (by omega)]
end Go.Proofs.YtaffgdgdojdoiaaGreatDoor
