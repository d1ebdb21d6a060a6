/- Layer 1 (scan), plain: rune by rune, and token by token, come to the same: the spots, the runs of runes, the whole. -/
import Derived.Test.YtanbkgifjlobgaaDoorEqual
namespace Go.Proofs.YtanbkgifjlobgaaDoor
open Go.RowKit Go.Lib

/-- From a place to another one, rune by rune, none of them broken. -/
def Runs (s : ByteArray) : Nat → Nat → Nat → Prop
  | 0, p, q => p = q
  | k + 1, p, q => p = q ∨ (p < s.size ∧ ¬ badAt s p ∧ Runs s k (p + (Utf8.decode s p).2) q)

theorem Runs.step {s : ByteArray} {k p q : Nat} (hp : p < s.size) (hb : ¬ badAt s p) (h : Runs s k (p + (Utf8.decode s p).2) q) : Runs s (k + 1) p q := .inr ⟨hp, hb, h⟩
theorem Runs.first {s : ByteArray} {k p q : Nat} (h : Runs s k p q) (hlt : p < q) : p < s.size ∧ ¬ badAt s p ∧ ∃ k', Runs s k' (p + (Utf8.decode s p).2) q := by
  cases k with
  | zero => exact absurd h (by simp [Runs]; omega)
  | succ k =>
    rcases h with h | ⟨h1, h2, h3⟩
    · omega
    · exact ⟨h1, h2, k, h3⟩
theorem Runs.le {s : ByteArray} : ∀ {k p q : Nat}, Runs s k p q → p ≤ q
  | 0, p, q, h => Nat.le_of_eq h
  | k + 1, p, q, h => by
    rcases h with h | ⟨h1, h2, h3⟩
    · omega
    · have := h3.le; omega

/-- The spot at hand is that of the place. -/
def SpotAt (s : ByteArray) (p : Nat) (here : Int × Int) : Prop := ∀ (f : Nat) (a : Int), s.size - p ≤ f → (p : Int) ≤ a → whereGo s f p here a = whereOf s a

theorem whereGo_fuel (s : ByteArray) : ∀ (f g p : Nat) (here : Int × Int) (a : Int), s.size - p ≤ f → s.size - p ≤ g → whereGo s f p here a = whereGo s g p here a
  | 0, g, p, here, a, h1, h2 => by rw [whereGo_end s 0 p here a (by omega), whereGo_end s g p here a (by omega)]
  | f + 1, g, p, here, a, h1, h2 => by
    by_cases hp : p < s.size
    · obtain ⟨g', rfl⟩ : ∃ g', g = g' + 1 := ⟨g - 1, by omega⟩
      by_cases hc : a < (p : Int) + (Utf8.decode s p).2
      · rw [whereGo_here s (f + 1) p here a hc, whereGo_here s (g' + 1) p here a hc]
      · have := width_pos s p hp
        rw [whereGo_more s f p here a hp hc, whereGo_more s g' p here a hp hc]
        exact whereGo_fuel s f g' _ _ a (by omega) (by omega)
    · rw [whereGo_end s (f + 1) p here a hp, whereGo_end s g p here a hp]
theorem SpotAt.start (s : ByteArray) : SpotAt s 0 (1, 1) := fun f a h _ => whereGo_fuel s f s.size 0 (1, 1) a h (by omega)
theorem SpotAt.next {s : ByteArray} {p : Nat} {here : Int × Int} (h : SpotAt s p here) (hp : p < s.size) : SpotAt s (p + (Utf8.decode s p).2) (nextP here (Utf8.decode s p).1) := by
  intro f a hf ha
  have hw := width_pos s p hp
  have h1 := h (f + 1 + (Utf8.decode s p).2) a (by omega) (by omega)
  rw [show f + 1 + (Utf8.decode s p).2 = (f + (Utf8.decode s p).2) + 1 from by omega, whereGo_more s _ p here a hp (by omega)] at h1
  rw [← h1]
  exact whereGo_fuel s f _ _ _ a hf (by omega)
theorem SpotAt.at_ {s : ByteArray} {p : Nat} {here : Int × Int} (h : SpotAt s p here) : whereOf s p = here := by
  rw [← h s.size p (by omega) (by omega)]
  by_cases hp : p < s.size
  · have := width_pos s p hp
    exact whereGo_here s _ p here _ (by omega)
  · exact whereGo_end s _ p here _ hp

theorem broken_false {s : ByteArray} {p : Nat} (hp : p < s.size) (hb : ¬ badAt s p) : brokenB (s.extract p s.size) (Utf8.decode s p).1 = false := by
  cases h : brokenB (s.extract p s.size) (Utf8.decode s p).1 with
  | false => rfl
  | true => exact absurd ((brokenB_iff s p hp).1 h) hb
theorem broken_true {s : ByteArray} {p : Nat} (hp : p < s.size) (hb : badAt s p) : brokenB (s.extract p s.size) (Utf8.decode s p).1 = true := (brokenB_iff s p hp).2 hb

/-- Inside a token nothing happens. -/
theorem scan_runs (s : ByteArray) (acc : List Tok) (q : Nat) : ∀ (k p f : Nat) (here : Int × Int) (rm : Bool), Runs s k p q → s.size - p ≤ f → SpotAt s p here →
    ∃ f' here', scanGo s f p here rm q acc = scanGo s f' q here' rm q acc ∧ s.size - q ≤ f' ∧ SpotAt s q here'
  | 0, p, f, here, rm, h, hf, hsp => by
    obtain rfl : p = q := h
    exact ⟨f, here, rfl, hf, hsp⟩
  | k + 1, p, f, here, rm, h, hf, hsp => by
    rcases h with rfl | ⟨hp, hb, h⟩
    · exact ⟨f, here, rfl, hf, hsp⟩
    · have hw := width_pos s p hp
      have hle := h.le
      obtain ⟨f0, rfl⟩ : ∃ f0, f = f0 + 1 := ⟨f - 1, by omega⟩
      rw [scanGo_in s f0 p here rm q acc hp (broken_false hp hb) (by omega)]
      exact scan_runs s acc q k _ f0 _ rm h (by omega) (hsp.next hp)

/-- A remark, rune by rune, from a place in it on. -/
theorem scan_remark (s : ByteArray) (acc : List Tok) (b : Nat) : ∀ (g p f : Nat) (here : Int × Int), b ≤ p → p ≤ s.size → s.size - p ≤ g → s.size - p ≤ f → SpotAt s p here →
    (0 ≤ (remGo s g p).2 → scanGo s f p here true b acc = ([], 4, whereOf s (remGo s g p).2)) ∧
    (¬ 0 ≤ (remGo s g p).2 → ∃ f' here', scanGo s f p here true b acc = scanGo s f' (remGo s g p).1 here' true b acc ∧ s.size - (remGo s g p).1 ≤ f' ∧ SpotAt s (remGo s g p).1 here' ∧ p ≤ (remGo s g p).1 ∧ (remGo s g p).1 ≤ s.size ∧
      ((remGo s g p).1 < s.size → byteAt s (remGo s g p).1 = 10))
  | 0, p, f, here, hbp, hps, hg, hf, hsp => by
    refine ⟨fun h => absurd h (by simp [remGo]), fun _ => ⟨f, here, rfl, hf, hsp, Nat.le_refl _, hps, fun h => ?_⟩⟩
    simp [remGo] at h
    omega
  | g + 1, p, f, here, hbp, hps, hg, hf, hsp => by
    by_cases hc : p < s.size ∧ byteAt s p ≠ 10
    · have hp := hc.1
      have hw := width_pos s p hp
      have hwf := decode_fits s p hp
      obtain ⟨f0, rfl⟩ : ∃ f0, f = f0 + 1 := ⟨f - 1, by omega⟩
      by_cases hb : badAt s p
      · rw [remGo_bad s g p hc hb]
        refine ⟨fun _ => ?_, fun h => absurd (Int.natCast_nonneg p) h⟩
        rw [scanGo_broken s f0 p here true b acc hp (broken_true hp hb), hsp.at_]
      · rw [remGo_more s g p hc hb, scanGo_remark s f0 p here b acc hp (broken_false hp hb) (by omega)]
        have h10 : (((Utf8.decode s p).1 : Int) != 10) = true := by
          rw [bne_iff_ne]
          intro e
          have hd := decode_byte s p hp (by omega)
          rw [hd] at e
          exact hc.2 (by simp at e; omega)
        rw [h10]
        have ih := scan_remark s acc b g (p + (Utf8.decode s p).2) f0 _ (by omega) hwf (by omega) (by omega) (hsp.next hp)
        refine ⟨ih.1, fun h => ?_⟩
        obtain ⟨f', here', a1, a2, a3, a4, a5, a6⟩ := ih.2 h
        exact ⟨f', here', a1, a2, a3, by omega, a5, a6⟩
    · rw [remGo_end s (g + 1) p hc]
      refine ⟨fun h => absurd h (by simp), fun _ => ⟨f, here, rfl, hf, hsp, Nat.le_refl _, hps, fun h => ?_⟩⟩
      simp only [not_and] at hc
      have := hc h
      simpa using this
end Go.Proofs.YtanbkgifjlobgaaDoor
