import Derived.Test.YtbkjminjkjnkpaaGreatDoorQDeepRead
import Derived.Test.YtbkjminjkjnkpaaGreatDoorQDkPlaces
import Derived.Test.YtbkjminjkjnkpaaGreatDoorQDkCalls
/- Layer 5 (decks): cards of any depth as kinds; the two ways of a fault's comparison. -/
namespace Go.Proofs.YtbkjminjkjnkpaaGreatDoor
open Go.RowKit Go.Lib

/-- Cards that lie somewhere are kinds there: the names are theirs. -/
theorem kinds_in {W : World} {B f D : Nat} {p : Option Addr} {n c : Nat} {xs : List Cd} (h : RowIn W 6 B (CdIn f D) (.slice p n c) xs) :
    ∃ ks : List KC, ks.length = xs.length ∧ ks.map (·.name) = xs.map (·.name) ∧ KindsAt W p ks ∧ ∀ k ∈ ks, k.name.size ≤ maxLen := by
  obtain ⟨q, c', hv, hl, -, hx⟩ := h
  cases hv
  have hall : ∀ i, i < xs.length → ∃ k : KC, ∃ x, xs[i]? = some x ∧ k.name = x.name ∧ k.name.size ≤ maxLen ∧ ∃ g o, p = some ⟨g, o, none⟩ ∧ ∀ (j : Nat) (u : Value), k.row[j]? = some u → W.cell? ⟨g, o + i * 6 + j, none⟩ = some u := by
    intro i hi
    have h1 : xs[i]? = some (xs[i]'hi) := List.getElem?_eq_getElem _
    obtain ⟨g, o, hp, cs, hs, ⟨ve, hc, hnm, he⟩, hu⟩ := hx i _ h1
    obtain ⟨ea, ec, rfl, -⟩ := he
    refine ⟨⟨(xs[i]'hi).name, (xs[i]'hi).kind, (xs[i]'hi).level, (xs[i]'hi).attack, (xs[i]'hi).guard, ea, (xs[i]'hi).effects.length, ec⟩, _, h1, rfl, hnm, g, o, hp, fun j u hj => hu j u ?_⟩
    rw [hc]
    have hj6 : j < 6 := by have := (Array.getElem?_eq_some_iff.1 hj).1; simpa [KC.row] using this
    match j, hj6, hj with
    | 0, _, hj => exact hj
    | 1, _, hj => exact hj
    | 2, _, hj => exact hj
    | 3, _, hj => exact hj
    | 4, _, hj => exact hj
    | 5, _, hj => exact hj
  obtain ⟨ks, hkl, hks⟩ := list_made xs.length hall
  refine ⟨ks, hkl, ?_, fun h0 => ?_, fun k hk => ?_⟩
  · apply List.ext_getElem (by simp [hkl])
    intro i h1 h2
    simp only [List.length_map] at h1 h2
    obtain ⟨x, hx1, hx2, -⟩ := hks i _ (List.getElem?_eq_getElem h1)
    rw [List.getElem?_eq_getElem h2] at hx1
    simp only [List.getElem_map]
    rw [hx2, Option.some.inj hx1]
  · obtain ⟨x, -, -, -, g, o, hp, -⟩ := hks 0 _ (List.getElem?_eq_getElem h0)
    refine ⟨g, o, hp, fun i k hk j u hu => ?_⟩
    obtain ⟨x, -, -, -, g', o', hp', hc⟩ := hks i k hk
    rw [hp] at hp'
    cases hp'
    exact hc j u hu
  · obtain ⟨i, hi⟩ := List.getElem?_of_mem hk
    obtain ⟨x, -, -, h, -⟩ := hks i k hi
    exact h
end Go.Proofs.YtbkjminjkjnkpaaGreatDoor
