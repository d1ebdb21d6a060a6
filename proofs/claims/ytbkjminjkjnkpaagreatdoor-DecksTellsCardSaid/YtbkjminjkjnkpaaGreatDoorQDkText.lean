import Derived.Test.YtbkjminjkjnkpaaGreatDoorQDkMath
import Derived.Test.YtbkjminjkjnkpaaGreatDoorQDkAlike
/- Layer 5 (decks), plain: the text of decks. -/
namespace Go.Proofs.YtbkjminjkjnkpaaGreatDoor
open Go.RowKit Go.Lib

def nameI (ns : List ByteArray) (x : Int) : ByteArray := ns.getD x.toNat ⟨#[]⟩
def bodyGo (ns : List ByteArray) : Nat → List Int → List (KT × Nat)
  | 0, _ => []
  | _ + 1, [] => []
  | f + 1, x :: l => ((2, decB (alikeN (x :: l))), 0) :: ((1, nameI ns x), 0) :: bodyGo ns f ((x :: l).drop (alikeN (x :: l)))
def bodyK (ns : List ByteArray) (d : List Int) : List (KT × Nat) := bodyGo ns d.length d
theorem bodyGo_fuel (ns : List ByteArray) : ∀ (f g : Nat) (d : List Int), d.length ≤ f → d.length ≤ g → bodyGo ns f d = bodyGo ns g d
  | 0, 0, _, _, _ => rfl
  | 0, g + 1, d, h, _ => by
    have : d = [] := List.eq_nil_of_length_eq_zero (by omega)
    subst this; rfl
  | f + 1, 0, d, _, h => by
    have : d = [] := List.eq_nil_of_length_eq_zero (by omega)
    subst this; rfl
  | f + 1, g + 1, [], _, _ => rfl
  | f + 1, g + 1, x :: l, h1, h2 => by
    have hp := alike_pos (xs := x :: l) (by simp)
    have hl : ((x :: l).drop (alikeN (x :: l))).length ≤ l.length := by rw [List.length_drop]; simp only [List.length_cons]; omega
    simp only [List.length_cons] at h1 h2
    show _ :: _ :: bodyGo ns f _ = _ :: _ :: bodyGo ns g _
    rw [bodyGo_fuel ns f g _ (by omega) (by omega)]
theorem bodyK_nil (ns : List ByteArray) : bodyK ns [] = [] := rfl
theorem bodyK_cons (ns : List ByteArray) (x : Int) (l : List Int) : bodyK ns (x :: l) = ((2, decB (alikeN (x :: l))), 0) :: ((1, nameI ns x), 0) :: bodyK ns ((x :: l).drop (alikeN (x :: l))) := by
  have hp := alike_pos (xs := x :: l) (by simp)
  have hl : ((x :: l).drop (alikeN (x :: l))).length ≤ l.length := by rw [List.length_drop]; simp only [List.length_cons]; omega
  show _ :: _ :: bodyGo ns l.length _ = _ :: _ :: bodyGo ns _ _
  rw [bodyGo_fuel ns l.length _ _ hl (Nat.le_refl _)]
def deckK (ns : List ByteArray) (d : List Int) : List (KT × Nat) := [((1, ⟨#[100, 101, 99, 107]⟩), 0), ((3, ⟨#[123]⟩), 0)] ++ bodyK ns d ++ [((3, ⟨#[125]⟩), 1)]
/-- The bytes of a text of tokens. -/
def joinB (l : List (KT × Nat)) : List UInt8 := (joinK l).data.toList
theorem joinK_app (a b : List (KT × Nat)) : joinK (a ++ b) = joinK a ++ joinK b := by
  induction a with
  | nil => show joinK b = (⟨#[]⟩ : ByteArray) ++ joinK b; exact ByteArray.empty_append.symm
  | cons t l ih =>
    show t.1.2 ++ (sepB t.2 ++ joinK (l ++ b)) = (t.1.2 ++ (sepB t.2 ++ joinK l)) ++ joinK b
    rw [ih, app_assoc, app_assoc]
theorem bytes_app (a b : ByteArray) : (a ++ b).data.toList = a.data.toList ++ b.data.toList := by
  rw [ByteArray.data_append]; simp
theorem joinB_app (a b : List (KT × Nat)) : joinB (a ++ b) = joinB a ++ joinB b := by
  unfold joinB; rw [joinK_app, bytes_app]
theorem joinB_head : joinB [((1, ⟨#[100, 101, 99, 107]⟩), 0), ((3, ⟨#[123]⟩), 0)] = [100, 101, 99, 107, 32, 123, 32] := by kernel_rfl
theorem joinB_tail : joinB [((3, ⟨#[125]⟩), 1)] = [125, 10] := by kernel_rfl
theorem joinB_two (a b : KT) : joinB [(a, 0), (b, 0)] = a.2.data.toList ++ ([32] ++ (b.2.data.toList ++ [32])) := by
  unfold joinB
  show (a.2 ++ (sepB 0 ++ (b.2 ++ (sepB 0 ++ (⟨#[]⟩ : ByteArray))))).data.toList = _
  rw [bytes_app, bytes_app, bytes_app, bytes_app]
  rfl
/-- May a deck be told, as far as its names go? -/
def tellB (ns : List ByteArray) (d : List Int) : Bool := decide (d.length ≤ 40) && d.all fun x => decide (0 ≤ x) && decide (x < ns.length) && wordB (nameI ns x)
theorem tell_each {ns : List ByteArray} {d : List Int} (h : tellB ns d = true) : d.length ≤ 40 ∧ ∀ x ∈ d, 0 ≤ x ∧ x < ns.length ∧ wordB (nameI ns x) = true := by
  unfold tellB at h
  simp only [Bool.and_eq_true, decide_eq_true_eq, List.all_eq_true] at h
  exact ⟨h.1, fun x hx => by have := h.2 x hx; exact ⟨this.1.1, this.1.2, this.2⟩⟩
theorem tell_of {ns : List ByteArray} {d : List Int} (h1 : d.length ≤ 40) (h2 : ∀ x ∈ d, 0 ≤ x ∧ x < ns.length ∧ wordB (nameI ns x) = true) : tellB ns d = true := by
  unfold tellB
  simp only [Bool.and_eq_true, decide_eq_true_eq, List.all_eq_true]
  exact ⟨h1, fun x hx => ⟨⟨(h2 x hx).1, (h2 x hx).2.1⟩, (h2 x hx).2.2⟩⟩
theorem tell_no {ns : List ByteArray} {d : List Int} {x : Int} (hx : x ∈ d) (h : x < 0 ∨ (ns.length : Int) ≤ x ∨ wordB (nameI ns x) = false) : tellB ns d = false := by
  cases ht : tellB ns d with
  | false => rfl
  | true =>
    exfalso
    have := (tell_each ht).2 x hx
    rcases h with h | h | h
    · omega
    · omega
    · rw [this.2.2] at h; cases h
/-- A written deck's two decks are those that a text tells, or none. -/
def writeOf (ns : List ByteArray) (a b : List Int) : Option ByteArray :=
  if tellB ns a = true ∧ tellB ns b = true then
    (if (readOf ns (joinK (deckK ns a ++ deckK ns b))).1.1 = 0 ∧ (readOf ns (joinK (deckK ns a ++ deckK ns b))).2.1.map (fun (n : Nat) => (n : Int)) = a ∧ (readOf ns (joinK (deckK ns a ++ deckK ns b))).2.2.map (fun (n : Nat) => (n : Int)) = b
     then some (joinK (deckK ns a ++ deckK ns b)) else none)
  else none
end Go.Proofs.YtbkjminjkjnkpaaGreatDoor
