import Derived.Test.YtbkjminjkjnkpaaGreatDoorQDkBackM
import Derived.Test.YtbkjminjkjnkpaaGreatDoorQDkAlike
/- The reference of layer 5 (joustref05), plain: when its Write tells of no text. -/
namespace Go.Proofs.YtbkjminjkjnkpaaGreatDoor
open Go.RowKit Go.Lib

theorem ans_no {ns : List ByteArray} {a b : List Int} (h : ∀ x, writeAns ns a b ≠ (x, 0)) : writeAns ns a b = (⟨#[]⟩, 2) := by
  unfold writeAns at h ⊢
  cases hw : writeOf ns a b with
  | none => rfl
  | some s => rw [hw] at h; exact absurd rfl (h s)
theorem alike_count (x : Int) (l : List Int) : (l.takeWhile (fun y => y == x)).length ≤ l.count x := by
  induction l with
  | nil => simp
  | cons y l ih =>
    by_cases e : y = x
    · subst e; simp; exact ih
    · simp [e]
theorem ints_count (k : Nat) : ∀ l : List Nat, True → (intsOf l).count (k : Int) = l.count k
  | [], _ => rfl
  | x :: l, _ => by
    show ((x : Int) :: intsOf l).count (k : Int) = _
    rw [List.count_cons, List.count_cons, ints_count k l trivial]
    congr 1
    by_cases e : x = k
    · subst e; simp
    · have e' : ¬ ((x : Int) = (k : Int)) := by omega
      simp [e, e']
theorem run_count {ra : List Nat} {k : Nat} (h : 3 < alikeN ((intsOf ra).drop k)) : ∃ j, 3 < ra.count j := by
  have hl : k < (intsOf ra).length := by
    rcases Nat.lt_or_ge k (intsOf ra).length with h1 | h1
    · exact h1
    · rw [List.drop_eq_nil_of_le h1] at h; simp [alikeN] at h
  rw [intsOf_len] at hl
  have hc : (intsOf ra).drop k = ((ra[k]'hl : Nat) : Int) :: (intsOf ra).drop (k + 1) := by
    rw [List.drop_eq_getElem_cons (by rw [intsOf_len]; exact hl)]
    congr 1
    simp [intsOf]
  refine ⟨ra[k]'hl, ?_⟩
  have h1 : alikeN ((intsOf ra).drop k) ≤ ((intsOf ra).drop k).count ((ra[k]'hl : Nat) : Int) := by
    rw [hc, List.count_cons_self]
    exact Nat.succ_le_succ (alike_count _ _)
  have h2 : ((intsOf ra).drop k).count ((ra[k]'hl : Nat) : Int) ≤ (intsOf ra).count ((ra[k]'hl : Nat) : Int) := (List.drop_sublist _ _).count_le _
  have h3 : (intsOf ra).count ((ra[k]'hl : Nat) : Int) = ra.count (ra[k]'hl) := by
    exact ints_count _ ra trivial
  omega
theorem run_no_a {ns : List ByteArray} {a b : List Int} {k : Nat} (h : 3 < alikeN (a.drop k)) : writeAns ns a b = (⟨#[]⟩, 2) := ans_no fun x hx => by
  obtain ⟨ra, rb, sp, hrd, e1, e2, -⟩ := write_back hx
  obtain ⟨f1, -, -⟩ := read_back ns x ra rb sp hrd
  rw [← e1] at h
  obtain ⟨j, hj⟩ := run_count h
  have := f1.count j
  omega
theorem run_no_b {ns : List ByteArray} {a b : List Int} {k : Nat} (h : 3 < alikeN (b.drop k)) : writeAns ns a b = (⟨#[]⟩, 2) := ans_no fun x hx => by
  obtain ⟨ra, rb, sp, hrd, e1, e2, -⟩ := write_back hx
  obtain ⟨-, f2, -⟩ := read_back ns x ra rb sp hrd
  rw [← e2] at h
  obtain ⟨j, hj⟩ := run_count h
  have := f2.count j
  omega
end Go.Proofs.YtbkjminjkjnkpaaGreatDoor
