import Derived.Test.YtbkjminjkjnkpaaGreatDoorShelf
import Derived.Test.YtbkjminjkjnkpaaGreatDoorQToksGood
import Derived.Lib.SmallJoins
/- strconv.Atoi at a numeral of few digits. -/
namespace Go.Proofs.YtbkjminjkjnkpaaGreatDoor
open Go.RowKit Go.Lib

theorem parse_digits : ∀ (l : List UInt8) (acc : Nat), (∀ b ∈ l, 48 ≤ b.toNat ∧ b.toNat ≤ 57) → l.foldl (fun v (b : UInt8) => 10 * v + (b.toNat - 48)) acc ≤ 99999 → acc ≤ l.foldl (fun v (b : UInt8) => 10 * v + (b.toNat - 48)) acc ∧ Lib.parseUint10 acc l = .ok (l.foldl (fun v (b : UInt8) => 10 * v + (b.toNat - 48)) acc)
  | [], acc, _, _ => ⟨Nat.le_refl _, rfl⟩
  | c :: r, acc, hd, hv => by
    have ih := parse_digits r (10 * acc + (c.toNat - 48)) (fun b hb => hd b (List.mem_cons_of_mem _ hb)) hv
    have hc := hd c List.mem_cons_self
    simp only [List.foldl_cons] at hv ⊢
    refine ⟨by omega, ?_⟩
    unfold Lib.parseUint10
    rw [if_pos hc, if_neg (by omega), if_neg (by omega), ← ih.2, Nat.mul_comm]
theorem atoi_digits (x : ByteArray) (hne : x ≠ ⟨#[]⟩) (hd : ∀ b ∈ x.data.toList, 48 ≤ b.toNat ∧ b.toNat ≤ 57) (hv : valOf x.data.toList ≤ 99999) : Lib.atoiAll x.data.toList = .ok (valOf x.data.toList : Int) := by
  have hp := (parse_digits x.data.toList 0 hd hv).2
  have hl : x.data.toList ≠ [] := fun e => hne (by cases x with | mk d => cases d with | mk l => simp at e; subst e; rfl)
  have hv' : (x.data.toList.foldl (fun v (b : UInt8) => 10 * v + (b.toNat - 48)) 0) ≤ 99999 := hv
  unfold valOf
  generalize (x.data.toList.foldl (fun v (b : UInt8) => 10 * v + (b.toNat - 48)) 0) = v at *
  generalize x.data.toList = l at *
  cases l with
  | nil => exact absurd rfl hl
  | cons c r =>
    have hc := hd c List.mem_cons_self
    unfold Lib.atoiAll Lib.parseMag
    simp only [show ¬ c.toNat = 43 by omega, show ¬ c.toNat = 45 by omega, or_self, if_false, reduceCtorEq, hp, false_and, not_false_eq_true, true_and]
    rw [if_neg (by omega)]

theorem atoi_num (x : ByteArray) (hne : x ≠ ⟨#[]⟩) (hd : ∀ b ∈ x.data.toList, 48 ≤ b.toNat ∧ b.toNat ≤ 57) (hv : valOf x.data.toList ≤ 99999) (hs : x.size ≤ 65536) (w : World) :
    Calls Tryz.prog 77 #[.string x] w fun e w' => e = .returned (.tuple #[.int .i64 (valOf x.data.toList), .nilIface]) ∧ Below w.heap.size w w' :=
  (Tryz.strconv_Atoi_ok x (by omega) _ (atoi_digits x hne hd hv) w).mono fun e w' ⟨he, hw⟩ => ⟨he, by
    rcases hw with rfl | ⟨t, rfl⟩
    · exact Below.refl _ _
    · exact Joins.below_bytesWorld _ _ _ _ (Nat.le_refl _)⟩
end Go.Proofs.YtbkjminjkjnkpaaGreatDoor
