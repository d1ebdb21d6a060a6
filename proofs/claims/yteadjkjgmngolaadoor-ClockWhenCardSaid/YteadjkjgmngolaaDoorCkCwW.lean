/- joustlaw28.ClockWhen, whole. (Made by gen/mkck.py.) -/
import Derived.Test.YteadjkjgmngolaaDoorCkCwC
namespace Go.Proofs.YteadjkjgmngolaaDoor
open Go.RowKit Go.Lib Go.Sort

theorem cwhen_any (a b m k : Int) (h : Nat) (on : Bool) (s : Int) (f : Nat) (early : Int) (w : World) (hT : PTab w) : Calls Tryd.prog 4 #[ckV a b m k h on s f, .int .i64 early] w fun e w' => e = .returned (.bool true) ∧ Below w.heap.size w w' := by
  cases hm : mayB a b m k h on s f
  · exact cwhen_noa a b m k h on s f early hm w hT
  cases on
  · exact cwhen_nob a b m k h s f early hm w hT
  obtain ⟨-, -, -, -, -, -, hh, -, -, hf2⟩ := may_bd hm
  obtain rfl : f = 2 := by
    rcases hf2 with e | e
    · exact e
    · cases e
  obtain rfl | rfl : h = 0 ∨ h = 1 := by omega
  · by_cases hl : longI a b k 0 < 1073741824 - s
    · exact cwhen_ok0 a b m k s early hm hl w hT
    · exact cwhen_late0 a b m k s early hm hl w hT
  · by_cases hl : longI a b k 1 < 1073741824 - s
    · exact cwhen_ok1 a b m k s early hm hl w hT
    · exact cwhen_late1 a b m k s early hm hl w hT
end Go.Proofs.YteadjkjgmngolaaDoor
