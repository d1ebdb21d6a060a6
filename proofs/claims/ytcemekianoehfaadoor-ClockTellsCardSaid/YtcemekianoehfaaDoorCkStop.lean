/- Stop, whole. (Made by gen/mkck.py.) -/
import Derived.Test.YtcemekianoehfaaDoorCkStopB
import Derived.Test.YtcemekianoehfaaDoorCkStopC
import Derived.Test.YtcemekianoehfaaDoorCkRStop
namespace Go.Proofs.YtcemekianoehfaaDoor
open Go.RowKit Go.Lib Go.Sort

theorem stop_any (a b m k : Int) (h : Nat) (on : Bool) (s : Int) (f : Nat) (n : Int) (w : World) : Calls Tryd.prog 13 #[ckV a b m k h on s f, .int .i64 n] w fun e w' => e = .returned (.tuple #[(stopC a b m k h on s f n).1.val, .bool (stopC a b m k h on s f n).2.1, .int .i64 (stopC a b m k h on s f n).2.2]) ∧ Below w.heap.size w w' := by
  unfold stopC
  cases hn : askB a b m k h on s f n
  · rw [if_neg (by simp)]
    exact stop_no a b m k h on s f n hn w
  rw [if_pos rfl]
  cases on
  · rw [if_neg (by simp)]
    exact stop_off a b m k h s f n hn w
  rw [if_pos rfl]
  obtain ⟨-, -, -, -, -, -, hh, -, hf2, -, -, -⟩ := ask_bd hn
  obtain rfl : f = 2 := by
    rcases hf2 with e | e
    · exact e
    · cases e
  obtain rfl | rfl : h = 0 ∨ h = 1 := by omega
  · cases hf : fallB a b k 0 true s n
    · rw [if_neg (by simp)]
      exact stop_ok0 a b m k s n hn hf w
    · rw [if_pos rfl]
      exact stop_fell0 a b m k s n hn hf w
  · cases hf : fallB a b k 1 true s n
    · rw [if_neg (by simp)]
      exact stop_ok1 a b m k s n hn hf w
    · rw [if_pos rfl]
      exact stop_fell1 a b m k s n hn hf w

theorem rstop_any (a b m k : Int) (h : Nat) (on : Bool) (s : Int) (f : Nat) (hg : f < 256) (n : Int) (w : World) : Calls Tryd.prog 14 #[ckV a b m k h on s f, .int .i64 n] w fun e w' => e = .returned (.tuple #[(stopC a b m k h on s f n).1.val, .bool (stopC a b m k h on s f n).2.1, .int .i64 (stopC a b m k h on s f n).2.2]) ∧ Below w.heap.size w w' := by
  unfold stopC
  cases hn : askB a b m k h on s f n
  · rw [if_neg (by simp)]
    exact rstop_no a b m k h on s f hg n hn w
  rw [if_pos rfl]
  cases on
  · rw [if_neg (by simp)]
    exact rstop_off a b m k h s f hg n hn w
  rw [if_pos rfl]
  obtain ⟨-, -, -, -, -, -, hh, -, hf2, -, -, -⟩ := ask_bd hn
  obtain rfl : f = 2 := by
    rcases hf2 with e | e
    · exact e
    · cases e
  obtain rfl | rfl : h = 0 ∨ h = 1 := by omega
  · cases hf : fallB a b k 0 true s n
    · rw [if_neg (by simp)]
      exact rstop_ok0 a b m k s n hn hf w
    · rw [if_pos rfl]
      exact rstop_fell0 a b m k s n hn hf w
  · cases hf : fallB a b k 1 true s n
    · rw [if_neg (by simp)]
      exact rstop_ok1 a b m k s n hn hf w
    · rw [if_pos rfl]
      exact rstop_fell1 a b m k s n hn hf w

end Go.Proofs.YtcemekianoehfaaDoor
