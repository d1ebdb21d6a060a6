/- joustlaw28.ClockStays, whole. (Made by gen/mkck.py.) -/
import Derived.Test.YtcemekianoehfaaDoorCkStays
namespace Go.Proofs.YtcemekianoehfaaDoor
open Go.RowKit Go.Lib Go.Sort

theorem stays_any (a b m k : Int) (h : Nat) (on : Bool) (s : Int) (f who : Nat) (n : Int) (w : World) (hT : PTab w) : Calls Tryd.prog 4 #[ckV a b m k h on s f, .int .u8 who, .int .i64 n] w fun e w' => e = .returned (.bool true) ∧ Below w.heap.size w w' := by
  by_cases h1 : askB a b m k h on s f n = true ∧ who ≤ 1
  · by_cases h2 : on = false ∧ f = 2
    · obtain ⟨hn, hw⟩ := h1
      obtain ⟨rfl, rfl⟩ := h2
      obtain rfl | rfl : who = 0 ∨ who = 1 := by omega
      · exact stays_ok0 a b m k h s n hn w hT
      · exact stays_ok1 a b m k h s n hn w hT
    · exact stays_nob a b m k h on s f who n (by unfold startC; rw [if_pos h1, if_neg h2]) w hT
  · exact stays_noa a b m k h on s f who n (by unfold startC; rw [if_neg h1]) w hT
end Go.Proofs.YtcemekianoehfaaDoor
