import Derived.Test.YtmhpopkbmnhkkaaGreatDoorQRpStpA
import Derived.Test.YtmhpopkbmnhkkaaGreatDoorQRpStpB
import Derived.Test.YtmhpopkbmnhkkaaGreatDoorQRpStpC
import Derived.Test.YtmhpopkbmnhkkaaGreatDoorQRpStpD
/- joustref02: a step. -/
namespace Go.Proofs.YtmhpopkbmnhkkaaGreatDoor
open Go.RowKit Go.Lib
theorem findW_bound (x : ByteArray) (ws : List ByteArray) (h : 0 < ws.length) : (findW ws x 0).getD 0 < ws.length := by
  cases hf : findW ws x 0 with
  | none => exact h
  | some k => have := findW_lt _ _ _ _ hf; simp; omega
theorem rstep_any (E : REnv) (s : RS) (w : World) (h : RR w E s) :
    Calls Tryz.prog 132 #[.pointer (some ⟨E.R, 0, none⟩)] w (RStEnds (pStep E.ts) E s w) := by
  have hk : oneK E s stepsW < 11 := by
    cases s with
    | ok p => exact findW_bound _ stepsW (by decide)
    | bad _ _ _ => exact Nat.zero_lt_succ _
  have hd : oneK E s stepsW = 0 ∨ oneK E s stepsW = 1 ∨ oneK E s stepsW = 2 ∨ oneK E s stepsW = 3 ∨ oneK E s stepsW = 4 ∨ oneK E s stepsW = 5 ∨ oneK E s stepsW = 6 ∨ oneK E s stepsW = 7 ∨ oneK E s stepsW = 8 ∨ oneK E s stepsW = 9 ∨ oneK E s stepsW = 10 := by omega
  rcases hd with hd | hd | hd | hd | hd | hd | hd | hd | hd | hd | hd
  · exact rstep_0 E s w hd h
  · exact rstep_1 E s w hd h
  · exact rstep_2 E s w hd h
  · exact rstep_3 E s w hd h
  · exact rstep_4 E s w hd h
  · exact rstep_5 E s w hd h
  · exact rstep_6 E s w hd h
  · exact rstep_7 E s w hd h
  · exact rstep_8 E s w hd h
  · exact rstep_9 E s w hd h
  · exact rstep_10 E s w hd h
end Go.Proofs.YtmhpopkbmnhkkaaGreatDoor
