/- The document's Copy of a table: its pieces appended onto none. -/
import Derived.Test.YtomhlgamdmcneaaTbGreat
import Derived.Test.YtomhlgamdmcneaaTbApp
namespace Go.Proofs.Ytomhlgamdmcneaa
open Go.RowKit Go.Lib

theorem pc_info : (Try.prog.info? 34).map (fun i => (i.size, i.bytes)) = some (14, 72) := by kernel_rfl
theorem pc_zero : ((Try.prog.info? 34).bind (·.zero)).isSome = true := by kernel_rfl
theorem pcs_append {w : World} {q : Option Addr} {c : Nat} {ps : List Pc} (h : RowIn w 14 72 PcIn (.slice q ps.length c) ps) :
    ∃ q' c' w', (Builtin.append_ #[23, 23] 23 #[.slice none 0 0, .slice q ps.length c]).run Try.prog w = .ok (.slice q' ps.length c') w' ∧ Below w.heap.size w w' ∧
      (ps.length ≠ 0 → q' = some ⟨w.heap.size, 0, none⟩ ∧ ∃ tail : Array Value, w'.heap[w.heap.size]? = some (.cells ((ps.map pcV).flatten.toArray ++ tail) 34 (0, 0))) := by
  have hi := pc_info
  have hz := pc_zero
  obtain ⟨i, hi1, hi2⟩ := Option.map_eq_some_iff.1 hi
  simp only [Prod.mk.injEq] at hi2
  rw [hi1] at hz
  obtain ⟨z, hz1⟩ := Option.isSome_iff_exists.1 hz
  have hs := src_row (P := Try.prog) (t := 23) (e := 34) Try.underlying23 (f := pcV) h (fun cs x hx => hx) (fun x _ => rfl) (fun x u hu => by simp [pcV] at hu; rcases hu with rfl | rfl | rfl | rfl | rfl | rfl | rfl | rfl | rfl | rfl | rfl | rfl | rfl | rfl <;> rfl) (row_none h)
  obtain ⟨-, -, -, hm, hb, -⟩ := h
  rw [← hi2.1] at hs
  exact append_fresh w _ _ _ i z Try.underlying23 hi1 hz1 _ _ _ _ hs (by rw [hi2.2]; omega) hm
end Go.Proofs.Ytomhlgamdmcneaa
