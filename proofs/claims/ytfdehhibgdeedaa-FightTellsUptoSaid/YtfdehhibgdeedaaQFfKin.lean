import Derived.Test.YtfdehhibgdeedaaQRfAttack
import Derived.Test.YtfdehhibgdeedaaQTbG
/- Tables of small bulk: their lists are short; what the document's own attack of a piece comes to on one that may be. -/
namespace Go.Proofs.Ytfdehhibgdeedaa
open Go.RowKit Go.Lib

theorem tab_inB {w : World} {D : Nat} {t : Tb} {xs : List Cd} {ps : List Pc} (hk : RowIn w 6 (72 * 1000000) (CdIn 1000000 D) (.slice t.qk t.nk t.ck) xs) (hp : RowIn w 14 (72 * 1000000) PcIn (.slice t.qp t.np t.cp) ps) : TabIn w t xs ps := by
  refine ⟨⟨D, hk.mono (by omega) fun _ _ k => k.any⟩, hp.mono (by omega) fun _ _ k => k, ?_, ?_⟩
  · obtain ⟨q, c, -, -, hb, -⟩ := hk
    omega
  · obtain ⟨q, c, -, -, hb, -⟩ := hp
    omega
theorem few_inB {w : World} {D : Nat} {v : Value} {xs : List Cd} (h : RowIn w 6 (72 * 1000000) (CdIn 1000000 D) v xs) : FewB xs := by
  obtain ⟨q, c, -, -, -, hx⟩ := h
  intro x hx0
  obtain ⟨i, hi⟩ := List.mem_iff_getElem?.1 hx0
  obtain ⟨-, -, -, cs, -, ⟨ve, -, -, hr⟩, -⟩ := hx i x hi
  obtain ⟨q2, c2, -, -, hb, hx2⟩ := hr
  refine ⟨by omega, fun e he => ?_⟩
  obtain ⟨j, hj⟩ := List.mem_iff_getElem?.1 he
  obtain ⟨-, -, -, cs2, -, ⟨vc, vs, -, -, hr2⟩, -⟩ := hx2 j e hj
  obtain ⟨q3, c3, -, -, hb3, -⟩ := hr2
  omega
/-- The document's own attack of a piece of a table that may be. -/
theorem rattack_may (t : Tb) (xs : List Cd) (ps : List Pc) (i : Nat) (p : Pc) (w : World) (hT : TabIn w t xs ps) (hL : LifeOk t) (hG : GoodB xs ps) (hB : FewB xs) (hi : ps[i]? = some p) :
    Calls Try.prog 16 #[.agg t.row, .int .i64 i] w fun e w' => e = .returned (.int .i64 (attackA xs ps p i)) ∧ Below w.heap.size w w' := by
  obtain ⟨D, hk⟩ := hT.kinds
  have hnk := hT.nk.1
  rw [hnk] at hk
  obtain ⟨fx, h1, h2, h3⟩ := kinds_fx2 hk hB
  rw [← attack_eq h1 fun i y hy => (h3 i y hy).2]
  exact rattack_any t xs fx ps i p w hT hL hG hi (by omega) h1.symm h2 fun i y hy => (h3 i y hy).1
end Go.Proofs.Ytfdehhibgdeedaa
