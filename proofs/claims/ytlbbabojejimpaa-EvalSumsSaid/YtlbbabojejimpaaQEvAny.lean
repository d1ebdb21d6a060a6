import Derived.Test.YtlbbabojejimpaaQEvTwo4
import Derived.Test.YtlbbabojejimpaaQEvTwo5
import Derived.Test.YtlbbabojejimpaaQEvTwo6
import Derived.Test.YtlbbabojejimpaaQEvTwo7
import Derived.Test.YtlbbabojejimpaaQEvTwo8
import Derived.Test.YtlbbabojejimpaaQEvTwo9
import Derived.Test.YtlbbabojejimpaaQEvTwo10
/- eval.value of whatever expression, so deep at most; eval.Value. -/
namespace Go.Proofs.Ytlbbabojejimpaa
open Go.RowKit Go.Lib

theorem parts_two {op : Nat} (h : 4 ≤ op ∧ op ≤ 10) : partsN op = 2 := by unfold partsN; rw [if_pos h]
theorem parts_one : partsN 11 = 1 := rfl
theorem parts_none {op : Nat} (h1 : ¬ (4 ≤ op ∧ op ≤ 10)) (h2 : op ≠ 11) : partsN op = 0 := by unfold partsN; rw [if_neg h1, if_neg h2]
set_option maxHeartbeats 4000000 in
theorem value_any (t : Tb) (xs : List Cd) (ps : List Pc) (who : Nat) (i : Int) (w : World) (hT : TabIn w t xs ps) (hL : LifeOk t) (hG : GoodB xs ps) (hf : FewIn xs) (hw : who ≤ 1) : ∀ d, d ≤ 100 → ValAt t xs ps who i d w := by
  intro d
  induction d with
  | zero =>
    intro _ D x c W hb hx
    cases D with
    | zero => exact hx.elim
    | succ D =>
      obtain ⟨q, cap, rfl, hcap, hmx, hp⟩ := hx
      exact value_zero t xs ps who i x q cap W
  | succ d ih =>
    intro hd D x c W hb hx
    cases D with
    | zero => exact hx.elim
    | succ D =>
      obtain ⟨q, cap, rfl, hcap, hmx, hp⟩ := hx
      have ih := ih (by omega)
      have hTW := hT.below hb
      have part : ∀ (k : Nat) (p : Ex), x.args[k]? = some p → ∃ (g o : Nat), q = some ⟨g, o, none⟩ ∧ g < W.heap.size ∧ ∃ (vq : Option Addr) (vn vc : Nat), (∀ (j : Nat) (u : Value), (exV p (.slice vq vn vc))[j]? = some u → W.cell? ⟨g, o + k * 7 + j, none⟩ = some u) ∧ (∀ V, Below W.heap.size W V → Calls Try.prog 16 #[.agg t.row, .int .u8 who, .int .i64 i, .agg (exV p (.slice vq vn vc)).toArray, .int .i64 d] V (ValEnds (valE t xs ps who i d p) V)) := by
        intro k p hk
        obtain ⟨g, o, hq, cs, hl, hx', hu⟩ := hp k p hk
        cases D with
        | zero => exact hx'.elim
        | succ D' =>
          have hx2 := hx'
          obtain ⟨q', cap', rfl, -⟩ := hx'
          have hlt := World.block_lt_of_cell? _ _ (hu 0 _ rfl)
          exact ⟨g, o, hq, hlt, q', _, cap', hu, fun V hV => ih (D' + 1) p _ V (hb.trans (hV.mono hb.size)) (ExC.stays _ _ _ _ _ hx2 hV)⟩
      by_cases hlt : x.args.length < partsN x.op
      · have e : valE t xs ps who i (d + 1) x = none := by rw [valE, if_pos hlt]
        rw [e]
        exact value_few t xs ps who i x q cap d W (by omega) hlt
      by_cases h2 : 4 ≤ x.op ∧ x.op ≤ 10
      · have hpt := parts_two h2
        rw [hpt] at hlt
        obtain ⟨p, hp0⟩ : ∃ p, x.args[0]? = some p := ⟨_, List.getElem?_eq_getElem (by omega)⟩
        obtain ⟨p2, hp1⟩ : ∃ p, x.args[1]? = some p := ⟨_, List.getElem?_eq_getElem (by omega)⟩
        obtain ⟨g, o, hq, hg, vq, vn, vc, hc1, hv1⟩ := part 0 p hp0
        obtain ⟨g', o', hq', -, vq2, vn2, vc2, hc2, hv2⟩ := part 1 p2 hp1
        rw [hq, Option.some.injEq, Addr.mk.injEq] at hq'
        obtain ⟨rfl, rfl, -⟩ := hq'
        have e : valE t xs ps who i (d + 1) x = twoV x.op (valE t xs ps who i d p) (valE t xs ps who i d p2) := by
          rw [valE, hpt, if_neg hlt, if_neg (by omega), hp0]
          dsimp only
          cases valE t xs ps who i d p with
          | none => simp [twoV]
          | some a =>
            dsimp only
            rw [if_neg (by omega), hp1]
            dsimp only
            cases valE t xs ps who i d p2 <;> rfl
        rw [e]
        have b1 : ∀ a, valE t xs ps who i d p = some a → -99999 ≤ a ∧ a ≤ 99999 := fun a h => valE_bd h
        have b2 : ∀ a, valE t xs ps who i d p2 = some a → -99999 ≤ a ∧ a ≤ 99999 := fun a h => valE_bd h
        rcases (show x.op = 4 ∨ x.op = 5 ∨ x.op = 6 ∨ x.op = 7 ∨ x.op = 8 ∨ x.op = 9 ∨ x.op = 10 by omega) with h | h | h | h | h | h | h
        · rw [h]; exact value_two4 t xs ps who i x q cap d W (by omega) h g o hq hg (by omega) hcap hmx p vq vn vc _ (by simpa using hc1) hv1 b1 p2 vq2 vn2 vc2 _ (by simpa using hc2) hv2 b2
        · rw [h]; exact value_two5 t xs ps who i x q cap d W (by omega) h g o hq hg (by omega) hcap hmx p vq vn vc _ (by simpa using hc1) hv1 b1 p2 vq2 vn2 vc2 _ (by simpa using hc2) hv2 b2
        · rw [h]; exact value_two6 t xs ps who i x q cap d W (by omega) h g o hq hg (by omega) hcap hmx p vq vn vc _ (by simpa using hc1) hv1 b1 p2 vq2 vn2 vc2 _ (by simpa using hc2) hv2 b2
        · rw [h]; exact value_two7 t xs ps who i x q cap d W (by omega) h g o hq hg (by omega) hcap hmx p vq vn vc _ (by simpa using hc1) hv1 b1 p2 vq2 vn2 vc2 _ (by simpa using hc2) hv2 b2
        · rw [h]; exact value_two8 t xs ps who i x q cap d W (by omega) h g o hq hg (by omega) hcap hmx p vq vn vc _ (by simpa using hc1) hv1 b1 p2 vq2 vn2 vc2 _ (by simpa using hc2) hv2 b2
        · rw [h]; exact value_two9 t xs ps who i x q cap d W (by omega) h g o hq hg (by omega) hcap hmx p vq vn vc _ (by simpa using hc1) hv1 b1 p2 vq2 vn2 vc2 _ (by simpa using hc2) hv2 b2
        · rw [h]; exact value_two10 t xs ps who i x q cap d W (by omega) h g o hq hg (by omega) hcap hmx p vq vn vc _ (by simpa using hc1) hv1 b1 p2 vq2 vn2 vc2 _ (by simpa using hc2) hv2 b2
      by_cases h11 : x.op = 11
      · have hpt : partsN x.op = 1 := by rw [h11]; rfl
        rw [hpt] at hlt
        obtain ⟨p, hp0⟩ : ∃ p, x.args[0]? = some p := ⟨_, List.getElem?_eq_getElem (by omega)⟩
        obtain ⟨g, o, hq, hg, vq, vn, vc, hc1, hv1⟩ := part 0 p hp0
        have e : valE t xs ps who i (d + 1) x = oneV (valE t xs ps who i d p) := by
          rw [valE, hpt, if_neg hlt, if_neg (by omega), hp0]
          dsimp only
          cases valE t xs ps who i d p with
          | none => rfl
          | some a =>
            dsimp only
            rw [if_pos rfl, h11]
            rfl
        rw [e]
        exact value_not t xs ps who i x q cap d W (by omega) h11 g o hq hg (by omega) hcap hmx p vq vn vc _ (by simpa using hc1) hv1 fun a h => valE_bd h
      have hpt := parts_none h2 h11
      have e : valE t xs ps who i (d + 1) x = leafV t xs ps who i x := by
        rw [valE, if_neg hlt, if_pos hpt]
      rw [e]
      unfold leafV
      by_cases h0 : x.op = 0
      · rw [if_pos h0]
        exact value_number t xs ps who i x q cap d W (by omega) hpt hTW hL hG hf hw h0
      rw [if_neg h0]
      by_cases h1 : x.op = 1
      · rw [if_pos h1]
        by_cases hs : x.side > 3
        · rw [if_pos hs]
          exact value_side t xs ps who i x q cap d W (by omega) hpt hTW hL hG hf hw h1 hs
        · rw [if_neg hs]
          exact value_life t xs ps who i x q cap d W (by omega) hpt hTW hL hG hf hw h1 hs
      rw [if_neg h1]
      by_cases h3 : x.op = 2
      · rw [if_pos h3]
        exact value_count t xs ps who i x q cap d W (by omega) hpt hTW hL hG hf hw h3
      rw [if_neg h3]
      by_cases h4 : x.op = 3
      · rw [if_pos h4]
        exact value_attack t xs ps who i x q cap d W (by omega) hpt hTW hL hG hf hw h4
      rw [if_neg h4]
      exact value_unknown t xs ps who i x q cap d W (by omega) hpt hTW hL hG hf hw (by omega)
end Go.Proofs.Ytlbbabojejimpaa
