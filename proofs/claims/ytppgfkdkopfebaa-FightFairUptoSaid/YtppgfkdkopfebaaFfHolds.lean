/-
  For every table whose reading is of small bulk and every two numbers joustlaw15.FightFair answers true: what a fight comes to is fair; what is handed in stays. Conditions: the row's own bulk, for the document's own Attack adds without bounds.
-/
import Derived.Test.YtppgfkdkopfebaaFfLow
import Derived.Test.YtppgfkdkopfebaaFfHigh0
import Derived.Test.YtppgfkdkopfebaaFfHigh1
import Derived.Test.YtppgfkdkopfebaaReadB
import Derived.ProofKit
import Derived.HandedShaped
import Derived.JoinedCond
namespace Go.Proofs.Ytppgfkdkopfebaa
open Go.RowKit Go.Shelf Go.Lib
open Go.ChangeShapes Go.WideShapes Go.ChangeAt

theorem tab_inB {w : World} {D : Nat} {t : Tb} {xs : List Cd} {ps : List Pc} (hk : RowIn w 6 (72 * 1000000) (CdIn 1000000 D) (.slice t.qk t.nk t.ck) xs) (hp : RowIn w 14 (72 * 1000000) PcIn (.slice t.qp t.np t.cp) ps) : TabIn w t xs ps := by
  refine ⟨⟨D, hk.mono (by omega) fun _ _ k => k.any⟩, hp.mono (by omega) fun _ _ k => k, ?_, ?_⟩
  · obtain ⟨q, c, -, -, hb, -⟩ := hk
    omega
  · obtain ⟨q, c, -, -, hb, -⟩ := hp
    omega
theorem few_inB {w : World} {D : Nat} {v : Value} {xs : List Cd} (h : RowIn w 6 (72 * 1000000) (CdIn 1000000 D) v xs) : FewB xs := by
  obtain ⟨q, c, -, -, -, hx⟩ := h
  intro x hx0
  obtain ⟨i, hi⟩ := List.mem_iff_getElem?.1 hx0
  obtain ⟨-, -, -, cs, -, ⟨ve, -, -, hr⟩, -⟩ := hx i x hi
  obtain ⟨q2, c2, -, -, hb, hx2⟩ := hr
  refine ⟨by omega, fun e he => ?_⟩
  obtain ⟨j, hj⟩ := List.mem_iff_getElem?.1 he
  obtain ⟨-, -, -, cs2, -, ⟨vc, vs, -, -, hr2⟩, -⟩ := hx2 j e hj
  obtain ⟨q3, c3, -, -, hb3, -⟩ := hr2
  omega
/-- The document's own attack of a piece of a table that may be. -/
theorem rattack_may (t : Tb) (xs : List Cd) (ps : List Pc) (i : Nat) (p : Pc) (w : World) (hT : TabIn w t xs ps) (hL : LifeOk t) (hG : GoodB xs ps) (hB : FewB xs) (hi : ps[i]? = some p) :
    Calls Try.prog 15 #[.agg t.row, .int .i64 i] w fun e w' => e = .returned (.int .i64 (attackA xs ps p i)) ∧ Below w.heap.size w w' := by
  obtain ⟨D, hk⟩ := hT.kinds
  have hnk := hT.nk.1
  rw [hnk] at hk
  obtain ⟨fx, h1, h2, h3⟩ := kinds_fx2 hk hB
  rw [← attack_eq h1 fun i y hy => (h3 i y hy).2]
  exact rattack_any t xs fx ps i p w hT hL hG hi (by omega) h1.symm h2 fun i y hy => (h3 i y hy).1

set_option maxHeartbeats 4000000 in
theorem lawfair_any (t : Tb) (xs : List Cd) (ps : List Pc) (a d : Int) (w : World) (hT : TabIn w t xs ps) (hB : FewB xs) : Calls Try.prog 4 #[.agg t.row, .int .i64 a, .int .i64 d] w fun e w' => e = .returned (.bool true) ∧ Below w.heap.size w w' := by
  have hno : (∀ W, Below w.heap.size w W → Calls Try.prog 18 #[.agg t.row, .int .i64 a, .int .i64 d] W fun e w' => e = .returned (.bool false) ∧ Below W.heap.size W w') → Calls Try.prog 4 #[.agg t.row, .int .i64 a, .int .i64 d] w fun e w' => e = .returned (.bool true) ∧ Below w.heap.size w w' := fun h => lawfair_no t a d w fun W hb => out_no t a d W fun V hv => h V (hb.trans (hv.mono hb.size))
  by_cases hm : LifeOk t ∧ GoodB xs ps
  rotate_left
  · exact hno fun W hb => fm_nomay t xs ps a d W (hT.below hb) hm
  obtain ⟨hL, hG⟩ := hm
  by_cases ha : 0 ≤ a ∧ a < t.np
  rotate_left
  · exact hno fun W hb => fm_noa t xs ps a d W (hT.below hb) hL hG ha
  obtain ⟨i, rfl⟩ : ∃ i : Nat, a = i := ⟨a.toNat, by omega⟩
  have hnp := hT.np.1
  obtain ⟨p, hi⟩ : ∃ p, ps[i]? = some p := ⟨ps[i]'(by omega), List.getElem?_eq_getElem _⟩
  have hp1 := (hG.one p (List.mem_of_getElem? hi)).hs
  cases hatt : attB p with
  | false => exact hno fun W hb => fm_noatt t xs ps i d p W (hT.below hb) hL hG hi hatt
  | true =>
    have hap : p.zn = 2 ∧ p.up = true ∧ p.lw = false := by unfold attB at hatt; simpa using hatt
    have hra : ∀ (j : Nat) (r : Pc), ps[j]? = some r → ∀ W, Below w.heap.size w W → Calls Try.prog 15 #[.agg t.row, .int .i64 j] W fun e w' => e = .returned (.int .i64 (attackA xs ps r j)) ∧ Below W.heap.size W w' := fun j r hj W hb => rattack_may t xs ps j r W (hT.below hb) hL hG hB hj
    have hbd : ∀ (j : Nat) (r : Pc), ps[j]? = some r → 0 ≤ attackA xs ps r j ∧ attackA xs ps r j ≤ 99999 := fun j r hj => attack_bd (by have := (hG.one r (List.mem_of_getElem? hj)).ak; omega)
    by_cases hd1 : d = -1
    · subst hd1
      have ho := fun (W : World) (hb : Below w.heap.size w W) => outcome_nobody t xs ps i p W (hT.below hb) hL hG hB.few hi hatt
      rcases (show p.hs = 0 ∨ p.hs = 1 by omega) with h0 | h1
      · rw [h0] at ho
        exact lawfair_nobody0 t i _ w (by have := hT.has hi; rw [h0] at this; exact this) (hbd i p hi) ho (hra i p hi)
      · rw [h1] at ho
        exact lawfair_nobody1 t i _ w (by have := hT.has hi; rw [h1] at this; exact this) (hbd i p hi) ho (hra i p hi)
    by_cases hd : 0 ≤ d ∧ d < t.np
    rotate_left
    · exact hno fun W hb => fm_nod t xs ps i d p W (hT.below hb) hL hG hi hatt hd hd1
    obtain ⟨j, rfl⟩ : ∃ j : Nat, d = j := ⟨d.toNat, by omega⟩
    obtain ⟨q, hj⟩ : ∃ q, ps[j]? = some q := ⟨ps[j]'(by omega), List.getElem?_eq_getElem _⟩
    have hq1 := (hG.one q (List.mem_of_getElem? hj)).hs
    cases htar : tarB q (1 - p.hs) with
    | false => exact hno fun W hb => by have := fm_two t xs ps i j p q W (hT.below hb) hL hG hi hatt hj; rwa [htar] at this
    | true =>
      have htq : q.zn = 2 ∧ q.hs = 1 - p.hs := by unfold tarB at htar; simpa using htar
      have hne : i ≠ j := fun e => by subst e; rw [hi] at hj; cases hj; omega
      have ho := fun (W : World) (hb : Below w.heap.size w W) => outcome_two t xs ps i j p q W (hT.below hb) hL hG hB.few hi hj hatt htar
      have hal : i < t.np := by omega
      have hdl : j < t.np := by omega
      obtain ⟨g, o, hqp, -, hcp⟩ := hT.piece hi
      obtain ⟨g', o', hqp', -, hcq⟩ := hT.piece hj
      rw [hqp, Option.some.injEq, Addr.mk.injEq] at hqp'
      obtain ⟨rfl, rfl, -⟩ := hqp'
      have c4 := hcp 4 _ rfl
      have c8 := hcq 8 _ rfl
      have hA := hbd i p hi
      have hM := hbd j q hj
      have rA := hra i p hi
      have rM := hra j q hj
      cases hlw : q.lw with
      | true =>
        have c2 := hcq 2 _ rfl
        rw [hlw] at c8
        unfold outTwo at ho
        rw [if_pos hlw] at ho
        rcases (show p.hs = 0 ∨ p.hs = 1 by omega) with h0 | h1
        · rw [h0] at ho c4
          rcases Int.lt_trichotomy (attackA xs ps p i) q.gd with hc | hc | hc
          · unfold guardO at ho
            rw [if_pos hc] at ho
            exact lowfair0_lt t i j _ _ _ (q.gd - attackA xs ps p i) w ⟨hal, g, o, hqp, c4⟩ hdl ⟨g, o, hqp, c8, c2⟩ hne hA hM (by omega) hc ho rA rM
          · unfold guardO at ho
            rw [if_neg (by omega), if_neg (by omega)] at ho
            exact lowfair0_eq t i j _ _ _ 1 w ⟨hal, g, o, hqp, c4⟩ hdl ⟨g, o, hqp, c8, c2⟩ hne hA hM (by omega) hc ho rA rM
          · unfold guardO at ho
            rw [if_neg (by omega), if_pos hc] at ho
            exact lowfair0_gt t i j _ _ _ 1 w ⟨hal, g, o, hqp, c4⟩ hdl ⟨g, o, hqp, c8, c2⟩ hne hA hM (by omega) hc ho rA rM
        · rw [h1] at ho c4
          rcases Int.lt_trichotomy (attackA xs ps p i) q.gd with hc | hc | hc
          · unfold guardO at ho
            rw [if_pos hc] at ho
            exact lowfair1_lt t i j _ _ _ (q.gd - attackA xs ps p i) w ⟨hal, g, o, hqp, c4⟩ hdl ⟨g, o, hqp, c8, c2⟩ hne hA hM (by omega) hc ho rA rM
          · unfold guardO at ho
            rw [if_neg (by omega), if_neg (by omega)] at ho
            exact lowfair1_eq t i j _ _ _ 1 w ⟨hal, g, o, hqp, c4⟩ hdl ⟨g, o, hqp, c8, c2⟩ hne hA hM (by omega) hc ho rA rM
          · unfold guardO at ho
            rw [if_neg (by omega), if_pos hc] at ho
            exact lowfair1_gt t i j _ _ _ 1 w ⟨hal, g, o, hqp, c4⟩ hdl ⟨g, o, hqp, c8, c2⟩ hne hA hM (by omega) hc ho rA rM
      | false =>
        have c7 := hcq 7 _ rfl
        have c8p := hcp 8 _ rfl
        rw [hlw] at c8
        rw [hap.2.2] at c8p
        unfold outTwo at ho
        rw [if_neg (by rw [hlw]; simp)] at ho
        have ho3 : q.up = false → ∀ W, Below w.heap.size w W → Calls Try.prog 8 #[.agg t.row, .int .i64 j, .int .i64 i] W (OutEnds ((((0, 0), []) : FO)) 2 W) := fun hu W hb => out_no t j i W fun V hv => fm_noatt t xs ps j i q V (hT.below (hb.trans (hv.mono hb.size))) hL hG hj (by unfold attB; simp [hu])
        have ho2 : q.up = true → ∀ W, Below w.heap.size w W → Calls Try.prog 8 #[.agg t.row, .int .i64 j, .int .i64 i] W (OutEnds (attackO (attackA xs ps q j) (attackA xs ps p i) q.hs p.hs j i) 0 W) := fun hu W hb => by
          have := outcome_two t xs ps j i q p W (hT.below hb) hL hG hB.few hj hi (by unfold attB; simp [hu, htq.1, hlw]) (by unfold tarB; simp [hap.1]; omega)
          unfold outTwo at this
          rwa [if_neg (by rw [hap.2.2]; simp)] at this
        rcases (show p.hs = 0 ∨ p.hs = 1 by omega) with h0 | h1
        · have hq : q.hs = 1 := by omega
          rw [h0, hq] at ho ho2
          rw [h0] at c4
          rcases Int.lt_trichotomy (attackA xs ps p i) (attackA xs ps q j) with hc | hc | hc
          · unfold attackO at ho ho2
            rw [if_pos hc] at ho
            rw [if_neg (by omega), if_pos hc] at ho2
            exact highfair0_lt t q.up i j _ _ _ (attackA xs ps q j - attackA xs ps p i) w ⟨hal, g, o, hqp, c4⟩ hdl ⟨g, o, hqp, c8, c7, c8p⟩ hne hA hM (by omega) hc rfl ho rA rM ho2 ho3
          · by_cases hz : attackA xs ps p i > 0
            · unfold attackO at ho ho2
              rw [if_neg (by omega), if_neg (by omega), if_pos hz] at ho
              rw [if_neg (by omega), if_neg (by omega), if_pos (by omega)] at ho2
              exact highfair0_eqp t q.up i j _ _ _ 1 w ⟨hal, g, o, hqp, c4⟩ hdl ⟨g, o, hqp, c8, c7, c8p⟩ hne hA hM (by omega) hc rfl ho rA rM ho2 ho3
            · unfold attackO at ho ho2
              rw [if_neg (by omega), if_neg (by omega), if_neg hz] at ho
              rw [if_neg (by omega), if_neg (by omega), if_neg (by omega)] at ho2
              exact highfair0_eqz t q.up i j _ _ _ 1 w ⟨hal, g, o, hqp, c4⟩ hdl ⟨g, o, hqp, c8, c7, c8p⟩ hne hA hM (by omega) hc rfl ho rA rM ho2 ho3
          · unfold attackO at ho ho2
            rw [if_neg (by omega), if_pos hc] at ho
            rw [if_pos hc] at ho2
            exact highfair0_gt t q.up i j _ _ _ (attackA xs ps p i - attackA xs ps q j) w ⟨hal, g, o, hqp, c4⟩ hdl ⟨g, o, hqp, c8, c7, c8p⟩ hne hA hM (by omega) hc rfl ho rA rM ho2 ho3
        · have hq : q.hs = 0 := by omega
          rw [h1, hq] at ho ho2
          rw [h1] at c4
          rcases Int.lt_trichotomy (attackA xs ps p i) (attackA xs ps q j) with hc | hc | hc
          · unfold attackO at ho ho2
            rw [if_pos hc] at ho
            rw [if_neg (by omega), if_pos hc] at ho2
            exact highfair1_lt t q.up i j _ _ _ (attackA xs ps q j - attackA xs ps p i) w ⟨hal, g, o, hqp, c4⟩ hdl ⟨g, o, hqp, c8, c7, c8p⟩ hne hA hM (by omega) hc rfl ho rA rM ho2 ho3
          · by_cases hz : attackA xs ps p i > 0
            · unfold attackO at ho ho2
              rw [if_neg (by omega), if_neg (by omega), if_pos hz] at ho
              rw [if_neg (by omega), if_neg (by omega), if_pos (by omega)] at ho2
              exact highfair1_eqp t q.up i j _ _ _ 1 w ⟨hal, g, o, hqp, c4⟩ hdl ⟨g, o, hqp, c8, c7, c8p⟩ hne hA hM (by omega) hc rfl ho rA rM ho2 ho3
            · unfold attackO at ho ho2
              rw [if_neg (by omega), if_neg (by omega), if_neg hz] at ho
              rw [if_neg (by omega), if_neg (by omega), if_neg (by omega)] at ho2
              exact highfair1_eqz t q.up i j _ _ _ 1 w ⟨hal, g, o, hqp, c4⟩ hdl ⟨g, o, hqp, c8, c7, c8p⟩ hne hA hM (by omega) hc rfl ho rA rM ho2 ho3
          · unfold attackO at ho ho2
            rw [if_neg (by omega), if_pos hc] at ho
            rw [if_pos hc] at ho2
            exact highfair1_gt t q.up i j _ _ _ (attackA xs ps p i - attackA xs ps q j) w ⟨hal, g, o, hqp, c4⟩ hdl ⟨g, o, hqp, c8, c7, c8p⟩ hne hA hM (by omega) hc rfl ho rA rM ho2 ho3

theorem Try.own : ownKnob Try.prog.godebug = none := by kernel_rfl
theorem Try.laidOut : laidOutB Try.prog = true := by kernel_rfl
def zeroT : Value := .agg #[.slice none 0 0, .slice none 0 0, .int .i64 0, .int .i64 0, .int .i64 0, .int .u8 0, .int .i64 0, .slice none 0 0, .bool false, .bool false]
def zeroD (H : Type) : DataW H := .agg [.nil, .nil, .agg [.lit (.int .i64 0), .lit (.int .i64 0)], .lit (.int .i64 0), .lit (.int .u8 0), .lit (.int .i64 0), .nil, .agg [.lit (.bool false), .lit (.bool false)]]
set_option maxRecDepth 100000 in
theorem fair_lifted (os : Os) (started : os.Started) (H : Type) (enc : TypeId × Value → H) (F : Stop.Interp) :
    ReturnsInHanded {} Try.checked os 4 .any ((Rows.OpenSpec.upto Rows.fightFairSpec).pre6 enc Try.prog Try.f4 Rows.fightFairUptoRow.domain false) (((Rows.OpenSpec.upto Rows.fightFairSpec).at F).post enc Try.prog Try.f4 false true false false) := by
  refine returnsInHanded_of_cond (C := Try.checked) (s := Rows.OpenSpec.upto Rows.fightFairSpec) (k := Rows.uptoSmall) rfl Try.own started (by kernel_rfl) Try.func4
    (OpenSpec.witness (enc := enc) (C := Try.checked) (s := Rows.OpenSpec.upto Rows.fightFairSpec) (k := Rows.uptoSmall) rfl false ⟨#[], #[zeroT, .int .i64 0, .int .i64 0], []⟩ 8 (by kernel_rfl) (by kernel_rfl) (by kernel_rfl)
      (x := ([zeroD H, .lit (.int .i64 0), .lit (.int .i64 0)], [], [])) (by kernel_rfl) rfl (by kernel_rfl)) ?_
  intro W base args ds gs before hval0 hW _ hk _
  have hval : ∀ (j : Nat) t v, Try.f4.params[j]? = some t → args[j]? = some v → Value.okWide Try.prog W .any base t v := hval0
  have hW' := hW
  obtain ⟨p, q, hA0, hV, rfl, _, _⟩ := hW
  have hA : DataW.TrodAll enc Try.prog W 0 (fun _ => true) true Try.f4.params.toList args.toList ds p := hA0
  have hA1 := hA
  rw [Try.params4] at hA hval
  obtain ⟨args⟩ := args
  obtain ⟨v0, vs, d0, ds0, p0, q0, rfl, rfl, rfl, h0, hA⟩ := trodAll_cons hA
  obtain ⟨v1, vs, d1, ds1, p1, q1, rfl, rfl, rfl, h1, hA⟩ := trodAll_cons hA
  obtain ⟨v2, vs, d2, ds2, p2, q2, rfl, rfl, rfl, h2, hA⟩ := trodAll_cons hA
  obtain ⟨rfl, rfl, rfl⟩ : vs = [] ∧ ds2 = [] ∧ q2 = [] := by cases vs <;> cases ds2 <;> simp [DataW.TrodAll] at hA; exact ⟨rfl, rfl, hA⟩
  obtain ⟨rfl, rfl⟩ := trodVars_none hV
  have hbk : Bk d0 := by
    have h : Rows.uptoBulkAll (d0 :: (d1 :: (d2 :: [])) ++ []) ≤ 1048576 := of_decide_eq_true hk
    have := bk_part (d := d0) (l := d0 :: (d1 :: (d2 :: [])) ++ []) (by simp)
    exact Nat.le_trans this h
  obtain ⟨t, D, xs, ps, rfl, hkk, hp⟩ := rd_tableB (hval 0 28 v0 rfl rfl) h0 hbk
  obtain ⟨a, rfl, -, -, -⟩ := open_int Try.underlying3 (hval 1 3 v1 rfl rfl) h1
  obtain ⟨d, rfl, -, -, -⟩ := open_int Try.underlying3 (hval 2 3 v2 rfl rfl) h2
  refine (lawfair_any t xs ps a d W (tab_inB hkk hp) (few_inB hkk)).mono fun e W' ⟨he, hb⟩ => ?_
  subst he
  refine ⟨_, rfl, _, _, _, [], p0 ++ (p1 ++ (p2 ++ [])), [], hW', trodAll_mk1 (shut_bool Try.underlying4 _), ?_, rfl, hb.frame _, fun h => by cases h⟩
  simp only [List.append_nil] at hW'
  exact trodAll_below Try.laidOut hb _ _ _ _ (by kernel_rfl) hA1 (fun x hx => by simpa using hW'.lt x (by simpa using hx))

theorem fair_holds : Rows.FightFairUptoSaid :=
  OpenClaim.holds_of_cond 4 Try.f4 rfl rfl rfl rfl rfl rfl rfl ⟨rfl, rfl, rfl, rfl, rfl⟩ rfl rfl rfl rfl rfl (by kernel_rfl) Try.func4 (by kernel_rfl)
    (of_decide_eq_true (by kernel_rfl)) (by unfold Func.isWrapper; first | (rw [if_pos (by decide +kernel)]; kernel_rfl) | (rw [if_neg (by decide +kernel)]; exact ⟨rfl, rfl⟩))
    (fun os started H enc _ F => fair_lifted os started H enc F)
#print axioms fair_holds
end Go.Proofs.Ytppgfkdkopfebaa
