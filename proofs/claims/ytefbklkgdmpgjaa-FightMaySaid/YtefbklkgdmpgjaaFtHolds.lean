/-
  For every table and every number of a player joustlaw15.FightMay answers true: each attack that may be made has an outcome, at last comes the end, no two are alike; what is handed in stays. Conditions: none beside the row's own.
-/
import Derived.Test.YtefbklkgdmpgjaaFtLawM
import Derived.Test.YtefbklkgdmpgjaaTbArgs
import Derived.ProofKit
import Derived.HandedShaped
namespace Go.Proofs.Ytefbklkgdmpgjaa
open Go.RowKit Go.Shelf Go.Lib
open Go.ChangeShapes Go.WideShapes Go.ChangeAt

theorem tab_in {w : World} {D : Nat} {t : Tb} {xs : List Cd} {ps : List Pc} (hk : RowIn w 6 72 (CdIn 1 D) (.slice t.qk t.nk t.ck) xs) (hp : RowIn w 14 72 PcIn (.slice t.qp t.np t.cp) ps) : TabIn w t xs ps := by
  refine ⟨⟨D, hk.mono (by omega) fun _ _ k => k.any⟩, hp.mono (by omega) fun _ _ k => k, ?_, ?_⟩
  · obtain ⟨q, c, -, -, hb, -⟩ := hk
    omega
  · obtain ⟨q, c, -, -, hb, -⟩ := hp
    omega
theorem few_in {w : World} {D : Nat} {v : Value} {xs : List Cd} (h : RowIn w 6 72 (CdIn 1 D) v xs) : FewIn xs := by
  obtain ⟨q, c, -, -, -, hx⟩ := h
  intro x hx0
  obtain ⟨i, hi⟩ := List.mem_iff_getElem?.1 hx0
  obtain ⟨-, -, -, cs, -, ⟨ve, -, -, hr⟩, -⟩ := hx i x hi
  obtain ⟨q2, c2, -, -, hb, hx2⟩ := hr
  refine ⟨by omega, fun e he => ?_⟩
  obtain ⟨j, hj⟩ := List.mem_iff_getElem?.1 he
  obtain ⟨-, -, -, cs2, -, ⟨vc, vs, -, -, hr2⟩, -⟩ := hx2 j e hj
  obtain ⟨q3, c3, -, -, hb3, -⟩ := hr2
  omega
theorem lawmay_any (t : Tb) (xs : List Cd) (ps : List Pc) (h : Nat) (w : World) (hT : TabIn w t xs ps) (hfew : FewIn xs) : Calls Try.prog 5 #[.agg t.row, .int .u8 h] w fun e w' => e = .returned (.bool true) ∧ Below w.heap.size w w' := by
  by_cases hm : LifeOk t ∧ GoodB xs ps
  · by_cases hh : h ≤ 1
    · exact lawmay_yes t xs ps h w hT hfew hm.1 hm.2 hh
    · exact lawmay_who t xs ps h w hT hm.1 hm.2 (by omega)
  · exact lawmay_no t xs ps h w hT hm

theorem Try.own : ownKnob Try.prog.godebug = none := by kernel_rfl
theorem Try.laidOut : laidOutB Try.prog = true := by kernel_rfl
def zeroT : Value := .agg #[.slice none 0 0, .slice none 0 0, .int .i64 0, .int .i64 0, .int .i64 0, .int .u8 0, .int .i64 0, .slice none 0 0, .bool false, .bool false]
set_option maxRecDepth 100000 in
theorem fmay_lifted (os : Os) (started : os.Started) (H : Type) (enc : TypeId × Value → H) :
    ReturnsInHanded {} Try.checked os 5 .any (Rows.fightMaySpec.pre6 enc Try.prog Try.f5 Rows.fightMayRow.domain false) (Rows.fightMaySpec.post enc Try.prog Try.f5 false true false false) := by
  refine returnsInHanded_of_change_shaped (C := Try.checked) Try.own started (by kernel_rfl) Try.func5
    (ChangeSpec.witness6 (enc := enc) (C := Try.checked) false ⟨#[], #[zeroT, .int .u8 0], []⟩ 8 (by kernel_rfl) (by kernel_rfl) (by kernel_rfl) (by kernel_rfl)) ?_
  intro W base args ds gs before hval0 hW _ hSz _ _
  have hval : ∀ (j : Nat) t v, Try.f5.params[j]? = some t → args[j]? = some v → Value.okWide Try.prog W .any base t v := hval0
  have hW' := hW
  obtain ⟨p, q, hA0, hV, rfl, _, _⟩ := hW
  have hA : DataW.TrodAll enc Try.prog W 0 (fun _ => true) true Try.f5.params.toList args.toList ds p := hA0
  have hA1 := hA
  rw [Try.params5] at hA hval
  obtain ⟨args⟩ := args
  obtain ⟨v0, vs, d0, ds0, p0, q0, rfl, rfl, rfl, h0, hA⟩ := trodAll_cons hA
  obtain ⟨v1, vs, d1, ds1, p1, q1, rfl, rfl, rfl, h1, hA⟩ := trodAll_cons hA
  obtain ⟨rfl, rfl, rfl⟩ : vs = [] ∧ ds1 = [] ∧ q1 = [] := by cases vs <;> cases ds1 <;> simp [DataW.TrodAll] at hA; exact ⟨rfl, rfl, hA⟩
  obtain ⟨rfl, rfl⟩ := trodVars_none hV
  obtain ⟨t, D, xs, ps, es, rfl, hk, hp, he⟩ := rd_table (hval 0 28 v0 rfl rfl) h0 (light_of (j := 0) hSz (by rw [Try.params5]; rfl) rfl)
  obtain ⟨idn, rfl, -, -, hwf⟩ := open_int Try.underlying5 (hval 1 5 v1 rfl rfl) h1
  have hn : (0 : Int) ≤ idn := by
    have e0 : IntKind.u8.min = 0 := rfl
    simp [Lit.wf] at hwf
    omega
  obtain ⟨h, rfl⟩ : ∃ h : Nat, idn = h := ⟨idn.toNat, by omega⟩
  refine (lawmay_any t xs ps h W (tab_in hk hp) (few_in hk)).mono fun e W' ⟨he, hb⟩ => ?_
  subst he
  refine ⟨_, rfl, _, _, _, [], p0 ++ (p1 ++ []), [], hW', trodAll_mk1 (shut_bool Try.underlying4 _), ?_, rfl, hb.frame _, fun h => by cases h⟩
  simp only [List.append_nil] at hW'
  exact trodAll_below Try.laidOut hb _ _ _ _ (by kernel_rfl) hA1 (fun x hx => by simpa using hW'.lt x (by simpa using hx))

theorem fmay_holds : Rows.FightMaySaid :=
  OpenClaim.holds_of_wide 5 Try.f5 rfl rfl rfl rfl rfl rfl rfl ⟨rfl, rfl, rfl, rfl, rfl⟩ rfl rfl rfl rfl rfl (by kernel_rfl) Try.func5 (by kernel_rfl)
    (of_decide_eq_true (by kernel_rfl)) (by unfold Func.isWrapper; first | (rw [if_pos (by decide +kernel)]; kernel_rfl) | (rw [if_neg (by decide +kernel)]; exact ⟨rfl, rfl⟩))
    (fun os started H enc _ => fmay_lifted os started H enc)
#print axioms fmay_holds
end Go.Proofs.Ytefbklkgdmpgjaa
