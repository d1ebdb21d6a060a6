/-
  For every table, player, piece, effect and two lists of events joustlaw11.MatchGrows answers true: with more events what is set off is set off still; a when is off only if an if is; at a later moment no when is off; what is handed in stays. Conditions: none beside the row's own.
-/
import Derived.Test.YtggmiiifpocfdaaMtGrows
import Derived.Test.YtggmiiifpocfdaaMtArgs
import Derived.ProofKit
import Derived.HandedShaped
namespace Go.Proofs.Ytggmiiifpocfdaa
open Go.RowKit Go.Shelf Go.Lib
open Go.ChangeShapes Go.WideShapes Go.ChangeAt

theorem Try.own : ownKnob Try.prog.godebug = none := by kernel_rfl
theorem Try.laidOut : laidOutB Try.prog = true := by kernel_rfl
def zeroT : Value := .agg #[.slice none 0 0, .slice none 0 0, .int .i64 0, .int .i64 0, .int .i64 0, .int .u8 0, .int .i64 0, .slice none 0 0, .bool false, .bool false]
def zeroF : Value := .agg #[.int .u8 0, .int .u8 0, .int .u8 0, .slice none 0 0, .int .i64 0, .int .i64 0, .bool false, .int .i64 0, .int .u8 0, .int .u8 0, .int .u8 0, .slice none 0 0]
set_option maxRecDepth 100000 in
theorem mgrows_lifted (os : Os) (started : os.Started) (H : Type) (enc : TypeId × Value → H) :
    ReturnsInHanded {} Try.checked os 4 .any (Rows.matchGrowsSpec.pre6 enc Try.prog Try.f4 Rows.matchGrowsRow.domain false) (Rows.matchGrowsSpec.post enc Try.prog Try.f4 false true false false) := by
  refine returnsInHanded_of_change_shaped (C := Try.checked) Try.own started (by kernel_rfl) Try.func4
    (ChangeSpec.witness6 (enc := enc) (C := Try.checked) false ⟨#[], #[zeroT, .int .u8 0, .int .i64 0, zeroF, .slice none 0 0, .slice none 0 0], []⟩ 8 (by kernel_rfl) (by kernel_rfl) (by kernel_rfl) (by kernel_rfl)) ?_
  intro W base args ds gs before hval0 hW _ hSz _ _
  have hval : ∀ (j : Nat) t v, Try.f4.params[j]? = some t → args[j]? = some v → Value.okWide Try.prog W .any base t v := hval0
  have hW' := hW
  obtain ⟨p, q, hA0, hV, rfl, _, _⟩ := hW
  have hA : DataW.TrodAll enc Try.prog W 0 (fun _ => true) true Try.f4.params.toList args.toList ds p := hA0
  have hA1 := hA
  rw [Try.params4] at hA hval
  obtain ⟨args⟩ := args
  obtain ⟨v0, vs, d0, ds0, p0, q0, rfl, rfl, rfl, h0, hA⟩ := trodAll_cons hA
  obtain ⟨v1, vs, d1, ds1, p1, q1, rfl, rfl, rfl, h1, hA⟩ := trodAll_cons hA
  obtain ⟨v2, vs, d2, ds2, p2, q2, rfl, rfl, rfl, h2, hA⟩ := trodAll_cons hA
  obtain ⟨v3, vs, d3, ds3, p3, q3, rfl, rfl, rfl, h3, hA⟩ := trodAll_cons hA
  obtain ⟨v4, vs, d4, ds4, p4, q4, rfl, rfl, rfl, h4, hA⟩ := trodAll_cons hA
  obtain ⟨v5, vs, d5, ds5, p5, q5, rfl, rfl, rfl, h5, hA⟩ := trodAll_cons hA
  obtain ⟨rfl, rfl, rfl⟩ : vs = [] ∧ ds5 = [] ∧ q5 = [] := by cases vs <;> cases ds5 <;> simp [DataW.TrodAll] at hA; exact ⟨rfl, rfl, hA⟩
  obtain ⟨rfl, rfl⟩ := trodVars_none hV
  obtain ⟨t, D, xs, ps, es0, rfl, -, -, -⟩ := rd_table (hval 0 28 v0 rfl rfl) h0 (light_of (j := 0) hSz (by rw [Try.params4]; rfl) rfl)
  obtain ⟨who, rfl, -, -, wwho⟩ := open_int Try.underlying5 (hval 1 5 v1 rfl rfl) h1
  obtain ⟨idn, rfl, -, -, -⟩ := open_int Try.underlying3 (hval 2 3 v2 rfl rfl) h2
  obtain ⟨f, rfl, hf⟩ := rd_fx (hval 3 34 v3 rfl rfl) h3
  obtain ⟨es, hes, hesw⟩ := rd_events (okWide_slice Try.underlying25 (hval 4 25 v4 rfl rfl)) h4 (light_of (j := 4) hSz (by rw [Try.params4]; rfl) rfl)
  obtain ⟨qe, ce, rfl, -⟩ := id hes
  obtain ⟨ms, hms, hmsw⟩ := rd_events (okWide_slice Try.underlying25 (hval 5 25 v5 rfl rfl)) h5 (light_of (j := 5) hSz (by rw [Try.params4]; rfl) rfl)
  obtain ⟨qm, cm, rfl, -⟩ := id hms
  have hwho : 0 ≤ who ∧ who ≤ 255 := by
    have e0 : IntKind.u8.min = 0 := rfl
    have e1 : IntKind.u8.max = 255 := rfl
    simp [Lit.wf] at wwho; omega
  refine (mgrows_any t f who idn qe ce es qm cm ms W hes hesw hms (fun x hx => (hmsw x hx).1) hwho hf).mono fun e W' ⟨he, hb⟩ => ?_
  subst he
  refine ⟨_, rfl, _, _, _, [], p0 ++ (p1 ++ (p2 ++ (p3 ++ (p4 ++ (p5 ++ []))))), [], hW', trodAll_mk1 (shut_bool Try.underlying4 _), ?_, rfl, hb.frame _, fun h => by cases h⟩
  simp only [List.append_nil] at hW'
  exact trodAll_below Try.laidOut hb _ _ _ _ (by kernel_rfl) hA1 (fun x hx => by simpa using hW'.lt x (by simpa using hx))

theorem mgrows_holds : Rows.MatchGrowsSaid :=
  OpenClaim.holds_of_wide 4 Try.f4 rfl rfl rfl rfl rfl rfl rfl ⟨rfl, rfl, rfl, rfl, rfl⟩ rfl rfl rfl rfl rfl (by kernel_rfl) Try.func4 (by kernel_rfl)
    (of_decide_eq_true (by kernel_rfl)) (by unfold Func.isWrapper; first | (rw [if_pos (by decide +kernel)]; kernel_rfl) | (rw [if_neg (by decide +kernel)]; exact ⟨rfl, rfl⟩))
    (fun os started H enc _ => mgrows_lifted os started H enc)
#print axioms mgrows_holds
end Go.Proofs.Ytggmiiifpocfdaa
