/-
  For every table whose reading is of small bulk, every two numbers and every number of a player joustlaw15.FightTells answers true: what a fight comes to and who may attack whom is the document's; what is handed in stays. Conditions: the row's own bulk, for the document's own Attack adds without bounds.
-/
import Derived.Test.YtfdehhibgdeedaaQRtPair
import Derived.Test.YtfdehhibgdeedaaQTbG
import Derived.ProofKit
import Derived.HandedShaped
import Derived.JoinedCond

namespace Go.Proofs.Ytfdehhibgdeedaa
open Go.RowKit Go.Shelf Go.Lib
open Go.ChangeShapes Go.WideShapes Go.ChangeAt

theorem Try.own : ownKnob Try.prog.godebug = none := by kernel_rfl
theorem Try.laidOut : laidOutB Try.prog = true := by kernel_rfl
def zeroT : Value := .agg #[.slice none 0 0, .slice none 0 0, .int .i64 0, .int .i64 0, .int .i64 0, .int .u8 0, .int .i64 0, .slice none 0 0, .bool false, .bool false]
def zeroD (H : Type) : DataW H := .agg [.nil, .nil, .agg [.lit (.int .i64 0), .lit (.int .i64 0)], .lit (.int .i64 0), .lit (.int .u8 0), .lit (.int .i64 0), .nil, .agg [.lit (.bool false), .lit (.bool false)]]
set_option maxRecDepth 100000 in
theorem tells_lifted (os : Os) (started : os.Started) (H : Type) (enc : TypeId × Value → H) (F : Stop.Interp) :
    ReturnsInHanded {} Try.checked os 3 .any ((Rows.OpenSpec.upto Rows.fightTellsSpec).pre6 enc Try.prog Try.f3 Rows.fightTellsUptoRow.domain false) (((Rows.OpenSpec.upto Rows.fightTellsSpec).at F).post enc Try.prog Try.f3 false true false false) := by
  refine returnsInHanded_of_cond (C := Try.checked) (s := Rows.OpenSpec.upto Rows.fightTellsSpec) (k := Rows.uptoSmall) rfl Try.own started (by kernel_rfl) Try.func3
    (OpenSpec.witness (enc := enc) (C := Try.checked) (s := Rows.OpenSpec.upto Rows.fightTellsSpec) (k := Rows.uptoSmall) rfl false ⟨#[], #[zeroT, .int .i64 0, .int .i64 0, .int .u8 0], []⟩ 8 (by kernel_rfl) (by kernel_rfl) (by kernel_rfl)
      (x := ([zeroD H, .lit (.int .i64 0), .lit (.int .i64 0), .lit (.int .u8 0)], [], [])) (by kernel_rfl) rfl (by kernel_rfl)) ?_
  intro W base args ds gs before hval0 hW _ hk _
  have hval : ∀ (j : Nat) t v, Try.f3.params[j]? = some t → args[j]? = some v → Value.okWide Try.prog W .any base t v := hval0
  have hW' := hW
  obtain ⟨p, q, hA0, hV, rfl, _, _⟩ := hW
  have hA : DataW.TrodAll enc Try.prog W 0 (fun _ => true) true Try.f3.params.toList args.toList ds p := hA0
  have hA1 := hA
  rw [Try.params3] at hA hval
  obtain ⟨args⟩ := args
  obtain ⟨v0, vs, d0, ds0, p0, q0, rfl, rfl, rfl, h0, hA⟩ := trodAll_cons hA
  obtain ⟨v1, vs, d1, ds1, p1, q1, rfl, rfl, rfl, h1, hA⟩ := trodAll_cons hA
  obtain ⟨v2, vs, d2, ds2, p2, q2, rfl, rfl, rfl, h2, hA⟩ := trodAll_cons hA
  obtain ⟨v3, vs, d3, ds3, p3, q3, rfl, rfl, rfl, h3, hA⟩ := trodAll_cons hA
  obtain ⟨rfl, rfl, rfl⟩ : vs = [] ∧ ds3 = [] ∧ q3 = [] := by cases vs <;> cases ds3 <;> simp [DataW.TrodAll] at hA; exact ⟨rfl, rfl, hA⟩
  obtain ⟨rfl, rfl⟩ := trodVars_none hV
  have hbk : Bk d0 := by
    have h : Rows.uptoBulkAll (d0 :: (d1 :: (d2 :: (d3 :: []))) ++ []) ≤ 1048576 := of_decide_eq_true hk
    have := bk_part (d := d0) (l := d0 :: (d1 :: (d2 :: (d3 :: []))) ++ []) (by simp)
    exact Nat.le_trans this h
  obtain ⟨t, D, xs, ps, es, rfl, hkk, hp, he⟩ := rd_tableE (hval 0 28 v0 rfl rfl) h0 hbk
  obtain ⟨a, rfl, -, -, -⟩ := open_int Try.underlying3 (hval 1 3 v1 rfl rfl) h1
  obtain ⟨d, rfl, -, -, -⟩ := open_int Try.underlying3 (hval 2 3 v2 rfl rfl) h2
  obtain ⟨idn, rfl, -, -, hwf⟩ := open_int Try.underlying5 (hval 3 5 v3 rfl rfl) h3
  have hn : (0 : Int) ≤ idn := by
    have e0 : IntKind.u8.min = 0 := rfl
    simp [Lit.wf] at hwf
    omega
  obtain ⟨h, rfl⟩ : ∃ h : Nat, idn = h := ⟨idn.toNat, by omega⟩
  refine (lawtells_in D t xs ps es a d h W ⟨hkk.mono (by omega) fun _ _ k => k.low, hp.mono (by omega) fun _ _ k => k, he⟩ (tab_inB hkk hp) (few_inB hkk)).mono fun e W' ⟨he', hb⟩ => ?_
  subst he'
  refine ⟨_, rfl, _, _, _, [], p0 ++ (p1 ++ (p2 ++ (p3 ++ []))), [], hW', trodAll_mk1 (shut_bool Try.underlying4 _), ?_, rfl, hb.frame _, fun h => by cases h⟩
  simp only [List.append_nil] at hW'
  exact trodAll_below Try.laidOut hb _ _ _ _ (by kernel_rfl) hA1 (fun x hx => by simpa using hW'.lt x (by simpa using hx))

theorem ftells_holds : Rows.FightTellsUptoSaid :=
  OpenClaim.holds_of_cond 3 Try.f3 rfl rfl rfl rfl rfl rfl rfl ⟨rfl, rfl, rfl, rfl, rfl⟩ rfl rfl rfl rfl rfl (by kernel_rfl) Try.func3 (by kernel_rfl)
    (of_decide_eq_true (by kernel_rfl)) (by unfold Func.isWrapper; first | (rw [if_pos (by decide +kernel)]; kernel_rfl) | (rw [if_neg (by decide +kernel)]; exact ⟨rfl, rfl⟩))
    (fun os started H enc _ F => tells_lifted os started H enc F)
#print axioms ftells_holds
end Go.Proofs.Ytfdehhibgdeedaa
