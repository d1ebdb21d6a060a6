/-
  For every text, decks and kinds joustlaw05.DecksBack answers true: what decks.Write writes is read as the same, what decks.Read reads is written and read as the same, within the document's limits; what is handed in stays. Conditions: none beside the row's own (Go's tables lie as the program lays them).
-/
import Derived.Test.YtanbkgifjlobgaaDoorDkLaw
import Derived.Test.YtanbkgifjlobgaaDoorDkArgs
import Derived.Test.YtanbkgifjlobgaaDoorDkClose
namespace Go.Proofs.YtanbkgifjlobgaaDoor
open Go.RowKit Go.Shelf Go.Lib
open Go.ChangeShapes Go.WideShapes Go.ChangeAt
open Go.ChangeMaps (open_string shut_string)

theorem dback_any (s : ByteArray) (qa qb p : Option Addr) (ca cb c : Nat) (da db : List Int) (ks : List KC) (w : World) (hda : IntsAt w qa da) (hdb : IntsAt w qb db) (hla : da.length ≤ ca ∧ ca ≤ maxLen) (hlb : db.length ≤ cb ∧ cb ≤ maxLen)
    (hK : KindsAt w p ks) (hn : ∀ k ∈ ks, k.name.size ≤ maxLen) (hT : Tabs w) :
    Calls Tryd.prog 3 #[.string s, .agg #[.slice qa da.length ca, .slice qb db.length cb], .slice p ks.length c] w fun e w' => e = .returned (.bool true) ∧ Below w.heap.size w w' := by
  by_cases h1 : (s.size : Int) ≤ 3000
  · by_cases h2 : (ks.length : Int) ≤ 200
    · by_cases h3 : wrap64 ((da.length : Int) + (db.length : Int)) ≤ 300
      · exact dback_small s qa qb p ca cb c da db ks w h1 h2 h3 hda hdb hla hlb hK hn hT
      · exact dback_decks s qa qb p _ ca _ cb _ c w h1 h2 h3 hT
    · exact dback_kinds s qa qb p _ ca _ cb _ c w h1 h2 hT
  · exact dback_text s qa qb p _ ca _ cb _ c w h1 hT

set_option maxRecDepth 100000 in
theorem dback_lifted (os : Os) (started : os.Started) (H : Type) (enc : TypeId × Value → H) :
    ReturnsInHanded {} Tryd.checked os 3 .any (fun w args => (Rows.decksBackSpec.pre enc Tryd.prog Tryd.f3 [] false w args ∧ laidMetH Tryd.prog laidAll w) ∧ sizedMet enc Tryd.prog Tryd.f3 (OpenSpec.ofChange Rows.decksBackSpec) false w args)
      (Rows.decksBackSpec.post enc Tryd.prog Tryd.f3 false true false false) := by
  refine returnsInHanded_of_change_and (C := Tryd.checked) (X := fun w _ => laidMetH Tryd.prog laidAll w) (fun _ _ _ hh h => h.of_heap hh) own started (by kernel_rfl) Tryd.func3
    (ChangeSpec.witness_shaped (enc := enc) (C := Tryd.checked) (os := os) (X := fun w _ => laidMetH Tryd.prog laidAll w) false (World.laidAll Tryd.prog os laidAll) #[.string ⟨#[]⟩, .agg #[.slice none 0 0, .slice none 0 0], .slice none 0 0] 8 (World.laidAll_os _ _ _)
      (World.shaped_of_ZipB (by kernel_rfl) (by kernel_rfl)) (by kernel_rfl) (by kernel_rfl) (by kernel_rfl)
      (by rw [MakeChecks.laidMetH_plain _ _ _ (by kernel_rfl)]; exact laidMet_laidAll _ (by kernel_rfl) (by kernel_rfl))) ?_
  intro W base args ds gs before hval0 hW _ _ hL _
  have hval : ∀ (j : Nat) t v, Tryd.f3.params[j]? = some t → args[j]? = some v → Value.okWide Tryd.prog W .any base t v := hval0
  have hW' := hW
  obtain ⟨p, q, hA0, hV, rfl, _, _⟩ := hW
  have hA : DataW.TrodAll enc Tryd.prog W 0 (fun _ => true) true Tryd.f3.params.toList args.toList ds p := hA0
  rw [Tryd.params3] at hA hval
  obtain ⟨v0, v1, v2, d0, d1, d2, p0, p1, p2, rfl, rfl, rfl, h0, h1, h2⟩ := trodAll_three hA
  obtain ⟨rfl, rfl⟩ := trodVars_none hV
  have k0 := h0
  have k1 := h1
  have k2 := h2
  obtain ⟨s, rfl, rfl, rfl, hs⟩ := open_string Tryd.underlying9 (hval 0 9 v0 rfl rfl) h0
  obtain ⟨qa, qb, ca, cb, da, db, rfl, hla, hlb, hda, hdb⟩ := open_both (hval 1 23 v1 rfl rfl) h1
  obtain ⟨pk, c, ks, rfl, hkl, hK, hn⟩ := open_kinds (hval 2 24 v2 rfl rfl) h2
  simp only [List.append_nil] at hW'
  have hlt1 : ∀ x ∈ p1, x.block < W.heap.size := fun x hx => by simpa using hW'.lt x (by simp [hx])
  have hlt2 : ∀ x ∈ p2, x.block < W.heap.size := fun x hx => by simpa using hW'.lt x (by simp [hx])
  rw [MakeChecks.laidMetH_plain _ _ _ (by kernel_rfl)] at hL
  refine (dback_any s qa qb pk ca cb c da db ks W hda hdb hla hlb hK hn (tabs_of_laid hL)).mono fun e W' ⟨he, hb⟩ => ?_
  subst he
  refine ⟨_, rfl, _, _, _, [], [] ++ (p1 ++ p2), [], hW', trodAll_mk1 (shut_bool Tryd.underlying4 _), ?_, rfl, hb.frame _, fun h => by cases h⟩
  exact trodAll_mk3 (shut_string Tryd.underlying9 hs) (Below.trod (by kernel_rfl) (by kernel_rfl) (of_decide_eq_true (by kernel_rfl)) k1 hb hlt1) (Below.trod (by kernel_rfl) (by kernel_rfl) (of_decide_eq_true (by kernel_rfl)) k2 hb hlt2)

theorem dback_said : Rows.DecksBackSaid :=
  OpenClaim.holds_of_wide 3 Tryd.f3 rfl rfl rfl rfl rfl rfl rfl ⟨rfl, rfl, rfl, rfl, rfl⟩ rfl rfl rfl rfl rfl (by kernel_rfl) Tryd.func3 (by kernel_rfl)
    (of_decide_eq_true (by kernel_rfl)) (by unfold Func.isWrapper; first | (rw [if_pos (by decide +kernel)]; kernel_rfl) | (rw [if_neg (by decide +kernel)]; exact ⟨rfl, rfl⟩))
    (fun os started H enc _ => dback_lifted os started H enc)

theorem dback_holds : Rows.DecksBackCardSaid :=
  Claim7.holds_tied_plain_at .later [] _ _ _ _ dback_said (fun _ h => by cases h) (by kernel_rfl) (fun _ h => by cases h) decksBack_row_tie rfl ⟨rfl, rfl⟩ (by kernel_rfl) rfl
    (fun f fn hf hfn => by
      obtain rfl : f = 3 := Option.some.inj ((show Tryd.prog.funcNamed Rows.decksBackRow.func = some 3 by kernel_rfl).symm.trans hf) |>.symm
      obtain rfl : fn = Tryd.f3 := (Option.some.inj (Tryd.func3.symm.trans hfn)).symm
      exact ⟨by kernel_rfl, fun j t ht => by
        rw [Tryd.params3] at ht
        have hm : t ∈ [9, 23, 24] := by simpa using Array.mem_of_getElem? ht
        have hall : ([9, 23, 24].all fun u => !Tryd.prog.wantsStandIn u) = true := by kernel_rfl
        exact (show Tryd.prog.wantsStandIn t = false by simpa using List.all_eq_true.1 hall t hm)⟩)
    (by kernel_rfl)
#print axioms dback_holds
end Go.Proofs.YtanbkgifjlobgaaDoor
