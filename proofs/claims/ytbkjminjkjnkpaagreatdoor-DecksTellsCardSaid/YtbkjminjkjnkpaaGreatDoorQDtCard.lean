/-
  For every text, decks and kinds joustlaw05.DecksTells answers true: what decks.Read and decks.Write answer is what the document's own reader and writer answer, of whatever kinds; what is handed in stays. Conditions: none beside the row's own (Go's tables lie as the program lays them; what comes in fits together in memory).
-/
import Derived.Test.YtbkjminjkjnkpaaGreatDoorQDtLaw
import Derived.Test.YtbkjminjkjnkpaaGreatDoorQDkArgs
import Derived.Test.YtbkjminjkjnkpaaGreatDoorQDtClose

namespace Go.Proofs.YtbkjminjkjnkpaaGreatDoor
open Go.RowKit Go.Shelf Go.Lib
open Go.ChangeShapes Go.WideShapes Go.ChangeAt
open Go.ChangeMaps (open_string shut_string)

theorem dt_any (s : ByteArray) (qa qb p : Option Addr) (ca cb c D : Nat) (da db : List Int) (xs : List Cd) (w : World) (hda : IntsAt w qa da) (hdb : IntsAt w qb db) (hla : da.length ≤ ca ∧ ca ≤ maxLen) (hlb : db.length ≤ cb ∧ cb ≤ maxLen)
    (hR : RowIn w 6 72 (CdIn 1 D) (.slice p xs.length c) xs) (hT : Tabs w) :
    Calls Tryz.prog 3 #[.string s, .agg #[.slice qa da.length ca, .slice qb db.length cb], .slice p xs.length c] w fun e w' => e = .returned (.bool true) ∧ Below w.heap.size w w' := by
  by_cases h1 : (s.size : Int) ≤ 3000
  · by_cases h2 : (xs.length : Int) ≤ 200
    · by_cases h3 : wrap64 ((da.length : Int) + (db.length : Int)) ≤ 300
      · exact dt_small s qa qb p ca cb c D da db xs w h1 h2 h3 hda hdb hla hlb hR hT
      · exact dt_decks s qa qb p _ ca _ cb _ c w h1 h2 h3 hT
    · exact dt_kinds s qa qb p _ ca _ cb _ c w h1 h2 hT
  · exact dt_text s qa qb p _ ca _ cb _ c w h1 hT

theorem light_of {H : Type} {P : Program} {ts : List TypeId} {ds : List (DataW H)} (h : (DataW.weightsEach P ts ds).all (· ≤ reachBytes) = true) {j : Nat} {t : TypeId} {d : DataW H} (ht : ts[j]? = some t) (hd : ds[j]? = some d) : Light P t d := fun n hn => by
  have := of_decide_eq_true (List.all_eq_true.1 h n (DataW.weights_mem_each ht hd n hn))
  exact Nat.le_trans this (by decide)

set_option maxRecDepth 100000 in
theorem dt_lifted (os : Os) (started : os.Started) (H : Type) (enc : TypeId × Value → H) :
    ReturnsInHanded {} Tryz.checked os 3 .any (fun w args => (Rows.decksTellsSpec.pre enc Tryz.prog Tryz.f3 [] false w args ∧ laidMetH Tryz.prog laidAll w) ∧ sizedMet enc Tryz.prog Tryz.f3 (OpenSpec.ofChange Rows.decksTellsSpec) false w args)
      (Rows.decksTellsSpec.post enc Tryz.prog Tryz.f3 false true false false) := by
  refine returnsInHanded_of_change_and (C := Tryz.checked) (X := fun w _ => laidMetH Tryz.prog laidAll w) (fun _ _ _ hh h => h.of_heap hh) own started (by kernel_rfl) Tryz.func3
    (ChangeSpec.witness_shaped (enc := enc) (C := Tryz.checked) (os := os) (X := fun w _ => laidMetH Tryz.prog laidAll w) false (World.laidAll Tryz.prog os laidAll) #[.string ⟨#[]⟩, .agg #[.slice none 0 0, .slice none 0 0], .slice none 0 0] 8 (World.laidAll_os _ _ _)
      (World.shaped_of_ZipB (by kernel_rfl) (by kernel_rfl)) (by kernel_rfl) (by kernel_rfl) (by kernel_rfl)
      (by rw [MakeChecks.laidMetH_plain _ _ _ (by kernel_rfl)]; exact laidMet_laidAll _ (by kernel_rfl) (by kernel_rfl))) ?_
  intro W base args ds gs before hval0 hW _ hSz hL _
  have hval : ∀ (j : Nat) t v, Tryz.f3.params[j]? = some t → args[j]? = some v → Value.okWide Tryz.prog W .any base t v := hval0
  have hW' := hW
  obtain ⟨p, q, hA0, hV, rfl, _, _⟩ := hW
  have hA : DataW.TrodAll enc Tryz.prog W 0 (fun _ => true) true Tryz.f3.params.toList args.toList ds p := hA0
  rw [Tryz.params3] at hA hval
  obtain ⟨v0, v1, v2, d0, d1, d2, p0, p1, p2, rfl, rfl, rfl, h0, h1, h2⟩ := trodAll_three hA
  obtain ⟨rfl, rfl⟩ := trodVars_none hV
  have k0 := h0
  have k1 := h1
  have k2 := h2
  obtain ⟨s, rfl, rfl, rfl, hs⟩ := open_string Tryz.underlying9 (hval 0 9 v0 rfl rfl) h0
  obtain ⟨qa, qb, ca, cb, da, db, rfl, hla, hlb, hda, hdb⟩ := open_both (hval 1 23 v1 rfl rfl) h1
  obtain ⟨a0, n0, c0, hs0⟩ := okWide_slice Tryz.underlying24 (hval 2 24 v2 rfl rfl)
  obtain ⟨D, xs, hRow⟩ := rd_cards ⟨a0, n0, c0, hs0⟩ h2 (light_of (j := 2) hSz (by rw [Tryz.params3]; rfl) rfl)
  obtain ⟨pk, c, rfl, -⟩ := id hRow
  simp only [List.append_nil] at hW'
  have hlt1 : ∀ x ∈ p1, x.block < W.heap.size := fun x hx => by simpa using hW'.lt x (by simp [hx])
  have hlt2 : ∀ x ∈ p2, x.block < W.heap.size := fun x hx => by simpa using hW'.lt x (by simp [hx])
  rw [MakeChecks.laidMetH_plain _ _ _ (by kernel_rfl)] at hL
  refine (dt_any s qa qb pk ca cb c D da db xs W hda hdb hla hlb hRow (tabs_of_laid hL)).mono fun e W' ⟨he, hb⟩ => ?_
  subst he
  refine ⟨_, rfl, _, _, _, [], [] ++ (p1 ++ p2), [], hW', trodAll_mk1 (shut_bool Tryz.underlying4 _), ?_, rfl, hb.frame _, fun h => by cases h⟩
  exact trodAll_mk3 (shut_string Tryz.underlying9 hs) (Below.trod (by kernel_rfl) (by kernel_rfl) (of_decide_eq_true (by kernel_rfl)) k1 hb hlt1) (Below.trod (by kernel_rfl) (by kernel_rfl) (of_decide_eq_true (by kernel_rfl)) k2 hb hlt2)

theorem dt_said : Rows.DecksTellsSaid :=
  OpenClaim.holds_of_wide 3 Tryz.f3 rfl rfl rfl rfl rfl rfl rfl ⟨rfl, rfl, rfl, rfl, rfl⟩ rfl rfl rfl rfl rfl (by kernel_rfl) Tryz.func3 (by kernel_rfl)
    (of_decide_eq_true (by kernel_rfl)) (by unfold Func.isWrapper; first | (rw [if_pos (by decide +kernel)]; kernel_rfl) | (rw [if_neg (by decide +kernel)]; exact ⟨rfl, rfl⟩))
    (fun os started H enc _ => dt_lifted os started H enc)

theorem dt_holds : Rows.DecksTellsCardSaid :=
  Claim7.holds_tied_plain_at .later [] _ _ _ _ dt_said (fun _ h => by cases h) (by kernel_rfl) (fun _ h => by cases h) decksTells_row_tie rfl ⟨rfl, rfl⟩ (by kernel_rfl) rfl
    (fun f fn hf hfn => by
      obtain rfl : f = 3 := Option.some.inj ((show Tryz.prog.funcNamed Rows.decksTellsRow.func = some 3 by kernel_rfl).symm.trans hf) |>.symm
      obtain rfl : fn = Tryz.f3 := (Option.some.inj (Tryz.func3.symm.trans hfn)).symm
      exact ⟨by kernel_rfl, fun j t ht => by
        rw [Tryz.params3] at ht
        have hm : t ∈ [9, 23, 24] := by simpa using Array.mem_of_getElem? ht
        have hall : ([9, 23, 24].all fun u => !Tryz.prog.wantsStandIn u) = true := by kernel_rfl
        exact (show Tryz.prog.wantsStandIn t = false by simpa using List.all_eq_true.1 hall t hm)⟩)
    (by kernel_rfl)
#print axioms dt_holds
end Go.Proofs.YtbkjminjkjnkpaaGreatDoor
