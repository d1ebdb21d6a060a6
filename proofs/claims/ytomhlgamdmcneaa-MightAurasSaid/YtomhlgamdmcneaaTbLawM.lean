/- What MightAuras's law stands on: lists of pieces of which some are no more Up; a copy in a later world. -/
import Derived.Test.YtomhlgamdmcneaaTbDupTab
namespace Go.Proofs.Ytomhlgamdmcneaa
open Go.RowKit Go.Lib

theorem CameT.tab {w : World} {D : Nat} {t : Tb} {xs : List Cd} {ps : List Pc} {es : List Ev} (h : CameT w D t xs ps es) : TabIn w t xs ps := by
  refine ⟨⟨D, h.kinds.mono (by omega) fun _ _ k => k.any⟩, h.pieces.mono (by omega) fun _ _ k => k, ?_, ?_⟩
  · obtain ⟨q, c, -, -, hb, -⟩ := h.kinds
    omega
  · obtain ⟨q, c, -, -, hb, -⟩ := h.pieces
    omega
theorem CameT.few {w : World} {D : Nat} {t : Tb} {xs : List Cd} {ps : List Pc} {es : List Ev} (h : CameT w D t xs ps es) : FewIn xs := by
  obtain ⟨q, c, -, -, -, hx⟩ := h.kinds
  intro x hx0
  obtain ⟨i, hi⟩ := List.mem_iff_getElem?.1 hx0
  obtain ⟨-, -, -, cs, -, ⟨ve, -, -, hr⟩, -⟩ := hx i x hi
  obtain ⟨q2, c2, -, -, hb, hx2⟩ := hr
  refine ⟨by omega, fun e he => ?_⟩
  obtain ⟨j, hj⟩ := List.mem_iff_getElem?.1 he
  obtain ⟨-, -, -, cs2, -, ⟨vc, vs, -, -, hr2⟩, -⟩ := hx2 j e hj
  obtain ⟨q3, c3, -, -, hb3, -⟩ := hr2
  omega
theorem DupT.later {w' W : World} {B D : Nat} {t u : Tb} {xs : List Cd} {ps : List Pc} {g : Nat} (h : DupT w' B D t u xs ps g) (hb : Below w'.heap.size w' W) : DupT W B D t u xs ps g :=
  ⟨h.kinds.frame (CdD.frames D) fun k hk hl => ⟨hk, hb.block k hl⟩, h.nk, h.np, h.new, fun h0 => by
    obtain ⟨e, tail, hg⟩ := h.pcs h0
    exact ⟨e, tail, (hb.block _ (heap_lt hg)).trans hg⟩, h.rest⟩

/-- The pieces of which the first k are no more Up. -/
def downK (ps : List Pc) (k : Nat) : List Pc := (ps.take k).map bareP ++ ps.drop k
theorem downK_zero (ps : List Pc) : downK ps 0 = ps := by simp [downK]
theorem downK_all (ps : List Pc) : downK ps ps.length = ps.map bareP := by simp [downK]
theorem downK_len (ps : List Pc) (k : Nat) : (downK ps k).length = ps.length := by simp [downK]; omega
theorem downK_at {ps : List Pc} {k : Nat} {p : Pc} (h : ps[k]? = some p) : (downK ps k)[k]? = some p := by
  have hl := (List.getElem?_eq_some_iff.1 h).1
  unfold downK
  rw [List.getElem?_append_right (by simp; omega)]
  simp [Nat.min_eq_left (Nat.le_of_lt hl), h]
theorem downK_step {ps : List Pc} {k : Nat} {p : Pc} (h : ps[k]? = some p) : (downK ps k).set k { p with up := false } = downK ps (k + 1) := by
  have hl := (List.getElem?_eq_some_iff.1 h).1
  have hp : ps[k] = p := (List.getElem?_eq_some_iff.1 h).2
  unfold downK
  rw [List.set_append_right _ _ (by simp; omega), List.take_add_one, h, List.map_append, List.append_assoc]
  congr 1
  have e : k - ((ps.take k).map bareP).length = 0 := by simp; omega
  rw [e, List.drop_eq_getElem_cons hl, List.set_cons_zero]
  rfl
theorem bare_map (ps : List Pc) : (ps.map bareP).map bareP = ps.map bareP := by
  rw [List.map_map]
  exact List.map_congr_left fun p _ => rfl
theorem set_bare {ps : List Pc} {o : Nat} {q : Pc} (h : ps[o]? = some q) (b : Bool) : (ps.set o { q with up := b }).map bareP = ps.map bareP := by
  have hl := (List.getElem?_eq_some_iff.1 h).1
  have hp : ps[o] = q := (List.getElem?_eq_some_iff.1 h).2
  rw [List.map_set, show bareP { q with up := b } = (ps.map bareP)[o]'(by simpa using hl) by rw [List.getElem_map, hp]; rfl, List.set_getElem_self]
theorem set_upge {ps : List Pc} {o : Nat} {q : Pc} (h : ps[o]? = some q) : UpGe ps (ps.set o { q with up := true }) := by
  refine ⟨List.length_set, fun i p hi => ?_⟩
  have hl := (List.getElem?_eq_some_iff.1 h).1
  by_cases e : o = i
  · subst e
    rw [h] at hi
    cases hi
    exact ⟨{ q with up := true }, by rw [List.getElem?_set_self hl], rfl, fun _ => rfl⟩
  · exact ⟨p, by rw [List.getElem?_set_ne e]; exact hi, rfl, id⟩
end Go.Proofs.Ytomhlgamdmcneaa
