/- A table's copy is a table of the same lists. -/
import Derived.Test.YtomhlgamdmcneaaTbDup
import Derived.Test.YtomhlgamdmcneaaTbGreat
namespace Go.Proofs.Ytomhlgamdmcneaa
open Go.RowKit Go.Lib

theorem pcs_block {w : World} {g cap : Nat} {ps : List Pc} {tail : Array Value} {ty : TypeId} (hb : w.heap[g]? = some (.cells ((ps.map pcV).flatten.toArray ++ tail) ty (0, 0))) (h1 : ps.length ≤ maxLen) : RowIn w 14 0 PcIn (.slice (some ⟨g, 0, none⟩) ps.length cap) ps := by
  refine ⟨_, _, rfl, h1, by omega, fun i x hx => ?_⟩
  refine ⟨g, 0, rfl, pcV x, rfl, rfl, fun j u hu => ?_⟩
  have hj : j < 14 := (List.getElem?_eq_some_iff.1 hu).1
  have hf := flat_get (size := 14) (ps.map pcV) (fun c hc => by obtain ⟨p, -, rfl⟩ := List.mem_map.1 hc; rfl) i j (pcV x) (by simp [hx]) hj
  rw [hu] at hf
  have hl := (List.getElem?_eq_some_iff.1 hf).1
  rw [cell_blk hb, Nat.zero_add, Array.getElem?_append_left (by simpa using hl), List.getElem?_toArray]
  exact hf
theorem DupT.tab {w' : World} {B D : Nat} {t u : Tb} {xs : List Cd} {ps : List Pc} {g : Nat} (h : DupT w' B D t u xs ps g) (h1 : xs.length ≤ 140737488355328) (h2 : ps.length ≤ 140737488355328) : TabIn w' u xs ps := by
  refine ⟨⟨D + 1, ?_⟩, ?_, h1, h2⟩
  · rw [h.nk]
    exact CdD.toIn h.kinds
  · rw [h.np]
    by_cases h0 : ps.length = 0
    · obtain rfl := List.length_eq_zero_iff.1 h0
      exact RowIn.nil _ _ _ _ _ _
    · obtain ⟨e, tail, hb⟩ := h.pcs h0
      rw [e]
      exact pcs_block hb (by unfold maxLen; omega)

theorem flat_put {size : Nat} {v : Value} : ∀ (css : List (List Value)), (∀ c ∈ css, c.length = size) → ∀ (i j : Nat) (c : List Value), css[i]? = some c → j < size → css.flatten.set (i * size + j) v = (css.set i (c.set j v)).flatten
  | [], _, i, j, c, h, _ => by simp at h
  | d :: l, hs, 0, j, c, h, hj => by
    simp at h; subst h
    have hd := hs d List.mem_cons_self
    rw [Nat.zero_mul, Nat.zero_add, List.flatten_cons, List.set_cons_zero, List.flatten_cons, List.set_append_left _ _ (by omega)]
  | d :: l, hs, i + 1, j, c, h, hj => by
    have hd := hs d List.mem_cons_self
    have ih := flat_put (v := v) l (fun c hc => hs c (List.mem_cons_of_mem _ hc)) i j c (by simpa using h) hj
    rw [List.flatten_cons, List.set_cons_succ, List.flatten_cons, ← ih, List.set_append_right _ _ (by rw [hd, Nat.succ_mul]; omega)]
    congr 2
    rw [hd, Nat.succ_mul]
    omega
/-- A piece's Up is written. -/
theorem DupT.set {w' : World} {B D : Nat} {t u : Tb} {xs : List Cd} {ps : List Pc} {g : Nat} (h : DupT w' B D t u xs ps g) {i : Nat} {p : Pc} (hi : ps[i]? = some p) (b : Bool) :
    DupT (w'.setCell ⟨g, i * 14 + 7, none⟩ (.bool b)) B D t u xs (ps.set i { p with up := b }) g := by
  have hil := (List.getElem?_eq_some_iff.1 hi).1
  refine ⟨h.kinds.frame (CdD.frames D) fun k hk hl => ⟨hk, set_other hk.2⟩, h.nk, by rw [List.length_set]; exact h.np, h.new, fun h0 => ?_, h.rest⟩
  rw [List.length_set] at h0
  obtain ⟨e, tail, hb⟩ := h.pcs h0
  refine ⟨e, tail, ?_⟩
  rw [set_same hb]
  have hs : ∀ c ∈ ps.map pcV, c.length = 14 := fun c hc => by obtain ⟨p, -, rfl⟩ := List.mem_map.1 hc; rfl
  have hf := flat_get (size := 14) (ps.map pcV) hs i 7 (pcV p) (by simp [hi]) (by omega)
  have hl : i * 14 + 7 < (ps.map pcV).flatten.length := (List.getElem?_eq_some_iff.1 (hf.trans (show (pcV p)[7]? = some (.bool p.up) from rfl))).1
  have e2 : (((ps.map pcV).flatten.toArray ++ tail).setIfInBounds (i * 14 + 7) (.bool b)) = ((ps.set i { p with up := b }).map pcV).flatten.toArray ++ tail := by
    apply Array.ext'
    have hp := flat_put (v := .bool b) (ps.map pcV) hs i 7 (pcV p) (by simp [hi]) (by omega)
    rw [show (pcV p).set 7 (.bool b) = pcV { p with up := b } from rfl, ← List.map_set] at hp
    rw [Array.toList_setIfInBounds, Array.toList_append, Array.toList_append, List.toList_toArray, List.toList_toArray, List.set_append_left _ _ hl, hp]
  rw [e2]
end Go.Proofs.Ytomhlgamdmcneaa
