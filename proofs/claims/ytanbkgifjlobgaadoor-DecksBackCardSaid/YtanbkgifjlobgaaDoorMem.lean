/- What scan.Tokens keeps in memory from rune to rune. -/
import Derived.Test.YtanbkgifjlobgaaDoorToksMath
import Derived.Deep.AppendLies
namespace Go.Proofs.YtanbkgifjlobgaaDoor
open Go.RowKit Go.Lib

theorem ownsRow_later {w w' : World} {base : Nat} {e : TypeId} {size : Nat} {v : Value} {n : Nat} {xs : List Value} (h : w.ownsRow base e size v n xs) (hb : Below w.heap.size w w') : w'.ownsRow base e size v n xs := by
  refine ⟨h.1, ?_⟩
  rcases h.2 with h0 | ⟨g, cap, cur, hv, hg, hh, r⟩
  · exact .inl h0
  · have hlt : g < w.heap.size := (Array.getElem?_eq_some_iff.1 hh).1
    exact .inr ⟨g, cap, cur, hv, hg, (hb.block g hlt).trans hh, r⟩
theorem ownsRow_base {w : World} {base base' : Nat} {e : TypeId} {size : Nat} {v : Value} {n : Nat} {xs : List Value} (h : w.ownsRow base e size v n xs) (hb : base' ≤ base) : w.ownsRow base' e size v n xs := by
  refine ⟨h.1, ?_⟩
  rcases h.2 with h0 | ⟨g, cap, cur, hv, hg, r⟩
  · exact .inl h0
  · exact .inr ⟨g, cap, cur, hv, Nat.le_trans hb hg, r⟩
/-- A write below the base. -/
theorem ownsRow_set {w : World} {base : Nat} {e : TypeId} {size : Nat} {v : Value} {n : Nat} {xs : List Value} (h : w.ownsRow base e size v n xs) {a : Addr} (ha : a.block < base) (u : Value) : (w.setCell a u).ownsRow base e size v n xs :=
  ownsRow_setCell_below h ha u
theorem heap_lt {w : World} {g : Nat} {o : Obj} (h : w.heap[g]? = some o) : g < w.heap.size := (Array.getElem?_eq_some_iff.1 h).1
theorem cell_blk {w : World} {g i : Nat} {t : TypeId} {cs : Array Value} {fz : Nat × Nat} (h : w.heap[g]? = some (.cells cs t fz)) : w.cell? ⟨g, i, none⟩ = cs[i]? := by
  simp [World.cell?, h]
theorem free_blk {w : World} {g i : Nat} {t : TypeId} {cs : Array Value} (h : w.heap[g]? = some (.cells cs t (0, 0))) : w.frozen? ⟨g, i, none⟩ = false := by
  simp [World.frozen?, h]
theorem heap_set {w : World} {g i : Nat} {t : TypeId} {cs : Array Value} (h : w.heap[g]? = some (.cells cs t (0, 0))) (u : Value) : (w.setCell ⟨g, i, none⟩ u).heap[g]? = some (.cells (cs.setIfInBounds i u) t (0, 0)) := by
  simp [World.setCell, Array.getElem?_modify, h]
theorem heap_set_far {w : World} {g : Nat} {a : Addr} (hne : g ≠ a.block) (u : Value) : (w.setCell a u).heap[g]? = w.heap[g]? := Below.heap_setCell w a u g hne

structure AtRune (w wr : World) (B H : Nat) (s : ByteArray) (pos : Nat) (here : Int × Int) (v : Value) (acc : List Tok) : Prop where
  fault : wr.heap[B]? = some (.cells #[.int .i64 0, .int .i64 0, .int .i64 0] 32 (0, 0))
  spot : wr.heap[H]? = some (.cells #[.int .i64 here.1, .int .i64 here.2] 30 (0, 0))
  iter : wr.heap[H + 1]? = some (.stringIter s pos)
  own : wr.ownsRow (H + 2) 57 4 v acc.length (toksCells acc)
  below : Below B w wr
  lt : B < H

section
variable {w wr wr' : World} {B H : Nat} {s : ByteArray} {pos : Nat} {here : Int × Int} {v : Value} {acc : List Tok}
theorem AtRune.size (h : AtRune w wr B H s pos here v acc) : H + 1 < wr.heap.size := heap_lt h.iter
theorem AtRune.next (h : AtRune w wr B H s pos here v acc) (pos' : Nat) : AtRune w (wr.iterAt (H + 1) s pos') B H s pos' here v acc := by
  have hl := h.lt
  refine ⟨?_, ?_, Lib.iterAt_heap _ _ _ _ _ h.iter, ownsRow_iterAt h.own (by omega) s pos', Lib.below_iterAt h.below (by omega) s pos', hl⟩
  · rw [Lib.iterAt_other _ _ _ _ _ (by omega)]; exact h.fault
  · rw [Lib.iterAt_other _ _ _ _ _ (by omega)]; exact h.spot
theorem AtRune.later (h : AtRune w wr B H s pos here v acc) (hb : Below wr.heap.size wr wr') : AtRune w wr' B H s pos here v acc := by
  have hl := h.lt
  have hz := h.size
  exact ⟨(hb.block _ (by omega)).trans h.fault, (hb.block _ (by omega)).trans h.spot, (hb.block _ (by omega)).trans h.iter, ownsRow_later h.own hb, h.below.trans (hb.mono (by omega)), hl⟩
theorem AtRune.drew (h : AtRune w wr B H s pos here v acc) : AtRune w wr.drew B H s pos here v acc := h.later (Below.refl _ _).drew
theorem AtRune.alloc (h : AtRune w wr B H s pos here v acc) (o : Obj) : AtRune w (wr.alloc o) B H s pos here v acc := h.later ((Below.refl _ _).alloc (Nat.le_refl _) _)
/-- Behind an append. -/
theorem AtRune.grown (h : AtRune w wr B H s pos here v acc) {v' : Value} {acc' : List Tok} (ho : wr'.ownsRow (H + 2) 57 4 v' acc'.length (toksCells acc')) (hg : wr.grownBy wr' v.ownBlock) : AtRune w wr' B H s pos here v' acc' := by
  have hl := h.lt
  have hz := h.size
  have hr : ∀ k, v.ownBlock = some k → H + 2 ≤ k := fun k hk => (h.own.lt k hk).1
  have hk : ∀ i, i < H + 2 → wr'.heap[i]? = wr.heap[i]? := fun i hi => hg.block i (by omega) (fun e => by have := hr _ e.symm; omega)
  exact ⟨(hk _ (by omega)).trans h.fault, (hk _ (by omega)).trans h.spot, (hk _ (by omega)).trans h.iter, ho, h.below.grown hg (by omega) (fun k hk => by have := hr k hk; omega), hl⟩
theorem AtRune.cells (h : AtRune w wr B H s pos here v acc) : wr.cell? ⟨H, 0, none⟩ = some (.int .i64 here.1) ∧ wr.cell? ⟨H, 1, none⟩ = some (.int .i64 here.2) ∧ wr.frozen? ⟨H, 0, none⟩ = false ∧ wr.frozen? ⟨H, 1, none⟩ = false :=
  ⟨by rw [cell_blk h.spot]; rfl, by rw [cell_blk h.spot]; rfl, free_blk h.spot, free_blk h.spot⟩
theorem AtRune.faults (h : AtRune w wr B H s pos here v acc) : wr.cell? ⟨B, 0, none⟩ = some (.int .i64 0) ∧ wr.cell? ⟨B, 1, none⟩ = some (.int .i64 0) ∧ wr.cell? ⟨B, 2, none⟩ = some (.int .i64 0) ∧
    wr.frozen? ⟨B, 0, none⟩ = false ∧ wr.frozen? ⟨B, 1, none⟩ = false ∧ wr.frozen? ⟨B, 2, none⟩ = false :=
  ⟨by rw [cell_blk h.fault]; rfl, by rw [cell_blk h.fault]; rfl, by rw [cell_blk h.fault]; rfl, free_blk h.fault, free_blk h.fault, free_blk h.fault⟩
/-- The spot is written anew. -/
theorem AtRune.set (h : AtRune w wr B H s pos here v acc) (l c : Int) : AtRune w ((wr.setCell ⟨H, 0, none⟩ (.int .i64 l)).setCell ⟨H, 1, none⟩ (.int .i64 c)) B H s pos (l, c) v acc := by
  have hl := h.lt
  refine ⟨?_, heap_set (heap_set h.spot _) _, ?_, ownsRow_set (ownsRow_set h.own (by simp) _) (by simp) _, (h.below.setCell (p := ⟨H, 0, none⟩) (by simp; omega) _).setCell (p := ⟨H, 1, none⟩) (by simp; omega) _, hl⟩
  · rw [heap_set_far (by simp; omega), heap_set_far (by simp; omega)]; exact h.fault
  · rw [heap_set_far (by simp), heap_set_far (by simp)]; exact h.iter
end
end Go.Proofs.YtanbkgifjlobgaaDoor
