import Derived.Test.YtmhpopkbmnhkkaaGreatDoorQRpStep
import Derived.Test.YtmhpopkbmnhkkaaGreatDoorQParEff
/- joustref02: one more of a list that a struct's field holds. -/
namespace Go.Proofs.YtmhpopkbmnhkkaaGreatDoor
open Go.RowKit Go.Lib

/-- One more of a row, whose slice is written elsewhere. -/
theorem row_more {α : Type} {P : World → (Nat → Prop) → List Value → α → Prop} (hP : Frames P) {ty : TypeId} {size R X B g cap b i : Nat} {Wb w5 w6 : World} {v u : Value} {xs : List α} {css : List (List Value)} {x1 : α} {c1 : List Value} (hR : R < X) (hX : X < B) (hB : B ≤ Wb.heap.size)
    (hrow : RowOf Wb (From B) ty size P v xs css) (k3 : Kept R Wb w5) (hx1 : P w5 (From Wb.heap.size) c1 x1) (hc : c1.length = size) (hone : ∀ u ∈ c1, u.oneCell' = true)
    (hown : w6.ownsRow b ty size (.slice (some ⟨g, 0, none⟩) (xs.length + 1) cap) (xs.length + 1) (css.flatten ++ c1))
    (hgr : (w5.alloc (.cells c1.toArray ty)).grownBy w6 v.ownBlock) (hat : v.ownBlock = some g ∨ g = w5.heap.size + 1) :
    RowOf (w6.setCell ⟨X, i, none⟩ u) (From B) ty size P (.slice (some ⟨g, 0, none⟩) (xs.length + 1) cap) (xs ++ [x1]) (css ++ [c1]) := by
  have hown0 := hrow.own
  have h5 : RowOf (w5.alloc (.cells c1.toArray ty)) (From B) ty size P v xs css :=
    hrow.frame hP fun i hi hl => ⟨hi, (Below.heap_alloc _ _ _ (Nat.lt_of_lt_of_le hl k3.size)).trans (k3.block i hl (by unfold From at hi; omega))⟩
  have h6 := RowOf.snoc hP h5 (x := x1) (c := c1) (Sx := From Wb.heap.size) hc hone
    (hP _ _ _ _ _ _ hx1 fun i hi hl => ⟨hi, Below.heap_alloc _ _ _ hl⟩) (fun i hi _ => ⟨by unfold From at *; omega, fun e => by have := (hown0.lt i e).2; unfold From at hi; omega⟩) (H := w5.heap.size + 1) (by simp) (by have := k3.size; unfold From; omega) hown hgr hat
  exact h6.frame hP fun i hi hl => ⟨hi, heap_set_far (by unfold From at hi; simp; omega) u⟩

section
variable {α : Type} {P : World → (Nat → Prop) → List Value → α → Prop} {E : REnv} {w Wb w5 w6 : World} {s2 s3 : RS} {T ty : TypeId} {z x : Array Value} {size X B g cap b i : Nat} {v : Value} {xs : List α} {css : List (List Value)} {x1 : α} {c1 : List Value}
theorem Mid.more (m : Mid E w Wb s2 T z X x) (he : REnvAt w E ∧ E.R < w.heap.size) (hP : Frames P) (hX : X < B) (hB : B ≤ Wb.heap.size) (g5 : RGoes Wb E s3 w5)
    (hrow : RowOf Wb (From B) ty size P v xs css) (hx1 : P w5 (From Wb.heap.size) c1 x1) (hc : c1.length = size) (hone : ∀ u ∈ c1, u.oneCell' = true)
    (hown : w6.ownsRow b ty size (.slice (some ⟨g, 0, none⟩) (xs.length + 1) cap) (xs.length + 1) (css.flatten ++ c1))
    (hgr : (w5.alloc (.cells c1.toArray ty)).grownBy w6 v.ownBlock) (hat : v.ownBlock = some g ∨ g = w5.heap.size + 1) (i : Nat) :
    Mid E w (w6.setCell ⟨X, i, none⟩ (.slice (some ⟨g, 0, none⟩) (xs.length + 1) cap)) s3 T z X (x.setIfInBounds i (.slice (some ⟨g, 0, none⟩) (xs.length + 1) cap)) ∧
    RowAt (w6.setCell ⟨X, i, none⟩ (.slice (some ⟨g, 0, none⟩) (xs.length + 1) cap)) (From B) ty size P (.slice (some ⟨g, 0, none⟩) (xs.length + 1) cap) (xs ++ [x1]) := by
  have hbk : ∀ i, v.ownBlock = some i → B ≤ i := fun i hi => hrow.blk i hi
  have hgt := m.gt
  have hR := he.2
  have m5 := (m.call he g5).alloc (.cells c1.toArray ty)
  have g6 := m5.goes.grown he hgr (fun i hi => by have := hbk i hi; omega)
  have m6 : Mid E w w6 s3 T z X x := ⟨g6, (hgr.block _ (heap_lt m5.res) (fun e => by have := hbk _ e.symm; omega)).trans m5.res, (hgr.block _ (heap_lt m5.loc) (fun e => by have := hbk _ e.symm; omega)).trans m5.loc, hgt⟩
  exact ⟨m6.set he _ _, _, row_more hP (by omega) hX hB hrow g5.kept hx1 hc hone hown hgr hat⟩
theorem Mid.drewM {W : World} {s : RS} (h : Mid E w W s T z X x) : Mid E w W.drew s T z X x := ⟨h.goes.drew, h.res, h.loc, h.gt⟩
/-- Another row, of elder blocks, stays. -/
theorem row_beside {β : Type} {Q : World → (Nat → Prop) → List Value → β → Prop} (hQ : Frames Q) {ty' : TypeId} {size' R B0 : Nat} {v' u : Value} {ys : List β} (h : RowAt Wb (fun k => B0 ≤ k ∧ k < B) ty' size' Q v' ys) (hR : R < B0) (hX : X < B0) (hB : B ≤ Wb.heap.size)
    (k3 : Kept R Wb w5) (hv : ∀ i, v.ownBlock = some i → B ≤ i) (hgr : (w5.alloc (.cells c1.toArray ty)).grownBy w6 v.ownBlock) (i : Nat) : RowAt (w6.setCell ⟨X, i, none⟩ u) (fun k => B0 ≤ k ∧ k < B) ty' size' Q v' ys :=
  h.frame hQ fun k hk hl => ⟨hk, by
    have := k3.size
    rw [heap_set_far (by simp; omega), hgr.block k (by simp; omega) (fun e => by have := hv _ e.symm; omega), Below.heap_alloc _ _ _ (by omega), k3.block k hl (by omega)]⟩
theorem row_kept {β : Type} {Q : World → (Nat → Prop) → List Value → β → Prop} (hQ : Frames Q) {S : Nat → Prop} {ty' : TypeId} {size' R : Nat} {v' : Value} {ys : List β} {w w' : World} (h : RowAt w S ty' size' Q v' ys) (k : Kept R w w') (hS : ∀ i, S i → i ≠ R) : RowAt w' S ty' size' Q v' ys :=
  h.frame hQ fun i hi hl => ⟨hi, k.block i hl (hS i hi)⟩
theorem row_below {β : Type} {Q : World → (Nat → Prop) → List Value → β → Prop} (hQ : Frames Q) {S : Nat → Prop} {ty' : TypeId} {size' : Nat} {v' : Value} {ys : List β} {w w' : World} (h : RowAt w S ty' size' Q v' ys) (k : Below w.heap.size w w') : RowAt w' S ty' size' Q v' ys :=
  h.frame hQ fun i hi hl => ⟨hi, k.block i hl⟩
theorem row_set {β : Type} {Q : World → (Nat → Prop) → List Value → β → Prop} (hQ : Frames Q) {S : Nat → Prop} {ty' : TypeId} {size' : Nat} {v' : Value} {ys : List β} {w : World} {a : Addr} {u : Value} (h : RowAt w S ty' size' Q v' ys) (hS : ∀ i, S i → i ≠ a.block) : RowAt (w.setCell a u) S ty' size' Q v' ys :=
  h.frame hQ fun i hi _ => ⟨hi, heap_set_far (hS i hi) u⟩
end

def cellLen (w : World) (a : Addr) : Nat := match w.cell? a with
  | some v => lenV v
  | none => 0
theorem cellLen_of {w : World} {a : Addr} {p : Option Addr} {n c : Nat} (h : w.cell? a = some (.slice p n c)) : cellLen w a = n := by unfold cellLen; rw [h]; rfl

def RSkipEnds (E : REnv) (s : RS) (tx : ByteArray) (w : World) (e : Ending) (w' : World) : Prop := ∃ (b : Bool) (s' : RS), e = .returned (.bool b) ∧ Res (pSkip E.ts tx) s b s' ∧ RGoes w E s' w'
theorem rskip_any (E : REnv) (s : RS) (w : World) (tx : ByteArray) (hw : wordy tx = true) (h : RR w E s) :
    Calls Tryz.prog 83 #[.pointer (some ⟨E.R, 0, none⟩), .string tx] w (RSkipEnds E s tx w) := by
  cases hb : sees E s tx with
  | true =>
    obtain ⟨p, rfl, ht⟩ := sees_yes hb
    exact (rmay_any E _ w tx true hw hb h).mono fun e w' ⟨he, g⟩ => ⟨true, .ok (p + 1), he, Res.of_ok (by simp [pSkip, ht]), g⟩
  | false =>
    refine (rmay_any E _ w tx false hw hb h).mono fun e w' ⟨he, g⟩ => ⟨false, s, he, ?_, ?_⟩
    · cases s with
      | ok p => exact Res.of_ok (by have h' := sees_no hb; simp [pSkip, h'])
      | bad x l c => rfl
    · have hs : s.step false = s := by cases s <;> rfl
      rw [hs] at g; exact g
end Go.Proofs.YtmhpopkbmnhkkaaGreatDoor
