/- Cards of any depth that came in: how they lie, cell by cell; and how a copy of them does. -/
import Derived.Test.YtppgfkdkopfebaaTbRows
namespace Go.Proofs.Ytppgfkdkopfebaa
open Go.RowKit Go.Lib

/-- What is told of one thing's cells stays true while old memory does. -/
def Stays {α : Type} (P : World → List Value → α → Prop) : Prop := ∀ w w' c x, P w c x → Below w.heap.size w w' → P w' c x
/-- A slice's things, cell by cell, wherever they lie; of so many bytes each as fit together. -/
def RowIn {α : Type} (w : World) (size B : Nat) (P : World → List Value → α → Prop) (v : Value) (xs : List α) : Prop :=
  ∃ q c, v = .slice q xs.length c ∧ xs.length ≤ maxLen ∧ xs.length * B ≤ 140737488351232 ∧ ∀ i x, xs[i]? = some x → ∃ g o, q = some ⟨g, o, none⟩ ∧ ∃ cs, cs.length = size ∧ P w cs x ∧ ∀ j u, cs[j]? = some u → w.cell? ⟨g, o + i * size + j, none⟩ = some u
section
variable {α : Type} {w w' : World} {size B : Nat} {P P' : World → List Value → α → Prop} {v : Value} {xs : List α}
theorem RowIn.below (hP : Stays P) (h : RowIn w size B P v xs) (hb : Below w.heap.size w w') : RowIn w' size B P v xs := by
  obtain ⟨q, c, hv, hl, hm, h⟩ := h
  refine ⟨q, c, hv, hl, hm, fun i x hx => ?_⟩
  obtain ⟨g, o, hq, cs, hs, hp, hc⟩ := h i x hx
  exact ⟨g, o, hq, cs, hs, hP _ _ _ _ hp hb, fun j u hu => (hb.cell (World.block_lt_of_cell? _ _ (hc j u hu))).trans (hc j u hu)⟩
theorem RowIn.mono {C : Nat} (hC : C ≤ B) (hP : ∀ c x, P w c x → P' w c x) (h : RowIn w size B P v xs) : RowIn w size C P' v xs := by
  obtain ⟨q, c, hv, hl, hm, h⟩ := h
  refine ⟨q, c, hv, hl, Nat.le_trans (Nat.mul_le_mul_left _ hC) hm, fun i x hx => ?_⟩
  obtain ⟨g, o, hq, cs, hs, hp, hc⟩ := h i x hx
  exact ⟨g, o, hq, cs, hs, hP _ _ hp, hc⟩
theorem RowIn.nil (w : World) (size B : Nat) (P : World → List Value → α → Prop) (q : Option Addr) (c : Nat) : RowIn w size B P (.slice q 0 c) ([] : List α) := ⟨q, c, rfl, Nat.zero_le _, by simp, fun i x h => by simp at h⟩
end

/-- An expression's cells, less deep than so. (f: whether its lists are of so many bytes as fit.) -/
def ExIn (f : Nat) : Nat → World → List Value → Ex → Prop
  | 0, _, _, _ => False
  | d + 1, w, c, x => ∃ va, c = exV x va ∧ RowIn w 7 (48 * f) (ExIn f d) va x.args
def StIn (f d : Nat) (w : World) (c : List Value) (x : St) : Prop := ∃ ce, c = stV x ce ∧ ExIn f d w ce x.n
def EfIn (f d : Nat) (w : World) (c : List Value) (x : Ef) : Prop := ∃ vc vs, c = efV x vc vs ∧ RowIn w 7 (48 * f) (ExIn f d) vc x.cond ∧ RowIn w 13 (64 * f) (StIn f d) vs x.steps
def CdIn (f d : Nat) (w : World) (c : List Value) (x : Cd) : Prop := ∃ ve, c = cdV x ve ∧ x.name.size ≤ maxLen ∧ RowIn w 12 (96 * f) (EfIn f d) ve x.effects
theorem ExIn.stays (f : Nat) : ∀ d, Stays (ExIn f d)
  | 0 => fun _ _ _ _ h _ => h
  | d + 1 => fun _ _ _ _ ⟨va, hc, hr⟩ hb => ⟨va, hc, hr.below (ExIn.stays f d) hb⟩
theorem StIn.stays (f d : Nat) : Stays (StIn f d) := fun _ _ _ _ ⟨ce, hc, he⟩ hb => ⟨ce, hc, ExIn.stays f d _ _ _ _ he hb⟩
theorem EfIn.stays (f d : Nat) : Stays (EfIn f d) := fun _ _ _ _ ⟨vc, vs, hc, h1, h2⟩ hb => ⟨vc, vs, hc, h1.below (ExIn.stays f d) hb, h2.below (StIn.stays f d) hb⟩
theorem CdIn.stays (f d : Nat) : Stays (CdIn f d) := fun _ _ _ _ ⟨ve, hc, hn, h⟩ hb => ⟨ve, hc, hn, h.below (EfIn.stays f d) hb⟩
theorem ExIn.succ {f : Nat} : ∀ (d : Nat) (w : World) (c : List Value) (x : Ex), ExIn f d w c x → ExIn f (d + 1) w c x
  | 0, _, _, _, h => h.elim
  | d + 1, w, _, _, ⟨va, hc, hr⟩ => ⟨va, hc, hr.mono (Nat.le_refl _) fun c x => ExIn.succ d w c x⟩
theorem ExIn.up {f d e : Nat} (h : d ≤ e) {w : World} {c : List Value} {x : Ex} (hx : ExIn f d w c x) : ExIn f e w c x := by
  induction h with
  | refl => exact hx
  | step _ ih => exact ExIn.succ _ _ _ _ ih
theorem StIn.up {f d e : Nat} (h : d ≤ e) {w : World} {c : List Value} {x : St} (hx : StIn f d w c x) : StIn f e w c x := by
  obtain ⟨ce, hc, he⟩ := hx
  exact ⟨ce, hc, he.up h⟩
theorem EfIn.up {f d e : Nat} (h : d ≤ e) {w : World} {c : List Value} {x : Ef} (hx : EfIn f d w c x) : EfIn f e w c x := by
  obtain ⟨vc, vs, hc, h1, h2⟩ := hx
  exact ⟨vc, vs, hc, h1.mono (Nat.le_refl _) fun _ _ k => k.up h, h2.mono (Nat.le_refl _) fun _ _ k => k.up h⟩
theorem CdIn.up {f d e : Nat} (h : d ≤ e) {w : World} {c : List Value} {x : Cd} (hx : CdIn f d w c x) : CdIn f e w c x := by
  obtain ⟨ve, hc, hn, h1⟩ := hx
  exact ⟨ve, hc, hn, h1.mono (Nat.le_refl _) fun _ _ k => k.up h⟩
theorem ExIn.any : ∀ (d f : Nat) (w : World) (c : List Value) (x : Ex), ExIn f d w c x → ExIn 0 d w c x
  | 0, _, _, _, _, h => h.elim
  | d + 1, f, w, _, _, ⟨va, hc, hr⟩ => ⟨va, hc, hr.mono (by omega) fun c x => ExIn.any d f w c x⟩
theorem StIn.any {f d : Nat} {w : World} {c : List Value} {x : St} (h : StIn f d w c x) : StIn 0 d w c x := by
  obtain ⟨ce, hc, he⟩ := h
  exact ⟨ce, hc, ExIn.any _ _ _ _ _ he⟩
theorem EfIn.any {f d : Nat} {w : World} {c : List Value} {x : Ef} (h : EfIn f d w c x) : EfIn 0 d w c x := by
  obtain ⟨vc, vs, hc, h1, h2⟩ := h
  exact ⟨vc, vs, hc, h1.mono (by omega) fun _ _ k => ExIn.any _ _ _ _ _ k, h2.mono (by omega) fun _ _ k => k.any⟩
theorem CdIn.any {f d : Nat} {w : World} {c : List Value} {x : Cd} (h : CdIn f d w c x) : CdIn 0 d w c x := by
  obtain ⟨ve, hc, hn, h1⟩ := h
  exact ⟨ve, hc, hn, h1.mono (by omega) fun _ _ k => k.any⟩

/-- A copy's cells, so deep. -/
def StD (d : Nat) (w : World) (S : Nat → Prop) (c : List Value) (x : St) : Prop := ∃ ce, c = stV x ce ∧ ExAt d w S ce x.n
theorem StD.frames (d : Nat) : Frames (StD d) := fun _ _ _ _ _ _ ⟨ce, hc, he⟩ hk => ⟨ce, hc, ExAt.frames d _ _ _ _ _ _ he hk⟩
def EfD (d : Nat) (w : World) (S : Nat → Prop) (c : List Value) (x : Ef) : Prop := ∃ vc vs, c = efV x vc vs ∧ RowAt w S 69 7 (ExAt d) vc x.cond ∧ RowAt w S 71 13 (StD d) vs x.steps
theorem EfD.frames (d : Nat) : Frames (EfD d) := fun _ _ _ _ _ _ ⟨vc, vs, hc, h1, h2⟩ hk => ⟨vc, vs, hc, h1.frame (ExAt.frames d) hk, h2.frame (StD.frames d) hk⟩
def CdD (d : Nat) (w : World) (S : Nat → Prop) (c : List Value) (x : Cd) : Prop := ∃ ve, c = cdV x ve ∧ x.name.size ≤ maxLen ∧ RowAt w S 67 12 (EfD d) ve x.effects
theorem CdD.frames (d : Nat) : Frames (CdD d) := fun _ _ _ _ _ _ ⟨ve, hc, hn, h1⟩ hk => ⟨ve, hc, hn, h1.frame (EfD.frames d) hk⟩
theorem RowAt.toIn {α : Type} {P : World → (Nat → Prop) → List Value → α → Prop} {P' : World → List Value → α → Prop} {w : World} {S : Nat → Prop} {ty : TypeId} {size : Nat} {v : Value} {xs : List α} (hP : ∀ S c x, P w S c x → P' w c x) (h : RowAt w S ty size P v xs) : RowIn w size 0 P' v xs := by
  rcases h.open with ⟨rfl, rfl⟩ | ⟨g, cap, rfl, hl, hm, -, -, -, hc⟩
  · exact RowIn.nil _ _ _ _ _ _
  · refine ⟨_, cap, rfl, Nat.le_trans hl hm, by simp, fun i x hx => ⟨g, 0, rfl, ?_⟩⟩
    obtain ⟨cs, hs, hp, hu⟩ := hc i x hx
    refine ⟨cs, hs, hP _ _ _ hp, fun j u hj => ?_⟩
    rw [Nat.zero_add]
    exact hu j u (by have := (List.getElem?_eq_some_iff.1 hj).1; omega) hj
theorem ExAt.toIn : ∀ (d : Nat) (w : World) (S : Nat → Prop) (c : List Value) (x : Ex), ExAt d w S c x → ExIn 0 (d + 1) w c x
  | 0, w, S, c, x, ⟨hc, ha⟩ => ⟨_, hc, by rw [ha]; exact RowIn.nil _ _ _ _ _ _⟩
  | d + 1, w, S, c, x, ⟨va, hc, hr⟩ => ⟨va, hc, hr.toIn fun S c x => ExAt.toIn d w S c x⟩
theorem CdD.toIn {d : Nat} {w : World} {S : Nat → Prop} {v : Value} {xs : List Cd} (h : RowAt w S 61 6 (CdD d) v xs) : RowIn w 6 0 (CdIn 0 (d + 1)) v xs :=
  h.toIn fun _ _ _ ⟨ve, hc, hn, h1⟩ => ⟨ve, hc, hn, h1.toIn fun _ _ _ ⟨vc, vs, hc, h2, h3⟩ => ⟨vc, vs, hc, h2.toIn fun S c x => ExAt.toIn d _ S c x, h3.toIn fun _ _ _ ⟨ce, hc, he⟩ => ⟨ce, hc, ExAt.toIn d _ _ _ _ he⟩⟩⟩
end Go.Proofs.Ytppgfkdkopfebaa
