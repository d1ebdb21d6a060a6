import Derived.Test.YtlbbabojejimpaaRows
import Derived.WalkKit
import Derived.WalkSpells
import Derived.WalkLawsBesides
import Derived.Deep.QuietTactic
import Derived.BigQuiet
import Derived.Lib.Hide
import Derived.Deep.AppendLies
/- What texts on tables (layers 6 and on) stand on: cards, pieces, plain; memory block by block. -/
namespace Go.Proofs.Ytlbbabojejimpaa
open Go.RowKit Go.Lib

structure Sl where
  side : Nat
  zone : Nat
  kind : Nat
inductive Ex where
  | mk (op : Nat) (n : Int) (side : Nat) (sel : Sl) (args : List Ex)
structure St where
  dof : Nat
  side : Nat
  n : Ex
  all : Bool
  sel : Sl
structure Ef where
  mode : Nat
  ev : Nat
  side : Nat
  cond : List Ex
  pay : Int
  discard : Int
  tribute : Bool
  pick : Int
  sel : Sl
  steps : List St
structure Cd where
  name : ByteArray
  kind : Nat
  level : Int
  attack : Int
  guard : Int
  effects : List Ef

def Ex.op : Ex → Nat | .mk o _ _ _ _ => o
def Ex.n : Ex → Int | .mk _ n _ _ _ => n
def Ex.side : Ex → Nat | .mk _ _ s _ _ => s
def Ex.sel : Ex → Sl | .mk _ _ _ s _ => s
def Ex.args : Ex → List Ex | .mk _ _ _ _ l => l

theorem ret_bool {a b : Bool} (h : a = b) : Ending.returned (.bool a) = .returned (.bool b) := by rw [h]
theorem ret_int {a b : Int} (h : a = b) : Ending.returned (.int .i64 a) = .returned (.int .i64 b) := by rw [h]
theorem heap_lt {w : World} {g : Nat} {o : Obj} (h : w.heap[g]? = some o) : g < w.heap.size := (Array.getElem?_eq_some_iff.1 h).1
theorem cell_blk {w : World} {g i : Nat} {t : TypeId} {cs : Array Value} {fz : Nat × Nat} (h : w.heap[g]? = some (.cells cs t fz)) : w.cell? ⟨g, i, none⟩ = cs[i]? := by
  simp [World.cell?, h]
theorem free_blk {w : World} {g i : Nat} {t : TypeId} {cs : Array Value} (h : w.heap[g]? = some (.cells cs t (0, 0))) : w.frozen? ⟨g, i, none⟩ = false := by
  simp [World.frozen?, h]
theorem heap_set {w : World} {g i : Nat} {t : TypeId} {cs : Array Value} (h : w.heap[g]? = some (.cells cs t (0, 0))) (u : Value) : (w.setCell ⟨g, i, none⟩ u).heap[g]? = some (.cells (cs.setIfInBounds i u) t (0, 0)) := by
  simp [World.setCell, Array.getElem?_modify, h]
theorem heap_set_far {w : World} {g : Nat} {a : Addr} (hne : g ≠ a.block) (u : Value) : (w.setCell a u).heap[g]? = w.heap[g]? := Below.heap_setCell w a u g hne
theorem ownsRow_same {w w' : World} {b : Nat} {e : TypeId} {size : Nat} {v : Value} {n : Nat} {xs : List Value} (h : w.ownsRow b e size v n xs) (hs : ∀ g, v.ownBlock = some g → w'.heap[g]? = w.heap[g]?) : w'.ownsRow b e size v n xs := by
  refine ⟨h.1, ?_⟩
  rcases h.2 with h0 | ⟨g, cap, cur, hv, hg, hh, r⟩
  · exact .inl h0
  · exact .inr ⟨g, cap, cur, hv, hg, (hs g (by rw [hv]; rfl)).trans hh, r⟩

/-- Of what was there nothing but the block R has turned. -/
structure Kept (R : Nat) (w w' : World) : Prop where
  os : w'.os = w.os
  tape : w'.tape = w.tape
  output : w'.output = w.output
  size : w.heap.size ≤ w'.heap.size
  block : ∀ k, k < w.heap.size → k ≠ R → w'.heap[k]? = w.heap[k]?
theorem Kept.refl (R : Nat) (w : World) : Kept R w w := ⟨rfl, rfl, rfl, Nat.le_refl _, fun _ _ _ => rfl⟩
theorem Kept.trans {R : Nat} {a b c : World} (h : Kept R a b) (k : Kept R b c) : Kept R a c :=
  ⟨k.os.trans h.os, k.tape.trans h.tape, k.output.trans h.output, Nat.le_trans h.size k.size, fun i hi hr => (k.block i (Nat.lt_of_lt_of_le hi h.size) hr).trans (h.block i hi hr)⟩
theorem Kept.of_below {R : Nat} {w w' : World} (h : Below w.heap.size w w') : Kept R w w' := ⟨h.os, h.tape, h.output, h.size, fun k hk _ => h.block k hk⟩
theorem Kept.alloc {R : Nat} {a w : World} (h : Kept R a w) (o : Obj) : Kept R a (w.alloc o) := h.trans (.of_below ((Below.refl _ _).alloc (Nat.le_refl _) o))
theorem Kept.drew {R : Nat} {a w : World} (h : Kept R a w) : Kept R a w.drew := h.trans (.of_below (Below.refl _ _).drew)
/-- A store into R, or into a block that is new. -/
theorem Kept.setCell {R : Nat} {a w : World} (h : Kept R a w) {p : Addr} (hp : p.block = R ∨ a.heap.size ≤ p.block) (u : Value) : Kept R a (w.setCell p u) :=
  ⟨h.os, h.tape, h.output, by have := h.size; simpa [World.setCell] using this, fun k hk hr => by rw [Below.heap_setCell _ _ _ _ (by omega)]; exact h.block k hk hr⟩
theorem Kept.below {R B : Nat} {w w' : World} (h : Kept R w w') (hB : B ≤ w.heap.size) (hR : B ≤ R) : Below B w w' := ⟨h.os, h.tape, h.output, h.size, fun k hk => h.block k (by omega) (by omega)⟩
theorem Kept.cell {R : Nat} {w w' : World} (h : Kept R w w') {a : Addr} {v : Value} (hr : a.block ≠ R) (hc : w.cell? a = some v) : w'.cell? a = some v := by
  rw [World.cell?_of_block (w := w) (h.block _ (World.block_lt_of_cell? _ _ hc) hr)]; exact hc
theorem Kept.heap {R : Nat} {w w' : World} (h : Kept R w w') {k : Nat} {o : Obj} (hr : k ≠ R) (hc : w.heap[k]? = some o) : w'.heap[k]? = some o := (h.block _ (heap_lt hc) hr).trans hc
theorem heap_older {w : World} {k : Nat} {o o' : Obj} (h : w.heap[k]? = some o) : (w.alloc o').heap[k]? = some o := (Below.heap_alloc _ _ _ (heap_lt h)).trans h
theorem heap_newer (w : World) (o : Obj) (k : Nat) (h : w.heap.size = k) : (w.alloc o).heap[k]? = some o := by subst h; exact heap_alloc_new w o
theorem below_cell' {B : Nat} {w w' : World} (h : Below B w w') {a : Addr} {v : Value} (hc : w.cell? a = some v) (hb : a.block < B) : w'.cell? a = some v := (h.cell hb).trans hc
end Go.Proofs.Ytlbbabojejimpaa

/- Layer 2 (parse): lists of expressions, steps, effects, cards in memory. -/
namespace Go.Proofs.Ytlbbabojejimpaa
open Go.RowKit Go.Lib

/-- What is told of one thing's cells, within some blocks, holds where these blocks are the same. -/
def Frames {α : Type} (P : World → (Nat → Prop) → List Value → α → Prop) : Prop :=
  ∀ w w' (S S' : Nat → Prop) c x, P w S c x → (∀ k, S k → k < w.heap.size → S' k ∧ w'.heap[k]? = w.heap[k]?) → P w' S' c x

inductive Each {α : Type} (Q : List Value → α → Prop) : List (List Value) → List α → Prop
  | nil : Each Q [] []
  | cons {c x cs xs} : Q c x → Each Q cs xs → Each Q (c :: cs) (x :: xs)
theorem Each.mono {α : Type} {Q Q' : List Value → α → Prop} {cs xs} (h : Each Q cs xs) (hq : ∀ c x, Q c x → Q' c x) : Each Q' cs xs := by
  induction h with
  | nil => exact .nil
  | cons a _ ih => exact .cons (hq _ _ a) ih
theorem Each.snoc {α : Type} {Q : List Value → α → Prop} {cs xs c x} (h : Each Q cs xs) (hx : Q c x) : Each Q (cs ++ [c]) (xs ++ [x]) := by
  induction h with
  | nil => exact .cons hx .nil
  | cons a _ ih => exact .cons a ih
theorem Each.get {α : Type} {Q : List Value → α → Prop} {cs xs} (h : Each Q cs xs) : ∀ (k : Nat) x, xs[k]? = some x → ∃ c, cs[k]? = some c ∧ Q c x := by
  induction h with
  | nil => intro k x h; simp at h
  | cons a _ ih =>
    intro k x h
    cases k with
    | zero => simp at h; subst h; exact ⟨_, rfl, a⟩
    | succ k => simpa using ih k x (by simpa using h)

/-- The cells of one thing of a row. -/
def OneOf {α : Type} (w : World) (S : Nat → Prop) (size : Nat) (P : World → (Nat → Prop) → List Value → α → Prop) (v : Value) (c : List Value) (x : α) : Prop :=
  c.length = size ∧ (∀ u ∈ c, u.oneCell' = true) ∧ P w (fun k => S k ∧ v.ownBlock ≠ some k) c x
/-- A slice of things, whose cells are so. -/
structure RowOf {α : Type} (w : World) (S : Nat → Prop) (ty : TypeId) (size : Nat) (P : World → (Nat → Prop) → List Value → α → Prop) (v : Value) (xs : List α) (css : List (List Value)) : Prop where
  own : w.ownsRow 0 ty size v xs.length css.flatten
  blk : ∀ g, v.ownBlock = some g → S g
  all : Each (OneOf w S size P v) css xs
def RowAt {α : Type} (w : World) (S : Nat → Prop) (ty : TypeId) (size : Nat) (P : World → (Nat → Prop) → List Value → α → Prop) (v : Value) (xs : List α) : Prop := ∃ css, RowOf w S ty size P v xs css


section
variable {α : Type} {P : World → (Nat → Prop) → List Value → α → Prop} {w w' : World} {S S' : Nat → Prop} {ty : TypeId} {size : Nat} {v : Value} {xs : List α} {css : List (List Value)}
theorem RowOf.frame (hP : Frames P) (h : RowOf w S ty size P v xs css) (hk : ∀ k, S k → k < w.heap.size → S' k ∧ w'.heap[k]? = w.heap[k]?) : RowOf w' S' ty size P v xs css := by
  have hb : ∀ g, v.ownBlock = some g → S' g ∧ w'.heap[g]? = w.heap[g]? := fun g hg => hk g (h.blk g hg) (h.own.lt g hg).2
  refine ⟨ownsRow_same h.own fun g hg => (hb g hg).2, fun g hg => (hb g hg).1, h.all.mono fun c x ⟨a, b, p⟩ => ⟨a, b, hP _ _ _ _ _ _ p fun k hs hl => ?_⟩⟩
  have := hk k hs.1 hl
  exact ⟨⟨this.1, hs.2⟩, this.2⟩
theorem RowAt.frame (hP : Frames P) (h : RowAt w S ty size P v xs) (hk : ∀ k, S k → k < w.heap.size → S' k ∧ w'.heap[k]? = w.heap[k]?) : RowAt w' S' ty size P v xs := h.imp fun _ h => h.frame hP hk
theorem RowOf.nil (w : World) (S : Nat → Prop) (ty : TypeId) (size : Nat) (P : World → (Nat → Prop) → List Value → α → Prop) : RowOf w S ty size P (.slice none 0 0) [] [] :=
  ⟨World.ownsRow_nil _ _ _ _, fun g hg => by simp [Value.ownBlock] at hg, .nil⟩
theorem RowAt.nil (w : World) (S : Nat → Prop) (ty : TypeId) (size : Nat) (P : World → (Nat → Prop) → List Value → α → Prop) : RowAt w S ty size P (.slice none 0 0) [] := ⟨[], RowOf.nil ..⟩
/-- Behind an append of one. -/
theorem RowOf.snoc (hP : Frames P) (h : RowOf w S ty size P v xs css) {c : List Value} {x : α} {Sx : Nat → Prop} (hc : c.length = size) (h1 : ∀ u ∈ c, u.oneCell' = true) (hx : P w Sx c x)
    (hSx : ∀ k, Sx k → k < w.heap.size → S k ∧ v.ownBlock ≠ some k) {H : Nat} (hH : w.heap.size = H) (hS : S H) {g cap b : Nat}
    (hown : w'.ownsRow b ty size (.slice (some ⟨g, 0, none⟩) (xs.length + 1) cap) (xs.length + 1) (css.flatten ++ c)) (hg : w.grownBy w' v.ownBlock) (hat : v.ownBlock = some g ∨ g = H) :
    RowOf w' S ty size P (.slice (some ⟨g, 0, none⟩) (xs.length + 1) cap) (xs ++ [x]) (css ++ [c]) := by
  subst hH
  have hne : ∀ k, k < w.heap.size → v.ownBlock ≠ some k → (Value.slice (some ⟨g, 0, none⟩) (xs.length + 1) cap).ownBlock ≠ some k := by
    intro k hk hv e
    have hgk : g = k := by simpa [Value.ownBlock] using e
    rcases hat with h0 | h0
    · exact hv (by rw [h0, hgk])
    · omega
  refine ⟨?_, ?_, ?_⟩
  · rw [List.flatten_append, List.length_append]
    refine ⟨by simpa using hown.1, ?_⟩
    rcases hown.2 with h0 | ⟨g', cap', cur, hv, hg', hh, r⟩
    · exact absurd h0.1 (by simp)
    · exact .inr ⟨g', cap', cur, hv, Nat.zero_le _, hh, by simpa using r⟩
  · intro k hk
    have hgk : g = k := by simpa [Value.ownBlock] using hk
    subst hgk
    rcases hat with h0 | h0
    · exact h.blk _ h0
    · rw [h0]; exact hS
  · refine Each.snoc (h.all.mono fun c' x' ⟨a, b', p⟩ => ⟨a, b', hP _ _ _ _ _ _ p fun k hs hl => ⟨⟨hs.1, hne k hl hs.2⟩, hg.block k hl (fun e => hs.2 e.symm)⟩⟩) ⟨hc, h1, hP _ _ _ _ _ _ hx fun k hs hl => ?_⟩
    have := hSx k hs hl
    exact ⟨⟨this.1, hne k hl this.2⟩, hg.block k hl (fun e => this.2 e.symm)⟩
end

def slV (x : Sl) : List Value := [.int .u8 x.side, .int .u8 x.zone, .int .u8 x.kind]
def exV (x : Ex) (va : Value) : List Value := [.int .u8 x.op, .int .i64 x.n, .int .u8 x.side, .int .u8 x.sel.side, .int .u8 x.sel.zone, .int .u8 x.sel.kind, va]
/-- An expression's cells, so deep. -/
def ExAt : Nat → World → (Nat → Prop) → List Value → Ex → Prop
  | 0, _, _, c, x => c = exV x (.slice none 0 0) ∧ x.args = []
  | d + 1, w, S, c, x => ∃ va, c = exV x va ∧ RowAt w S 33 7 (ExAt d) va x.args
theorem ExAt.frames : ∀ d, Frames (ExAt d)
  | 0 => fun _ _ _ _ _ _ h _ => h
  | d + 1 => fun _ _ _ _ _ _ ⟨va, hc, hr⟩ hk => ⟨va, hc, hr.frame (ExAt.frames d) hk⟩
theorem ExAt.leaf (d : Nat) (w : World) (S : Nat → Prop) (x : Ex) (h : x.args = []) : ExAt d w S (exV x (.slice none 0 0)) x := by
  cases d with
  | zero => exact ⟨rfl, h⟩
  | succ d => exact ⟨_, rfl, by rw [h]; exact RowAt.nil _ _ _ _ _⟩
theorem ExAt.form {d : Nat} {w : World} {S : Nat → Prop} {c : List Value} {x : Ex} (h : ExAt d w S c x) : ∃ va, c = exV x va ∧ va.oneCell' = true := by
  cases d with
  | zero => exact ⟨_, h.1, rfl⟩
  | succ d =>
    obtain ⟨va, hc, css, ho, -, -⟩ := h
    refine ⟨va, hc, ?_⟩
    rcases ho.2 with ⟨rfl, _⟩ | ⟨g, cap, cur, rfl, _⟩ <;> rfl
theorem RowOf.oneCell {α : Type} {P : World → (Nat → Prop) → List Value → α → Prop} {w : World} {S : Nat → Prop} {ty : TypeId} {size : Nat} {v : Value} {xs : List α} {css : List (List Value)} (h : RowOf w S ty size P v xs css) : v.oneCell' = true := by
  rcases h.own.2 with ⟨rfl, _⟩ | ⟨g, cap, cur, rfl, _⟩ <;> rfl
def stV (x : St) (ce : List Value) : List Value := [.int .u8 x.dof, .int .u8 x.side] ++ ce ++ [.bool x.all] ++ slV x.sel
def StAt (w : World) (S : Nat → Prop) (c : List Value) (x : St) : Prop := ∃ ce, c = stV x ce ∧ ExAt 5 w S ce x.n
theorem StAt.frames : Frames StAt := fun _ _ _ _ _ _ ⟨ce, hc, he⟩ hk => ⟨ce, hc, ExAt.frames 5 _ _ _ _ _ _ he hk⟩
def efV (x : Ef) (vc vs : Value) : List Value := [.int .u8 x.mode, .int .u8 x.ev, .int .u8 x.side, vc, .int .i64 x.pay, .int .i64 x.discard, .bool x.tribute, .int .i64 x.pick, .int .u8 x.sel.side, .int .u8 x.sel.zone, .int .u8 x.sel.kind, vs]
def EfAt (w : World) (S : Nat → Prop) (c : List Value) (x : Ef) : Prop := ∃ vc vs, c = efV x vc vs ∧ RowAt w S 33 7 (ExAt 5) vc x.cond ∧ RowAt w S 70 13 StAt vs x.steps
theorem EfAt.frames : Frames EfAt := fun _ _ _ _ _ _ ⟨vc, vs, hc, h1, h2⟩ hk => ⟨vc, vs, hc, h1.frame (ExAt.frames 5) hk, h2.frame StAt.frames hk⟩
def cdV (x : Cd) (ve : Value) : List Value := [.string x.name, .int .u8 x.kind, .int .i64 x.level, .int .i64 x.attack, .int .i64 x.guard, ve]
def CdAt (w : World) (S : Nat → Prop) (c : List Value) (x : Cd) : Prop := ∃ ve, c = cdV x ve ∧ RowAt w S 48 12 EfAt ve x.effects
theorem CdAt.frames : Frames CdAt := fun _ _ _ _ _ _ ⟨ve, hc, h1⟩ hk => ⟨ve, hc, h1.frame EfAt.frames hk⟩

/-- The blocks from one on. -/
def From (B : Nat) (k : Nat) : Prop := B ≤ k
/-- From block B on nothing that was there has turned. -/
structure Above (B : Nat) (w w' : World) : Prop where
  size : w.heap.size ≤ w'.heap.size
  block : ∀ k, B ≤ k → k < w.heap.size → w'.heap[k]? = w.heap[k]?
theorem Above.refl (B : Nat) (w : World) : Above B w w := ⟨Nat.le_refl _, fun _ _ _ => rfl⟩
theorem Above.trans {B : Nat} {a b c : World} (h : Above B a b) (k : Above B b c) : Above B a c := ⟨Nat.le_trans h.size k.size, fun i hi hl => (k.block i hi (Nat.lt_of_lt_of_le hl h.size)).trans (h.block i hi hl)⟩
theorem Above.alloc {B : Nat} {a w : World} (h : Above B a w) (o : Obj) : Above B a (w.alloc o) := h.trans ⟨by simp, fun k _ hl => Below.heap_alloc _ _ _ hl⟩
theorem Above.drew {B : Nat} {a w : World} (h : Above B a w) : Above B a w.drew := h.trans ⟨Nat.le_refl _, fun _ _ _ => rfl⟩
theorem Above.setCell {B : Nat} {a w : World} (h : Above B a w) {p : Addr} (hp : p.block < B) (u : Value) : Above B a (w.setCell p u) := h.trans ⟨by simp [World.setCell], fun k hk _ => heap_set_far (by omega) u⟩
theorem Above.kept {B R : Nat} {a w w' : World} (h : Above B a w) (k : Kept R w w') (hR : R < B) : Above B a w' := h.trans ⟨k.size, fun i hi hl => k.block i hl (by omega)⟩
theorem Above.below {B : Nat} {a w w' : World} (h : Above B a w) (k : Below w.heap.size w w') : Above B a w' := h.trans ⟨k.size, fun i _ hl => k.block i hl⟩
theorem frames_above {α : Type} {P : World → (Nat → Prop) → List Value → α → Prop} (hP : Frames P) {w w' : World} {B B' : Nat} {c : List Value} {x : α} (h : P w (From B) c x) (a : Above B w w') (hB : B' ≤ B) : P w' (From B') c x :=
  hP _ _ _ _ _ _ h fun k hk hl => ⟨Nat.le_trans hB hk, a.block k hk hl⟩
theorem row_above {α : Type} {P : World → (Nat → Prop) → List Value → α → Prop} (hP : Frames P) {w w' : World} {B B' : Nat} {ty : TypeId} {size : Nat} {v : Value} {xs : List α} (h : RowAt w (From B) ty size P v xs) (a : Above B w w') (hB : B' ≤ B) : RowAt w' (From B') ty size P v xs :=
  h.frame hP fun k hk hl => ⟨Nat.le_trans hB hk, a.block k hk hl⟩
theorem frame_kept {R B B' : Nat} {w w' : World} (h : Kept R w w') (hB : B' ≤ B) (hR : R < B) : ∀ k, From B k → k < w.heap.size → From B' k ∧ w'.heap[k]? = w.heap[k]? :=
  fun k hk hl => ⟨Nat.le_trans hB hk, h.block k hl (by unfold From at hk; omega)⟩

theorem flat_get {size : Nat} : ∀ (css : List (List Value)), (∀ c ∈ css, c.length = size) → ∀ (k j : Nat) (c : List Value), css[k]? = some c → j < size → css.flatten[k * size + j]? = c[j]?
  | [], _, k, j, c, h, _ => by simp at h
  | x :: l, hl, k, j, c, h, hj => by
    have hx : x.length = size := hl x List.mem_cons_self
    rw [List.flatten_cons]
    cases k with
    | zero =>
      simp at h
      subst h
      rw [List.getElem?_append_left (by omega)]
      simp
    | succ k =>
      simp at h
      have e : (k + 1) * size + j = size + (k * size + j) := by rw [Nat.succ_mul]; omega
      rw [e, List.getElem?_append_right (by omega), hx, Nat.add_sub_cancel_left]
      exact flat_get l (fun c hc => hl c (List.mem_cons_of_mem _ hc)) k j c h hj
theorem Each.lens {α : Type} {Q : List Value → α → Prop} {size : Nat} {cs xs} (h : Each Q cs xs) (hq : ∀ c x, Q c x → c.length = size) : ∀ c ∈ cs, c.length = size := by
  induction h with
  | nil => intro c hc; cases hc
  | cons a _ ih =>
    intro c hc
    rcases List.mem_cons.1 hc with rfl | hc
    · exact hq _ _ a
    · exact ih c hc

/-- A slice's things, cell by cell. -/
theorem RowAt.open {α : Type} {P : World → (Nat → Prop) → List Value → α → Prop} {w : World} {S : Nat → Prop} {ty : TypeId} {size : Nat} {v : Value} {xs : List α} (h : RowAt w S ty size P v xs) :
    (v = .slice none 0 0 ∧ xs = []) ∨ ∃ g cap, v = .slice (some ⟨g, 0, none⟩) xs.length cap ∧ xs.length ≤ cap ∧ cap ≤ maxLen ∧ S g ∧ g < w.heap.size ∧ (∃ cur, w.heap[g]? = some (.cells cur ty (0, 0)) ∧ cur.size = cap * size) ∧
      ∀ (k : Nat) (x : α), xs[k]? = some x → ∃ c, c.length = size ∧ P w (fun i => S i ∧ i ≠ g) c x ∧ ∀ (j : Nat) (u : Value), j < size → c[j]? = some u → w.cell? ⟨g, k * size + j, none⟩ = some u := by
  obtain ⟨css, ho, hb, ha⟩ := h
  rcases ho.2 with ⟨hv, hn⟩ | ⟨g, cap, cur, hv, _, hh, hc, hm, hsz, ht⟩
  · exact .inl ⟨hv, List.eq_nil_of_length_eq_zero hn⟩
  · refine .inr ⟨g, cap, hv, hc, hm, hb g (by rw [hv]; rfl), heap_lt hh, ⟨cur, hh, hsz⟩, fun k x hk => ?_⟩
    obtain ⟨c, hck, hlen, -, hp⟩ := ha.get k x hk
    refine ⟨c, hlen, ?_, fun j u hj hu => ?_⟩
    · have e : (fun i => S i ∧ v.ownBlock ≠ some i) = (fun i => S i ∧ i ≠ g) := by
        funext i
        rw [hv]
        simp only [Value.ownBlock, ne_eq, Option.some.injEq, eq_comm]
      rw [e] at hp
      exact hp
    · have hlt : k < xs.length := (List.getElem?_eq_some_iff.1 hk).1
      have hf := flat_get css (ha.lens fun c x h => h.1) k j c hck hj
      rw [cell_blk hh, ← hu, ← hf, ← ht, List.getElem?_take_of_lt ?_]
      · simp
      · have : k * size + size ≤ xs.length * size := by rw [← Nat.succ_mul]; exact Nat.mul_le_mul_right _ hlt
        omega
end Go.Proofs.Ytlbbabojejimpaa

/- Cards of any depth that came in: how they lie, cell by cell; and how a copy of them does. -/
namespace Go.Proofs.Ytlbbabojejimpaa
open Go.RowKit Go.Lib

/-- What is told of one thing's cells stays true while old memory does. -/
def Stays {α : Type} (P : World → List Value → α → Prop) : Prop := ∀ w w' c x, P w c x → Below w.heap.size w w' → P w' c x
/-- A slice's things, cell by cell, wherever they lie; of so many bytes each as fit together. -/
def RowIn {α : Type} (w : World) (size B : Nat) (P : World → List Value → α → Prop) (v : Value) (xs : List α) : Prop :=
  ∃ q c, v = .slice q xs.length c ∧ xs.length ≤ maxLen ∧ xs.length * B ≤ 140737488351232 ∧ ∀ i x, xs[i]? = some x → ∃ g o, q = some ⟨g, o, none⟩ ∧ ∃ cs, cs.length = size ∧ P w cs x ∧ ∀ j u, cs[j]? = some u → w.cell? ⟨g, o + i * size + j, none⟩ = some u
section
variable {α : Type} {w w' : World} {size B : Nat} {P P' : World → List Value → α → Prop} {v : Value} {xs : List α}
theorem RowIn.below (hP : Stays P) (h : RowIn w size B P v xs) (hb : Below w.heap.size w w') : RowIn w' size B P v xs := by
  obtain ⟨q, c, hv, hl, hm, h⟩ := h
  refine ⟨q, c, hv, hl, hm, fun i x hx => ?_⟩
  obtain ⟨g, o, hq, cs, hs, hp, hc⟩ := h i x hx
  exact ⟨g, o, hq, cs, hs, hP _ _ _ _ hp hb, fun j u hu => (hb.cell (World.block_lt_of_cell? _ _ (hc j u hu))).trans (hc j u hu)⟩
theorem RowIn.mono {C : Nat} (hC : C ≤ B) (hP : ∀ c x, P w c x → P' w c x) (h : RowIn w size B P v xs) : RowIn w size C P' v xs := by
  obtain ⟨q, c, hv, hl, hm, h⟩ := h
  refine ⟨q, c, hv, hl, Nat.le_trans (Nat.mul_le_mul_left _ hC) hm, fun i x hx => ?_⟩
  obtain ⟨g, o, hq, cs, hs, hp, hc⟩ := h i x hx
  exact ⟨g, o, hq, cs, hs, hP _ _ hp, hc⟩
theorem RowIn.nil (w : World) (size B : Nat) (P : World → List Value → α → Prop) (q : Option Addr) (c : Nat) : RowIn w size B P (.slice q 0 c) ([] : List α) := ⟨q, c, rfl, Nat.zero_le _, by simp, fun i x h => by simp at h⟩
end

/-- An expression's cells, less deep than so. (f: whether its lists are of so many bytes as fit.) -/
def ExIn (f : Nat) : Nat → World → List Value → Ex → Prop
  | 0, _, _, _ => False
  | d + 1, w, c, x => ∃ va, c = exV x va ∧ RowIn w 7 (48 * f) (ExIn f d) va x.args
def StIn (f d : Nat) (w : World) (c : List Value) (x : St) : Prop := ∃ ce, c = stV x ce ∧ ExIn f d w ce x.n
def EfIn (f d : Nat) (w : World) (c : List Value) (x : Ef) : Prop := ∃ vc vs, c = efV x vc vs ∧ RowIn w 7 (48 * f) (ExIn f d) vc x.cond ∧ RowIn w 13 (64 * f) (StIn f d) vs x.steps
def CdIn (f d : Nat) (w : World) (c : List Value) (x : Cd) : Prop := ∃ ve, c = cdV x ve ∧ x.name.size ≤ maxLen ∧ RowIn w 12 (96 * f) (EfIn f d) ve x.effects
theorem ExIn.stays (f : Nat) : ∀ d, Stays (ExIn f d)
  | 0 => fun _ _ _ _ h _ => h
  | d + 1 => fun _ _ _ _ ⟨va, hc, hr⟩ hb => ⟨va, hc, hr.below (ExIn.stays f d) hb⟩
theorem StIn.stays (f d : Nat) : Stays (StIn f d) := fun _ _ _ _ ⟨ce, hc, he⟩ hb => ⟨ce, hc, ExIn.stays f d _ _ _ _ he hb⟩
theorem EfIn.stays (f d : Nat) : Stays (EfIn f d) := fun _ _ _ _ ⟨vc, vs, hc, h1, h2⟩ hb => ⟨vc, vs, hc, h1.below (ExIn.stays f d) hb, h2.below (StIn.stays f d) hb⟩
theorem CdIn.stays (f d : Nat) : Stays (CdIn f d) := fun _ _ _ _ ⟨ve, hc, hn, h⟩ hb => ⟨ve, hc, hn, h.below (EfIn.stays f d) hb⟩
theorem ExIn.succ {f : Nat} : ∀ (d : Nat) (w : World) (c : List Value) (x : Ex), ExIn f d w c x → ExIn f (d + 1) w c x
  | 0, _, _, _, h => h.elim
  | d + 1, w, _, _, ⟨va, hc, hr⟩ => ⟨va, hc, hr.mono (Nat.le_refl _) fun c x => ExIn.succ d w c x⟩
theorem ExIn.up {f d e : Nat} (h : d ≤ e) {w : World} {c : List Value} {x : Ex} (hx : ExIn f d w c x) : ExIn f e w c x := by
  induction h with
  | refl => exact hx
  | step _ ih => exact ExIn.succ _ _ _ _ ih
theorem StIn.up {f d e : Nat} (h : d ≤ e) {w : World} {c : List Value} {x : St} (hx : StIn f d w c x) : StIn f e w c x := by
  obtain ⟨ce, hc, he⟩ := hx
  exact ⟨ce, hc, he.up h⟩
theorem EfIn.up {f d e : Nat} (h : d ≤ e) {w : World} {c : List Value} {x : Ef} (hx : EfIn f d w c x) : EfIn f e w c x := by
  obtain ⟨vc, vs, hc, h1, h2⟩ := hx
  exact ⟨vc, vs, hc, h1.mono (Nat.le_refl _) fun _ _ k => k.up h, h2.mono (Nat.le_refl _) fun _ _ k => k.up h⟩
theorem CdIn.up {f d e : Nat} (h : d ≤ e) {w : World} {c : List Value} {x : Cd} (hx : CdIn f d w c x) : CdIn f e w c x := by
  obtain ⟨ve, hc, hn, h1⟩ := hx
  exact ⟨ve, hc, hn, h1.mono (Nat.le_refl _) fun _ _ k => k.up h⟩
theorem ExIn.any : ∀ (d f : Nat) (w : World) (c : List Value) (x : Ex), ExIn f d w c x → ExIn 0 d w c x
  | 0, _, _, _, _, h => h.elim
  | d + 1, f, w, _, _, ⟨va, hc, hr⟩ => ⟨va, hc, hr.mono (by omega) fun c x => ExIn.any d f w c x⟩
theorem StIn.any {f d : Nat} {w : World} {c : List Value} {x : St} (h : StIn f d w c x) : StIn 0 d w c x := by
  obtain ⟨ce, hc, he⟩ := h
  exact ⟨ce, hc, ExIn.any _ _ _ _ _ he⟩
theorem EfIn.any {f d : Nat} {w : World} {c : List Value} {x : Ef} (h : EfIn f d w c x) : EfIn 0 d w c x := by
  obtain ⟨vc, vs, hc, h1, h2⟩ := h
  exact ⟨vc, vs, hc, h1.mono (by omega) fun _ _ k => ExIn.any _ _ _ _ _ k, h2.mono (by omega) fun _ _ k => k.any⟩
theorem CdIn.any {f d : Nat} {w : World} {c : List Value} {x : Cd} (h : CdIn f d w c x) : CdIn 0 d w c x := by
  obtain ⟨ve, hc, hn, h1⟩ := h
  exact ⟨ve, hc, hn, h1.mono (by omega) fun _ _ k => k.any⟩

/-- A copy's cells, so deep. -/
def StD (d : Nat) (w : World) (S : Nat → Prop) (c : List Value) (x : St) : Prop := ∃ ce, c = stV x ce ∧ ExAt d w S ce x.n
theorem StD.frames (d : Nat) : Frames (StD d) := fun _ _ _ _ _ _ ⟨ce, hc, he⟩ hk => ⟨ce, hc, ExAt.frames d _ _ _ _ _ _ he hk⟩
def EfD (d : Nat) (w : World) (S : Nat → Prop) (c : List Value) (x : Ef) : Prop := ∃ vc vs, c = efV x vc vs ∧ RowAt w S 33 7 (ExAt d) vc x.cond ∧ RowAt w S 70 13 (StD d) vs x.steps
theorem EfD.frames (d : Nat) : Frames (EfD d) := fun _ _ _ _ _ _ ⟨vc, vs, hc, h1, h2⟩ hk => ⟨vc, vs, hc, h1.frame (ExAt.frames d) hk, h2.frame (StD.frames d) hk⟩
def CdD (d : Nat) (w : World) (S : Nat → Prop) (c : List Value) (x : Cd) : Prop := ∃ ve, c = cdV x ve ∧ x.name.size ≤ maxLen ∧ RowAt w S 48 12 (EfD d) ve x.effects
theorem CdD.frames (d : Nat) : Frames (CdD d) := fun _ _ _ _ _ _ ⟨ve, hc, hn, h1⟩ hk => ⟨ve, hc, hn, h1.frame (EfD.frames d) hk⟩
theorem RowAt.toIn {α : Type} {P : World → (Nat → Prop) → List Value → α → Prop} {P' : World → List Value → α → Prop} {w : World} {S : Nat → Prop} {ty : TypeId} {size : Nat} {v : Value} {xs : List α} (hP : ∀ S c x, P w S c x → P' w c x) (h : RowAt w S ty size P v xs) : RowIn w size 0 P' v xs := by
  rcases h.open with ⟨rfl, rfl⟩ | ⟨g, cap, rfl, hl, hm, -, -, -, hc⟩
  · exact RowIn.nil _ _ _ _ _ _
  · refine ⟨_, cap, rfl, Nat.le_trans hl hm, by simp, fun i x hx => ⟨g, 0, rfl, ?_⟩⟩
    obtain ⟨cs, hs, hp, hu⟩ := hc i x hx
    refine ⟨cs, hs, hP _ _ _ hp, fun j u hj => ?_⟩
    rw [Nat.zero_add]
    exact hu j u (by have := (List.getElem?_eq_some_iff.1 hj).1; omega) hj
theorem ExAt.toIn : ∀ (d : Nat) (w : World) (S : Nat → Prop) (c : List Value) (x : Ex), ExAt d w S c x → ExIn 0 (d + 1) w c x
  | 0, w, S, c, x, ⟨hc, ha⟩ => ⟨_, hc, by rw [ha]; exact RowIn.nil _ _ _ _ _ _⟩
  | d + 1, w, S, c, x, ⟨va, hc, hr⟩ => ⟨va, hc, hr.toIn fun S c x => ExAt.toIn d w S c x⟩
theorem CdD.toIn {d : Nat} {w : World} {S : Nat → Prop} {v : Value} {xs : List Cd} (h : RowAt w S 45 6 (CdD d) v xs) : RowIn w 6 0 (CdIn 0 (d + 1)) v xs :=
  h.toIn fun _ _ _ ⟨ve, hc, hn, h1⟩ => ⟨ve, hc, hn, h1.toIn fun _ _ _ ⟨vc, vs, hc, h2, h3⟩ => ⟨vc, vs, hc, h2.toIn fun S c x => ExAt.toIn d _ S c x, h3.toIn fun _ _ _ ⟨ce, hc, he⟩ => ⟨ce, hc, ExAt.toIn d _ _ _ _ he⟩⟩⟩
end Go.Proofs.Ytlbbabojejimpaa

/- Pieces and tables, plain and in memory. -/
namespace Go.Proofs.Ytlbbabojejimpaa
open Go.RowKit Go.Lib

structure Pc where
  df : Int
  ak : Int
  gd : Int
  ow : Nat
  hs : Nat
  zn : Nat
  pl : Int
  up : Bool
  lw : Bool
  sc : Int
  us : Nat
  sk : Bool
  tu : Bool
  bo : Int
def pcV (p : Pc) : List Value := [.int .i64 p.df, .int .i64 p.ak, .int .i64 p.gd, .int .u8 p.ow, .int .u8 p.hs, .int .u8 p.zn, .int .i64 p.pl, .bool p.up, .bool p.lw, .int .i64 p.sc, .int .u8 p.us, .bool p.sk, .bool p.tu, .int .i64 p.bo]
def PcIn (_ : World) (c : List Value) (p : Pc) : Prop := c = pcV p
theorem PcIn.stays : Stays PcIn := fun _ _ _ _ h _ => h

/-- A table, but for what its lists hold. -/
structure Tb where
  qk : Option Addr
  nk : Nat
  ck : Nat
  qp : Option Addr
  np : Nat
  cp : Nat
  l0 : Int
  l1 : Int
  tn : Int
  py : Nat
  mo : Int
  qe : Option Addr
  ne : Nat
  ce : Nat
  b0 : Bool
  b1 : Bool
def Tb.row (t : Tb) : Array Value := #[.slice t.qk t.nk t.ck, .slice t.qp t.np t.cp, .int .i64 t.l0, .int .i64 t.l1, .int .i64 t.tn, .int .u8 t.py, .int .i64 t.mo, .slice t.qe t.ne t.ce, .bool t.b0, .bool t.b1]
/-- What a table's lists hold: kinds, pieces. -/
structure TabIn (w : World) (t : Tb) (xs : List Cd) (ps : List Pc) : Prop where
  kinds : ∃ D, RowIn w 6 0 (CdIn 0 D) (.slice t.qk t.nk t.ck) xs
  pieces : RowIn w 14 0 PcIn (.slice t.qp t.np t.cp) ps
  few : xs.length ≤ 140737488355328 ∧ ps.length ≤ 140737488355328
theorem TabIn.below {w w' : World} {t : Tb} {xs : List Cd} {ps : List Pc} (h : TabIn w t xs ps) (hb : Below w.heap.size w w') : TabIn w' t xs ps :=
  ⟨h.kinds.imp fun D h => h.below (CdIn.stays 0 D) hb, h.pieces.below PcIn.stays hb, h.few⟩
theorem TabIn.nk {w : World} {t : Tb} {xs : List Cd} {ps : List Pc} (h : TabIn w t xs ps) : t.nk = xs.length ∧ xs.length ≤ 140737488355328 := by
  obtain ⟨D, q, c, hv, hl, -⟩ := h.kinds
  simp only [Value.slice.injEq] at hv
  exact ⟨hv.2.1, h.few.1⟩
theorem TabIn.np {w : World} {t : Tb} {xs : List Cd} {ps : List Pc} (h : TabIn w t xs ps) : t.np = ps.length ∧ ps.length ≤ 140737488355328 := by
  obtain ⟨q, c, hv, hl, -⟩ := h.pieces
  simp only [Value.slice.injEq] at hv
  exact ⟨hv.2.1, h.few.2⟩
/-- A piece's cells. -/
theorem TabIn.piece {w : World} {t : Tb} {xs : List Cd} {ps : List Pc} (h : TabIn w t xs ps) {i : Nat} {p : Pc} (hi : ps[i]? = some p) :
    ∃ g o, t.qp = some ⟨g, o, none⟩ ∧ g < w.heap.size ∧ ∀ j u, (pcV p)[j]? = some u → w.cell? ⟨g, o + i * 14 + j, none⟩ = some u := by
  obtain ⟨q, c, hv, hl, -, hx⟩ := h.pieces
  obtain ⟨g, o, hq, cs, -, hp, hc⟩ := hx i p hi
  simp only [Value.slice.injEq] at hv
  rw [← hv.1] at hq
  cases hp
  have h0 := World.block_lt_of_cell? _ _ (hc 0 _ rfl)
  exact ⟨g, o, hq, h0, hc⟩
/-- A kind's second cell. -/
theorem TabIn.kind {w : World} {t : Tb} {xs : List Cd} {ps : List Pc} (h : TabIn w t xs ps) {i : Nat} {x : Cd} (hi : xs[i]? = some x) :
    ∃ g o, t.qk = some ⟨g, o, none⟩ ∧ g < w.heap.size ∧ w.cell? ⟨g, o + i * 6 + 1, none⟩ = some (.int .u8 x.kind) := by
  obtain ⟨D, q, c, hv, hl, -, hx⟩ := h.kinds
  obtain ⟨g, o, hq, cs, -, ⟨ve, hp, -⟩, hc⟩ := hx i x hi
  simp only [Value.slice.injEq] at hv
  rw [← hv.1] at hq
  subst hp
  have h0 := World.block_lt_of_cell? _ _ (hc 0 _ rfl)
  exact ⟨g, o, hq, h0, hc 1 _ rfl⟩

/-- The kind of a piece of such a Def. -/
def kindI (xs : List Cd) (d : Int) : Nat := if d < 0 then 0 else match xs[d.toNat]? with
  | some c => c.kind
  | none => 0
theorem kindI_neg {xs : List Cd} {d : Int} (h : d < 0) : kindI xs d = 0 := if_pos h
theorem kindI_out {xs : List Cd} {d : Int} (h : (xs.length : Int) ≤ d) : kindI xs d = 0 := by
  unfold kindI
  rw [List.getElem?_eq_none (by omega)]
  split <;> rfl
theorem kindI_in {xs : List Cd} {k : Nat} {x : Cd} (h : xs[k]? = some x) : kindI xs (k : Int) = x.kind := by
  unfold kindI
  rw [if_neg (by omega), Int.toNat_natCast, h]
end Go.Proofs.Ytlbbabojejimpaa
