/- Layer 2 (parse): lists of expressions, steps, effects, cards in memory. -/
import Derived.Test.YtppgfkdkopfebaaTbBase
namespace Go.Proofs.Ytppgfkdkopfebaa
open Go.RowKit Go.Lib

/-- What is told of one thing's cells, within some blocks, holds where these blocks are the same. -/
def Frames {α : Type} (P : World → (Nat → Prop) → List Value → α → Prop) : Prop :=
  ∀ w w' (S S' : Nat → Prop) c x, P w S c x → (∀ k, S k → k < w.heap.size → S' k ∧ w'.heap[k]? = w.heap[k]?) → P w' S' c x

inductive Each {α : Type} (Q : List Value → α → Prop) : List (List Value) → List α → Prop
  | nil : Each Q [] []
  | cons {c x cs xs} : Q c x → Each Q cs xs → Each Q (c :: cs) (x :: xs)
theorem Each.mono {α : Type} {Q Q' : List Value → α → Prop} {cs xs} (h : Each Q cs xs) (hq : ∀ c x, Q c x → Q' c x) : Each Q' cs xs := by
  induction h with
  | nil => exact .nil
  | cons a _ ih => exact .cons (hq _ _ a) ih
theorem Each.snoc {α : Type} {Q : List Value → α → Prop} {cs xs c x} (h : Each Q cs xs) (hx : Q c x) : Each Q (cs ++ [c]) (xs ++ [x]) := by
  induction h with
  | nil => exact .cons hx .nil
  | cons a _ ih => exact .cons a ih
theorem Each.get {α : Type} {Q : List Value → α → Prop} {cs xs} (h : Each Q cs xs) : ∀ (k : Nat) x, xs[k]? = some x → ∃ c, cs[k]? = some c ∧ Q c x := by
  induction h with
  | nil => intro k x h; simp at h
  | cons a _ ih =>
    intro k x h
    cases k with
    | zero => simp at h; subst h; exact ⟨_, rfl, a⟩
    | succ k => simpa using ih k x (by simpa using h)

/-- The cells of one thing of a row. -/
def OneOf {α : Type} (w : World) (S : Nat → Prop) (size : Nat) (P : World → (Nat → Prop) → List Value → α → Prop) (v : Value) (c : List Value) (x : α) : Prop :=
  c.length = size ∧ (∀ u ∈ c, u.oneCell' = true) ∧ P w (fun k => S k ∧ v.ownBlock ≠ some k) c x
/-- A slice of things, whose cells are so. -/
structure RowOf {α : Type} (w : World) (S : Nat → Prop) (ty : TypeId) (size : Nat) (P : World → (Nat → Prop) → List Value → α → Prop) (v : Value) (xs : List α) (css : List (List Value)) : Prop where
  own : w.ownsRow 0 ty size v xs.length css.flatten
  blk : ∀ g, v.ownBlock = some g → S g
  all : Each (OneOf w S size P v) css xs
def RowAt {α : Type} (w : World) (S : Nat → Prop) (ty : TypeId) (size : Nat) (P : World → (Nat → Prop) → List Value → α → Prop) (v : Value) (xs : List α) : Prop := ∃ css, RowOf w S ty size P v xs css


section
variable {α : Type} {P : World → (Nat → Prop) → List Value → α → Prop} {w w' : World} {S S' : Nat → Prop} {ty : TypeId} {size : Nat} {v : Value} {xs : List α} {css : List (List Value)}
theorem RowOf.frame (hP : Frames P) (h : RowOf w S ty size P v xs css) (hk : ∀ k, S k → k < w.heap.size → S' k ∧ w'.heap[k]? = w.heap[k]?) : RowOf w' S' ty size P v xs css := by
  have hb : ∀ g, v.ownBlock = some g → S' g ∧ w'.heap[g]? = w.heap[g]? := fun g hg => hk g (h.blk g hg) (h.own.lt g hg).2
  refine ⟨ownsRow_same h.own fun g hg => (hb g hg).2, fun g hg => (hb g hg).1, h.all.mono fun c x ⟨a, b, p⟩ => ⟨a, b, hP _ _ _ _ _ _ p fun k hs hl => ?_⟩⟩
  have := hk k hs.1 hl
  exact ⟨⟨this.1, hs.2⟩, this.2⟩
theorem RowAt.frame (hP : Frames P) (h : RowAt w S ty size P v xs) (hk : ∀ k, S k → k < w.heap.size → S' k ∧ w'.heap[k]? = w.heap[k]?) : RowAt w' S' ty size P v xs := h.imp fun _ h => h.frame hP hk
theorem RowOf.nil (w : World) (S : Nat → Prop) (ty : TypeId) (size : Nat) (P : World → (Nat → Prop) → List Value → α → Prop) : RowOf w S ty size P (.slice none 0 0) [] [] :=
  ⟨World.ownsRow_nil _ _ _ _, fun g hg => by simp [Value.ownBlock] at hg, .nil⟩
theorem RowAt.nil (w : World) (S : Nat → Prop) (ty : TypeId) (size : Nat) (P : World → (Nat → Prop) → List Value → α → Prop) : RowAt w S ty size P (.slice none 0 0) [] := ⟨[], RowOf.nil ..⟩
/-- Behind an append of one. -/
theorem RowOf.snoc (hP : Frames P) (h : RowOf w S ty size P v xs css) {c : List Value} {x : α} {Sx : Nat → Prop} (hc : c.length = size) (h1 : ∀ u ∈ c, u.oneCell' = true) (hx : P w Sx c x)
    (hSx : ∀ k, Sx k → k < w.heap.size → S k ∧ v.ownBlock ≠ some k) {H : Nat} (hH : w.heap.size = H) (hS : S H) {g cap b : Nat}
    (hown : w'.ownsRow b ty size (.slice (some ⟨g, 0, none⟩) (xs.length + 1) cap) (xs.length + 1) (css.flatten ++ c)) (hg : w.grownBy w' v.ownBlock) (hat : v.ownBlock = some g ∨ g = H) :
    RowOf w' S ty size P (.slice (some ⟨g, 0, none⟩) (xs.length + 1) cap) (xs ++ [x]) (css ++ [c]) := by
  subst hH
  have hne : ∀ k, k < w.heap.size → v.ownBlock ≠ some k → (Value.slice (some ⟨g, 0, none⟩) (xs.length + 1) cap).ownBlock ≠ some k := by
    intro k hk hv e
    have hgk : g = k := by simpa [Value.ownBlock] using e
    rcases hat with h0 | h0
    · exact hv (by rw [h0, hgk])
    · omega
  refine ⟨?_, ?_, ?_⟩
  · rw [List.flatten_append, List.length_append]
    refine ⟨by simpa using hown.1, ?_⟩
    rcases hown.2 with h0 | ⟨g', cap', cur, hv, hg', hh, r⟩
    · exact absurd h0.1 (by simp)
    · exact .inr ⟨g', cap', cur, hv, Nat.zero_le _, hh, by simpa using r⟩
  · intro k hk
    have hgk : g = k := by simpa [Value.ownBlock] using hk
    subst hgk
    rcases hat with h0 | h0
    · exact h.blk _ h0
    · rw [h0]; exact hS
  · refine Each.snoc (h.all.mono fun c' x' ⟨a, b', p⟩ => ⟨a, b', hP _ _ _ _ _ _ p fun k hs hl => ⟨⟨hs.1, hne k hl hs.2⟩, hg.block k hl (fun e => hs.2 e.symm)⟩⟩) ⟨hc, h1, hP _ _ _ _ _ _ hx fun k hs hl => ?_⟩
    have := hSx k hs hl
    exact ⟨⟨this.1, hne k hl this.2⟩, hg.block k hl (fun e => this.2 e.symm)⟩
end

def slV (x : Sl) : List Value := [.int .u8 x.side, .int .u8 x.zone, .int .u8 x.kind]
def exV (x : Ex) (va : Value) : List Value := [.int .u8 x.op, .int .i64 x.n, .int .u8 x.side, .int .u8 x.sel.side, .int .u8 x.sel.zone, .int .u8 x.sel.kind, va]
/-- An expression's cells, so deep. -/
def ExAt : Nat → World → (Nat → Prop) → List Value → Ex → Prop
  | 0, _, _, c, x => c = exV x (.slice none 0 0) ∧ x.args = []
  | d + 1, w, S, c, x => ∃ va, c = exV x va ∧ RowAt w S 69 7 (ExAt d) va x.args
theorem ExAt.frames : ∀ d, Frames (ExAt d)
  | 0 => fun _ _ _ _ _ _ h _ => h
  | d + 1 => fun _ _ _ _ _ _ ⟨va, hc, hr⟩ hk => ⟨va, hc, hr.frame (ExAt.frames d) hk⟩
theorem ExAt.leaf (d : Nat) (w : World) (S : Nat → Prop) (x : Ex) (h : x.args = []) : ExAt d w S (exV x (.slice none 0 0)) x := by
  cases d with
  | zero => exact ⟨rfl, h⟩
  | succ d => exact ⟨_, rfl, by rw [h]; exact RowAt.nil _ _ _ _ _⟩
theorem ExAt.form {d : Nat} {w : World} {S : Nat → Prop} {c : List Value} {x : Ex} (h : ExAt d w S c x) : ∃ va, c = exV x va ∧ va.oneCell' = true := by
  cases d with
  | zero => exact ⟨_, h.1, rfl⟩
  | succ d =>
    obtain ⟨va, hc, css, ho, -, -⟩ := h
    refine ⟨va, hc, ?_⟩
    rcases ho.2 with ⟨rfl, _⟩ | ⟨g, cap, cur, rfl, _⟩ <;> rfl
theorem RowOf.oneCell {α : Type} {P : World → (Nat → Prop) → List Value → α → Prop} {w : World} {S : Nat → Prop} {ty : TypeId} {size : Nat} {v : Value} {xs : List α} {css : List (List Value)} (h : RowOf w S ty size P v xs css) : v.oneCell' = true := by
  rcases h.own.2 with ⟨rfl, _⟩ | ⟨g, cap, cur, rfl, _⟩ <;> rfl
def stV (x : St) (ce : List Value) : List Value := [.int .u8 x.dof, .int .u8 x.side] ++ ce ++ [.bool x.all] ++ slV x.sel
def StAt (w : World) (S : Nat → Prop) (c : List Value) (x : St) : Prop := ∃ ce, c = stV x ce ∧ ExAt 5 w S ce x.n
theorem StAt.frames : Frames StAt := fun _ _ _ _ _ _ ⟨ce, hc, he⟩ hk => ⟨ce, hc, ExAt.frames 5 _ _ _ _ _ _ he hk⟩
def efV (x : Ef) (vc vs : Value) : List Value := [.int .u8 x.mode, .int .u8 x.ev, .int .u8 x.side, vc, .int .i64 x.pay, .int .i64 x.discard, .bool x.tribute, .int .i64 x.pick, .int .u8 x.sel.side, .int .u8 x.sel.zone, .int .u8 x.sel.kind, vs]
def EfAt (w : World) (S : Nat → Prop) (c : List Value) (x : Ef) : Prop := ∃ vc vs, c = efV x vc vs ∧ RowAt w S 69 7 (ExAt 5) vc x.cond ∧ RowAt w S 71 13 StAt vs x.steps
theorem EfAt.frames : Frames EfAt := fun _ _ _ _ _ _ ⟨vc, vs, hc, h1, h2⟩ hk => ⟨vc, vs, hc, h1.frame (ExAt.frames 5) hk, h2.frame StAt.frames hk⟩
def cdV (x : Cd) (ve : Value) : List Value := [.string x.name, .int .u8 x.kind, .int .i64 x.level, .int .i64 x.attack, .int .i64 x.guard, ve]
def CdAt (w : World) (S : Nat → Prop) (c : List Value) (x : Cd) : Prop := ∃ ve, c = cdV x ve ∧ RowAt w S 67 12 EfAt ve x.effects
theorem CdAt.frames : Frames CdAt := fun _ _ _ _ _ _ ⟨ve, hc, h1⟩ hk => ⟨ve, hc, h1.frame EfAt.frames hk⟩

/-- The blocks from one on. -/
def From (B : Nat) (k : Nat) : Prop := B ≤ k
/-- From block B on nothing that was there has turned. -/
structure Above (B : Nat) (w w' : World) : Prop where
  size : w.heap.size ≤ w'.heap.size
  block : ∀ k, B ≤ k → k < w.heap.size → w'.heap[k]? = w.heap[k]?
theorem Above.refl (B : Nat) (w : World) : Above B w w := ⟨Nat.le_refl _, fun _ _ _ => rfl⟩
theorem Above.trans {B : Nat} {a b c : World} (h : Above B a b) (k : Above B b c) : Above B a c := ⟨Nat.le_trans h.size k.size, fun i hi hl => (k.block i hi (Nat.lt_of_lt_of_le hl h.size)).trans (h.block i hi hl)⟩
theorem Above.alloc {B : Nat} {a w : World} (h : Above B a w) (o : Obj) : Above B a (w.alloc o) := h.trans ⟨by simp, fun k _ hl => Below.heap_alloc _ _ _ hl⟩
theorem Above.drew {B : Nat} {a w : World} (h : Above B a w) : Above B a w.drew := h.trans ⟨Nat.le_refl _, fun _ _ _ => rfl⟩
theorem Above.setCell {B : Nat} {a w : World} (h : Above B a w) {p : Addr} (hp : p.block < B) (u : Value) : Above B a (w.setCell p u) := h.trans ⟨by simp [World.setCell], fun k hk _ => heap_set_far (by omega) u⟩
theorem Above.kept {B R : Nat} {a w w' : World} (h : Above B a w) (k : Kept R w w') (hR : R < B) : Above B a w' := h.trans ⟨k.size, fun i hi hl => k.block i hl (by omega)⟩
theorem Above.below {B : Nat} {a w w' : World} (h : Above B a w) (k : Below w.heap.size w w') : Above B a w' := h.trans ⟨k.size, fun i _ hl => k.block i hl⟩
theorem frames_above {α : Type} {P : World → (Nat → Prop) → List Value → α → Prop} (hP : Frames P) {w w' : World} {B B' : Nat} {c : List Value} {x : α} (h : P w (From B) c x) (a : Above B w w') (hB : B' ≤ B) : P w' (From B') c x :=
  hP _ _ _ _ _ _ h fun k hk hl => ⟨Nat.le_trans hB hk, a.block k hk hl⟩
theorem row_above {α : Type} {P : World → (Nat → Prop) → List Value → α → Prop} (hP : Frames P) {w w' : World} {B B' : Nat} {ty : TypeId} {size : Nat} {v : Value} {xs : List α} (h : RowAt w (From B) ty size P v xs) (a : Above B w w') (hB : B' ≤ B) : RowAt w' (From B') ty size P v xs :=
  h.frame hP fun k hk hl => ⟨Nat.le_trans hB hk, a.block k hk hl⟩
theorem frame_kept {R B B' : Nat} {w w' : World} (h : Kept R w w') (hB : B' ≤ B) (hR : R < B) : ∀ k, From B k → k < w.heap.size → From B' k ∧ w'.heap[k]? = w.heap[k]? :=
  fun k hk hl => ⟨Nat.le_trans hB hk, h.block k hl (by unfold From at hk; omega)⟩

theorem flat_get {size : Nat} : ∀ (css : List (List Value)), (∀ c ∈ css, c.length = size) → ∀ (k j : Nat) (c : List Value), css[k]? = some c → j < size → css.flatten[k * size + j]? = c[j]?
  | [], _, k, j, c, h, _ => by simp at h
  | x :: l, hl, k, j, c, h, hj => by
    have hx : x.length = size := hl x List.mem_cons_self
    rw [List.flatten_cons]
    cases k with
    | zero =>
      simp at h
      subst h
      rw [List.getElem?_append_left (by omega)]
      simp
    | succ k =>
      simp at h
      have e : (k + 1) * size + j = size + (k * size + j) := by rw [Nat.succ_mul]; omega
      rw [e, List.getElem?_append_right (by omega), hx, Nat.add_sub_cancel_left]
      exact flat_get l (fun c hc => hl c (List.mem_cons_of_mem _ hc)) k j c h hj
theorem Each.lens {α : Type} {Q : List Value → α → Prop} {size : Nat} {cs xs} (h : Each Q cs xs) (hq : ∀ c x, Q c x → c.length = size) : ∀ c ∈ cs, c.length = size := by
  induction h with
  | nil => intro c hc; cases hc
  | cons a _ ih =>
    intro c hc
    rcases List.mem_cons.1 hc with rfl | hc
    · exact hq _ _ a
    · exact ih c hc

/-- A slice's things, cell by cell. -/
theorem RowAt.open {α : Type} {P : World → (Nat → Prop) → List Value → α → Prop} {w : World} {S : Nat → Prop} {ty : TypeId} {size : Nat} {v : Value} {xs : List α} (h : RowAt w S ty size P v xs) :
    (v = .slice none 0 0 ∧ xs = []) ∨ ∃ g cap, v = .slice (some ⟨g, 0, none⟩) xs.length cap ∧ xs.length ≤ cap ∧ cap ≤ maxLen ∧ S g ∧ g < w.heap.size ∧ (∃ cur, w.heap[g]? = some (.cells cur ty (0, 0)) ∧ cur.size = cap * size) ∧
      ∀ (k : Nat) (x : α), xs[k]? = some x → ∃ c, c.length = size ∧ P w (fun i => S i ∧ i ≠ g) c x ∧ ∀ (j : Nat) (u : Value), j < size → c[j]? = some u → w.cell? ⟨g, k * size + j, none⟩ = some u := by
  obtain ⟨css, ho, hb, ha⟩ := h
  rcases ho.2 with ⟨hv, hn⟩ | ⟨g, cap, cur, hv, _, hh, hc, hm, hsz, ht⟩
  · exact .inl ⟨hv, List.eq_nil_of_length_eq_zero hn⟩
  · refine .inr ⟨g, cap, hv, hc, hm, hb g (by rw [hv]; rfl), heap_lt hh, ⟨cur, hh, hsz⟩, fun k x hk => ?_⟩
    obtain ⟨c, hck, hlen, -, hp⟩ := ha.get k x hk
    refine ⟨c, hlen, ?_, fun j u hj hu => ?_⟩
    · have e : (fun i => S i ∧ v.ownBlock ≠ some i) = (fun i => S i ∧ i ≠ g) := by
        funext i
        rw [hv]
        simp only [Value.ownBlock, ne_eq, Option.some.injEq, eq_comm]
      rw [e] at hp
      exact hp
    · have hlt : k < xs.length := (List.getElem?_eq_some_iff.1 hk).1
      have hf := flat_get css (ha.lens fun c x h => h.1) k j c hck hj
      rw [cell_blk hh, ← hu, ← hf, ← ht, List.getElem?_take_of_lt ?_]
      · simp
      · have : k * size + size ≤ xs.length * size := by rw [← Nat.succ_mul]; exact Nat.mul_le_mul_right _ hlt
        omega
end Go.Proofs.Ytppgfkdkopfebaa
