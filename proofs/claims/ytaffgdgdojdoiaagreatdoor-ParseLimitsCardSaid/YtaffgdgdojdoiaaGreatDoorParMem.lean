/- Layer 2 (parse): how a reader of tokens lies in memory, and what its calls leave alone. -/
import Derived.Test.YtaffgdgdojdoiaaGreatDoorParSpec
import Derived.Test.YtaffgdgdojdoiaaGreatDoorHasToks
namespace Go.Proofs.YtaffgdgdojdoiaaGreatDoor
open Go.RowKit Go.Lib

/-- Of what was there nothing but the block R has turned. -/
structure Kept (R : Nat) (w w' : World) : Prop where
  os : w'.os = w.os
  tape : w'.tape = w.tape
  output : w'.output = w.output
  size : w.heap.size ≤ w'.heap.size
  block : ∀ k, k < w.heap.size → k ≠ R → w'.heap[k]? = w.heap[k]?
theorem Kept.refl (R : Nat) (w : World) : Kept R w w := ⟨rfl, rfl, rfl, Nat.le_refl _, fun _ _ _ => rfl⟩
theorem Kept.trans {R : Nat} {a b c : World} (h : Kept R a b) (k : Kept R b c) : Kept R a c :=
  ⟨k.os.trans h.os, k.tape.trans h.tape, k.output.trans h.output, Nat.le_trans h.size k.size, fun i hi hr => (k.block i (Nat.lt_of_lt_of_le hi h.size) hr).trans (h.block i hi hr)⟩
theorem Kept.of_below {R : Nat} {w w' : World} (h : Below w.heap.size w w') : Kept R w w' := ⟨h.os, h.tape, h.output, h.size, fun k hk _ => h.block k hk⟩
theorem Kept.alloc {R : Nat} {a w : World} (h : Kept R a w) (o : Obj) : Kept R a (w.alloc o) := h.trans (.of_below ((Below.refl _ _).alloc (Nat.le_refl _) o))
theorem Kept.drew {R : Nat} {a w : World} (h : Kept R a w) : Kept R a w.drew := h.trans (.of_below (Below.refl _ _).drew)
/-- A store into R, or into a block that is new. -/
theorem Kept.setCell {R : Nat} {a w : World} (h : Kept R a w) {p : Addr} (hp : p.block = R ∨ a.heap.size ≤ p.block) (u : Value) : Kept R a (w.setCell p u) :=
  ⟨h.os, h.tape, h.output, by have := h.size; simpa [World.setCell] using this, fun k hk hr => by rw [Below.heap_setCell _ _ _ _ (by omega)]; exact h.block k hk hr⟩
theorem Kept.below {R B : Nat} {w w' : World} (h : Kept R w w') (hB : B ≤ w.heap.size) (hR : B ≤ R) : Below B w w' := ⟨h.os, h.tape, h.output, h.size, fun k hk => h.block k (by omega) (by omega)⟩
theorem Kept.cell {R : Nat} {w w' : World} (h : Kept R w w') {a : Addr} {v : Value} (hr : a.block ≠ R) (hc : w.cell? a = some v) : w'.cell? a = some v := by
  rw [World.cell?_of_block (w := w) (h.block _ (World.block_lt_of_cell? _ _ hc) hr)]; exact hc
theorem Kept.heap {R : Nat} {w w' : World} (h : Kept R w w') {k : Nat} {o : Obj} (hr : k ≠ R) (hc : w.heap[k]? = some o) : w'.heap[k]? = some o := (h.block _ (heap_lt hc) hr).trans hc

structure Env where
  R : Nat
  G : Nat
  cap : Nat
  M : Nat
  A : Nat → Nat
  ts : List Tok

def Env.n (E : Env) : Nat := E.ts.length
/-- The token is one that a scanner hands out. -/
structure WTok (t : Tok) : Prop where
  kind : t.kind ≤ 3
  none : t.kind = 0 → t.text = ⟨#[]⟩
  some : t.kind ≠ 0 → t.text ≠ ⟨#[]⟩
  num : t.kind = 2 → (∀ b ∈ t.text.data.toList, 48 ≤ b.toNat ∧ b.toNat ≤ 57) ∧ valOf t.text.data.toList ≤ 99999
  size : t.text.size ≤ 65536
/-- Tokens as a scanner hands them out: the last one alone is the text's end. -/
structure WToks (ts : List Tok) : Prop where
  pos : 0 < ts.length
  all : ∀ t ∈ ts, WTok t
  last : ∀ p, p < ts.length → ((tk ts p).kind = 0 ↔ p + 1 = ts.length)

theorem tk_mem {ts : List Tok} {p : Nat} (h : p < ts.length) : tk ts p ∈ ts := by
  unfold tk; rw [List.getD_eq_getElem?_getD, List.getElem?_eq_getElem h]; exact List.getElem_mem h
theorem tk_get {ts : List Tok} {p : Nat} (h : p < ts.length) : ts[p]? = some (tk ts p) := by
  unfold tk; rw [List.getD_eq_getElem?_getD, List.getElem?_eq_getElem h]; rfl

def doOf : Nat → Nat | 0 => 0 | 1 => 1 | 2 => 2 | 3 => 3 | 4 => 9 | 5 => 4 | 6 => 5 | 7 => 6 | _ => 8
def amountV (a : Nat) : Value := .func (.func 100) #[] #[.pointer (some ⟨a, 0, none⟩)]
def piecesV (a : Nat) : Value := .func (.func 101) #[] #[.pointer (some ⟨a, 0, none⟩)]
def boostV : Value := .func (.func 71) #[] #[]
def negateV : Value := .func (.func 72) #[] #[]
def entriesOf (A : Nat → Nat) : List MapEntry := [⟨.string ⟨#[100, 114, 97, 119]⟩, amountV (A 0), 0⟩, ⟨.string ⟨#[109, 105, 108, 108]⟩, amountV (A 1), 1⟩, ⟨.string ⟨#[100, 97, 109, 97, 103, 101]⟩, amountV (A 2), 2⟩, ⟨.string ⟨#[104, 101, 97, 108]⟩, amountV (A 3), 3⟩, ⟨.string ⟨#[116, 111, 107, 101, 110]⟩, amountV (A 4), 4⟩,
  ⟨.string ⟨#[100, 101, 115, 116, 114, 111, 121]⟩, piecesV (A 5), 5⟩, ⟨.string ⟨#[98, 97, 110, 105, 115, 104]⟩, piecesV (A 6), 6⟩, ⟨.string ⟨#[98, 111, 117, 110, 99, 101]⟩, piecesV (A 7), 7⟩, ⟨.string ⟨#[114, 101, 118, 105, 118, 101]⟩, piecesV (A 8), 8⟩, ⟨.string ⟨#[98, 111, 111, 115, 116]⟩, boostV, 9⟩, ⟨.string ⟨#[110, 101, 103, 97, 116, 101]⟩, negateV, 10⟩]

/-- What stays as it is while a reader reads. -/
structure EnvAt (w : World) (E : Env) : Prop where
  toks : ∀ k t, E.ts[k]? = some t → w.cell? ⟨E.G, k * 4, none⟩ = some (.int .u8 t.kind) ∧ w.cell? ⟨E.G, k * 4 + 1, none⟩ = some (.string t.text) ∧ w.cell? ⟨E.G, k * 4 + 2, none⟩ = some (.int .i64 t.spot.1) ∧ w.cell? ⟨E.G, k * 4 + 3, none⟩ = some (.int .i64 t.spot.2)
  gR : E.G ≠ E.R
  fit : E.n ≤ E.cap ∧ E.cap ≤ maxLen
  map : w.heap[E.M]? = some (.map (entriesOf E.A).toArray 11)
  mR : E.M ≠ E.R
  vars : ∀ i, i < 9 → w.heap[E.A i]? = some (.cells #[.int .u8 (doOf i)] 5 (0, 0)) ∧ E.A i ≠ E.R
  syn : 4 ≠ E.R ∧ ∃ te pe, w.cell? ⟨4, 0, none⟩ = some (.iface te pe)
  rng : 5 ≠ E.R ∧ ∃ te pe, w.cell? ⟨5, 0, none⟩ = some (.iface te pe)
  wf : WToks E.ts

theorem EnvAt.kept {w w' : World} {E : Env} (h : EnvAt w E) (k : Kept E.R w w') : EnvAt w' E := by
  refine ⟨fun i t hi => ?_, h.gR, h.fit, k.heap h.mR h.map, h.mR, fun i hi => ⟨k.heap (h.vars i hi).2 (h.vars i hi).1, (h.vars i hi).2⟩, ⟨h.syn.1, ?_⟩, ⟨h.rng.1, ?_⟩, h.wf⟩
  · obtain ⟨a, b, c, d⟩ := h.toks i t hi
    exact ⟨k.cell h.gR a, k.cell h.gR b, k.cell h.gR c, k.cell h.gR d⟩
  · obtain ⟨te, pe, hc⟩ := h.syn.2
    exact ⟨te, pe, k.cell h.syn.1 hc⟩
  · obtain ⟨te, pe, hc⟩ := h.rng.2
    exact ⟨te, pe, k.cell h.rng.1 hc⟩

def RS.pos (n : Nat) : RS → Nat | .ok p => p | .bad _ _ _ => n - 1
def RS.e : RS → Int | .ok _ => 0 | .bad e _ _ => e
def RS.l : RS → Int | .ok _ => 0 | .bad _ l _ => l
def RS.c : RS → Int | .ok _ => 0 | .bad _ _ c => c
def RS.fits (n : Nat) : RS → Prop | .ok p => p < n | .bad e _ _ => e ≠ 0
def rdCells (E : Env) (s : RS) (d : Int) : Array Value :=
  #[.slice (some ⟨E.G, s.pos E.n * 4, none⟩) (E.n - s.pos E.n) (E.cap - s.pos E.n), .map (some E.M), .int .i64 d, .int .i64 s.e, .int .i64 s.l, .int .i64 s.c]

/-- A reader in memory. -/
structure Rd (w : World) (E : Env) (s : RS) (d : Int) : Prop where
  env : EnvAt w E
  rd : w.heap[E.R]? = some (.cells (rdCells E s d) 80 (0, 0))
  fits : s.fits E.n
theorem Rd.below {w w' : World} {E : Env} {s : RS} {d : Int} (h : Rd w E s d) (b : Below w.heap.size w w') : Rd w' E s d := ⟨h.env.kept (.of_below b), (b.block _ (heap_lt h.rd)).trans h.rd, h.fits⟩
theorem Rd.lt {w : World} {E : Env} {s : RS} {d : Int} (h : Rd w E s d) : E.R < w.heap.size := heap_lt h.rd
theorem Rd.posLt {w : World} {E : Env} {s : RS} {d : Int} (h : Rd w E s d) : s.pos E.n < E.n := by
  have := h.env.wf.pos
  have hf := h.fits
  cases s with
  | ok p => exact hf
  | bad e l c => simp [RS.pos, Env.n] at *; omega
/-- What the reader's next token is. -/
def Env.tok (E : Env) (s : RS) : Tok := tk E.ts (s.pos E.n)
/-- A call that reads leaves the reader so. -/
structure Goes (w : World) (E : Env) (s' : RS) (d : Int) (w' : World) : Prop where
  rd : Rd w' E s' d
  kept : Kept E.R w w'
end Go.Proofs.YtaffgdgdojdoiaaGreatDoor
