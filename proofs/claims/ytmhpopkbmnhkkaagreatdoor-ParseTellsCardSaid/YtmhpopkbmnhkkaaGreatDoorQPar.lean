import Derived.Test.YtmhpopkbmnhkkaaGreatDoorQScan
/- Layer 2 (parse), plain: cards and expressions out of tokens, one behind the other, or the first fault. -/
namespace Go.Proofs.YtmhpopkbmnhkkaaGreatDoor
open Go.RowKit Go.Lib

structure Sl where
  side : Nat
  zone : Nat
  kind : Nat
inductive Ex where
  | mk (op : Nat) (n : Int) (side : Nat) (sel : Sl) (args : List Ex)
structure St where
  dof : Nat
  side : Nat
  n : Ex
  all : Bool
  sel : Sl
structure Ef where
  mode : Nat
  ev : Nat
  side : Nat
  cond : List Ex
  pay : Int
  discard : Int
  tribute : Bool
  pick : Int
  sel : Sl
  steps : List St
structure Cd where
  name : ByteArray
  kind : Nat
  level : Int
  attack : Int
  guard : Int
  effects : List Ef

def Ex.op : Ex → Nat | .mk o _ _ _ _ => o
def Ex.n : Ex → Int | .mk _ n _ _ _ => n
def Ex.side : Ex → Nat | .mk _ _ s _ _ => s
def Ex.sel : Ex → Sl | .mk _ _ _ s _ => s
def Ex.args : Ex → List Ex | .mk _ _ _ _ l => l
def Sl.zero : Sl := ⟨0, 0, 0⟩
def Ex.zero : Ex := .mk 0 0 0 .zero []
def St.zero : St := ⟨0, 0, .zero, false, .zero⟩

/-- A fault: its number, its line, its column. -/
abbrev Flt := Int × Int × Int
/-- What reads from a place among tokens on: a fault, or what was read and the place behind it. -/
abbrev Par (α : Type) := Nat → Except Flt (α × Nat)
def Par.pure {α : Type} (a : α) : Par α := fun p => .ok (a, p)
def Par.bind {α β : Type} (f : Par α) (g : α → Par β) : Par β := fun p => match f p with
  | .error e => .error e
  | .ok (a, q) => g a q
def Par.map {α β : Type} (f : Par α) (g : α → β) : Par β := f.bind fun a => .pure (g a)

section
variable (ts : List Tok)
def tk (p : Nat) : Tok := ts.getD p (endTok (0, 0))
def pFail {α : Type} (e : Int) : Par α := fun p => .error (e, (tk ts p).spot.1, (tk ts p).spot.2)
def pMark (t : ByteArray) : Par Unit := fun p => if (tk ts p).text = t then .ok ((), p + 1) else pFail ts 5 p
def pSkip (t : ByteArray) : Par Bool := fun p => if (tk ts p).text = t then .ok (true, p + 1) else .ok (false, p)
def pOpt {α : Type} (t : ByteArray) (f : Par α) (z : α) : Par α := fun p => if (tk ts p).text = t then f (p + 1) else .ok (z, p)
def pName : Par ByteArray := fun p => if (tk ts p).kind = 1 then .ok ((tk ts p).text, p + 1) else pFail ts 5 p
/-- The value of a row of digits. -/
def valOf (l : List UInt8) : Nat := l.foldl (fun v b => 10 * v + (b.toNat - 48)) 0
def pNum : Par Int := fun p => if (tk ts p).kind = 2 then .ok ((valOf (tk ts p).text.data.toList : Int), p + 1) else pFail ts 5 p
def findW : List ByteArray → ByteArray → Nat → Option Nat
  | [], _, _ => none
  | w :: l, t, i => if w = t then some i else findW l t (i + 1)
def pOne (ws : List ByteArray) : Par Nat := fun p => match findW ws (tk ts p).text 0 with
  | some i => .ok (i, p + 1)
  | none => pFail ts 5 p
def pMany {α : Type} (begins : Tok → Bool) (read : Par α) : Nat → List α → Par (List α)
  | 0, acc => fun p => if begins (tk ts p) then pFail ts 3 p else .ok (acc, p)
  | l + 1, acc => fun p => if begins (tk ts p) then (read.bind fun x => pMany begins read l (acc ++ [x])) p else .ok (acc, p)

def sidesW : List ByteArray := [⟨#[109, 105, 110, 101]⟩, ⟨#[116, 104, 101, 105, 114, 115]⟩, ⟨#[97, 110, 121]⟩, ⟨#[115, 101, 108, 102]⟩]
def zonesW : List ByteArray := [⟨#[100, 101, 99, 107]⟩, ⟨#[104, 97, 110, 100]⟩, ⟨#[114, 111, 119]⟩, ⟨#[98, 97, 99, 107]⟩, ⟨#[103, 114, 97, 118, 101]⟩, ⟨#[101, 120, 105, 108, 101]⟩]
def kindsW : List ByteArray := [⟨#[117, 110, 105, 116]⟩, ⟨#[115, 112, 101, 108, 108]⟩, ⟨#[113, 117, 105, 99, 107]⟩, ⟨#[116, 114, 97, 112]⟩, ⟨#[99, 111, 117, 110, 116, 101, 114]⟩]
def selKindsW : List ByteArray := [⟨#[97, 108, 108]⟩, ⟨#[117, 110, 105, 116]⟩, ⟨#[115, 112, 101, 108, 108]⟩, ⟨#[113, 117, 105, 99, 107]⟩, ⟨#[116, 114, 97, 112]⟩, ⟨#[99, 111, 117, 110, 116, 101, 114]⟩]
def eventsW : List ByteArray := [⟨#[116, 114, 121]⟩, ⟨#[115, 117, 109, 109, 111, 110]⟩, ⟨#[97, 116, 116, 97, 99, 107]⟩, ⟨#[100, 101, 115, 116, 114, 111, 121]⟩, ⟨#[100, 97, 109, 97, 103, 101]⟩, ⟨#[108, 105, 110, 107]⟩, ⟨#[115, 116, 97, 110, 100, 98, 121]⟩, ⟨#[101, 110, 100]⟩]
def modesW : List ByteArray := [⟨#[112, 108, 97, 121]⟩, ⟨#[97, 99, 116]⟩, ⟨#[115, 119, 105, 102, 116]⟩, ⟨#[119, 104, 101, 110]⟩, ⟨#[105, 102]⟩, ⟨#[109, 117, 115, 116]⟩, ⟨#[97, 117, 114, 97]⟩]
def stepsW : List ByteArray := [⟨#[100, 114, 97, 119]⟩, ⟨#[109, 105, 108, 108]⟩, ⟨#[100, 97, 109, 97, 103, 101]⟩, ⟨#[104, 101, 97, 108]⟩, ⟨#[100, 101, 115, 116, 114, 111, 121]⟩, ⟨#[98, 97, 110, 105, 115, 104]⟩, ⟨#[98, 111, 117, 110, 99, 101]⟩, ⟨#[98, 111, 111, 115, 116]⟩, ⟨#[114, 101, 118, 105, 118, 101]⟩, ⟨#[116, 111, 107, 101, 110]⟩, ⟨#[110, 101, 103, 97, 116, 101]⟩]
def opsW : List ByteArray := [⟨#[43]⟩, ⟨#[45]⟩, ⟨#[42]⟩, ⟨#[60]⟩, ⟨#[61]⟩, ⟨#[97, 110, 100]⟩, ⟨#[111, 114]⟩, ⟨#[110, 111, 116]⟩]
def inW (ws : List ByteArray) (t : Tok) : Bool := (findW ws t.text 0).isSome

def pSel : Par Sl := (pOne ts sidesW).bind fun a => (pOne ts zonesW).bind fun b => (pOne ts selKindsW).map fun c => ⟨a, b, c⟩

def pArgs (inner : Par Ex) (o : Nat) : Par (List Ex) := inner.bind fun a => if o = 7 then .pure [a] else inner.map fun b => [a, b]
def pNest (inner : Par Ex) : Par Ex := (pMark ts ⟨#[40]⟩).bind fun _ => (pOne ts opsW).bind fun o => (pArgs inner o).bind fun l => (pMark ts ⟨#[41]⟩).map fun _ => .mk (4 + o) 0 0 .zero l
def pExprBy (nest : Par Ex) : Par Ex := fun p =>
  if (tk ts p).text = ⟨#[40]⟩ then nest p
  else if (tk ts p).text = ⟨#[108, 105, 102, 101]⟩ then (pOne ts sidesW).map (fun s => Ex.mk 1 0 s .zero []) (p + 1)
  else if (tk ts p).text = ⟨#[99, 111, 117, 110, 116]⟩ then (pSel ts).map (fun s => Ex.mk 2 0 0 s []) (p + 1)
  else if (tk ts p).text = ⟨#[112, 111, 119, 101, 114]⟩ then .ok (.mk 3 0 0 .zero [], p + 1)
  else (pNum ts).map (fun n => Ex.mk 0 n 0 .zero []) p
/-- An expression within which so many parentheses may still be opened. -/
def pExpr : Nat → Par Ex
  | 0 => pExprBy ts (pFail ts 3)
  | k + 1 => pExprBy ts (pNest ts (pExpr k))

def pOf (s : St) : Par St := fun p => if (tk ts p).text = ⟨#[59]⟩ then .ok (s, p) else (pSel ts).map (fun x => { s with all := true, sel := x }) p
def pStepBody (d : Nat) : Par St :=
  if d = 0 ∨ d = 1 ∨ d = 2 ∨ d = 3 ∨ d = 9 then (pOne ts sidesW).bind fun a => (pExpr ts 5).map fun x => ⟨d, a, x, false, .zero⟩
  else if d = 7 then (pExpr ts 5).bind fun x => pOf ts ⟨d, 0, x, false, .zero⟩
  else if d = 10 then .pure ⟨d, 0, .zero, false, .zero⟩
  else pOf ts ⟨d, 0, .zero, false, .zero⟩
def pStep : Par St := (pOne ts stepsW).bind fun d => (pStepBody ts d).bind fun s => (pMark ts ⟨#[59]⟩).map fun _ => s
def pNeed : Par Ex := (pMark ts ⟨#[110, 101, 101, 100, 115]⟩).bind fun _ => pExpr ts 5
def pUpon : Par (Nat × Nat) := pOpt ts ⟨#[117, 112, 111, 110]⟩ ((pOne ts eventsW).bind fun e => (pOne ts sidesW).map fun s => (e + 1, s)) (0, 0)
def pPicks : Par (Int × Sl) := pOpt ts ⟨#[112, 105, 99, 107, 115]⟩ ((pNum ts).bind fun n => (pSel ts).map fun s => (n, s)) (0, .zero)
def pEffect : Par Ef := (pOne ts modesW).bind fun m => (pUpon ts).bind fun u => (pMany ts (inW [⟨#[110, 101, 101, 100, 115]⟩]) (pNeed ts) 6 []).bind fun c =>
  (pOpt ts ⟨#[112, 97, 121, 115]⟩ (pNum ts) 0).bind fun pay => (pOpt ts ⟨#[100, 114, 111, 112, 115]⟩ (pNum ts) 0).bind fun dr => (pSkip ts ⟨#[115, 112, 101, 110, 100, 115]⟩).bind fun sp => (pPicks ts).bind fun pk =>
  (pMark ts ⟨#[58]⟩).bind fun _ => (pMany ts (inW stepsW) (pStep ts) 6 []).map fun l => ⟨m, u.1, u.2, c, pay, dr, sp, pk.1, pk.2, l⟩
def pUnit (k : Nat) : Par (Int × Int × Int) := if k = 0 then (pNum ts).bind fun a => (pNum ts).bind fun b => (pNum ts).map fun c => (a, b, c) else .pure (0, 0, 0)
def pCard : Par Cd := (pOne ts kindsW).bind fun k => (pName ts).bind fun n => (pUnit ts k).bind fun u => (pMark ts ⟨#[123]⟩).bind fun _ =>
  (pMany ts (inW modesW) (pEffect ts) 4 []).bind fun l => (pMark ts ⟨#[125]⟩).map fun _ => ⟨n, k, u.1, u.2.1, u.2.2, l⟩
def beginsB (t : Tok) : Bool := inW [⟨#[108, 105, 102, 101]⟩, ⟨#[99, 111, 117, 110, 116]⟩, ⟨#[112, 111, 119, 101, 114]⟩, ⟨#[40]⟩] t || t.kind == 2
def pWhole {α : Type} (a : α) : Par α := fun p => if (tk ts p).kind = 0 then .ok (a, p) else pFail ts 5 p
def pPool : Par (List Cd) := (pMany ts (inW kindsW) (pCard ts) 64 []).bind (pWhole ts)
def pExprs : Par (List Ex) := (pMany ts beginsB (pExpr ts 5) 6 []).bind (pWhole ts)
end

/-- What a text's reader answers. -/
def readAll {α : Type} (p : List Tok → Par (List α)) (s : ByteArray) : List α × Flt :=
  if (scanOf s).2.1 = 0 then match p (scanOf s).1 0 with
    | .error f => ([], f)
    | .ok (l, _) => (l, 0, 0, 0)
  else ([], ((scanOf s).2.1, (scanOf s).2.2.1, (scanOf s).2.2.2))
def poolOf (s : ByteArray) : List Cd × Flt := readAll pPool s
def exprsOf (s : ByteArray) : List Ex × Flt := readAll pExprs s

/-- How a reader stands: at a place, or behind its first fault. -/
inductive RS where
  | ok (p : Nat)
  | bad (e l c : Int)

/-- What a call that reads does to how the reader stands; behind a fault what it hands back doesn't count. -/
def Res {α : Type} (f : Par α) : RS → α → RS → Prop
  | .bad e l c, _, s' => s' = .bad e l c
  | .ok p, x, s' => match f p with
    | .error t => s' = .bad t.1 t.2.1 t.2.2
    | .ok (a, q) => x = a ∧ s' = .ok q

theorem Res.bind {α β : Type} {f : Par α} {g : α → Par β} {s s1 s2 : RS} {x : α} {y : β} (h1 : Res f s x s1) (h2 : Res (g x) s1 y s2) : Res (f.bind g) s y s2 := by
  cases s with
  | bad e l c => simp only [Res] at h1 ⊢; subst h1; exact h2
  | ok p =>
    simp only [Res, Par.bind] at h1 ⊢
    cases hf : f p with
    | error t => rw [hf] at h1; simp only at h1 ⊢; subst h1; exact h2
    | ok r =>
      obtain ⟨a, q⟩ := r
      rw [hf] at h1
      simp only at h1 ⊢
      obtain ⟨rfl, rfl⟩ := h1
      exact h2
theorem Res.pure {α : Type} (a : α) (s : RS) : Res (Par.pure a) s a s := by cases s <;> simp [Res, Par.pure]
theorem Res.map {α β : Type} {f : Par α} (g : α → β) {s s1 : RS} {x : α} (h : Res f s x s1) : Res (f.map g) s (g x) s1 := Res.bind h (Res.pure _ _)
theorem Res.bad {α : Type} (f : Par α) (e l c : Int) (x : α) : Res f (.bad e l c) x (.bad e l c) := rfl
theorem Res.of_ok {α : Type} {f : Par α} {p q : Nat} {a : α} (h : f p = .ok (a, q)) : Res f (.ok p) a (.ok q) := by simp [Res, h]
theorem Res.of_error {α : Type} {f : Par α} {p : Nat} {e l c : Int} (h : f p = .error (e, l, c)) (x : α) : Res f (.ok p) x (.bad e l c) := by simp [Res, h]
theorem Res.congr {α : Type} {f g : Par α} {s s' : RS} {x : α} (h : ∀ p, s = .ok p → f p = g p) (hf : Res f s x s') : Res g s x s' := by
  cases s with
  | bad e l c => exact hf
  | ok p => simp only [Res] at hf ⊢; rw [← h p rfl]; exact hf
end Go.Proofs.YtmhpopkbmnhkkaaGreatDoor

/- Layer 2 (parse): how a reader of tokens lies in memory, and what its calls leave alone. -/
namespace Go.Proofs.YtmhpopkbmnhkkaaGreatDoor
open Go.RowKit Go.Lib

/-- Of what was there nothing but the block R has turned. -/
structure Kept (R : Nat) (w w' : World) : Prop where
  os : w'.os = w.os
  tape : w'.tape = w.tape
  output : w'.output = w.output
  size : w.heap.size ≤ w'.heap.size
  block : ∀ k, k < w.heap.size → k ≠ R → w'.heap[k]? = w.heap[k]?
theorem Kept.refl (R : Nat) (w : World) : Kept R w w := ⟨rfl, rfl, rfl, Nat.le_refl _, fun _ _ _ => rfl⟩
theorem Kept.trans {R : Nat} {a b c : World} (h : Kept R a b) (k : Kept R b c) : Kept R a c :=
  ⟨k.os.trans h.os, k.tape.trans h.tape, k.output.trans h.output, Nat.le_trans h.size k.size, fun i hi hr => (k.block i (Nat.lt_of_lt_of_le hi h.size) hr).trans (h.block i hi hr)⟩
theorem Kept.of_below {R : Nat} {w w' : World} (h : Below w.heap.size w w') : Kept R w w' := ⟨h.os, h.tape, h.output, h.size, fun k hk _ => h.block k hk⟩
theorem Kept.alloc {R : Nat} {a w : World} (h : Kept R a w) (o : Obj) : Kept R a (w.alloc o) := h.trans (.of_below ((Below.refl _ _).alloc (Nat.le_refl _) o))
theorem Kept.drew {R : Nat} {a w : World} (h : Kept R a w) : Kept R a w.drew := h.trans (.of_below (Below.refl _ _).drew)
/-- A store into R, or into a block that is new. -/
theorem Kept.setCell {R : Nat} {a w : World} (h : Kept R a w) {p : Addr} (hp : p.block = R ∨ a.heap.size ≤ p.block) (u : Value) : Kept R a (w.setCell p u) :=
  ⟨h.os, h.tape, h.output, by have := h.size; simpa [World.setCell] using this, fun k hk hr => by rw [Below.heap_setCell _ _ _ _ (by omega)]; exact h.block k hk hr⟩
theorem Kept.below {R B : Nat} {w w' : World} (h : Kept R w w') (hB : B ≤ w.heap.size) (hR : B ≤ R) : Below B w w' := ⟨h.os, h.tape, h.output, h.size, fun k hk => h.block k (by omega) (by omega)⟩
theorem Kept.cell {R : Nat} {w w' : World} (h : Kept R w w') {a : Addr} {v : Value} (hr : a.block ≠ R) (hc : w.cell? a = some v) : w'.cell? a = some v := by
  rw [World.cell?_of_block (w := w) (h.block _ (World.block_lt_of_cell? _ _ hc) hr)]; exact hc
theorem Kept.heap {R : Nat} {w w' : World} (h : Kept R w w') {k : Nat} {o : Obj} (hr : k ≠ R) (hc : w.heap[k]? = some o) : w'.heap[k]? = some o := (h.block _ (heap_lt hc) hr).trans hc

structure Env where
  R : Nat
  G : Nat
  cap : Nat
  M : Nat
  A : Nat → Nat
  ts : List Tok

def Env.n (E : Env) : Nat := E.ts.length
/-- The token is one that a scanner hands out. -/
structure WTok (t : Tok) : Prop where
  kind : t.kind ≤ 3
  none : t.kind = 0 → t.text = ⟨#[]⟩
  some : t.kind ≠ 0 → t.text ≠ ⟨#[]⟩
  num : t.kind = 2 → (∀ b ∈ t.text.data.toList, 48 ≤ b.toNat ∧ b.toNat ≤ 57) ∧ valOf t.text.data.toList ≤ 99999
  size : t.text.size ≤ 65536
/-- Tokens as a scanner hands them out: the last one alone is the text's end. -/
structure WToks (ts : List Tok) : Prop where
  pos : 0 < ts.length
  all : ∀ t ∈ ts, WTok t
  last : ∀ p, p < ts.length → ((tk ts p).kind = 0 ↔ p + 1 = ts.length)

theorem tk_mem {ts : List Tok} {p : Nat} (h : p < ts.length) : tk ts p ∈ ts := by
  unfold tk; rw [List.getD_eq_getElem?_getD, List.getElem?_eq_getElem h]; exact List.getElem_mem h
theorem tk_get {ts : List Tok} {p : Nat} (h : p < ts.length) : ts[p]? = some (tk ts p) := by
  unfold tk; rw [List.getD_eq_getElem?_getD, List.getElem?_eq_getElem h]; rfl

def doOf : Nat → Nat | 0 => 0 | 1 => 1 | 2 => 2 | 3 => 3 | 4 => 9 | 5 => 4 | 6 => 5 | 7 => 6 | _ => 8
def amountV (a : Nat) : Value := .func (.func 152) #[] #[.pointer (some ⟨a, 0, none⟩)]
def piecesV (a : Nat) : Value := .func (.func 153) #[] #[.pointer (some ⟨a, 0, none⟩)]
def boostV : Value := .func (.func 111) #[] #[]
def negateV : Value := .func (.func 112) #[] #[]
def entriesOf (A : Nat → Nat) : List MapEntry := [⟨.string ⟨#[100, 114, 97, 119]⟩, amountV (A 0), 0⟩, ⟨.string ⟨#[109, 105, 108, 108]⟩, amountV (A 1), 1⟩, ⟨.string ⟨#[100, 97, 109, 97, 103, 101]⟩, amountV (A 2), 2⟩, ⟨.string ⟨#[104, 101, 97, 108]⟩, amountV (A 3), 3⟩, ⟨.string ⟨#[116, 111, 107, 101, 110]⟩, amountV (A 4), 4⟩,
  ⟨.string ⟨#[100, 101, 115, 116, 114, 111, 121]⟩, piecesV (A 5), 5⟩, ⟨.string ⟨#[98, 97, 110, 105, 115, 104]⟩, piecesV (A 6), 6⟩, ⟨.string ⟨#[98, 111, 117, 110, 99, 101]⟩, piecesV (A 7), 7⟩, ⟨.string ⟨#[114, 101, 118, 105, 118, 101]⟩, piecesV (A 8), 8⟩, ⟨.string ⟨#[98, 111, 111, 115, 116]⟩, boostV, 9⟩, ⟨.string ⟨#[110, 101, 103, 97, 116, 101]⟩, negateV, 10⟩]

/-- What stays as it is while a reader reads. -/
structure EnvAt (w : World) (E : Env) : Prop where
  toks : ∀ k t, E.ts[k]? = some t → w.cell? ⟨E.G, k * 4, none⟩ = some (.int .u8 t.kind) ∧ w.cell? ⟨E.G, k * 4 + 1, none⟩ = some (.string t.text) ∧ w.cell? ⟨E.G, k * 4 + 2, none⟩ = some (.int .i64 t.spot.1) ∧ w.cell? ⟨E.G, k * 4 + 3, none⟩ = some (.int .i64 t.spot.2)
  gR : E.G ≠ E.R
  fit : E.n ≤ E.cap ∧ E.cap ≤ maxLen
  map : w.heap[E.M]? = some (.map (entriesOf E.A).toArray 11)
  mR : E.M ≠ E.R
  vars : ∀ i, i < 9 → w.heap[E.A i]? = some (.cells #[.int .u8 (doOf i)] 5 (0, 0)) ∧ E.A i ≠ E.R
  syn : 10 ≠ E.R ∧ ∃ te pe, w.cell? ⟨10, 0, none⟩ = some (.iface te pe)
  rng : 11 ≠ E.R ∧ ∃ te pe, w.cell? ⟨11, 0, none⟩ = some (.iface te pe)
  wf : WToks E.ts

theorem EnvAt.kept {w w' : World} {E : Env} (h : EnvAt w E) (k : Kept E.R w w') : EnvAt w' E := by
  refine ⟨fun i t hi => ?_, h.gR, h.fit, k.heap h.mR h.map, h.mR, fun i hi => ⟨k.heap (h.vars i hi).2 (h.vars i hi).1, (h.vars i hi).2⟩, ⟨h.syn.1, ?_⟩, ⟨h.rng.1, ?_⟩, h.wf⟩
  · obtain ⟨a, b, c, d⟩ := h.toks i t hi
    exact ⟨k.cell h.gR a, k.cell h.gR b, k.cell h.gR c, k.cell h.gR d⟩
  · obtain ⟨te, pe, hc⟩ := h.syn.2
    exact ⟨te, pe, k.cell h.syn.1 hc⟩
  · obtain ⟨te, pe, hc⟩ := h.rng.2
    exact ⟨te, pe, k.cell h.rng.1 hc⟩

def RS.pos (n : Nat) : RS → Nat | .ok p => p | .bad _ _ _ => n - 1
def RS.e : RS → Int | .ok _ => 0 | .bad e _ _ => e
def RS.l : RS → Int | .ok _ => 0 | .bad _ l _ => l
def RS.c : RS → Int | .ok _ => 0 | .bad _ _ c => c
def RS.fits (n : Nat) : RS → Prop | .ok p => p < n | .bad e _ _ => e ≠ 0
def rdCells (E : Env) (s : RS) (d : Int) : Array Value :=
  #[.slice (some ⟨E.G, s.pos E.n * 4, none⟩) (E.n - s.pos E.n) (E.cap - s.pos E.n), .map (some E.M), .int .i64 d, .int .i64 s.e, .int .i64 s.l, .int .i64 s.c]

/-- A reader in memory. -/
structure Rd (w : World) (E : Env) (s : RS) (d : Int) : Prop where
  env : EnvAt w E
  rd : w.heap[E.R]? = some (.cells (rdCells E s d) 101 (0, 0))
  fits : s.fits E.n
theorem Rd.below {w w' : World} {E : Env} {s : RS} {d : Int} (h : Rd w E s d) (b : Below w.heap.size w w') : Rd w' E s d := ⟨h.env.kept (.of_below b), (b.block _ (heap_lt h.rd)).trans h.rd, h.fits⟩
theorem Rd.lt {w : World} {E : Env} {s : RS} {d : Int} (h : Rd w E s d) : E.R < w.heap.size := heap_lt h.rd
theorem Rd.posLt {w : World} {E : Env} {s : RS} {d : Int} (h : Rd w E s d) : s.pos E.n < E.n := by
  have := h.env.wf.pos
  have hf := h.fits
  cases s with
  | ok p => exact hf
  | bad e l c => simp [RS.pos, Env.n] at *; omega
/-- What the reader's next token is. -/
def Env.tok (E : Env) (s : RS) : Tok := tk E.ts (s.pos E.n)
/-- A call that reads leaves the reader so. -/
structure Goes (w : World) (E : Env) (s' : RS) (d : Int) (w' : World) : Prop where
  rd : Rd w' E s' d
  kept : Kept E.R w w'
end Go.Proofs.YtmhpopkbmnhkkaaGreatDoor

/- Layer 2 (parse): lists of expressions, steps, effects, cards in memory. -/
namespace Go.Proofs.YtmhpopkbmnhkkaaGreatDoor
open Go.RowKit Go.Lib

/-- What is told of one thing's cells, within some blocks, holds where these blocks are the same. -/
def Frames {α : Type} (P : World → (Nat → Prop) → List Value → α → Prop) : Prop :=
  ∀ w w' (S S' : Nat → Prop) c x, P w S c x → (∀ k, S k → k < w.heap.size → S' k ∧ w'.heap[k]? = w.heap[k]?) → P w' S' c x

inductive Each {α : Type} (Q : List Value → α → Prop) : List (List Value) → List α → Prop
  | nil : Each Q [] []
  | cons {c x cs xs} : Q c x → Each Q cs xs → Each Q (c :: cs) (x :: xs)
theorem Each.mono {α : Type} {Q Q' : List Value → α → Prop} {cs xs} (h : Each Q cs xs) (hq : ∀ c x, Q c x → Q' c x) : Each Q' cs xs := by
  induction h with
  | nil => exact .nil
  | cons a _ ih => exact .cons (hq _ _ a) ih
theorem Each.snoc {α : Type} {Q : List Value → α → Prop} {cs xs c x} (h : Each Q cs xs) (hx : Q c x) : Each Q (cs ++ [c]) (xs ++ [x]) := by
  induction h with
  | nil => exact .cons hx .nil
  | cons a _ ih => exact .cons a ih
theorem Each.get {α : Type} {Q : List Value → α → Prop} {cs xs} (h : Each Q cs xs) : ∀ (k : Nat) x, xs[k]? = some x → ∃ c, cs[k]? = some c ∧ Q c x := by
  induction h with
  | nil => intro k x h; simp at h
  | cons a _ ih =>
    intro k x h
    cases k with
    | zero => simp at h; subst h; exact ⟨_, rfl, a⟩
    | succ k => simpa using ih k x (by simpa using h)

/-- The cells of one thing of a row. -/
def OneOf {α : Type} (w : World) (S : Nat → Prop) (size : Nat) (P : World → (Nat → Prop) → List Value → α → Prop) (v : Value) (c : List Value) (x : α) : Prop :=
  c.length = size ∧ (∀ u ∈ c, u.oneCell' = true) ∧ P w (fun k => S k ∧ v.ownBlock ≠ some k) c x
/-- A slice of things, whose cells are so. -/
structure RowOf {α : Type} (w : World) (S : Nat → Prop) (ty : TypeId) (size : Nat) (P : World → (Nat → Prop) → List Value → α → Prop) (v : Value) (xs : List α) (css : List (List Value)) : Prop where
  own : w.ownsRow 0 ty size v xs.length css.flatten
  blk : ∀ g, v.ownBlock = some g → S g
  all : Each (OneOf w S size P v) css xs
def RowAt {α : Type} (w : World) (S : Nat → Prop) (ty : TypeId) (size : Nat) (P : World → (Nat → Prop) → List Value → α → Prop) (v : Value) (xs : List α) : Prop := ∃ css, RowOf w S ty size P v xs css

theorem ownsRow_same {w w' : World} {b : Nat} {e : TypeId} {size : Nat} {v : Value} {n : Nat} {xs : List Value} (h : w.ownsRow b e size v n xs) (hs : ∀ g, v.ownBlock = some g → w'.heap[g]? = w.heap[g]?) : w'.ownsRow b e size v n xs := by
  refine ⟨h.1, ?_⟩
  rcases h.2 with h0 | ⟨g, cap, cur, hv, hg, hh, r⟩
  · exact .inl h0
  · exact .inr ⟨g, cap, cur, hv, hg, (hs g (by rw [hv]; rfl)).trans hh, r⟩

section
variable {α : Type} {P : World → (Nat → Prop) → List Value → α → Prop} {w w' : World} {S S' : Nat → Prop} {ty : TypeId} {size : Nat} {v : Value} {xs : List α} {css : List (List Value)}
theorem RowOf.frame (hP : Frames P) (h : RowOf w S ty size P v xs css) (hk : ∀ k, S k → k < w.heap.size → S' k ∧ w'.heap[k]? = w.heap[k]?) : RowOf w' S' ty size P v xs css := by
  have hb : ∀ g, v.ownBlock = some g → S' g ∧ w'.heap[g]? = w.heap[g]? := fun g hg => hk g (h.blk g hg) (h.own.lt g hg).2
  refine ⟨ownsRow_same h.own fun g hg => (hb g hg).2, fun g hg => (hb g hg).1, h.all.mono fun c x ⟨a, b, p⟩ => ⟨a, b, hP _ _ _ _ _ _ p fun k hs hl => ?_⟩⟩
  have := hk k hs.1 hl
  exact ⟨⟨this.1, hs.2⟩, this.2⟩
theorem RowAt.frame (hP : Frames P) (h : RowAt w S ty size P v xs) (hk : ∀ k, S k → k < w.heap.size → S' k ∧ w'.heap[k]? = w.heap[k]?) : RowAt w' S' ty size P v xs := h.imp fun _ h => h.frame hP hk
theorem RowOf.nil (w : World) (S : Nat → Prop) (ty : TypeId) (size : Nat) (P : World → (Nat → Prop) → List Value → α → Prop) : RowOf w S ty size P (.slice none 0 0) [] [] :=
  ⟨World.ownsRow_nil _ _ _ _, fun g hg => by simp [Value.ownBlock] at hg, .nil⟩
theorem RowAt.nil (w : World) (S : Nat → Prop) (ty : TypeId) (size : Nat) (P : World → (Nat → Prop) → List Value → α → Prop) : RowAt w S ty size P (.slice none 0 0) [] := ⟨[], RowOf.nil ..⟩
/-- Behind an append of one. -/
theorem RowOf.snoc (hP : Frames P) (h : RowOf w S ty size P v xs css) {c : List Value} {x : α} {Sx : Nat → Prop} (hc : c.length = size) (h1 : ∀ u ∈ c, u.oneCell' = true) (hx : P w Sx c x)
    (hSx : ∀ k, Sx k → k < w.heap.size → S k ∧ v.ownBlock ≠ some k) {H : Nat} (hH : w.heap.size = H) (hS : S H) {g cap b : Nat}
    (hown : w'.ownsRow b ty size (.slice (some ⟨g, 0, none⟩) (xs.length + 1) cap) (xs.length + 1) (css.flatten ++ c)) (hg : w.grownBy w' v.ownBlock) (hat : v.ownBlock = some g ∨ g = H) :
    RowOf w' S ty size P (.slice (some ⟨g, 0, none⟩) (xs.length + 1) cap) (xs ++ [x]) (css ++ [c]) := by
  subst hH
  have hne : ∀ k, k < w.heap.size → v.ownBlock ≠ some k → (Value.slice (some ⟨g, 0, none⟩) (xs.length + 1) cap).ownBlock ≠ some k := by
    intro k hk hv e
    have hgk : g = k := by simpa [Value.ownBlock] using e
    rcases hat with h0 | h0
    · exact hv (by rw [h0, hgk])
    · omega
  refine ⟨?_, ?_, ?_⟩
  · rw [List.flatten_append, List.length_append]
    refine ⟨by simpa using hown.1, ?_⟩
    rcases hown.2 with h0 | ⟨g', cap', cur, hv, hg', hh, r⟩
    · exact absurd h0.1 (by simp)
    · exact .inr ⟨g', cap', cur, hv, Nat.zero_le _, hh, by simpa using r⟩
  · intro k hk
    have hgk : g = k := by simpa [Value.ownBlock] using hk
    subst hgk
    rcases hat with h0 | h0
    · exact h.blk _ h0
    · rw [h0]; exact hS
  · refine Each.snoc (h.all.mono fun c' x' ⟨a, b', p⟩ => ⟨a, b', hP _ _ _ _ _ _ p fun k hs hl => ⟨⟨hs.1, hne k hl hs.2⟩, hg.block k hl (fun e => hs.2 e.symm)⟩⟩) ⟨hc, h1, hP _ _ _ _ _ _ hx fun k hs hl => ?_⟩
    have := hSx k hs hl
    exact ⟨⟨this.1, hne k hl this.2⟩, hg.block k hl (fun e => this.2 e.symm)⟩
end

def slV (x : Sl) : List Value := [.int .u8 x.side, .int .u8 x.zone, .int .u8 x.kind]
def exV (x : Ex) (va : Value) : List Value := [.int .u8 x.op, .int .i64 x.n, .int .u8 x.side, .int .u8 x.sel.side, .int .u8 x.sel.zone, .int .u8 x.sel.kind, va]
/-- An expression's cells, so deep. -/
def ExAt : Nat → World → (Nat → Prop) → List Value → Ex → Prop
  | 0, _, _, c, x => c = exV x (.slice none 0 0) ∧ x.args = []
  | d + 1, w, S, c, x => ∃ va, c = exV x va ∧ RowAt w S 46 7 (ExAt d) va x.args
theorem ExAt.frames : ∀ d, Frames (ExAt d)
  | 0 => fun _ _ _ _ _ _ h _ => h
  | d + 1 => fun _ _ _ _ _ _ ⟨va, hc, hr⟩ hk => ⟨va, hc, hr.frame (ExAt.frames d) hk⟩
theorem ExAt.leaf (d : Nat) (w : World) (S : Nat → Prop) (x : Ex) (h : x.args = []) : ExAt d w S (exV x (.slice none 0 0)) x := by
  cases d with
  | zero => exact ⟨rfl, h⟩
  | succ d => exact ⟨_, rfl, by rw [h]; exact RowAt.nil _ _ _ _ _⟩
theorem ExAt.form {d : Nat} {w : World} {S : Nat → Prop} {c : List Value} {x : Ex} (h : ExAt d w S c x) : ∃ va, c = exV x va ∧ va.oneCell' = true := by
  cases d with
  | zero => exact ⟨_, h.1, rfl⟩
  | succ d =>
    obtain ⟨va, hc, css, ho, -, -⟩ := h
    refine ⟨va, hc, ?_⟩
    rcases ho.2 with ⟨rfl, _⟩ | ⟨g, cap, cur, rfl, _⟩ <;> rfl
theorem RowOf.oneCell {α : Type} {P : World → (Nat → Prop) → List Value → α → Prop} {w : World} {S : Nat → Prop} {ty : TypeId} {size : Nat} {v : Value} {xs : List α} {css : List (List Value)} (h : RowOf w S ty size P v xs css) : v.oneCell' = true := by
  rcases h.own.2 with ⟨rfl, _⟩ | ⟨g, cap, cur, rfl, _⟩ <;> rfl
def stV (x : St) (ce : List Value) : List Value := [.int .u8 x.dof, .int .u8 x.side] ++ ce ++ [.bool x.all] ++ slV x.sel
def StAt (w : World) (S : Nat → Prop) (c : List Value) (x : St) : Prop := ∃ ce, c = stV x ce ∧ ExAt 5 w S ce x.n
theorem StAt.frames : Frames StAt := fun _ _ _ _ _ _ ⟨ce, hc, he⟩ hk => ⟨ce, hc, ExAt.frames 5 _ _ _ _ _ _ he hk⟩
def efV (x : Ef) (vc vs : Value) : List Value := [.int .u8 x.mode, .int .u8 x.ev, .int .u8 x.side, vc, .int .i64 x.pay, .int .i64 x.discard, .bool x.tribute, .int .i64 x.pick, .int .u8 x.sel.side, .int .u8 x.sel.zone, .int .u8 x.sel.kind, vs]
def EfAt (w : World) (S : Nat → Prop) (c : List Value) (x : Ef) : Prop := ∃ vc vs, c = efV x vc vs ∧ RowAt w S 46 7 (ExAt 5) vc x.cond ∧ RowAt w S 58 13 StAt vs x.steps
theorem EfAt.frames : Frames EfAt := fun _ _ _ _ _ _ ⟨vc, vs, hc, h1, h2⟩ hk => ⟨vc, vs, hc, h1.frame (ExAt.frames 5) hk, h2.frame StAt.frames hk⟩
def cdV (x : Cd) (ve : Value) : List Value := [.string x.name, .int .u8 x.kind, .int .i64 x.level, .int .i64 x.attack, .int .i64 x.guard, ve]
def CdAt (w : World) (S : Nat → Prop) (c : List Value) (x : Cd) : Prop := ∃ ve, c = cdV x ve ∧ RowAt w S 43 12 EfAt ve x.effects
theorem CdAt.frames : Frames CdAt := fun _ _ _ _ _ _ ⟨ve, hc, h1⟩ hk => ⟨ve, hc, h1.frame EfAt.frames hk⟩

/-- The blocks from one on. -/
def From (B : Nat) (k : Nat) : Prop := B ≤ k
/-- From block B on nothing that was there has turned. -/
structure Above (B : Nat) (w w' : World) : Prop where
  size : w.heap.size ≤ w'.heap.size
  block : ∀ k, B ≤ k → k < w.heap.size → w'.heap[k]? = w.heap[k]?
theorem Above.refl (B : Nat) (w : World) : Above B w w := ⟨Nat.le_refl _, fun _ _ _ => rfl⟩
theorem Above.trans {B : Nat} {a b c : World} (h : Above B a b) (k : Above B b c) : Above B a c := ⟨Nat.le_trans h.size k.size, fun i hi hl => (k.block i hi (Nat.lt_of_lt_of_le hl h.size)).trans (h.block i hi hl)⟩
theorem Above.alloc {B : Nat} {a w : World} (h : Above B a w) (o : Obj) : Above B a (w.alloc o) := h.trans ⟨by simp, fun k _ hl => Below.heap_alloc _ _ _ hl⟩
theorem Above.drew {B : Nat} {a w : World} (h : Above B a w) : Above B a w.drew := h.trans ⟨Nat.le_refl _, fun _ _ _ => rfl⟩
theorem Above.setCell {B : Nat} {a w : World} (h : Above B a w) {p : Addr} (hp : p.block < B) (u : Value) : Above B a (w.setCell p u) := h.trans ⟨by simp [World.setCell], fun k hk _ => heap_set_far (by omega) u⟩
theorem Above.kept {B R : Nat} {a w w' : World} (h : Above B a w) (k : Kept R w w') (hR : R < B) : Above B a w' := h.trans ⟨k.size, fun i hi hl => k.block i hl (by omega)⟩
theorem Above.below {B : Nat} {a w w' : World} (h : Above B a w) (k : Below w.heap.size w w') : Above B a w' := h.trans ⟨k.size, fun i _ hl => k.block i hl⟩
theorem frames_above {α : Type} {P : World → (Nat → Prop) → List Value → α → Prop} (hP : Frames P) {w w' : World} {B B' : Nat} {c : List Value} {x : α} (h : P w (From B) c x) (a : Above B w w') (hB : B' ≤ B) : P w' (From B') c x :=
  hP _ _ _ _ _ _ h fun k hk hl => ⟨Nat.le_trans hB hk, a.block k hk hl⟩
theorem row_above {α : Type} {P : World → (Nat → Prop) → List Value → α → Prop} (hP : Frames P) {w w' : World} {B B' : Nat} {ty : TypeId} {size : Nat} {v : Value} {xs : List α} (h : RowAt w (From B) ty size P v xs) (a : Above B w w') (hB : B' ≤ B) : RowAt w' (From B') ty size P v xs :=
  h.frame hP fun k hk hl => ⟨Nat.le_trans hB hk, a.block k hk hl⟩
theorem frame_kept {R B B' : Nat} {w w' : World} (h : Kept R w w') (hB : B' ≤ B) (hR : R < B) : ∀ k, From B k → k < w.heap.size → From B' k ∧ w'.heap[k]? = w.heap[k]? :=
  fun k hk hl => ⟨Nat.le_trans hB hk, h.block k hl (by unfold From at hk; omega)⟩
end Go.Proofs.YtmhpopkbmnhkkaaGreatDoor

/- Layer 2 (parse), plain: the tokens that a scanner hands out are as a reader wants them. -/
namespace Go.Proofs.YtmhpopkbmnhkkaaGreatDoor
open Go.RowKit Go.Lib

def digF (v : Nat) (b : UInt8) : Nat := 10 * v + (b.toNat - 48)
theorem byte_list (s : ByteArray) (i : Nat) (h : i < s.size) : s.data.toList[i]? = some (s[i]'h) := by
  rw [Array.getElem?_toList]
  exact Array.getElem?_eq_getElem (by simpa using h)
theorem drop_cons (s : ByteArray) (i : Nat) (h : i < s.size) : s.data.toList.drop i = (s[i]'h) :: s.data.toList.drop (i + 1) := by
  have hl : i < s.data.toList.length := by simpa using h
  rw [List.drop_eq_getElem_cons hl]
  congr 1

theorem numGo_spec (s : ByteArray) : ∀ f pos v, pos ≤ s.size → v ≤ 100000 → pos ≤ (numGo s f pos v).1 ∧ v ≤ (numGo s f pos v).2 ∧
    (∀ b ∈ (s.data.toList.drop pos).take ((numGo s f pos v).1 - pos), 48 ≤ b.toNat ∧ b.toNat ≤ 57) ∧
    ((numGo s f pos v).2 ≤ 99999 → ((s.data.toList.drop pos).take ((numGo s f pos v).1 - pos)).foldl digF v = (numGo s f pos v).2)
  | 0, pos, v, h1, h2 => by simp [numGo]
  | f + 1, pos, v, h1, h2 => by
    by_cases hp : pos < s.size
    · by_cases hd : digB (byteAt s pos) = true
      · rw [numGo_more s f pos v hp hd]
        obtain ⟨a1, a2, a3, a4⟩ := numGo_spec s f (pos + 1) (addDigit v (byteAt s pos)) (by omega) (addDigit_le _ _)
        have hb := (digB_iff _).1 hd
        have hge : v ≤ addDigit v (byteAt s pos) := by unfold addDigit; omega
        have hbyte := byteAt_get s pos hp
        have htk : (s.data.toList.drop pos).take ((numGo s f (pos + 1) (addDigit v (byteAt s pos))).1 - pos) = (s[pos]'hp) :: (s.data.toList.drop (pos + 1)).take ((numGo s f (pos + 1) (addDigit v (byteAt s pos))).1 - (pos + 1)) := by
          rw [drop_cons s pos hp, show (numGo s f (pos + 1) (addDigit v (byteAt s pos))).1 - pos = ((numGo s f (pos + 1) (addDigit v (byteAt s pos))).1 - (pos + 1)) + 1 by omega, List.take_succ_cons]
        refine ⟨by omega, by omega, ?_, ?_⟩
        · rw [htk]
          intro b hb'
          rcases List.mem_cons.1 hb' with rfl | hb'
          · rw [← hbyte]; omega
          · exact a3 b hb'
        · intro hle
          rw [htk, List.foldl_cons]
          have h5 := a4 hle
          have he : digF v (s[pos]'hp) = addDigit v (byteAt s pos) := by unfold digF; rw [← hbyte]; unfold addDigit at *; omega
          rw [he]
          exact h5
      · rw [numGo_stop s _ pos v (by simpa using hd)]
        simp
    · rw [numGo_end s _ pos v hp]
      simp

structure GoodTok (t : Tok) : Prop where
  pos : t.kind ≠ 0
  wf : WTok t
theorem extract_take (s : ByteArray) (a n : Nat) : (s.extract a (a + n)).data.toList = (s.data.toList.drop a).take n := by
  rw [ByteArray.data_extract, Array.toList_extract, List.extract_eq_take_drop]
  congr 1
  omega
theorem bytes_ne {x : ByteArray} (h : 0 < x.size) : x ≠ ⟨#[]⟩ := fun e => by subst e; exact absurd h (by decide)

theorem tok_good (s : ByteArray) (pos : Nat) (here : Int × Int) (hp : pos < s.size) (hs : s.size ≤ 65536) (h : (tokOf (s.extract pos s.size)).2.2 = 0) :
    GoodTok ⟨(tokOf (s.extract pos s.size)).1, s.extract pos (pos + (tokOf (s.extract pos s.size)).2.1), here⟩ := by
  have hz : (s.extract pos s.size).size = s.size - pos := by simp
  have h1 := wordOf_le (s.extract pos s.size)
  have h2 := numOf_le (s.extract pos s.size)
  have h3 := numGo_spec (s.extract pos s.size) (s.extract pos s.size).size 0 0 (by omega) (by omega)
  have hl := extract_to_end s pos
  unfold tokOf at h ⊢
  have hsz : ∀ n, n ≤ s.size - pos → (s.extract pos (pos + n)).size = n := fun n hn => by simp; omega
  by_cases c1 : 0 < (wordOf (s.extract pos s.size)).1
  · rw [if_pos c1] at h ⊢
    by_cases c2 : 24 < (wordOf (s.extract pos s.size)).2
    · rw [if_pos c2] at h; cases h
    · rw [if_neg c2]
      have := hsz _ (hz ▸ h1.1)
      exact ⟨by simp, ⟨by simp, fun e => by simp at e, fun _ => bytes_ne (by simp only; omega), fun e => by simp at e, by simp only; omega⟩⟩
  · rw [if_neg c1] at h ⊢
    by_cases c2 : 0 < (numOf (s.extract pos s.size)).1
    · rw [if_pos c2] at h ⊢
      by_cases c3 : numFault (s.extract pos s.size) (numOf (s.extract pos s.size)).1 (numOf (s.extract pos s.size)).2 = 0
      · rw [if_pos c3]
        have := hsz _ (hz ▸ h2.1)
        have hv : (numOf (s.extract pos s.size)).2 ≤ 99999 := by
          unfold numFault at c3
          by_cases c4 : 99999 < (numOf (s.extract pos s.size)).2
          · rw [if_pos c4] at c3; cases c3
          · omega
        obtain ⟨-, -, a3, a4⟩ := h3
        rw [hl] at a3 a4
        have ex := extract_take s pos (numOf (s.extract pos s.size)).1
        refine ⟨by simp, ⟨by simp, fun e => by simp at e, fun _ => bytes_ne (by simp only; omega), fun _ => ⟨?_, ?_⟩, by simp only; omega⟩⟩
        · simp only [ex]
          simpa [numOf] using a3
        · simp only [ex]
          have h5 := a4 hv
          have h6 : valOf ((s.data.toList.drop pos).take (numOf (s.extract pos s.size)).1) = (numOf (s.extract pos s.size)).2 := by
            have h7 : (fun v (b : UInt8) => 10 * v + (b.toNat - 48)) = digF := rfl
            unfold valOf; rw [h7]; simpa [numOf] using h5
          rw [h6]; exact hv
      · rw [if_neg c3] at h; exact absurd h c3
    · rw [if_neg c2] at h ⊢
      by_cases c3 : markB (byteAt (s.extract pos s.size) 0) = true
      · rw [if_pos c3]
        have := hsz 1 (by omega)
        exact ⟨by simp, ⟨by simp, fun e => by simp at e, fun _ => bytes_ne (by simp only; omega), fun e => by simp at e, by simp only; omega⟩⟩
      · rw [if_neg c3] at h; cases h

theorem scan_good (s : ByteArray) (hs : s.size ≤ 65536) : ∀ f pos here remark behind acc, (∀ t ∈ acc, GoodTok t) → (scanGo s f pos here remark behind acc).2.1 = 0 →
    ∃ l here', (scanGo s f pos here remark behind acc).1 = l ++ [endTok here'] ∧ ∀ t ∈ l, GoodTok t
  | 0, pos, here, remark, behind, acc, ha, _ => ⟨acc, here, rfl, ha⟩
  | f + 1, pos, here, remark, behind, acc, ha, h => by
    unfold scanGo at h ⊢
    by_cases hp : pos < s.size
    · rw [if_pos hp] at h ⊢
      by_cases c1 : brokenB (s.extract pos s.size) (Utf8.decode s pos).1 = true
      · rw [if_pos c1] at h; cases h
      rw [if_neg c1] at h ⊢
      by_cases c2 : pos < behind
      · rw [if_pos c2] at h ⊢; exact scan_good s hs f _ _ _ _ _ ha h
      rw [if_neg c2] at h ⊢
      by_cases c3 : remark = true
      · rw [if_pos c3] at h ⊢; exact scan_good s hs f _ _ _ _ _ ha h
      rw [if_neg c3] at h ⊢
      by_cases c4 : (Utf8.decode s pos).1 = 35
      · rw [if_pos c4] at h ⊢; exact scan_good s hs f _ _ _ _ _ ha h
      rw [if_neg c4] at h ⊢
      by_cases c5 : blankB (Utf8.decode s pos).1 = true
      · rw [if_pos c5] at h ⊢; exact scan_good s hs f _ _ _ _ _ ha h
      rw [if_neg c5] at h ⊢
      by_cases c6 : (tokOf (s.extract pos s.size)).2.2 = 0
      · rw [if_pos c6] at h ⊢
        refine scan_good s hs f _ _ _ _ _ (fun t ht => ?_) h
        rcases List.mem_append.1 ht with ht | ht
        · exact ha t ht
        · simp only [List.mem_singleton] at ht; subst ht; exact tok_good s pos here hp hs c6
      · rw [if_neg c6] at h; exact absurd h c6
    · rw [if_neg hp] at h ⊢; exact ⟨acc, here, rfl, ha⟩

theorem wtoks_of (l : List Tok) (here : Int × Int) (h : ∀ t ∈ l, GoodTok t) : WToks (l ++ [endTok here]) := by
  refine ⟨by simp, fun t ht => ?_, fun p hp => ?_⟩
  · rcases List.mem_append.1 ht with ht | ht
    · exact (h t ht).wf
    · simp only [List.mem_singleton] at ht; subst ht
      exact ⟨by simp [endTok], fun _ => rfl, fun e => absurd rfl e, fun e => by simp [endTok] at e, Nat.zero_le _⟩
  · rw [List.length_append, List.length_singleton] at hp ⊢
    unfold tk
    by_cases hl : p < l.length
    · rw [List.getD_eq_getElem?_getD, List.getElem?_append_left hl, List.getElem?_eq_getElem hl]
      have := (h _ (List.getElem_mem hl)).pos
      simp only [Option.getD_some]
      exact ⟨fun e => absurd e this, fun e => by omega⟩
    · have e : p = l.length := by omega
      subst e
      rw [List.getD_eq_getElem?_getD, List.getElem?_append_right (by omega)]
      simp [endTok]
theorem wtoks_scan (s : ByteArray) (h : (scanOf s).2.1 = 0) : WToks (scanOf s).1 := by
  unfold scanOf at h ⊢
  by_cases hs : 65536 < s.size
  · rw [if_pos hs] at h; cases h
  · rw [if_neg hs] at h ⊢
    obtain ⟨l, here', hl, hg⟩ := scan_good s (by omega) s.size 0 (1, 1) false 0 [] (fun t ht => by cases ht) h
    rw [hl]
    exact wtoks_of l here' hg
end Go.Proofs.YtmhpopkbmnhkkaaGreatDoor
