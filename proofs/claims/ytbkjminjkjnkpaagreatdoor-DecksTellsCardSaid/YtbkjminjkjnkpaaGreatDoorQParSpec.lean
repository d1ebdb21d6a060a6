import Derived.Test.YtbkjminjkjnkpaaGreatDoorQScan
/- Layer 2 (parse), plain: cards and expressions out of tokens, one behind the other, or the first fault. -/
namespace Go.Proofs.YtbkjminjkjnkpaaGreatDoor
open Go.RowKit Go.Lib

structure Sl where
  side : Nat
  zone : Nat
  kind : Nat
inductive Ex where
  | mk (op : Nat) (n : Int) (side : Nat) (sel : Sl) (args : List Ex)
structure St where
  dof : Nat
  side : Nat
  n : Ex
  all : Bool
  sel : Sl
structure Ef where
  mode : Nat
  ev : Nat
  side : Nat
  cond : List Ex
  pay : Int
  discard : Int
  tribute : Bool
  pick : Int
  sel : Sl
  steps : List St
structure Cd where
  name : ByteArray
  kind : Nat
  level : Int
  attack : Int
  guard : Int
  effects : List Ef

def Ex.op : Ex → Nat | .mk o _ _ _ _ => o
def Ex.n : Ex → Int | .mk _ n _ _ _ => n
def Ex.side : Ex → Nat | .mk _ _ s _ _ => s
def Ex.sel : Ex → Sl | .mk _ _ _ s _ => s
def Ex.args : Ex → List Ex | .mk _ _ _ _ l => l
def Sl.zero : Sl := ⟨0, 0, 0⟩
def Ex.zero : Ex := .mk 0 0 0 .zero []
def St.zero : St := ⟨0, 0, .zero, false, .zero⟩

/-- A fault: its number, its line, its column. -/
abbrev Flt := Int × Int × Int
/-- What reads from a place among tokens on: a fault, or what was read and the place behind it. -/
abbrev Par (α : Type) := Nat → Except Flt (α × Nat)
def Par.pure {α : Type} (a : α) : Par α := fun p => .ok (a, p)
def Par.bind {α β : Type} (f : Par α) (g : α → Par β) : Par β := fun p => match f p with
  | .error e => .error e
  | .ok (a, q) => g a q
def Par.map {α β : Type} (f : Par α) (g : α → β) : Par β := f.bind fun a => .pure (g a)

section
variable (ts : List Tok)
def tk (p : Nat) : Tok := ts.getD p (endTok (0, 0))
def pFail {α : Type} (e : Int) : Par α := fun p => .error (e, (tk ts p).spot.1, (tk ts p).spot.2)
def pMark (t : ByteArray) : Par Unit := fun p => if (tk ts p).text = t then .ok ((), p + 1) else pFail ts 5 p
def pSkip (t : ByteArray) : Par Bool := fun p => if (tk ts p).text = t then .ok (true, p + 1) else .ok (false, p)
def pOpt {α : Type} (t : ByteArray) (f : Par α) (z : α) : Par α := fun p => if (tk ts p).text = t then f (p + 1) else .ok (z, p)
def pName : Par ByteArray := fun p => if (tk ts p).kind = 1 then .ok ((tk ts p).text, p + 1) else pFail ts 5 p
/-- The value of a row of digits. -/
def valOf (l : List UInt8) : Nat := l.foldl (fun v b => 10 * v + (b.toNat - 48)) 0
def pNum : Par Int := fun p => if (tk ts p).kind = 2 then .ok ((valOf (tk ts p).text.data.toList : Int), p + 1) else pFail ts 5 p
def findW : List ByteArray → ByteArray → Nat → Option Nat
  | [], _, _ => none
  | w :: l, t, i => if w = t then some i else findW l t (i + 1)
def pOne (ws : List ByteArray) : Par Nat := fun p => match findW ws (tk ts p).text 0 with
  | some i => .ok (i, p + 1)
  | none => pFail ts 5 p
def pMany {α : Type} (begins : Tok → Bool) (read : Par α) : Nat → List α → Par (List α)
  | 0, acc => fun p => if begins (tk ts p) then pFail ts 3 p else .ok (acc, p)
  | l + 1, acc => fun p => if begins (tk ts p) then (read.bind fun x => pMany begins read l (acc ++ [x])) p else .ok (acc, p)

def sidesW : List ByteArray := [⟨#[109, 105, 110, 101]⟩, ⟨#[116, 104, 101, 105, 114, 115]⟩, ⟨#[97, 110, 121]⟩, ⟨#[115, 101, 108, 102]⟩]
def zonesW : List ByteArray := [⟨#[100, 101, 99, 107]⟩, ⟨#[104, 97, 110, 100]⟩, ⟨#[114, 111, 119]⟩, ⟨#[98, 97, 99, 107]⟩, ⟨#[103, 114, 97, 118, 101]⟩, ⟨#[101, 120, 105, 108, 101]⟩]
def kindsW : List ByteArray := [⟨#[117, 110, 105, 116]⟩, ⟨#[115, 112, 101, 108, 108]⟩, ⟨#[113, 117, 105, 99, 107]⟩, ⟨#[116, 114, 97, 112]⟩, ⟨#[99, 111, 117, 110, 116, 101, 114]⟩]
def selKindsW : List ByteArray := [⟨#[97, 108, 108]⟩, ⟨#[117, 110, 105, 116]⟩, ⟨#[115, 112, 101, 108, 108]⟩, ⟨#[113, 117, 105, 99, 107]⟩, ⟨#[116, 114, 97, 112]⟩, ⟨#[99, 111, 117, 110, 116, 101, 114]⟩]
def eventsW : List ByteArray := [⟨#[116, 114, 121]⟩, ⟨#[115, 117, 109, 109, 111, 110]⟩, ⟨#[97, 116, 116, 97, 99, 107]⟩, ⟨#[100, 101, 115, 116, 114, 111, 121]⟩, ⟨#[100, 97, 109, 97, 103, 101]⟩, ⟨#[108, 105, 110, 107]⟩, ⟨#[115, 116, 97, 110, 100, 98, 121]⟩, ⟨#[101, 110, 100]⟩]
def modesW : List ByteArray := [⟨#[112, 108, 97, 121]⟩, ⟨#[97, 99, 116]⟩, ⟨#[115, 119, 105, 102, 116]⟩, ⟨#[119, 104, 101, 110]⟩, ⟨#[105, 102]⟩, ⟨#[109, 117, 115, 116]⟩, ⟨#[97, 117, 114, 97]⟩]
def stepsW : List ByteArray := [⟨#[100, 114, 97, 119]⟩, ⟨#[109, 105, 108, 108]⟩, ⟨#[100, 97, 109, 97, 103, 101]⟩, ⟨#[104, 101, 97, 108]⟩, ⟨#[100, 101, 115, 116, 114, 111, 121]⟩, ⟨#[98, 97, 110, 105, 115, 104]⟩, ⟨#[98, 111, 117, 110, 99, 101]⟩, ⟨#[98, 111, 111, 115, 116]⟩, ⟨#[114, 101, 118, 105, 118, 101]⟩, ⟨#[116, 111, 107, 101, 110]⟩, ⟨#[110, 101, 103, 97, 116, 101]⟩]
def opsW : List ByteArray := [⟨#[43]⟩, ⟨#[45]⟩, ⟨#[42]⟩, ⟨#[60]⟩, ⟨#[61]⟩, ⟨#[97, 110, 100]⟩, ⟨#[111, 114]⟩, ⟨#[110, 111, 116]⟩]
def inW (ws : List ByteArray) (t : Tok) : Bool := (findW ws t.text 0).isSome

def pSel : Par Sl := (pOne ts sidesW).bind fun a => (pOne ts zonesW).bind fun b => (pOne ts selKindsW).map fun c => ⟨a, b, c⟩

def pArgs (inner : Par Ex) (o : Nat) : Par (List Ex) := inner.bind fun a => if o = 7 then .pure [a] else inner.map fun b => [a, b]
def pNest (inner : Par Ex) : Par Ex := (pMark ts ⟨#[40]⟩).bind fun _ => (pOne ts opsW).bind fun o => (pArgs inner o).bind fun l => (pMark ts ⟨#[41]⟩).map fun _ => .mk (4 + o) 0 0 .zero l
def pExprBy (nest : Par Ex) : Par Ex := fun p =>
  if (tk ts p).text = ⟨#[40]⟩ then nest p
  else if (tk ts p).text = ⟨#[108, 105, 102, 101]⟩ then (pOne ts sidesW).map (fun s => Ex.mk 1 0 s .zero []) (p + 1)
  else if (tk ts p).text = ⟨#[99, 111, 117, 110, 116]⟩ then (pSel ts).map (fun s => Ex.mk 2 0 0 s []) (p + 1)
  else if (tk ts p).text = ⟨#[112, 111, 119, 101, 114]⟩ then .ok (.mk 3 0 0 .zero [], p + 1)
  else (pNum ts).map (fun n => Ex.mk 0 n 0 .zero []) p
/-- An expression within which so many parentheses may still be opened. -/
def pExpr : Nat → Par Ex
  | 0 => pExprBy ts (pFail ts 3)
  | k + 1 => pExprBy ts (pNest ts (pExpr k))

def pOf (s : St) : Par St := fun p => if (tk ts p).text = ⟨#[59]⟩ then .ok (s, p) else (pSel ts).map (fun x => { s with all := true, sel := x }) p
def pStepBody (d : Nat) : Par St :=
  if d = 0 ∨ d = 1 ∨ d = 2 ∨ d = 3 ∨ d = 9 then (pOne ts sidesW).bind fun a => (pExpr ts 5).map fun x => ⟨d, a, x, false, .zero⟩
  else if d = 7 then (pExpr ts 5).bind fun x => pOf ts ⟨d, 0, x, false, .zero⟩
  else if d = 10 then .pure ⟨d, 0, .zero, false, .zero⟩
  else pOf ts ⟨d, 0, .zero, false, .zero⟩
def pStep : Par St := (pOne ts stepsW).bind fun d => (pStepBody ts d).bind fun s => (pMark ts ⟨#[59]⟩).map fun _ => s
def pNeed : Par Ex := (pMark ts ⟨#[110, 101, 101, 100, 115]⟩).bind fun _ => pExpr ts 5
def pUpon : Par (Nat × Nat) := pOpt ts ⟨#[117, 112, 111, 110]⟩ ((pOne ts eventsW).bind fun e => (pOne ts sidesW).map fun s => (e + 1, s)) (0, 0)
def pPicks : Par (Int × Sl) := pOpt ts ⟨#[112, 105, 99, 107, 115]⟩ ((pNum ts).bind fun n => (pSel ts).map fun s => (n, s)) (0, .zero)
def pEffect : Par Ef := (pOne ts modesW).bind fun m => (pUpon ts).bind fun u => (pMany ts (inW [⟨#[110, 101, 101, 100, 115]⟩]) (pNeed ts) 6 []).bind fun c =>
  (pOpt ts ⟨#[112, 97, 121, 115]⟩ (pNum ts) 0).bind fun pay => (pOpt ts ⟨#[100, 114, 111, 112, 115]⟩ (pNum ts) 0).bind fun dr => (pSkip ts ⟨#[115, 112, 101, 110, 100, 115]⟩).bind fun sp => (pPicks ts).bind fun pk =>
  (pMark ts ⟨#[58]⟩).bind fun _ => (pMany ts (inW stepsW) (pStep ts) 6 []).map fun l => ⟨m, u.1, u.2, c, pay, dr, sp, pk.1, pk.2, l⟩
def pUnit (k : Nat) : Par (Int × Int × Int) := if k = 0 then (pNum ts).bind fun a => (pNum ts).bind fun b => (pNum ts).map fun c => (a, b, c) else .pure (0, 0, 0)
def pCard : Par Cd := (pOne ts kindsW).bind fun k => (pName ts).bind fun n => (pUnit ts k).bind fun u => (pMark ts ⟨#[123]⟩).bind fun _ =>
  (pMany ts (inW modesW) (pEffect ts) 4 []).bind fun l => (pMark ts ⟨#[125]⟩).map fun _ => ⟨n, k, u.1, u.2.1, u.2.2, l⟩
def beginsB (t : Tok) : Bool := inW [⟨#[108, 105, 102, 101]⟩, ⟨#[99, 111, 117, 110, 116]⟩, ⟨#[112, 111, 119, 101, 114]⟩, ⟨#[40]⟩] t || t.kind == 2
def pWhole {α : Type} (a : α) : Par α := fun p => if (tk ts p).kind = 0 then .ok (a, p) else pFail ts 5 p
def pPool : Par (List Cd) := (pMany ts (inW kindsW) (pCard ts) 64 []).bind (pWhole ts)
def pExprs : Par (List Ex) := (pMany ts beginsB (pExpr ts 5) 6 []).bind (pWhole ts)
end

/-- What a text's reader answers. -/
def readAll {α : Type} (p : List Tok → Par (List α)) (s : ByteArray) : List α × Flt :=
  if (scanOf s).2.1 = 0 then match p (scanOf s).1 0 with
    | .error f => ([], f)
    | .ok (l, _) => (l, 0, 0, 0)
  else ([], ((scanOf s).2.1, (scanOf s).2.2.1, (scanOf s).2.2.2))
def poolOf (s : ByteArray) : List Cd × Flt := readAll pPool s
def exprsOf (s : ByteArray) : List Ex × Flt := readAll pExprs s

/-- How a reader stands: at a place, or behind its first fault. -/
inductive RS where
  | ok (p : Nat)
  | bad (e l c : Int)

/-- What a call that reads does to how the reader stands; behind a fault what it hands back doesn't count. -/
def Res {α : Type} (f : Par α) : RS → α → RS → Prop
  | .bad e l c, _, s' => s' = .bad e l c
  | .ok p, x, s' => match f p with
    | .error t => s' = .bad t.1 t.2.1 t.2.2
    | .ok (a, q) => x = a ∧ s' = .ok q

theorem Res.bind {α β : Type} {f : Par α} {g : α → Par β} {s s1 s2 : RS} {x : α} {y : β} (h1 : Res f s x s1) (h2 : Res (g x) s1 y s2) : Res (f.bind g) s y s2 := by
  cases s with
  | bad e l c => simp only [Res] at h1 ⊢; subst h1; exact h2
  | ok p =>
    simp only [Res, Par.bind] at h1 ⊢
    cases hf : f p with
    | error t => rw [hf] at h1; simp only at h1 ⊢; subst h1; exact h2
    | ok r =>
      obtain ⟨a, q⟩ := r
      rw [hf] at h1
      simp only at h1 ⊢
      obtain ⟨rfl, rfl⟩ := h1
      exact h2
theorem Res.pure {α : Type} (a : α) (s : RS) : Res (Par.pure a) s a s := by cases s <;> simp [Res, Par.pure]
theorem Res.map {α β : Type} {f : Par α} (g : α → β) {s s1 : RS} {x : α} (h : Res f s x s1) : Res (f.map g) s (g x) s1 := Res.bind h (Res.pure _ _)
theorem Res.bad {α : Type} (f : Par α) (e l c : Int) (x : α) : Res f (.bad e l c) x (.bad e l c) := rfl
theorem Res.of_ok {α : Type} {f : Par α} {p q : Nat} {a : α} (h : f p = .ok (a, q)) : Res f (.ok p) a (.ok q) := by simp [Res, h]
theorem Res.of_error {α : Type} {f : Par α} {p : Nat} {e l c : Int} (h : f p = .error (e, l, c)) (x : α) : Res f (.ok p) x (.bad e l c) := by simp [Res, h]
theorem Res.congr {α : Type} {f g : Par α} {s s' : RS} {x : α} (h : ∀ p, s = .ok p → f p = g p) (hf : Res f s x s') : Res g s x s' := by
  cases s with
  | bad e l c => exact hf
  | ok p => simp only [Res] at hf ⊢; rw [← h p rfl]; exact hf
end Go.Proofs.YtbkjminjkjnkpaaGreatDoor
