import Derived.Test.YtmhpopkbmnhkkaaGreatDoorQRpA
import Derived.Test.YtmhpopkbmnhkkaaGreatDoorQParM
/- joustref02, plain: where the reference goes another way than ParSpec, and says the same. -/
namespace Go.Proofs.YtmhpopkbmnhkkaaGreatDoor
open Go.RowKit Go.Lib

theorem findW_succ (x : ByteArray) : ∀ (ws : List ByteArray) (i : Nat), findW ws x (i + 1) = (findW ws x i).map (· + 1)
  | [], _ => rfl
  | w :: l, i => by
    unfold findW
    by_cases h : w = x
    · rw [if_pos h, if_pos h]; rfl
    · rw [if_neg h, if_neg h]; exact findW_succ x l (i + 1)
section
variable (ts : List Tok)
theorem selKinds_all {p : Nat} (h : (tk ts p).text = ⟨#[97, 108, 108]⟩) : pOne ts selKindsW p = .ok (0, p + 1) := by
  unfold pOne; rw [h]; rfl
theorem selKinds_other {p : Nat} (h : (tk ts p).text ≠ ⟨#[97, 108, 108]⟩) : pOne ts selKindsW p = ((pOne ts kindsW).map (· + 1)) p := by
  have e : findW selKindsW (tk ts p).text 0 = (findW kindsW (tk ts p).text 0).map (· + 1) := by
    rw [← findW_succ]
    show findW (⟨#[97, 108, 108]⟩ :: kindsW) _ 0 = _
    rw [findW, if_neg (Ne.symm h)]
  unfold pOne Par.map Par.bind
  simp only
  rw [e]
  cases findW kindsW (tk ts p).text 0 with
  | none => rfl
  | some k => rfl
/-- A sel of a step, if a side stands there. -/
def pMaybe (s : St) : Par St := fun p => if inW sidesW (tk ts p) then (pSel ts).map (fun x => { s with all := true, sel := x }) p else .ok (s, p)
def pBody (d : Nat) : Par St :=
  if d = 0 ∨ d = 1 ∨ d = 2 ∨ d = 3 ∨ d = 9 then (pOne ts sidesW).bind fun a => (pExpr ts 5).map fun x => ⟨d, a, x, false, .zero⟩
  else if d = 7 then (pExpr ts 5).bind fun x => pMaybe ts ⟨d, 0, x, false, .zero⟩
  else if d = 10 then .pure ⟨d, 0, .zero, false, .zero⟩
  else pMaybe ts ⟨d, 0, .zero, false, .zero⟩
def pClosed (f : Par St) : Par St := f.bind fun s => (pMark ts ⟨#[59]⟩).map fun _ => s
theorem closed_of (s : St) : pClosed ts (pMaybe ts s) = pClosed ts (pOf ts s) := by
  funext p
  unfold pClosed Par.bind
  by_cases h1 : (tk ts p).text = ⟨#[59]⟩
  · have h2 : inW sidesW (tk ts p) = false := by unfold inW; rw [h1]; rfl
    have e1 : pMaybe ts s p = .ok (s, p) := by simp only [pMaybe, h2, if_false, Bool.false_eq_true]
    have e2 : pOf ts s p = .ok (s, p) := by simp only [pOf, h1, if_true]
    rw [e1, e2]
  · cases h2 : inW sidesW (tk ts p) with
    | true =>
      have e1 : pMaybe ts s p = (pSel ts).map (fun x => { s with all := true, sel := x }) p := by simp only [pMaybe, h2, if_true]
      have e2 : pOf ts s p = (pSel ts).map (fun x => { s with all := true, sel := x }) p := by simp only [pOf, h1, if_false]
      rw [e1, e2]
    | false =>
      have hf : findW sidesW (tk ts p).text 0 = none := by unfold inW at h2; simpa using h2
      have e1 : pMaybe ts s p = .ok (s, p) := by simp only [pMaybe, h2, if_false, Bool.false_eq_true]
      have e2 : pOf ts s p = .error (5, (tk ts p).spot.1, (tk ts p).spot.2) := by
        simp only [pOf, h1, if_false]
        unfold Par.map Par.bind pSel Par.bind pOne
        simp only [hf]
        rfl
      rw [e1, e2]
      unfold Par.map Par.bind pMark
      simp only [h1, if_false]
      rfl
theorem bind_assoc {α β γ : Type} (f : Par α) (g : α → Par β) (k : β → Par γ) : (f.bind g).bind k = f.bind fun a => (g a).bind k := by
  funext p
  unfold Par.bind
  cases f p with
  | error e => rfl
  | ok r => rfl
theorem step_same : ((pOne ts stepsW).bind fun d => pClosed ts (pBody ts d)) = pStep ts := by
  unfold pStep
  congr 1
  funext d
  unfold pBody pStepBody
  by_cases h1 : d = 0 ∨ d = 1 ∨ d = 2 ∨ d = 3 ∨ d = 9
  · rw [if_pos h1, if_pos h1]; rfl
  rw [if_neg h1, if_neg h1]
  by_cases h2 : d = 7
  · rw [if_pos h2, if_pos h2]
    unfold pClosed
    rw [bind_assoc, bind_assoc]
    congr 1
    funext x
    exact closed_of ts _
  rw [if_neg h2, if_neg h2]
  by_cases h3 : d = 10
  · rw [if_pos h3, if_pos h3]; rfl
  rw [if_neg h3, if_neg h3]
  exact closed_of ts _
end

def amongW (E : REnv) (s : RS) (ws : List ByteArray) : Bool := match s with
  | .ok p => inW ws (tk E.ts p)
  | .bad _ _ _ => false
theorem inW_one (w : ByteArray) (t : Tok) : inW [w] t = decide (t.text = w) := by
  unfold inW findW
  by_cases h : w = t.text
  · rw [if_pos h]; simp [h]
  · rw [if_neg h]; simp [findW, Ne.symm h]
theorem sees_among (E : REnv) (s : RS) (tx : ByteArray) : sees E s tx = amongW E s [tx] := by
  cases s with
  | ok p => exact (inW_one _ _).symm
  | bad _ _ _ => rfl
section
variable {α : Type} {bg : Tok → Bool} {p : Par α} {E : REnv} {most : Nat} {s : RS} {acc : List α}
theorem Left.fullR {q : Nat} (h : Left E.ts bg p most s acc (.ok q)) (hb : bg (tk E.ts q) = true) (hl : acc.length = most) (y : List α) : Res (pMany E.ts bg p most []) s y (RS.failR E 3 (.ok q)) := by
  refine h y _ ?_
  rw [hl, Nat.sub_self]
  exact (Res.failR E 3 (.ok q) y).congr fun q' hq => by cases hq; simp only [pMany, hb, if_true]
theorem Left.doneR {s' : RS} (h : Left E.ts bg p most s acc s') (hb : ∀ q, s' = .ok q → bg (tk E.ts q) = false) : Res (pMany E.ts bg p most []) s acc s' := by
  refine h _ _ ?_
  cases s' with
  | bad x l c => rfl
  | ok q =>
    have hb' := hb q rfl
    refine Res.of_ok ?_
    cases most - acc.length with
    | zero => simp only [pMany, hb', if_false, Bool.false_eq_true]
    | succ n => simp only [pMany, hb', if_false, Bool.false_eq_true]
end
end Go.Proofs.YtmhpopkbmnhkkaaGreatDoor
