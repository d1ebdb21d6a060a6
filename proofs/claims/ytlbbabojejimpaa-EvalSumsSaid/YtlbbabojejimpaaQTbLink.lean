import Derived.Test.YtlbbabojejimpaaQTbAttack
/- What a table's attack is, of its lists alone. -/
namespace Go.Proofs.Ytlbbabojejimpaa
open Go.RowKit Go.Lib

/-- A list with something told of each place. -/
theorem pick {α β : Type} : ∀ (xs : List α) (R : Nat → α → β → Prop), (∀ i x, xs[i]? = some x → ∃ y, R i x y) → ∃ ys : List β, ys.length = xs.length ∧ ∀ i y, ys[i]? = some y → ∃ x, xs[i]? = some x ∧ R i x y
  | [], _, _ => ⟨[], rfl, fun i y h => by simp at h⟩
  | a :: l, R, h => by
    obtain ⟨y, hy⟩ := h 0 a rfl
    obtain ⟨ys, hl, hr⟩ := pick l (fun i => R (i + 1)) fun i x hx => h (i + 1) x (by simpa using hx)
    refine ⟨y :: ys, by simp [hl], fun i z hz => ?_⟩
    cases i with
    | zero => simp at hz; subst hz; exact ⟨a, rfl, hy⟩
    | succ i =>
      obtain ⟨x, hx, h2⟩ := hr i z (by simpa using hz)
      exact ⟨x, by simpa using hx, h2⟩
theorem pick_map {α β γ : Type} {xs : List α} {ys : List β} {f : α → γ} {g : β → γ} (hl : ys.length = xs.length) (h : ∀ (i : Nat) (y : β), ys[i]? = some y → ∃ x, xs[i]? = some x ∧ f x = g y) : ys.map g = xs.map f := by
  apply List.ext_getElem?
  intro i
  simp only [List.getElem?_map]
  cases hy : ys[i]? with
  | none => rw [List.getElem?_eq_none (by have := List.getElem?_eq_none_iff.1 hy; omega)]; rfl
  | some y =>
    obtain ⟨x, hx, e⟩ := h i y hy
    rw [hx]
    simp [e]

def giftA (s : St) : Bool := s.dof == 7 && (s.all && s.n.op == 0)
/-- What a kind's effects give: how much, and to which. -/
def giftsE (e : Ef) : List (Int × Sl) := if e.mode = 6 then (e.steps.filter giftA).map fun s => (s.n.n, s.sel) else []
def giftsA (x : Cd) : List (Int × Sl) := x.effects.flatMap giftsE
def bareX (s : SX) : Int × Sl := (s.n, ⟨s.s1, s.s2, s.s3⟩)
theorem gifts_bare {xs : List St} {ys : List SX} (h : ys.map (fun s => (giftB s, bareX s)) = xs.map (fun s => (giftA s, (s.n.n, s.sel)))) : (ys.filter giftB).map bareX = (xs.filter giftA).map fun s => (s.n.n, s.sel) := by
  have e1 : ∀ l : List SX, (l.filter giftB).map bareX = ((l.map fun s => (giftB s, bareX s)).filter (·.1)).map (·.2) := fun l => by
    rw [List.filter_map, List.map_map]; rfl
  have e2 : ∀ l : List St, (l.filter giftA).map (fun s => (s.n.n, s.sel)) = ((l.map fun s => (giftA s, (s.n.n, s.sel))).filter (·.1)).map (·.2) := fun l => by
    rw [List.filter_map, List.map_map]; rfl
  rw [e1, e2, h]

/-- A step as it lies. -/
theorem step_row {D : Nat} {w : World} {c : List Value} {s : St} (h : StIn 0 D w c s) : ∃ y : SX, c = y.row.toList ∧ (giftA s, (s.n.n, s.sel)) = (giftB y, bareX y) := by
  obtain ⟨ce, rfl, he⟩ := h
  cases D with
  | zero => exact he.elim
  | succ D =>
    obtain ⟨va, rfl, q, n, rfl, -, -, -⟩ := he
    exact ⟨⟨s.dof, s.side, s.n.op, s.n.n, s.n.side, s.n.sel.side, s.n.sel.zone, s.n.sel.kind, q, s.n.args.length, n, s.all, s.sel.side, s.sel.zone, s.sel.kind⟩, rfl, rfl⟩
/-- An effect as it lies, with its steps. -/
theorem eff_row {D : Nat} {w : World} {c : List Value} {e : Ef} (h : EfIn 0 D w c e) (hfew : e.steps.length ≤ 140737488355328) : ∃ y : EX, c = y.row.toList ∧ giftsE e = (giftsOf y).map bareX ∧ y.sx.length ≤ 140737488355328 ∧
    ∀ (j : Nat) (s : SX), y.sx[j]? = some s → ∃ b o, y.qs = some ⟨b, o, none⟩ ∧ b < w.heap.size ∧ ∀ (k : Nat) (u : Value), s.row[k]? = some u → w.cell? ⟨b, o + j * 13 + k, none⟩ = some u := by
  obtain ⟨vc, vs, rfl, ⟨q1, n1, rfl, -, -, -⟩, q, n, rfl, hl, -, hx⟩ := h
  obtain ⟨ys, hy1, hy2⟩ := pick e.steps (fun j s (y : SX) => (giftA s, (s.n.n, s.sel)) = (giftB y, bareX y) ∧ ∃ g o, q = some ⟨g, o, none⟩ ∧ ∀ k u, y.row.toList[k]? = some u → w.cell? ⟨g, o + j * 13 + k, none⟩ = some u) fun j s hs => by
    obtain ⟨g, o, hq, cs, -, hp, hc⟩ := hx j s hs
    obtain ⟨y, rfl, hy⟩ := step_row hp
    exact ⟨y, hy, g, o, hq, hc⟩
  refine ⟨⟨e.mode, e.ev, e.side, q1, e.cond.length, n1, e.pay, e.discard, e.tribute, e.pick, e.sel.side, e.sel.zone, e.sel.kind, q, n, ys⟩, by simp [EX.row, efV, hy1], ?_, by show ys.length ≤ _; rw [hy1]; exact hfew, ?_⟩
  · unfold giftsE giftsOf
    dsimp only
    split
    · exact (gifts_bare (pick_map hy1 fun i y h => by obtain ⟨x, h1, h2, -⟩ := hy2 i y h; exact ⟨x, h1, h2⟩)).symm
    · rfl
  · intro j s hs
    obtain ⟨x, -, -, g, o, hq, hc⟩ := hy2 j s hs
    exact ⟨g, o, hq, World.block_lt_of_cell? _ _ (hc 0 _ rfl), fun k u hu => hc k u (by simpa using hu)⟩
/-- No list of a kind is too long. -/
def FewIn (xs : List Cd) : Prop := ∀ x ∈ xs, x.effects.length ≤ 140737488355328 ∧ ∀ e ∈ x.effects, e.steps.length ≤ 140737488355328
/-- The kinds as they lie. -/
theorem kinds_fx {D : Nat} {w : World} {qk : Option Addr} {ck : Nat} {xs : List Cd} (h : RowIn w 6 0 (CdIn 0 D) (.slice qk xs.length ck) xs) (hfew : FewIn xs) : ∃ fx : List KX, fx.length = xs.length ∧ KindsFx w w.heap.size qk fx ∧ ∀ (i : Nat) (y : KX), fx[i]? = some y → ∃ x, xs[i]? = some x ∧ giftsA x = (gifts y.es).map bareX := by
  obtain ⟨q, c, hv, hl, -, hx⟩ := h
  simp only [Value.slice.injEq] at hv
  obtain ⟨rfl, -, rfl⟩ := hv
  obtain ⟨fx, h1, h2⟩ := pick xs (fun i x (y : KX) => giftsA x = (gifts y.es).map bareX ∧ ∃ b o, qk = some ⟨b, o, none⟩ ∧ b < w.heap.size ∧ w.cell? ⟨b, o + i * 6 + 5, none⟩ = some (.slice y.qe y.es.length y.ce) ∧ EffsAt w w.heap.size y.qe y.es) fun i x hi => by
    obtain ⟨g, o, hq, cs, -, ⟨ve, rfl, -, q2, n2, rfl, hl2, -, hx2⟩, hc⟩ := hx i x hi
    obtain ⟨es, he1, he2⟩ := pick x.effects (fun j e (y : EX) => giftsE e = (giftsOf y).map bareX ∧ (y.sx.length ≤ 140737488355328 ∧ ∀ (j : Nat) (s : SX), y.sx[j]? = some s → ∃ b o, y.qs = some ⟨b, o, none⟩ ∧ b < w.heap.size ∧ ∀ (k : Nat) (u : Value), s.row[k]? = some u → w.cell? ⟨b, o + j * 13 + k, none⟩ = some u) ∧
        ∃ g o, q2 = some ⟨g, o, none⟩ ∧ ∀ k u, y.row.toList[k]? = some u → w.cell? ⟨g, o + j * 12 + k, none⟩ = some u) fun j e hj => by
      obtain ⟨g, o, hq, cs, -, hp, hc⟩ := hx2 j e hj
      obtain ⟨y, rfl, hy, hs⟩ := eff_row hp ((hfew x (List.mem_of_getElem? hi)).2 e (List.mem_of_getElem? hj))
      exact ⟨y, hy, hs, g, o, hq, hc⟩
    refine ⟨⟨q2, n2, es⟩, ?_, g, o, hq, World.block_lt_of_cell? _ _ (hc 0 _ rfl), ?_, ?_⟩
    · have := pick_map (f := giftsE) (g := fun y : EX => (giftsOf y).map bareX) he1 fun i y h => by obtain ⟨x, h1, h2, -⟩ := he2 i y h; exact ⟨x, h1, h2⟩
      unfold giftsA gifts
      rw [List.map_flatMap, List.flatMap_def, List.flatMap_def, this]
    · have := hc 5 _ rfl
      rw [this, he1]
    · refine ⟨fun j e hj => ?_, by show es.length ≤ _; rw [he1]; exact (hfew x (List.mem_of_getElem? hi)).1, fun j e hj => ?_⟩
      · obtain ⟨x, -, -, -, g, o, hq, hc⟩ := he2 j e hj
        exact ⟨g, o, hq, World.block_lt_of_cell? _ _ (hc 0 _ rfl), fun k u hu => hc k u (by simpa using hu)⟩
      · obtain ⟨x, -, -, hs, -⟩ := he2 j e hj
        exact hs
  exact ⟨fx, h1, ⟨fun i y hy => by obtain ⟨x, -, -, h3⟩ := h2 i y hy; exact h3⟩, fun i y hy => by obtain ⟨x, h3, h4, -⟩ := h2 i y hy; exact ⟨x, h3, h4⟩⟩

abbrev AA := Nat × Int × Sl
def auraA (xs : List Cd) (k : Nat) (p : Pc) : List AA := if p.zn = 2 ∧ p.up = true ∧ 0 ≤ p.df then match xs[p.df.toNat]? with
  | some x => (giftsA x).map fun g => (k, g)
  | none => [] else []
/-- What auras there are on a table. -/
def aurasA (xs : List Cd) (ps : List Pc) : List AA := (List.range ps.length).flatMap fun i => match ps[i]? with
  | some p => auraA xs i p
  | none => []
def addA (xs : List Cd) (ps : List Pc) (p : Pc) (id : Nat) (a : Int) (x : AA) : Int := match ps[x.1]? with
  | some h => if ofB xs p h.hs x.1 x.2.2 id = true then plusI a (max x.2.1 0) else a
  | none => a
def attackA (xs : List Cd) (ps : List Pc) (p : Pc) (id : Nat) : Int := if p.zn = 2 then max ((aurasA xs ps).foldl (addA xs ps p id) (plusI p.ak p.bo)) 0 else max (plusI p.ak p.bo) 0
theorem attack_eq {xs : List Cd} {fx : List KX} {ps : List Pc} (hl : fx.length = xs.length) (hf : ∀ (i : Nat) (y : KX), fx[i]? = some y → ∃ x, xs[i]? = some x ∧ giftsA x = (gifts y.es).map bareX) (p : Pc) (id : Nat) : attackOf xs fx ps p id = attackA xs ps p id := by
  have e : (aurasTo fx ps ps.length).map (fun x : AX => ((x.1, bareX x.2) : AA)) = aurasA xs ps := by
    unfold aurasTo aurasA
    rw [List.map_flatMap]
    congr 1
    funext i
    cases ps[i]? with
    | none => rfl
    | some p =>
      dsimp only
      unfold auraOf auraA
      split
      · cases hy : fx[p.df.toNat]? with
        | none => rw [List.getElem?_eq_none (by have := List.getElem?_eq_none_iff.1 hy; omega)]; rfl
        | some y =>
          obtain ⟨x, hx, h2⟩ := hf _ y hy
          rw [hx]
          dsimp only
          rw [h2, List.map_map, List.map_map]
          rfl
      · rfl
  unfold attackOf attackA upTo
  rw [← e, List.foldl_map]
  rfl

/-- might.Attack of a table that may be. -/
theorem attack_may (t : Tb) (xs : List Cd) (ps : List Pc) (i : Nat) (p : Pc) (w : World) (hT : TabIn w t xs ps) (hL : LifeOk t) (hG : GoodB xs ps) (hi : ps[i]? = some p) (hfew : FewIn xs) :
    Calls Try.prog 26 #[.agg t.row, .int .i64 (i : Int)] w fun e w' => e = .returned (.int .i64 (attackA xs ps p i)) ∧ Below w.heap.size w w' := by
  obtain ⟨D, hk⟩ := hT.kinds
  have hnk := hT.nk.1
  rw [hnk] at hk
  obtain ⟨fx, h1, h2, h3⟩ := kinds_fx hk hfew
  rw [← attack_eq h1 h3]
  have hone := hG.one p (List.mem_of_getElem? hi)
  refine attack_any t xs fx ps i p w hT hL hG hi (fun q hq => (hG.one q hq).zn) (by have := hone.ak; omega) hG.few (by omega) (fun q hq => by have := (hG.one q hq).df; omega) ⟨fun j q hq => ?_⟩ h2
  obtain ⟨g, o, e1, e2, e3⟩ := hT.piece hq
  exact ⟨g, o, e1, e2, e3⟩
