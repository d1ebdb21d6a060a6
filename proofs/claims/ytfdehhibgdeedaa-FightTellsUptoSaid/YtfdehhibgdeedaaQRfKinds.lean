import Derived.Test.YtfdehhibgdeedaaQTbMono
/- The kinds as they lie, where no list of a kind is long. -/
namespace Go.Proofs.Ytfdehhibgdeedaa
open Go.RowKit Go.Lib

def FewB (xs : List Cd) : Prop := ∀ x ∈ xs, x.effects.length ≤ 1500000 ∧ ∀ e ∈ x.effects, e.steps.length ≤ 2200000
theorem FewB.few {xs : List Cd} (h : FewB xs) : FewIn xs := fun x hx => ⟨by have := (h x hx).1; omega, fun e he => by have := (h x hx).2 e he; omega⟩
/-- An effect as it lies, with its steps. -/
theorem eff_row2 {D : Nat} {w : World} {c : List Value} {e : Ef} (h : EfIn 0 D w c e) (hfew : e.steps.length ≤ 140737488355328) : ∃ y : EX, c = y.row.toList ∧ giftsE e = (giftsOf y).map bareX ∧ y.sx.length = e.steps.length ∧ y.sx.length ≤ 140737488355328 ∧
    ∀ (j : Nat) (s : SX), y.sx[j]? = some s → ∃ b o, y.qs = some ⟨b, o, none⟩ ∧ b < w.heap.size ∧ ∀ (k : Nat) (u : Value), s.row[k]? = some u → w.cell? ⟨b, o + j * 13 + k, none⟩ = some u := by
  obtain ⟨vc, vs, rfl, ⟨q1, n1, rfl, -, -, -⟩, q, n, rfl, hl, -, hx⟩ := h
  obtain ⟨ys, hy1, hy2⟩ := pick e.steps (fun j s (y : SX) => (giftA s, (s.n.n, s.sel)) = (giftB y, bareX y) ∧ ∃ g o, q = some ⟨g, o, none⟩ ∧ ∀ k u, y.row.toList[k]? = some u → w.cell? ⟨g, o + j * 13 + k, none⟩ = some u) fun j s hs => by
    obtain ⟨g, o, hq, cs, -, hp, hc⟩ := hx j s hs
    obtain ⟨y, rfl, hy⟩ := step_row hp
    exact ⟨y, hy, g, o, hq, hc⟩
  refine ⟨⟨e.mode, e.ev, e.side, q1, e.cond.length, n1, e.pay, e.discard, e.tribute, e.pick, e.sel.side, e.sel.zone, e.sel.kind, q, n, ys⟩, by simp [EX.row, efV, hy1], ?_, hy1, by show ys.length ≤ _; rw [hy1]; exact hfew, ?_⟩
  · unfold giftsE giftsOf
    dsimp only
    split
    · exact (gifts_bare (pick_map hy1 fun i y h => by obtain ⟨x, h1, h2, -⟩ := hy2 i y h; exact ⟨x, h1, h2⟩)).symm
    · rfl
  · intro j s hs
    obtain ⟨x, -, -, g, o, hq, hc⟩ := hy2 j s hs
    exact ⟨g, o, hq, World.block_lt_of_cell? _ _ (hc 0 _ rfl), fun k u hu => hc k u (by simpa using hu)⟩
/-- The kinds as they lie. -/
theorem kinds_fx2 {D : Nat} {w : World} {qk : Option Addr} {ck : Nat} {xs : List Cd} (h : RowIn w 6 0 (CdIn 0 D) (.slice qk xs.length ck) xs) (hfew : FewB xs) : ∃ fx : List KX, fx.length = xs.length ∧ KindsFx w w.heap.size qk fx ∧ ∀ (i : Nat) (y : KX), fx[i]? = some y → (y.es.length ≤ 1500000 ∧ ∀ (j : Nat) (e : EX), y.es[j]? = some e → e.sx.length ≤ 2200000) ∧ ∃ x, xs[i]? = some x ∧ giftsA x = (gifts y.es).map bareX := by
  obtain ⟨q, c, hv, hl, -, hx⟩ := h
  simp only [Value.slice.injEq] at hv
  obtain ⟨rfl, -, rfl⟩ := hv
  obtain ⟨fx, h1, h2⟩ := pick xs (fun i x (y : KX) => (giftsA x = (gifts y.es).map bareX ∧ y.es.length ≤ 1500000 ∧ ∀ (j : Nat) (e : EX), y.es[j]? = some e → e.sx.length ≤ 2200000) ∧ ∃ b o, qk = some ⟨b, o, none⟩ ∧ b < w.heap.size ∧ w.cell? ⟨b, o + i * 6 + 5, none⟩ = some (.slice y.qe y.es.length y.ce) ∧ EffsAt w w.heap.size y.qe y.es) fun i x hi => by
    obtain ⟨g, o, hq, cs, -, ⟨ve, rfl, -, q2, n2, rfl, hl2, -, hx2⟩, hc⟩ := hx i x hi
    obtain ⟨es, he1, he2⟩ := pick x.effects (fun j e (y : EX) => (giftsE e = (giftsOf y).map bareX ∧ y.sx.length ≤ 2200000) ∧ (y.sx.length ≤ 140737488355328 ∧ ∀ (j : Nat) (s : SX), y.sx[j]? = some s → ∃ b o, y.qs = some ⟨b, o, none⟩ ∧ b < w.heap.size ∧ ∀ (k : Nat) (u : Value), s.row[k]? = some u → w.cell? ⟨b, o + j * 13 + k, none⟩ = some u) ∧
        ∃ g o, q2 = some ⟨g, o, none⟩ ∧ ∀ k u, y.row.toList[k]? = some u → w.cell? ⟨g, o + j * 12 + k, none⟩ = some u) fun j e hj => by
      obtain ⟨g, o, hq, cs, -, hp, hc⟩ := hx2 j e hj
      have h22 := (hfew x (List.mem_of_getElem? hi)).2 e (List.mem_of_getElem? hj)
      obtain ⟨y, rfl, hy, hyl, hs⟩ := eff_row2 hp (by omega)
      exact ⟨y, ⟨hy, by rw [hyl]; exact h22⟩, hs, g, o, hq, hc⟩
    refine ⟨⟨q2, n2, es⟩, ⟨?_, by show es.length ≤ _; rw [he1]; exact (hfew x (List.mem_of_getElem? hi)).1, fun j e hj => by obtain ⟨x', h1, h2, -⟩ := he2 j e hj; exact h2.2⟩, g, o, hq, World.block_lt_of_cell? _ _ (hc 0 _ rfl), ?_, ?_⟩
    · have := pick_map (f := giftsE) (g := fun y : EX => (giftsOf y).map bareX) he1 fun i y h => by obtain ⟨x, h1, h2, -⟩ := he2 i y h; exact ⟨x, h1, h2.1⟩
      unfold giftsA gifts
      rw [List.map_flatMap, List.flatMap_def, List.flatMap_def, this]
    · have := hc 5 _ rfl
      rw [this, he1]
    · refine ⟨fun j e hj => ?_, by show es.length ≤ _; rw [he1]; have := (hfew x (List.mem_of_getElem? hi)).1; omega, fun j e hj => ?_⟩
      · obtain ⟨x, -, -, -, g, o, hq, hc⟩ := he2 j e hj
        exact ⟨g, o, hq, World.block_lt_of_cell? _ _ (hc 0 _ rfl), fun k u hu => hc k u (by simpa using hu)⟩
      · obtain ⟨x, -, -, hs, -⟩ := he2 j e hj
        exact hs
  exact ⟨fx, h1, ⟨fun i y hy => by obtain ⟨x, -, -, h3⟩ := h2 i y hy; exact h3⟩, fun i y hy => by obtain ⟨x, h3, h4, -⟩ := h2 i y hy; exact ⟨h4.2, x, h3, h4.1⟩⟩

theorem EffsAt.below {w w' : World} {B : Nat} {p : Option Addr} {es : List EX} (h : EffsAt w B p es) (hb : Below w.heap.size w w') : EffsAt w' B p es :=
  ⟨fun i e he => by
    obtain ⟨b, o, hp, hl, hc⟩ := h.eff i e he
    exact ⟨b, o, hp, hl, fun j u hu => cell_later hb (hc j u hu)⟩, h.few, fun i e he => by
    obtain ⟨hl, hs⟩ := h.stp i e he
    exact ⟨hl, fun j s hj => by
      obtain ⟨b, o, hp, hl, hc⟩ := hs j s hj
      exact ⟨b, o, hp, hl, fun k u hu => cell_later hb (hc k u hu)⟩⟩⟩
theorem KindsFx.below {w w' : World} {B : Nat} {q : Option Addr} {fx : List KX} (h : KindsFx w B q fx) (hb : Below w.heap.size w w') : KindsFx w' B q fx :=
  ⟨fun i x hx => by
    obtain ⟨b, o, hq, hl, hc, he⟩ := h.kind i x hx
    exact ⟨b, o, hq, hl, cell_later hb hc, he.below hb⟩⟩
/-- What an aura gives, as the document adds it. -/
def incA (xs : List Cd) (ps : List Pc) (p : Pc) (id : Nat) (x : AX) : Int := match ps[x.1]? with
  | some h => if ofB xs p h.hs x.1 ⟨x.2.s1, x.2.s2, x.2.s3⟩ id = true then min (max x.2.n 0) 99999 else 0
  | none => 0
theorem incA_bd {xs : List Cd} {ps : List Pc} {p : Pc} {id : Nat} (x : AX) : 0 ≤ incA xs ps p id x ∧ incA xs ps p id x ≤ 99999 := by
  unfold incA
  split
  · split
    · omega
    · omega
  · omega
def sumA (xs : List Cd) (ps : List Pc) (p : Pc) (id : Nat) : List AX → Int
  | [] => 0
  | x :: l => incA xs ps p id x + sumA xs ps p id l
theorem sumA_app {xs : List Cd} {ps : List Pc} {p : Pc} {id : Nat} : ∀ (l m : List AX), sumA xs ps p id (l ++ m) = sumA xs ps p id l + sumA xs ps p id m
  | [], m => by simp [sumA]
  | x :: l, m => by
    rw [List.cons_append, sumA, sumA, sumA_app l m]
    omega
theorem sumA_bd {xs : List Cd} {ps : List Pc} {p : Pc} {id : Nat} : ∀ (l : List AX), 0 ≤ sumA xs ps p id l ∧ sumA xs ps p id l ≤ 99999 * (l.length : Int)
  | [] => by simp [sumA]
  | x :: l => by
    have h1 := incA_bd (xs := xs) (ps := ps) (p := p) (id := id) x
    have h2 := sumA_bd (xs := xs) (ps := ps) (p := p) (id := id) l
    rw [sumA, List.length_cons]
    constructor
    · omega
    · have : ((l.length + 1 : Nat) : Int) = (l.length : Int) + 1 := by omega
      rw [this]
      omega
/-- Added with bounds at each step it comes to the sum within bounds. -/
theorem fold_sum {xs : List Cd} {ps : List Pc} {p : Pc} {id : Nat} : ∀ (l : List AX) (a : Int), -99999 ≤ a → l.foldl (addUp xs ps p id) (min a 99999) = min (a + sumA xs ps p id l) 99999
  | [], a, _ => by simp [sumA]
  | x :: l, a, h => by
    have hb := incA_bd (xs := xs) (ps := ps) (p := p) (id := id) x
    have hs := (sumA_bd (xs := xs) (ps := ps) (p := p) (id := id) l).1
    have e : addUp xs ps p id (min a 99999) x = min (a + incA xs ps p id x) 99999 := by
      unfold addUp incA
      cases ps[x.1]? with
      | none => simp only; omega
      | some h =>
        simp only
        by_cases ho : ofB xs p h.hs x.1 ⟨x.2.s1, x.2.s2, x.2.s3⟩ id = true
        · rw [if_pos ho, if_pos ho]; unfold plusI bd; omega
        · rw [if_neg ho, if_neg ho]; omega
    rw [List.foldl_cons, e, fold_sum l (a + incA xs ps p id x) (by omega), sumA]
    congr 1
    omega
/-- What a piece's attack is, as the document adds it. -/
def totA (xs : List Cd) (fx : List KX) (ps : List Pc) (p : Pc) (id : Nat) : Int := (p.ak + min (max p.bo (-99999)) 99999) + (if p.zn = 2 then sumA xs ps p id (aurasTo fx ps ps.length) else 0)
theorem tot_attack {xs : List Cd} {fx : List KX} {ps : List Pc} {p : Pc} {id : Nat} (h : 0 ≤ p.ak ∧ p.ak ≤ 99999) : attackOf xs fx ps p id = min (max (totA xs fx ps p id) 0) 99999 := by
  have h0 : plusI p.ak p.bo = min (p.ak + min (max p.bo (-99999)) 99999) 99999 := by unfold plusI bd; omega
  unfold attackOf totA upTo
  rw [h0]
  split
  · rw [fold_sum _ _ (by omega)]; omega
  · omega
end Go.Proofs.Ytfdehhibgdeedaa
