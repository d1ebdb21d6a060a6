import Derived.Test.YtbkjminjkjnkpaaGreatDoorQDkPlaces
import Derived.Test.YtbkjminjkjnkpaaGreatDoorQDkInts
import Derived.Deep.Slices
import Derived.Deep.Fields
import Derived.ChangeSame
import Derived.ProofKit
/- Layer 5 (decks): the law's arguments, opened to cells. -/
namespace Go.Proofs.YtbkjminjkjnkpaaGreatDoor
open Go.RowKit Go.Shelf Go.Lib
open Go.ChangeShapes Go.WideShapes Go.Deep

section
variable {H : Type} {enc : TypeId × Value → H} {P : Program} {w : World} {base : Nat} {spare : Nat → Bool} {held : Bool}
/-- A slice of structs of one-cell fields: each element's fields, each in its cell. -/
theorem open_rows {t e : TypeId} {fs : Array Field} {fuel : Nat} {cs : List Value} {x : DataW H × List MemPlace} (ht : P.underlying t = some (.slice e)) (he : P.underlying e = some (.struct fs))
    (hone : oneCellFields P fs = true) (hC : P.cellsOf e = fs.size) (h : DataW.trod enc P w base spare held fuel t cs = some x) :
    cs = [.slice none 0 0] ∨
    ∃ (a : Addr) (len cap : Nat), cs = [.slice (some a) len cap] ∧ len ≤ cap ∧ cap ≤ maxLen ∧
      ∀ i, i < len → ∀ (j : Nat) (f : Field), fs[j]? = some f → ∃ (v : Value) (y : DataW H × List MemPlace) (n : Nat), w.cell? (a.add (i * fs.size + j)) = some v ∧ DataW.trod enc P w base spare held n f.type [v] = some y := by
  rcases open_slice ht h with h0 | ⟨a, len, cap, m, n, D, Pl, hcs, hb, hl, hm, hmm, hx, hi⟩
  · exact .inl h0.1
  · refine .inr ⟨a, len, cap, hcs, hl, hm, fun i hil j f hj => ?_⟩
    have him : i < m := by subst hmm; split <;> omega
    obtain ⟨cs', hc, ht'⟩ := hi i him
    rw [hC] at hc
    obtain ⟨ys, n', _, _, hlen, hyl, hf⟩ := DataW.trod_struct he ht'
    obtain ⟨_, hcl, hat⟩ := World.cells?_some hc
    obtain ⟨ho, hk⟩ := hone_of hone j f hj
    have hjl : j < fs.size := (Array.getElem?_eq_some_iff.1 hj).1
    have hcell := hat j hjl
    have hv : cs'[j]? = some (cs'[j]'(by omega)) := List.getElem?_eq_getElem (by omega)
    have h1 := hf j f hj
    rw [ho, hk] at h1
    have hone' : (cs'.drop j).take 1 = [cs'[j]'(by omega)] := by
      rw [List.drop_eq_getElem_cons (by omega)]
      rfl
    rw [hone'] at h1
    have hys : ys[j]? = some (ys[j]'(by omega)) := List.getElem?_eq_getElem (by omega)
    refine ⟨_, _, _, ?_, h1.trans hys⟩
    rw [← Go.Deep.add_add, hcell, hv]
end
theorem list_of {α : Type} {P : Nat → α → Prop} : ∀ (n : Nat), (∀ i, i < n → ∃ k, P i k) → ∃ ks : List α, ks.length = n ∧ ∀ i k, ks[i]? = some k → P i k
  | 0, _ => ⟨[], rfl, fun i k h => by simp at h⟩
  | n + 1, h => by
    obtain ⟨ks, hl, hp⟩ := list_of n (fun i hi => h i (by omega))
    obtain ⟨k, hk⟩ := h n (by omega)
    refine ⟨ks ++ [k], by simp [hl], fun i x hx => ?_⟩
    by_cases hi : i < n
    · rw [List.getElem?_append_left (by omega)] at hx; exact hp i x hx
    · rw [List.getElem?_append_right (by omega)] at hx
      by_cases hn : i = n
      · subst hn; rw [hl, Nat.sub_self] at hx; cases hx; exact hk
      · rw [List.getElem?_eq_none (by simp; omega)] at hx; cases hx

variable {H : Type} {enc : TypeId × Value → H} {w : World} {r : Reach} {b0 : Nat}
set_option maxRecDepth 100000 in
theorem ints_of_trod {n : Nat} {v : Value} {x : DataW H × List MemPlace} (h : DataW.trod enc Tryz.prog w 0 (fun _ => true) true n 22 [v] = some x) :
    ∃ (q : Option Addr) (c : Nat) (d : List Int), v = .slice q d.length c ∧ d.length ≤ c ∧ c ≤ maxLen ∧ IntsAt w q d := by
  rcases open_ints Tryz.underlying22 Tryz.underlying3 (by kernel_rfl) h with ⟨hcs, _⟩ | ⟨a, len, cap, zs, hcs, _, hl, hm, hz, _, hcell, _⟩
  · cases hcs
    exact ⟨none, 0, [], rfl, Nat.le_refl _, Nat.zero_le _, IntsAt.nil _ _⟩
  · cases hcs
    have hzl : zs.length = cap := by simpa using hz
    refine ⟨some a, cap, zs.take len, by rw [List.length_take, hzl, Nat.min_eq_left hl], by rw [List.length_take]; omega, hm, fun i x hx => ⟨a, rfl, ?_⟩⟩
    have hi : i < len := by have := (List.getElem?_eq_some_iff.1 hx).1; rw [List.length_take] at this; omega
    rw [List.getElem?_take_of_lt hi] at hx
    rw [hcell i (by omega), List.getD_eq_getElem?_getD, hx]
    rfl
set_option maxRecDepth 100000 in
theorem open_both {v : Value} {d : DataW H} {p : List MemPlace} (hv : Value.okWide Tryz.prog w r b0 23 v) (h : DataW.Trod enc Tryz.prog w 0 (fun _ => true) true 23 v d p) :
    ∃ (qa qb : Option Addr) (ca cb : Nat) (da db : List Int), v = .agg #[.slice qa da.length ca, .slice qb db.length cb] ∧ (da.length ≤ ca ∧ ca ≤ maxLen) ∧ (db.length ≤ cb ∧ cb ≤ maxLen) ∧ IntsAt w qa da ∧ IntsAt w qb db := by
  have hu := Tryz.underlying23
  obtain ⟨cs, rfl, hsz⟩ : ∃ cs, v = .agg cs ∧ cs.size = Tryz.prog.cellsOf 23 := by
    simp only [Value.okWide, hu] at hv
    obtain ⟨cs, h1, h2, _⟩ := hv
    exact ⟨cs, h1, h2⟩
  obtain ⟨l⟩ := cs
  have h2 : Tryz.prog.cellsOf 23 = 2 := by kernel_rfl
  have h1 : Tryz.prog.cellsOf 22 = 1 := by kernel_rfl
  match l, hsz.trans h2 with
  | [c0, c1], _ =>
    obtain ⟨fuel, hf⟩ := h
    obtain ⟨xs, m, _, hx, _, hlen, hg⟩ := DataW.trod_array hu hf
    match xs, hlen with
    | [y0, y1], _ =>
      have g0 := hg 0 (by omega)
      have g1 := hg 1 (by omega)
      rw [h1] at g0 g1
      obtain ⟨qa, ca, da, rfl, a1, a2, a3⟩ := ints_of_trod (x := y0) (by simpa [Value.cells] using g0)
      obtain ⟨qb, cb, db, rfl, b1, b2, b3⟩ := ints_of_trod (x := y1) (by simpa [Value.cells] using g1)
      exact ⟨qa, qb, ca, cb, da, db, rfl, ⟨a1, a2⟩, ⟨b1, b2⟩, a3, b3⟩
set_option maxRecDepth 100000 in
theorem open_kinds {v : Value} {d : DataW H} {p : List MemPlace} (hv : Value.okWide Tryz.prog w r b0 24 v) (h : DataW.Trod enc Tryz.prog w 0 (fun _ => true) true 24 v d p) :
    ∃ (q : Option Addr) (c : Nat) (ks : List KC), v = .slice q ks.length c ∧ ks.length ≤ maxLen ∧ KindsAt w q ks ∧ ∀ k ∈ ks, k.name.size ≤ maxLen := by
  obtain ⟨a0, len, cap, rfl⟩ := okWide_slice Tryz.underlying24 hv
  obtain ⟨fuel, hf⟩ := h
  rcases open_rows Tryz.underlying24 Tryz.underlying44 (by kernel_rfl) (by kernel_rfl) hf with hcs | ⟨a, len', cap', hcs, hl, hm, hat⟩
  · simp [Value.cells] at hcs
    obtain ⟨rfl, rfl, rfl⟩ := hcs
    exact ⟨none, 0, [], rfl, Nat.zero_le _, fun h0 => absurd h0 (Nat.lt_irrefl _), fun k hk => by cases hk⟩
  · simp [Value.cells] at hcs
    obtain ⟨rfl, rfl, rfl⟩ := hcs
    have hall : ∀ i, i < len → ∃ k : KC, (∀ (j : Nat) (u : Value), k.row[j]? = some u → w.cell? (a.add (i * 6 + j)) = some u) ∧ k.name.size ≤ maxLen := by
      intro i hi
      obtain ⟨v0, y0, n0, c0, t0⟩ := hat i hi 0 _ rfl
      obtain ⟨v1, y1, n1, c1, t1⟩ := hat i hi 1 _ rfl
      obtain ⟨v2, y2, n2, c2, t2⟩ := hat i hi 2 _ rfl
      obtain ⟨v3, y3, n3, c3, t3⟩ := hat i hi 3 _ rfl
      obtain ⟨v4, y4, n4, c4, t4⟩ := hat i hi 4 _ rfl
      obtain ⟨v5, y5, n5, c5, t5⟩ := hat i hi 5 _ rfl
      obtain ⟨s, e0, _, hs⟩ := DataW.trod_string Tryz.underlying9 t0
      obtain ⟨z1, e1, _, w1⟩ := DataW.trod_int Tryz.underlying5 t1
      obtain ⟨z2, e2, _, _⟩ := DataW.trod_int Tryz.underlying3 t2
      obtain ⟨z3, e3, _, _⟩ := DataW.trod_int Tryz.underlying3 t3
      obtain ⟨z4, e4, _, _⟩ := DataW.trod_int Tryz.underlying3 t4
      cases e0; cases e1; cases e2; cases e3; cases e4
      obtain ⟨ea, en, ec, rfl⟩ : ∃ ea en ec, v5 = .slice ea en ec := by
        rcases open_slice Tryz.underlying42 t5 with h0 | ⟨ea, en, ec, _, _, _, _, hcs, _⟩
        · cases h0.1; exact ⟨_, _, _, rfl⟩
        · cases hcs; exact ⟨_, _, _, rfl⟩
      have hz : (0 : Int) ≤ z1 := by simp [Lit.wf] at w1; have e : IntKind.u8.min = 0 := rfl; omega
      refine ⟨⟨s, z1.toNat, z2, z3, z4, ea, en, ec⟩, fun j u hu => ?_, hs⟩
      have hj : j < 6 := by have := (Array.getElem?_eq_some_iff.1 hu).1; simpa [KC.row] using this
      match j, hj, hu with
      | 0, _, hu => cases hu; exact c0
      | 1, _, hu => cases hu; show w.cell? _ = some (.int .u8 ((z1.toNat : Nat) : Int)); rw [show ((z1.toNat : Nat) : Int) = z1 by omega]; exact c1
      | 2, _, hu => cases hu; exact c2
      | 3, _, hu => cases hu; exact c3
      | 4, _, hu => cases hu; exact c4
      | 5, _, hu => cases hu; exact c5
    obtain ⟨ks, hkl, hks⟩ := list_of len hall
    refine ⟨some a, cap, ks, by rw [hkl], by omega, fun h0 => ?_, fun k hk => ?_⟩
    · have h1 : ks[0]? = some (ks[0]'h0) := List.getElem?_eq_getElem h0
      have h2 := (hks 0 _ h1).1 0 _ rfl
      have hsp : a.spot = none := by simpa [Addr.add] using World.cell?_spot h2
      obtain ⟨b, o, sp⟩ := a
      simp only at hsp
      subst hsp
      refine ⟨b, o, rfl, fun i k hk j u hu => ?_⟩
      have := (hks i k hk).1 j u hu
      rw [show (⟨b, o, none⟩ : Addr).add (i * 6 + j) = ⟨b, o + i * 6 + j, none⟩ by simp [Addr.add, Nat.add_assoc]] at this
      exact this
    · obtain ⟨i, hi⟩ := List.getElem?_of_mem hk
      exact (hks i k hi).2
end Go.Proofs.YtbkjminjkjnkpaaGreatDoor
