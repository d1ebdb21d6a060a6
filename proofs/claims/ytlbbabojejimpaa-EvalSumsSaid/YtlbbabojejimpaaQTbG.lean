import Derived.Test.YtlbbabojejimpaaQTbA
import Derived.Deep.Slices
import Derived.Deep.Fields
import Derived.ChangeSame
import Derived.ProofKit
import Derived.SizedLaws
import Derived.Test.YtlbbabojejimpaaQTbApp
import Derived.Carry
import Derived.OpenShut
/- Cards that came in, of whatever depth: what they read as says how they lie. -/
namespace Go.Proofs.Ytlbbabojejimpaa
open Go.RowKit Go.Lib
open Go.ChangeShapes Go.WideShapes Go.Deep

/-- None of a datum's parts is of more bytes than fit together. -/
def Light {H : Type} (P : Program) (t : TypeId) (d : DataW H) : Prop := ∀ n ∈ d.weights P t, n ≤ 140737488351232
theorem weightsAll_in {H : Type} {P : Program} {e : TypeId} : ∀ {l : List (DataW H)} {d : DataW H}, d ∈ l → ∀ n ∈ d.weights P e, n ∈ DataW.weightsAll P e l
  | [], _, h, _, _ => by cases h
  | x :: l, d, h, n, hn => by
    rw [DataW.weightsAll]
    rcases List.mem_cons.1 h with rfl | h
    · exact List.mem_append.2 (.inl hn)
    · exact List.mem_append.2 (.inr (weightsAll_in h n hn))
theorem light_slice {H : Type} {P : Program} {t e : TypeId} {l r : List (DataW H)} (ht : P.underlying t = some (.slice e)) (h : Light P t (.slice l r)) : l.length * P.bytesOf e ≤ 140737488351232 ∧ ∀ d ∈ l, Light P e d := by
  unfold Light at h
  rw [DataW.weights, ht] at h
  simp only [] at h
  refine ⟨Nat.le_trans (Nat.mul_le_mul_right _ (Nat.le_add_right _ _)) (h _ List.mem_cons_self), fun d hd n hn => h n (List.mem_cons_of_mem _ (List.mem_append.2 (.inl (weightsAll_in hd n hn))))⟩
theorem light_field {H : Type} {P : Program} {t : TypeId} {fs : Array Field} {ys : List (DataW H)} (ht : P.underlying t = some (.struct fs)) (h : Light P t (.agg ys)) {i : Nat} {f : Field} {y : DataW H} (hf : fs[i]? = some f) (hy : ys[i]? = some y) : Light P f.type y := by
  unfold Light at h
  rw [DataW.weights, ht] at h
  simp only [] at h
  refine fun n hn => h n (DataW.weights_mem_each (j := i) (t := f.type) ?_ hy n hn)
  rw [List.getElem?_map]
  have : fs.toList[i]? = some f := by simpa using hf
  rw [this]; rfl

section
variable {H : Type} {enc : TypeId × Value → H} {P : Program} {w : World}
theorem list_made {α : Type} {Q : Nat → α → Prop} : ∀ (n : Nat), (∀ i, i < n → ∃ k, Q i k) → ∃ ks : List α, ks.length = n ∧ ∀ i k, ks[i]? = some k → Q i k
  | 0, _ => ⟨[], rfl, fun i k h => by simp at h⟩
  | n + 1, h => by
    obtain ⟨ks, hl, hp⟩ := list_made n (fun i hi => h i (by omega))
    obtain ⟨k, hk⟩ := h n (by omega)
    refine ⟨ks ++ [k], by simp [hl], fun i x hx => ?_⟩
    by_cases hi : i < n
    · rw [List.getElem?_append_left (by omega)] at hx; exact hp i x hx
    · rw [List.getElem?_append_right (by omega)] at hx
      by_cases hn : i = n
      · subst hn; rw [hl, Nat.sub_self] at hx; cases hx; exact hk
      · rw [List.getElem?_eq_none (by simp; omega)] at hx; cases hx
/-- A slice's things, out of what it reads as. -/
theorem rd_row {α : Type} {t e : TypeId} {size B fuel : Nat} {Q : World → List Value → α → Prop} {v : Value} {x : DataW H × List MemPlace} (ht : P.underlying t = some (.slice e)) (hC : P.cellsOf e = size) (hB : P.bytesOf e = B) (hs : 0 < size)
    (hel : ∀ m cs y, m < fuel → cs.length = size → DataW.trod enc P w 0 (fun _ => true) true m e cs = some y → Light P e y.1 → ∃ X, Q w cs X)
    (h : DataW.trod enc P w 0 (fun _ => true) true fuel t [v] = some x) (hL : Light P t x.1) : ∃ xs, RowIn w size B Q v xs := by
  rcases DataW.trod_slice ht h with ⟨hcs, _⟩ | ⟨a, len, cap, elems, rest, n, hf, hcs, hx, hb, hl, hm, hlen, hel', _, _⟩
  · cases hcs; exact ⟨[], RowIn.nil _ _ _ _ _ _⟩
  · cases hcs
    subst hx
    obtain ⟨hb1, hb2⟩ := light_slice ht hL
    have hall : ∀ i, i < len → ∃ X, ∃ cs : List Value, cs.length = size ∧ Q w cs X ∧ ∀ j u, cs[j]? = some u → w.cell? (a.add (i * size + j)) = some u := by
      intro i hi
      have h1 := hel' i hi
      have hy : elems[i]? = some (elems[i]'(by omega)) := List.getElem?_eq_getElem _
      rw [hy, hC, Option.bind_eq_some_iff] at h1
      obtain ⟨cs, hc, ht'⟩ := h1
      obtain ⟨_, hcl, hat⟩ := World.cells?_some hc
      have hcs : cs.length = size := by
        have := hcl; first | exact this | omega
      obtain ⟨X, hX⟩ := hel n cs _ (by omega) hcs ht' (hb2 _ (List.mem_map.2 ⟨_, List.getElem_mem _, rfl⟩))
      refine ⟨X, cs, hcs, hX, fun j u hu => ?_⟩
      have hj : j < size := by have := (List.getElem?_eq_some_iff.1 hu).1; omega
      rw [← Go.Deep.add_add, hat j hj, hu]
    obtain ⟨xs, hxl, hxs⟩ := list_made len hall
    refine ⟨xs, some a, cap, by rw [hxl], by omega, by rw [hxl, ← hB]; rw [List.length_map, hlen] at hb1; exact hb1, fun i x hx => ?_⟩
    obtain ⟨cs, hcl, hQ, hcell⟩ := hxs i x hx
    have h0 := hcell 0 (cs[0]'(by omega)) (List.getElem?_eq_getElem _)
    have hsp : a.spot = none := by
      have := World.cell?_spot h0
      by_cases hz : i * size + 0 = 0
      · simpa [Addr.add, hz] using this
      · by_cases hi0 : i = 0
        · subst hi0; simp at hz
        · obtain ⟨cs0, hcl0, -, hc0⟩ := hxs 0 (xs[0]'(by have := (List.getElem?_eq_some_iff.1 hx).1; omega)) (List.getElem?_eq_getElem _)
          have := World.cell?_spot (hc0 0 (cs0[0]'(by omega)) (List.getElem?_eq_getElem _))
          simpa [Addr.add] using this
    obtain ⟨b, o, sp⟩ := a
    simp only at hsp
    subst hsp
    refine ⟨b, o, rfl, cs, hcl, hQ, fun j u hu => ?_⟩
    have := hcell j u hu
    rwa [show (⟨b, o, none⟩ : Addr).add (i * size + j) = ⟨b, o + i * size + j, none⟩ by simp [Addr.add, Nat.add_assoc]] at this
end

section
variable {H : Type} {enc : TypeId × Value → H} {w : World}
theorem c_u8 : Try.prog.cellsOf 5 = 1 := by kernel_rfl
theorem c_int : Try.prog.cellsOf 3 = 1 := by kernel_rfl
theorem c_bool : Try.prog.cellsOf 4 = 1 := by kernel_rfl
theorem c_string : Try.prog.cellsOf 9 = 1 := by kernel_rfl
theorem c_sel : Try.prog.cellsOf 30 = 3 := by kernel_rfl
theorem c_expr : Try.prog.cellsOf 33 = 7 := by kernel_rfl
theorem c_step : Try.prog.cellsOf 70 = 13 := by kernel_rfl
theorem c_effect : Try.prog.cellsOf 48 = 12 := by kernel_rfl
theorem c_card : Try.prog.cellsOf 45 = 6 := by kernel_rfl
theorem c_exprs : Try.prog.cellsOf 31 = 1 := by kernel_rfl
theorem c_steps : Try.prog.cellsOf 46 = 1 := by kernel_rfl
theorem c_effects : Try.prog.cellsOf 43 = 1 := by kernel_rfl
theorem b_expr : Try.prog.bytesOf 33 = 48 := by kernel_rfl
theorem b_step : Try.prog.bytesOf 70 = 64 := by kernel_rfl
theorem b_effect : Try.prog.bytesOf 48 = 96 := by kernel_rfl
theorem b_card : Try.prog.bytesOf 45 = 72 := by kernel_rfl
theorem rd_u8 {n : Nat} {c : Value} {y : DataW H × List MemPlace} (h : DataW.trod enc Try.prog w 0 (fun _ => true) true n 5 [c] = some y) : ∃ k : Nat, c = .int .u8 k := by
  obtain ⟨z, e, _, w1⟩ := DataW.trod_int Try.underlying5 h
  cases e
  have hz : (0 : Int) ≤ z := by simp [Lit.wf] at w1; have e : IntKind.u8.min = 0 := rfl; omega
  exact ⟨z.toNat, by rw [show ((z.toNat : Nat) : Int) = z by omega]⟩
theorem rd_int {n : Nat} {c : Value} {y : DataW H × List MemPlace} (h : DataW.trod enc Try.prog w 0 (fun _ => true) true n 3 [c] = some y) : ∃ z : Int, c = .int .i64 z := by
  obtain ⟨z, e, _, _⟩ := DataW.trod_int Try.underlying3 h
  cases e; exact ⟨z, rfl⟩
theorem rd_bool {n : Nat} {c : Value} {y : DataW H × List MemPlace} (h : DataW.trod enc Try.prog w 0 (fun _ => true) true n 4 [c] = some y) : ∃ b : Bool, c = .bool b := by
  obtain ⟨z, e, _⟩ := DataW.trod_bool Try.underlying4 h
  cases e; exact ⟨z, rfl⟩
theorem rd_string {n : Nat} {c : Value} {y : DataW H × List MemPlace} (h : DataW.trod enc Try.prog w 0 (fun _ => true) true n 9 [c] = some y) : ∃ s : ByteArray, c = .string s ∧ s.size ≤ maxLen := by
  obtain ⟨z, e, _, hs⟩ := DataW.trod_string Try.underlying9 h
  cases e; exact ⟨z, rfl, hs⟩
set_option maxRecDepth 100000 in
theorem rd_sel {n : Nat} {c0 c1 c2 : Value} {y : DataW H × List MemPlace} (h : DataW.trod enc Try.prog w 0 (fun _ => true) true n 30 [c0, c1, c2] = some y) : ∃ s : Sl, [c0, c1, c2] = slV s := by
  obtain ⟨ys, m, _, _, _, hyl, hf⟩ := DataW.trod_struct Try.underlying30 h
  match ys, hyl with
  | [y0, y1, y2], _ =>
    obtain ⟨a, rfl⟩ := rd_u8 (by have := hf 0 _ rfl; simpa [c_u8] using this)
    obtain ⟨b, rfl⟩ := rd_u8 (by have := hf 1 _ rfl; simpa [c_u8] using this)
    obtain ⟨c, rfl⟩ := rd_u8 (by have := hf 2 _ rfl; simpa [c_u8] using this)
    exact ⟨⟨a, b, c⟩, rfl⟩
set_option maxRecDepth 100000 in
set_option maxHeartbeats 1000000 in
theorem rd_expr : ∀ (m : Nat) (cs : List Value) (y : DataW H × List MemPlace), cs.length = 7 → DataW.trod enc Try.prog w 0 (fun _ => true) true m 33 cs = some y → Light Try.prog 33 y.1 → ∃ X : Ex, ExIn 1 m w cs X := by
  intro m
  induction m using Nat.strongRecOn with
  | ind m ih =>
    intro cs y hcs h hL
    obtain ⟨ys, m1, hm, hy, _, hyl, hf⟩ := DataW.trod_struct Try.underlying33 h
    subst hy
    match cs, hcs with
    | [c0, c1, c2, c3, c4, c5, c6], _ =>
      match ys, hyl with
      | [y0, y1, y2, y3, y4], _ =>
        obtain ⟨o, rfl⟩ := rd_u8 (by have := hf 0 _ rfl; simpa [c_u8] using this)
        obtain ⟨z, rfl⟩ := rd_int (by have := hf 1 _ rfl; simpa [c_int] using this)
        obtain ⟨sd, rfl⟩ := rd_u8 (by have := hf 2 _ rfl; simpa [c_u8] using this)
        obtain ⟨sl, hsl⟩ := rd_sel (c0 := c3) (c1 := c4) (c2 := c5) (by have := hf 3 _ rfl; simpa [c_sel] using this)
        simp only [slV, List.cons.injEq, and_true] at hsl
        obtain ⟨rfl, rfl, rfl⟩ := hsl
        have h4 : DataW.trod enc Try.prog w 0 (fun _ => true) true m1 31 [c6] = some y4 := by have := hf 4 _ rfl; simpa [c_exprs] using this
        have hL4 : Light Try.prog 31 y4.1 := light_field Try.underlying33 hL (i := 4) rfl rfl
        obtain ⟨xs, hxs⟩ := rd_row (Q := ExIn 1 m1) Try.underlying31 c_expr b_expr (by omega) (fun k cs y hk hc ht hl => by
          obtain ⟨X, hX⟩ := ih k (by omega) cs y hc ht hl
          exact ⟨X, hX.up (by omega)⟩) h4 hL4
        subst hm
        exact ⟨.mk o z sd sl xs, _, rfl, hxs⟩
theorem rd_exprs {m : Nat} {v : Value} {y : DataW H × List MemPlace} (h : DataW.trod enc Try.prog w 0 (fun _ => true) true m 31 [v] = some y) (hL : Light Try.prog 31 y.1) {D : Nat} (hD : m ≤ D) : ∃ xs, RowIn w 7 (48 * 1) (ExIn 1 D) v xs :=
  rd_row (Q := ExIn 1 D) Try.underlying31 c_expr b_expr (by omega) (fun k cs y hk hc ht hl => by
    obtain ⟨X, hX⟩ := rd_expr k cs y hc ht hl
    exact ⟨X, hX.up (by omega)⟩) h hL
set_option maxRecDepth 100000 in
set_option maxHeartbeats 1000000 in
theorem rd_step {m D : Nat} (hD : m ≤ D) (cs : List Value) (y : DataW H × List MemPlace) (hcs : cs.length = 13) (h : DataW.trod enc Try.prog w 0 (fun _ => true) true m 70 cs = some y) (hL : Light Try.prog 70 y.1) : ∃ X : St, StIn 1 D w cs X := by
  obtain ⟨ys, m1, hm, hy, _, hyl, hf⟩ := DataW.trod_struct Try.underlying70 h
  subst hy
  match cs, hcs with
  | [c0, c1, c2, c3, c4, c5, c6, c7, c8, c9, c10, c11, c12], _ =>
    match ys, hyl with
    | [y0, y1, y2, y3, y4], _ =>
      obtain ⟨o, rfl⟩ := rd_u8 (by have := hf 0 _ rfl; simpa [c_u8] using this)
      obtain ⟨sd, rfl⟩ := rd_u8 (by have := hf 1 _ rfl; simpa [c_u8] using this)
      have h2 : DataW.trod enc Try.prog w 0 (fun _ => true) true m1 33 [c2, c3, c4, c5, c6, c7, c8] = some y2 := by have := hf 2 _ rfl; simpa [c_expr] using this
      have hL2 : Light Try.prog 33 y2.1 := light_field Try.underlying70 hL (i := 2) rfl rfl
      obtain ⟨X, hX⟩ := rd_expr m1 _ _ rfl h2 hL2
      obtain ⟨b, rfl⟩ := rd_bool (by have := hf 3 _ rfl; simpa [c_bool] using this)
      obtain ⟨sl, hsl⟩ := rd_sel (c0 := c10) (c1 := c11) (c2 := c12) (by have := hf 4 _ rfl; simpa [c_sel] using this)
      simp only [slV, List.cons.injEq, and_true] at hsl
      obtain ⟨rfl, rfl, rfl⟩ := hsl
      exact ⟨⟨o, sd, X, b, sl⟩, _, rfl, hX.up (by omega)⟩
set_option maxRecDepth 100000 in
set_option maxHeartbeats 1000000 in
theorem rd_effect {m D : Nat} (hD : m ≤ D) (cs : List Value) (y : DataW H × List MemPlace) (hcs : cs.length = 12) (h : DataW.trod enc Try.prog w 0 (fun _ => true) true m 48 cs = some y) (hL : Light Try.prog 48 y.1) : ∃ X : Ef, EfIn 1 D w cs X := by
  obtain ⟨ys, m1, hm, hy, _, hyl, hf⟩ := DataW.trod_struct Try.underlying48 h
  subst hy
  match cs, hcs with
  | [c0, c1, c2, c3, c4, c5, c6, c7, c8, c9, c10, c11], _ =>
    match ys, hyl with
    | [y0, y1, y2, y3, y4, y5, y6, y7, y8, y9], _ =>
      obtain ⟨mo, rfl⟩ := rd_u8 (by have := hf 0 _ rfl; simpa [c_u8] using this)
      obtain ⟨ev, rfl⟩ := rd_u8 (by have := hf 1 _ rfl; simpa [c_u8] using this)
      obtain ⟨sd, rfl⟩ := rd_u8 (by have := hf 2 _ rfl; simpa [c_u8] using this)
      have h3 : DataW.trod enc Try.prog w 0 (fun _ => true) true m1 31 [c3] = some y3 := by have := hf 3 _ rfl; simpa [c_exprs] using this
      have hL3 : Light Try.prog 31 y3.1 := light_field Try.underlying48 hL (i := 3) rfl rfl
      obtain ⟨cd, hcd⟩ := rd_exprs h3 hL3 (D := D) (by omega)
      obtain ⟨pay, rfl⟩ := rd_int (by have := hf 4 _ rfl; simpa [c_int] using this)
      obtain ⟨dr, rfl⟩ := rd_int (by have := hf 5 _ rfl; simpa [c_int] using this)
      obtain ⟨tr, rfl⟩ := rd_bool (by have := hf 6 _ rfl; simpa [c_bool] using this)
      obtain ⟨pk, rfl⟩ := rd_int (by have := hf 7 _ rfl; simpa [c_int] using this)
      obtain ⟨sl, hsl⟩ := rd_sel (c0 := c8) (c1 := c9) (c2 := c10) (by have := hf 8 _ rfl; simpa [c_sel] using this)
      simp only [slV, List.cons.injEq, and_true] at hsl
      obtain ⟨rfl, rfl, rfl⟩ := hsl
      have h9 : DataW.trod enc Try.prog w 0 (fun _ => true) true m1 46 [c11] = some y9 := by have := hf 9 _ rfl; simpa [c_steps] using this
      have hL9 : Light Try.prog 46 y9.1 := light_field Try.underlying48 hL (i := 9) rfl rfl
      obtain ⟨ss, hss⟩ := rd_row (Q := StIn 1 D) Try.underlying46 c_step b_step (by omega) (fun k cs y hk hc ht hl => rd_step (by omega) cs y hc ht hl) h9 hL9
      exact ⟨⟨mo, ev, sd, cd, pay, dr, tr, pk, sl, ss⟩, _, _, rfl, hcd, hss⟩
set_option maxRecDepth 100000 in
set_option maxHeartbeats 1000000 in
theorem rd_card {m D : Nat} (hD : m ≤ D) (cs : List Value) (y : DataW H × List MemPlace) (hcs : cs.length = 6) (h : DataW.trod enc Try.prog w 0 (fun _ => true) true m 45 cs = some y) (hL : Light Try.prog 45 y.1) : ∃ X : Cd, CdIn 1 D w cs X := by
  obtain ⟨ys, m1, hm, hy, _, hyl, hf⟩ := DataW.trod_struct Try.underlying45 h
  subst hy
  match cs, hcs with
  | [c0, c1, c2, c3, c4, c5], _ =>
    match ys, hyl with
    | [y0, y1, y2, y3, y4, y5], _ =>
      obtain ⟨nm, rfl, hnm⟩ := rd_string (by have := hf 0 _ rfl; simpa [c_string] using this)
      obtain ⟨kd, rfl⟩ := rd_u8 (by have := hf 1 _ rfl; simpa [c_u8] using this)
      obtain ⟨lv, rfl⟩ := rd_int (by have := hf 2 _ rfl; simpa [c_int] using this)
      obtain ⟨at_, rfl⟩ := rd_int (by have := hf 3 _ rfl; simpa [c_int] using this)
      obtain ⟨gd, rfl⟩ := rd_int (by have := hf 4 _ rfl; simpa [c_int] using this)
      have h5 : DataW.trod enc Try.prog w 0 (fun _ => true) true m1 43 [c5] = some y5 := by have := hf 5 _ rfl; simpa [c_effects] using this
      have hL5 : Light Try.prog 43 y5.1 := light_field Try.underlying45 hL (i := 5) rfl rfl
      obtain ⟨es, hes⟩ := rd_row (Q := EfIn 1 D) Try.underlying43 c_effect b_effect (by omega) (fun k cs y hk hc ht hl => rd_effect (by omega) cs y hc ht hl) h5 hL5
      exact ⟨⟨nm, kd, lv, at_, gd, es⟩, _, rfl, hnm, hes⟩
/-- Cards that came in. -/
theorem rd_cards {v : Value} {d : DataW H} {p : List MemPlace} (hv : ∃ a n c, v = .slice a n c) (h : DataW.Trod enc Try.prog w 0 (fun _ => true) true 22 v d p) (hL : Light Try.prog 22 d) : ∃ (D : Nat) (xs : List Cd), RowIn w 6 72 (CdIn 1 D) v xs := by
  obtain ⟨fuel, hf⟩ := h
  obtain ⟨a, n, c, rfl⟩ := hv
  simp only [Value.cells] at hf
  obtain ⟨xs, hxs⟩ := rd_row (fuel := fuel) (Q := CdIn 1 fuel) (v := .slice a n c) (x := (d, p)) Try.underlying22 c_card b_card (by omega) (fun k cs y hk hc ht hl => rd_card (m := k) (D := fuel) (by omega) cs y hc ht hl) (by simpa using hf) hL
  exact ⟨fuel, xs, hxs⟩
end
end Go.Proofs.Ytlbbabojejimpaa

/- Tables, pieces, events that came in: what they read as says how they lie; arguments read behind a call as ahead of it. -/
namespace Go.Proofs.Ytlbbabojejimpaa
open Go.RowKit Go.Lib
open Go.ChangeShapes Go.WideShapes Go.Deep

theorem trodAll_below {H : Type} {enc : TypeId × Value → H} {P : Program} {W W' : World} (hl : laidOutB P = true) (hb : Below W.heap.size W W') : ∀ (ts : List TypeId) (vs : List Value) (ds : List (DataW H)) (ps : List MemPlace),
    (ts.all fun t => P.readableRec t && decide (t < P.types.size)) = true → DataW.TrodAll enc P W 0 (fun _ => true) true ts vs ds ps → (∀ x ∈ ps, x.block < W.heap.size) → DataW.TrodAll enc P W' 0 (fun b => decide (b < W.heap.size)) true ts vs ds ps
  | [], vs, ds, ps, _, h, _ => by
    cases vs <;> cases ds <;> simp [DataW.TrodAll] at h ⊢
    exact h
  | t :: ts, vs, ds, ps, hr, h, hlt => by
    obtain ⟨v, vs', d, ds', p, q, rfl, rfl, rfl, h1, h2⟩ := trodAll_cons h
    simp only [List.all_cons, Bool.and_eq_true, decide_eq_true_eq] at hr
    exact ⟨p, q, Below.trod hl hr.1.1 hr.1.2 h1 hb fun x hx => hlt x (List.mem_append.2 (.inl hx)), trodAll_below hl hb ts vs' ds' q hr.2 h2 (fun x hx => hlt x (List.mem_append.2 (.inr hx))), rfl⟩
/-- Of each argument no part is of more bytes than fit together. -/
theorem light_of {H : Type} {P : Program} {ts : List TypeId} {ds : List (DataW H)} (h : (DataW.weightsEach P ts ds).all (· ≤ reachBytes) = true) {j : Nat} {t : TypeId} {d : DataW H} (ht : ts[j]? = some t) (hd : ds[j]? = some d) : Light P t d := fun n hn => by
  have := of_decide_eq_true (List.all_eq_true.1 h n (DataW.weights_mem_each ht hd n hn))
  exact Nat.le_trans this (by decide)

section
variable {H : Type} {enc : TypeId × Value → H} {w : World}
theorem c_piece : Try.prog.cellsOf 51 = 14 := by kernel_rfl
theorem c_event : Try.prog.cellsOf 123 = 4 := by kernel_rfl
theorem c_table : Try.prog.cellsOf 28 = 10 := by kernel_rfl
theorem c_cards : Try.prog.cellsOf 22 = 1 := by kernel_rfl
theorem c_pieces : Try.prog.cellsOf 23 = 1 := by kernel_rfl
theorem c_events : Try.prog.cellsOf 25 = 1 := by kernel_rfl
theorem c_life : Try.prog.cellsOf 24 = 2 := by kernel_rfl
theorem c_lost : Try.prog.cellsOf 26 = 2 := by kernel_rfl
theorem b_piece : Try.prog.bytesOf 51 = 72 := by kernel_rfl
theorem b_event : Try.prog.bytesOf 123 = 32 := by kernel_rfl
theorem rd_u8b {n : Nat} {c : Value} {y : DataW H × List MemPlace} (h : DataW.trod enc Try.prog w 0 (fun _ => true) true n 5 [c] = some y) : ∃ k : Nat, c = .int .u8 k ∧ k ≤ 255 := by
  obtain ⟨z, e, _, w1⟩ := DataW.trod_int Try.underlying5 h
  cases e
  have e0 : IntKind.u8.min = 0 := rfl
  have e1 : IntKind.u8.max = 255 := rfl
  have hz : (0 : Int) ≤ z ∧ z ≤ 255 := by simp [Lit.wf] at w1; omega
  exact ⟨z.toNat, by rw [show ((z.toNat : Nat) : Int) = z by omega], by omega⟩
theorem rd_intb {n : Nat} {c : Value} {y : DataW H × List MemPlace} (h : DataW.trod enc Try.prog w 0 (fun _ => true) true n 3 [c] = some y) : ∃ z : Int, c = .int .i64 z ∧ -9223372036854775808 ≤ z := by
  obtain ⟨z, e, _, w1⟩ := DataW.trod_int Try.underlying3 h
  cases e
  have e0 : IntKind.i64.min = -9223372036854775808 := rfl
  exact ⟨z, rfl, by simp [Lit.wf] at w1; omega⟩
set_option maxRecDepth 100000 in
set_option maxHeartbeats 1000000 in
theorem rd_piece (m : Nat) (cs : List Value) (y : DataW H × List MemPlace) (hcs : cs.length = 14) (h : DataW.trod enc Try.prog w 0 (fun _ => true) true m 51 cs = some y) : ∃ X : Pc, PcIn w cs X := by
  obtain ⟨ys, m1, hm, hy, _, hyl, hf⟩ := DataW.trod_struct Try.underlying51 h
  subst hy
  match cs, hcs with
  | [c0, c1, c2, c3, c4, c5, c6, c7, c8, c9, c10, c11, c12, c13], _ =>
    match ys, hyl with
    | [y0, y1, y2, y3, y4, y5, y6, y7, y8, y9, y10, y11, y12, y13], _ =>
      obtain ⟨a0, rfl⟩ := rd_int (by have := hf 0 _ rfl; simpa [c_int] using this)
      obtain ⟨a1, rfl⟩ := rd_int (by have := hf 1 _ rfl; simpa [c_int] using this)
      obtain ⟨a2, rfl⟩ := rd_int (by have := hf 2 _ rfl; simpa [c_int] using this)
      obtain ⟨a3, rfl⟩ := rd_u8 (by have := hf 3 _ rfl; simpa [c_u8] using this)
      obtain ⟨a4, rfl⟩ := rd_u8 (by have := hf 4 _ rfl; simpa [c_u8] using this)
      obtain ⟨a5, rfl⟩ := rd_u8 (by have := hf 5 _ rfl; simpa [c_u8] using this)
      obtain ⟨a6, rfl⟩ := rd_int (by have := hf 6 _ rfl; simpa [c_int] using this)
      obtain ⟨a7, rfl⟩ := rd_bool (by have := hf 7 _ rfl; simpa [c_bool] using this)
      obtain ⟨a8, rfl⟩ := rd_bool (by have := hf 8 _ rfl; simpa [c_bool] using this)
      obtain ⟨a9, rfl⟩ := rd_int (by have := hf 9 _ rfl; simpa [c_int] using this)
      obtain ⟨a10, rfl⟩ := rd_u8 (by have := hf 10 _ rfl; simpa [c_u8] using this)
      obtain ⟨a11, rfl⟩ := rd_bool (by have := hf 11 _ rfl; simpa [c_bool] using this)
      obtain ⟨a12, rfl⟩ := rd_bool (by have := hf 12 _ rfl; simpa [c_bool] using this)
      obtain ⟨a13, rfl⟩ := rd_int (by have := hf 13 _ rfl; simpa [c_int] using this)
      exact ⟨⟨a0, a1, a2, a3, a4, a5, a6, a7, a8, a9, a10, a11, a12, a13⟩, rfl⟩
def EvOk (w : World) (c : List Value) (e : Ev) : Prop := EvIn w c e ∧ e.2.2.2 ≤ 255 ∧ -9223372036854775808 ≤ e.2.1
set_option maxRecDepth 100000 in
theorem rd_event (m : Nat) (cs : List Value) (y : DataW H × List MemPlace) (hcs : cs.length = 4) (h : DataW.trod enc Try.prog w 0 (fun _ => true) true m 123 cs = some y) : ∃ X : Ev, EvOk w cs X := by
  obtain ⟨ys, m1, hm, hy, _, hyl, hf⟩ := DataW.trod_struct Try.underlying123 h
  subst hy
  match cs, hcs with
  | [c0, c1, c2, c3], _ =>
    match ys, hyl with
    | [y0, y1, y2, y3], _ =>
      obtain ⟨a0, rfl⟩ := rd_u8 (by have := hf 0 _ rfl; simpa [c_u8] using this)
      obtain ⟨a1, rfl, h1⟩ := rd_intb (by have := hf 1 _ rfl; simpa [c_int] using this)
      obtain ⟨a2, rfl⟩ := rd_int (by have := hf 2 _ rfl; simpa [c_int] using this)
      obtain ⟨a3, rfl, h3⟩ := rd_u8b (by have := hf 3 _ rfl; simpa [c_u8] using this)
      exact ⟨(a0, a1, a2, a3), rfl, h3, h1⟩
theorem ev_ok {v : Value} {es : List Ev} (h : RowIn w 4 32 EvOk v es) : RowIn w 4 32 EvIn v es ∧ ∀ x ∈ es, x.2.2.2 ≤ 255 ∧ -9223372036854775808 ≤ x.2.1 := by
  refine ⟨h.mono (Nat.le_refl _) fun _ _ k => k.1, fun x hx => ?_⟩
  obtain ⟨i, hi⟩ := List.mem_iff_getElem?.1 hx
  obtain ⟨q, c, -, -, -, h⟩ := h
  obtain ⟨-, -, -, cs, -, hp, -⟩ := h i x hi
  exact hp.2
/-- Events that came in. -/
theorem rd_events {v : Value} {d : DataW H} {p : List MemPlace} (hv : ∃ a n c, v = .slice a n c) (h : DataW.Trod enc Try.prog w 0 (fun _ => true) true 25 v d p) (hL : Light Try.prog 25 d) : ∃ es : List Ev, RowIn w 4 32 EvIn v es ∧ ∀ x ∈ es, x.2.2.2 ≤ 255 ∧ -9223372036854775808 ≤ x.2.1 := by
  obtain ⟨fuel, hf⟩ := h
  obtain ⟨a, n, c, rfl⟩ := hv
  simp only [Value.cells] at hf
  obtain ⟨xs, hxs⟩ := rd_row (fuel := fuel) (Q := EvOk) (v := .slice a n c) (x := (d, p)) Try.underlying25 c_event b_event (by omega) (fun k cs y hk hc ht hl => rd_event k cs y hc ht) (by simpa using hf) hL
  exact ⟨xs, ev_ok hxs⟩
set_option maxRecDepth 100000 in
set_option maxHeartbeats 1000000 in
/-- A table that came in. -/
theorem rd_table {v : Value} {d : DataW H} {p : List MemPlace} {r : Reach} {b0 : Nat} (hv : Value.okWide Try.prog w r b0 28 v) (h : DataW.Trod enc Try.prog w 0 (fun _ => true) true 28 v d p) (hL : Light Try.prog 28 d) :
    ∃ (t : Tb) (D : Nat) (xs : List Cd) (ps : List Pc) (es : List Ev), v = .agg t.row ∧ RowIn w 6 72 (CdIn 1 D) (.slice t.qk t.nk t.ck) xs ∧ RowIn w 14 72 PcIn (.slice t.qp t.np t.cp) ps ∧ RowIn w 4 32 EvIn (.slice t.qe t.ne t.ce) es := by
  obtain ⟨cs, rfl, hsz⟩ := okWide_struct Try.underlying28 hv
  obtain ⟨l⟩ := cs
  obtain ⟨fuel, hf⟩ := h
  obtain ⟨ys, m, _, hy, _, hyl, hg⟩ := DataW.trod_struct Try.underlying28 hf
  simp only [Prod.mk.injEq] at hy
  obtain ⟨rfl, -⟩ := hy
  match l, hsz.trans c_table with
  | [c0, c1, c2, c3, c4, c5, c6, c7, c8, c9], _ =>
    match ys, hyl with
    | [y0, y1, y2, y3, y4, y5, y6, y7], _ =>
      have g0 : DataW.trod enc Try.prog w 0 (fun _ => true) true m 22 [c0] = some y0 := by have := hg 0 _ rfl; simpa [Value.cells, c_cards] using this
      have g1 : DataW.trod enc Try.prog w 0 (fun _ => true) true m 23 [c1] = some y1 := by have := hg 1 _ rfl; simpa [Value.cells, c_pieces] using this
      have g2 : DataW.trod enc Try.prog w 0 (fun _ => true) true m 24 [c2, c3] = some y2 := by have := hg 2 _ rfl; simpa [Value.cells, c_life] using this
      have g6 : DataW.trod enc Try.prog w 0 (fun _ => true) true m 25 [c7] = some y6 := by have := hg 6 _ rfl; simpa [Value.cells, c_events] using this
      have g7 : DataW.trod enc Try.prog w 0 (fun _ => true) true m 26 [c8, c9] = some y7 := by have := hg 7 _ rfl; simpa [Value.cells, c_lost] using this
      obtain ⟨tn, rfl⟩ := rd_int (by have := hg 3 _ rfl; simpa [Value.cells, c_int] using this)
      obtain ⟨py, rfl⟩ := rd_u8 (by have := hg 4 _ rfl; simpa [Value.cells, c_u8] using this)
      obtain ⟨mo, rfl⟩ := rd_int (by have := hg 5 _ rfl; simpa [Value.cells, c_int] using this)
      obtain ⟨xs, hxs⟩ := rd_row (Q := CdIn 1 m) Try.underlying22 c_card b_card (by omega) (fun k cs y hk hc ht hl => rd_card (m := k) (D := m) (by omega) cs y hc ht hl) g0 (light_field Try.underlying28 hL (i := 0) rfl rfl)
      obtain ⟨ps, hps⟩ := rd_row (Q := PcIn) Try.underlying23 c_piece b_piece (by omega) (fun k cs y hk hc ht hl => rd_piece k cs y hc ht) g1 (light_field Try.underlying28 hL (i := 1) rfl rfl)
      obtain ⟨es, hes⟩ := rd_row (Q := EvOk) Try.underlying25 c_event b_event (by omega) (fun k cs y hk hc ht hl => rd_event k cs y hc ht) g6 (light_field Try.underlying28 hL (i := 6) rfl rfl)
      obtain ⟨zs, m2, _, _, _, hl2, h2⟩ := DataW.trod_array Try.underlying24 g2
      obtain ⟨bs, m3, _, _, _, hl3, h3⟩ := DataW.trod_array Try.underlying26 g7
      match zs, hl2 with
      | [z0, z1], _ =>
        match bs, hl3 with
        | [u0, u1], _ =>
          obtain ⟨l0, rfl⟩ := rd_int (y := z0) (by have := h2 0 (by omega); simpa [c_int] using this)
          obtain ⟨l1, rfl⟩ := rd_int (y := z1) (by have := h2 1 (by omega); simpa [c_int] using this)
          obtain ⟨b0, rfl⟩ := rd_bool (y := u0) (by have := h3 0 (by omega); simpa [c_bool] using this)
          obtain ⟨b1, rfl⟩ := rd_bool (y := u1) (by have := h3 1 (by omega); simpa [c_bool] using this)
          obtain ⟨qk, ck, rfl, -⟩ := id hxs
          obtain ⟨qp, cp, rfl, -⟩ := id hps
          obtain ⟨qe, ce, rfl, -⟩ := id hes
          exact ⟨⟨qk, xs.length, ck, qp, ps.length, cp, l0, l1, tn, py, mo, qe, es.length, ce, b0, b1⟩, m, xs, ps, es, rfl, hxs, hps, (ev_ok hes).1⟩
end
end Go.Proofs.Ytlbbabojejimpaa
