/- Cards that came in, of whatever depth: what they read as says how they lie. -/
import Derived.Test.YtppgfkdkopfebaaTbIn
import Derived.Deep.Slices
import Derived.Deep.Fields
import Derived.ChangeSame
import Derived.ProofKit
import Derived.SizedLaws
namespace Go.Proofs.Ytppgfkdkopfebaa
open Go.RowKit Go.Lib
open Go.ChangeShapes Go.WideShapes Go.Deep

/-- None of a datum's parts is of more bytes than fit together. -/
def Light {H : Type} (P : Program) (t : TypeId) (d : DataW H) : Prop := ∀ n ∈ d.weights P t, n ≤ 140737488351232
theorem weightsAll_in {H : Type} {P : Program} {e : TypeId} : ∀ {l : List (DataW H)} {d : DataW H}, d ∈ l → ∀ n ∈ d.weights P e, n ∈ DataW.weightsAll P e l
  | [], _, h, _, _ => by cases h
  | x :: l, d, h, n, hn => by
    rw [DataW.weightsAll]
    rcases List.mem_cons.1 h with rfl | h
    · exact List.mem_append.2 (.inl hn)
    · exact List.mem_append.2 (.inr (weightsAll_in h n hn))
theorem light_slice {H : Type} {P : Program} {t e : TypeId} {l r : List (DataW H)} (ht : P.underlying t = some (.slice e)) (h : Light P t (.slice l r)) : l.length * P.bytesOf e ≤ 140737488351232 ∧ ∀ d ∈ l, Light P e d := by
  unfold Light at h
  rw [DataW.weights, ht] at h
  simp only [] at h
  refine ⟨Nat.le_trans (Nat.mul_le_mul_right _ (Nat.le_add_right _ _)) (h _ List.mem_cons_self), fun d hd n hn => h n (List.mem_cons_of_mem _ (List.mem_append.2 (.inl (weightsAll_in hd n hn))))⟩
theorem light_field {H : Type} {P : Program} {t : TypeId} {fs : Array Field} {ys : List (DataW H)} (ht : P.underlying t = some (.struct fs)) (h : Light P t (.agg ys)) {i : Nat} {f : Field} {y : DataW H} (hf : fs[i]? = some f) (hy : ys[i]? = some y) : Light P f.type y := by
  unfold Light at h
  rw [DataW.weights, ht] at h
  simp only [] at h
  refine fun n hn => h n (DataW.weights_mem_each (j := i) (t := f.type) ?_ hy n hn)
  rw [List.getElem?_map]
  have : fs.toList[i]? = some f := by simpa using hf
  rw [this]; rfl

section
variable {H : Type} {enc : TypeId × Value → H} {P : Program} {w : World}
theorem list_made {α : Type} {Q : Nat → α → Prop} : ∀ (n : Nat), (∀ i, i < n → ∃ k, Q i k) → ∃ ks : List α, ks.length = n ∧ ∀ i k, ks[i]? = some k → Q i k
  | 0, _ => ⟨[], rfl, fun i k h => by simp at h⟩
  | n + 1, h => by
    obtain ⟨ks, hl, hp⟩ := list_made n (fun i hi => h i (by omega))
    obtain ⟨k, hk⟩ := h n (by omega)
    refine ⟨ks ++ [k], by simp [hl], fun i x hx => ?_⟩
    by_cases hi : i < n
    · rw [List.getElem?_append_left (by omega)] at hx; exact hp i x hx
    · rw [List.getElem?_append_right (by omega)] at hx
      by_cases hn : i = n
      · subst hn; rw [hl, Nat.sub_self] at hx; cases hx; exact hk
      · rw [List.getElem?_eq_none (by simp; omega)] at hx; cases hx
/-- A slice's things, out of what it reads as. -/
theorem rd_row {α : Type} {t e : TypeId} {size B fuel : Nat} {Q : World → List Value → α → Prop} {v : Value} {x : DataW H × List MemPlace} (ht : P.underlying t = some (.slice e)) (hC : P.cellsOf e = size) (hB : P.bytesOf e = B) (hs : 0 < size)
    (hel : ∀ m cs y, m < fuel → cs.length = size → DataW.trod enc P w 0 (fun _ => true) true m e cs = some y → Light P e y.1 → ∃ X, Q w cs X)
    (h : DataW.trod enc P w 0 (fun _ => true) true fuel t [v] = some x) (hL : Light P t x.1) : ∃ xs, RowIn w size B Q v xs := by
  rcases DataW.trod_slice ht h with ⟨hcs, _⟩ | ⟨a, len, cap, elems, rest, n, hf, hcs, hx, hb, hl, hm, hlen, hel', _, _⟩
  · cases hcs; exact ⟨[], RowIn.nil _ _ _ _ _ _⟩
  · cases hcs
    subst hx
    obtain ⟨hb1, hb2⟩ := light_slice ht hL
    have hall : ∀ i, i < len → ∃ X, ∃ cs : List Value, cs.length = size ∧ Q w cs X ∧ ∀ j u, cs[j]? = some u → w.cell? (a.add (i * size + j)) = some u := by
      intro i hi
      have h1 := hel' i hi
      have hy : elems[i]? = some (elems[i]'(by omega)) := List.getElem?_eq_getElem _
      rw [hy, hC, Option.bind_eq_some_iff] at h1
      obtain ⟨cs, hc, ht'⟩ := h1
      obtain ⟨_, hcl, hat⟩ := World.cells?_some hc
      have hcs : cs.length = size := by
        have := hcl; first | exact this | omega
      obtain ⟨X, hX⟩ := hel n cs _ (by omega) hcs ht' (hb2 _ (List.mem_map.2 ⟨_, List.getElem_mem _, rfl⟩))
      refine ⟨X, cs, hcs, hX, fun j u hu => ?_⟩
      have hj : j < size := by have := (List.getElem?_eq_some_iff.1 hu).1; omega
      rw [← Go.Deep.add_add, hat j hj, hu]
    obtain ⟨xs, hxl, hxs⟩ := list_made len hall
    refine ⟨xs, some a, cap, by rw [hxl], by omega, by rw [hxl, ← hB]; rw [List.length_map, hlen] at hb1; exact hb1, fun i x hx => ?_⟩
    obtain ⟨cs, hcl, hQ, hcell⟩ := hxs i x hx
    have h0 := hcell 0 (cs[0]'(by omega)) (List.getElem?_eq_getElem _)
    have hsp : a.spot = none := by
      have := World.cell?_spot h0
      by_cases hz : i * size + 0 = 0
      · simpa [Addr.add, hz] using this
      · by_cases hi0 : i = 0
        · subst hi0; simp at hz
        · obtain ⟨cs0, hcl0, -, hc0⟩ := hxs 0 (xs[0]'(by have := (List.getElem?_eq_some_iff.1 hx).1; omega)) (List.getElem?_eq_getElem _)
          have := World.cell?_spot (hc0 0 (cs0[0]'(by omega)) (List.getElem?_eq_getElem _))
          simpa [Addr.add] using this
    obtain ⟨b, o, sp⟩ := a
    simp only at hsp
    subst hsp
    refine ⟨b, o, rfl, cs, hcl, hQ, fun j u hu => ?_⟩
    have := hcell j u hu
    rwa [show (⟨b, o, none⟩ : Addr).add (i * size + j) = ⟨b, o + i * size + j, none⟩ by simp [Addr.add, Nat.add_assoc]] at this
end

section
variable {H : Type} {enc : TypeId × Value → H} {w : World}
theorem c_u8 : Try.prog.cellsOf 5 = 1 := by kernel_rfl
theorem c_int : Try.prog.cellsOf 3 = 1 := by kernel_rfl
theorem c_bool : Try.prog.cellsOf 4 = 1 := by kernel_rfl
theorem c_string : Try.prog.cellsOf 9 = 1 := by kernel_rfl
theorem c_sel : Try.prog.cellsOf 64 = 3 := by kernel_rfl
theorem c_expr : Try.prog.cellsOf 69 = 7 := by kernel_rfl
theorem c_step : Try.prog.cellsOf 71 = 13 := by kernel_rfl
theorem c_effect : Try.prog.cellsOf 67 = 12 := by kernel_rfl
theorem c_card : Try.prog.cellsOf 61 = 6 := by kernel_rfl
theorem c_exprs : Try.prog.cellsOf 62 = 1 := by kernel_rfl
theorem c_steps : Try.prog.cellsOf 65 = 1 := by kernel_rfl
theorem c_effects : Try.prog.cellsOf 59 = 1 := by kernel_rfl
theorem b_expr : Try.prog.bytesOf 69 = 48 := by kernel_rfl
theorem b_step : Try.prog.bytesOf 71 = 64 := by kernel_rfl
theorem b_effect : Try.prog.bytesOf 67 = 96 := by kernel_rfl
theorem b_card : Try.prog.bytesOf 61 = 72 := by kernel_rfl
theorem rd_u8 {n : Nat} {c : Value} {y : DataW H × List MemPlace} (h : DataW.trod enc Try.prog w 0 (fun _ => true) true n 5 [c] = some y) : ∃ k : Nat, c = .int .u8 k := by
  obtain ⟨z, e, _, w1⟩ := DataW.trod_int Try.underlying5 h
  cases e
  have hz : (0 : Int) ≤ z := by simp [Lit.wf] at w1; have e : IntKind.u8.min = 0 := rfl; omega
  exact ⟨z.toNat, by rw [show ((z.toNat : Nat) : Int) = z by omega]⟩
theorem rd_int {n : Nat} {c : Value} {y : DataW H × List MemPlace} (h : DataW.trod enc Try.prog w 0 (fun _ => true) true n 3 [c] = some y) : ∃ z : Int, c = .int .i64 z := by
  obtain ⟨z, e, _, _⟩ := DataW.trod_int Try.underlying3 h
  cases e; exact ⟨z, rfl⟩
theorem rd_bool {n : Nat} {c : Value} {y : DataW H × List MemPlace} (h : DataW.trod enc Try.prog w 0 (fun _ => true) true n 4 [c] = some y) : ∃ b : Bool, c = .bool b := by
  obtain ⟨z, e, _⟩ := DataW.trod_bool Try.underlying4 h
  cases e; exact ⟨z, rfl⟩
theorem rd_string {n : Nat} {c : Value} {y : DataW H × List MemPlace} (h : DataW.trod enc Try.prog w 0 (fun _ => true) true n 9 [c] = some y) : ∃ s : ByteArray, c = .string s ∧ s.size ≤ maxLen := by
  obtain ⟨z, e, _, hs⟩ := DataW.trod_string Try.underlying9 h
  cases e; exact ⟨z, rfl, hs⟩
set_option maxRecDepth 100000 in
theorem rd_sel {n : Nat} {c0 c1 c2 : Value} {y : DataW H × List MemPlace} (h : DataW.trod enc Try.prog w 0 (fun _ => true) true n 64 [c0, c1, c2] = some y) : ∃ s : Sl, [c0, c1, c2] = slV s := by
  obtain ⟨ys, m, _, _, _, hyl, hf⟩ := DataW.trod_struct Try.underlying64 h
  match ys, hyl with
  | [y0, y1, y2], _ =>
    obtain ⟨a, rfl⟩ := rd_u8 (by have := hf 0 _ rfl; simpa [c_u8] using this)
    obtain ⟨b, rfl⟩ := rd_u8 (by have := hf 1 _ rfl; simpa [c_u8] using this)
    obtain ⟨c, rfl⟩ := rd_u8 (by have := hf 2 _ rfl; simpa [c_u8] using this)
    exact ⟨⟨a, b, c⟩, rfl⟩
set_option maxRecDepth 100000 in
set_option maxHeartbeats 1000000 in
theorem rd_expr : ∀ (m : Nat) (cs : List Value) (y : DataW H × List MemPlace), cs.length = 7 → DataW.trod enc Try.prog w 0 (fun _ => true) true m 69 cs = some y → Light Try.prog 69 y.1 → ∃ X : Ex, ExIn 1 m w cs X := by
  intro m
  induction m using Nat.strongRecOn with
  | ind m ih =>
    intro cs y hcs h hL
    obtain ⟨ys, m1, hm, hy, _, hyl, hf⟩ := DataW.trod_struct Try.underlying69 h
    subst hy
    match cs, hcs with
    | [c0, c1, c2, c3, c4, c5, c6], _ =>
      match ys, hyl with
      | [y0, y1, y2, y3, y4], _ =>
        obtain ⟨o, rfl⟩ := rd_u8 (by have := hf 0 _ rfl; simpa [c_u8] using this)
        obtain ⟨z, rfl⟩ := rd_int (by have := hf 1 _ rfl; simpa [c_int] using this)
        obtain ⟨sd, rfl⟩ := rd_u8 (by have := hf 2 _ rfl; simpa [c_u8] using this)
        obtain ⟨sl, hsl⟩ := rd_sel (c0 := c3) (c1 := c4) (c2 := c5) (by have := hf 3 _ rfl; simpa [c_sel] using this)
        simp only [slV, List.cons.injEq, and_true] at hsl
        obtain ⟨rfl, rfl, rfl⟩ := hsl
        have h4 : DataW.trod enc Try.prog w 0 (fun _ => true) true m1 62 [c6] = some y4 := by have := hf 4 _ rfl; simpa [c_exprs] using this
        have hL4 : Light Try.prog 62 y4.1 := light_field Try.underlying69 hL (i := 4) rfl rfl
        obtain ⟨xs, hxs⟩ := rd_row (Q := ExIn 1 m1) Try.underlying62 c_expr b_expr (by omega) (fun k cs y hk hc ht hl => by
          obtain ⟨X, hX⟩ := ih k (by omega) cs y hc ht hl
          exact ⟨X, hX.up (by omega)⟩) h4 hL4
        subst hm
        exact ⟨.mk o z sd sl xs, _, rfl, hxs⟩
theorem rd_exprs {m : Nat} {v : Value} {y : DataW H × List MemPlace} (h : DataW.trod enc Try.prog w 0 (fun _ => true) true m 62 [v] = some y) (hL : Light Try.prog 62 y.1) {D : Nat} (hD : m ≤ D) : ∃ xs, RowIn w 7 (48 * 1) (ExIn 1 D) v xs :=
  rd_row (Q := ExIn 1 D) Try.underlying62 c_expr b_expr (by omega) (fun k cs y hk hc ht hl => by
    obtain ⟨X, hX⟩ := rd_expr k cs y hc ht hl
    exact ⟨X, hX.up (by omega)⟩) h hL
set_option maxRecDepth 100000 in
set_option maxHeartbeats 1000000 in
theorem rd_step {m D : Nat} (hD : m ≤ D) (cs : List Value) (y : DataW H × List MemPlace) (hcs : cs.length = 13) (h : DataW.trod enc Try.prog w 0 (fun _ => true) true m 71 cs = some y) (hL : Light Try.prog 71 y.1) : ∃ X : St, StIn 1 D w cs X := by
  obtain ⟨ys, m1, hm, hy, _, hyl, hf⟩ := DataW.trod_struct Try.underlying71 h
  subst hy
  match cs, hcs with
  | [c0, c1, c2, c3, c4, c5, c6, c7, c8, c9, c10, c11, c12], _ =>
    match ys, hyl with
    | [y0, y1, y2, y3, y4], _ =>
      obtain ⟨o, rfl⟩ := rd_u8 (by have := hf 0 _ rfl; simpa [c_u8] using this)
      obtain ⟨sd, rfl⟩ := rd_u8 (by have := hf 1 _ rfl; simpa [c_u8] using this)
      have h2 : DataW.trod enc Try.prog w 0 (fun _ => true) true m1 69 [c2, c3, c4, c5, c6, c7, c8] = some y2 := by have := hf 2 _ rfl; simpa [c_expr] using this
      have hL2 : Light Try.prog 69 y2.1 := light_field Try.underlying71 hL (i := 2) rfl rfl
      obtain ⟨X, hX⟩ := rd_expr m1 _ _ rfl h2 hL2
      obtain ⟨b, rfl⟩ := rd_bool (by have := hf 3 _ rfl; simpa [c_bool] using this)
      obtain ⟨sl, hsl⟩ := rd_sel (c0 := c10) (c1 := c11) (c2 := c12) (by have := hf 4 _ rfl; simpa [c_sel] using this)
      simp only [slV, List.cons.injEq, and_true] at hsl
      obtain ⟨rfl, rfl, rfl⟩ := hsl
      exact ⟨⟨o, sd, X, b, sl⟩, _, rfl, hX.up (by omega)⟩
set_option maxRecDepth 100000 in
set_option maxHeartbeats 1000000 in
theorem rd_effect {m D : Nat} (hD : m ≤ D) (cs : List Value) (y : DataW H × List MemPlace) (hcs : cs.length = 12) (h : DataW.trod enc Try.prog w 0 (fun _ => true) true m 67 cs = some y) (hL : Light Try.prog 67 y.1) : ∃ X : Ef, EfIn 1 D w cs X := by
  obtain ⟨ys, m1, hm, hy, _, hyl, hf⟩ := DataW.trod_struct Try.underlying67 h
  subst hy
  match cs, hcs with
  | [c0, c1, c2, c3, c4, c5, c6, c7, c8, c9, c10, c11], _ =>
    match ys, hyl with
    | [y0, y1, y2, y3, y4, y5, y6, y7, y8, y9], _ =>
      obtain ⟨mo, rfl⟩ := rd_u8 (by have := hf 0 _ rfl; simpa [c_u8] using this)
      obtain ⟨ev, rfl⟩ := rd_u8 (by have := hf 1 _ rfl; simpa [c_u8] using this)
      obtain ⟨sd, rfl⟩ := rd_u8 (by have := hf 2 _ rfl; simpa [c_u8] using this)
      have h3 : DataW.trod enc Try.prog w 0 (fun _ => true) true m1 62 [c3] = some y3 := by have := hf 3 _ rfl; simpa [c_exprs] using this
      have hL3 : Light Try.prog 62 y3.1 := light_field Try.underlying67 hL (i := 3) rfl rfl
      obtain ⟨cd, hcd⟩ := rd_exprs h3 hL3 (D := D) (by omega)
      obtain ⟨pay, rfl⟩ := rd_int (by have := hf 4 _ rfl; simpa [c_int] using this)
      obtain ⟨dr, rfl⟩ := rd_int (by have := hf 5 _ rfl; simpa [c_int] using this)
      obtain ⟨tr, rfl⟩ := rd_bool (by have := hf 6 _ rfl; simpa [c_bool] using this)
      obtain ⟨pk, rfl⟩ := rd_int (by have := hf 7 _ rfl; simpa [c_int] using this)
      obtain ⟨sl, hsl⟩ := rd_sel (c0 := c8) (c1 := c9) (c2 := c10) (by have := hf 8 _ rfl; simpa [c_sel] using this)
      simp only [slV, List.cons.injEq, and_true] at hsl
      obtain ⟨rfl, rfl, rfl⟩ := hsl
      have h9 : DataW.trod enc Try.prog w 0 (fun _ => true) true m1 65 [c11] = some y9 := by have := hf 9 _ rfl; simpa [c_steps] using this
      have hL9 : Light Try.prog 65 y9.1 := light_field Try.underlying67 hL (i := 9) rfl rfl
      obtain ⟨ss, hss⟩ := rd_row (Q := StIn 1 D) Try.underlying65 c_step b_step (by omega) (fun k cs y hk hc ht hl => rd_step (by omega) cs y hc ht hl) h9 hL9
      exact ⟨⟨mo, ev, sd, cd, pay, dr, tr, pk, sl, ss⟩, _, _, rfl, hcd, hss⟩
set_option maxRecDepth 100000 in
set_option maxHeartbeats 1000000 in
theorem rd_card {m D : Nat} (hD : m ≤ D) (cs : List Value) (y : DataW H × List MemPlace) (hcs : cs.length = 6) (h : DataW.trod enc Try.prog w 0 (fun _ => true) true m 61 cs = some y) (hL : Light Try.prog 61 y.1) : ∃ X : Cd, CdIn 1 D w cs X := by
  obtain ⟨ys, m1, hm, hy, _, hyl, hf⟩ := DataW.trod_struct Try.underlying61 h
  subst hy
  match cs, hcs with
  | [c0, c1, c2, c3, c4, c5], _ =>
    match ys, hyl with
    | [y0, y1, y2, y3, y4, y5], _ =>
      obtain ⟨nm, rfl, hnm⟩ := rd_string (by have := hf 0 _ rfl; simpa [c_string] using this)
      obtain ⟨kd, rfl⟩ := rd_u8 (by have := hf 1 _ rfl; simpa [c_u8] using this)
      obtain ⟨lv, rfl⟩ := rd_int (by have := hf 2 _ rfl; simpa [c_int] using this)
      obtain ⟨at_, rfl⟩ := rd_int (by have := hf 3 _ rfl; simpa [c_int] using this)
      obtain ⟨gd, rfl⟩ := rd_int (by have := hf 4 _ rfl; simpa [c_int] using this)
      have h5 : DataW.trod enc Try.prog w 0 (fun _ => true) true m1 59 [c5] = some y5 := by have := hf 5 _ rfl; simpa [c_effects] using this
      have hL5 : Light Try.prog 59 y5.1 := light_field Try.underlying61 hL (i := 5) rfl rfl
      obtain ⟨es, hes⟩ := rd_row (Q := EfIn 1 D) Try.underlying59 c_effect b_effect (by omega) (fun k cs y hk hc ht hl => rd_effect (by omega) cs y hc ht hl) h5 hL5
      exact ⟨⟨nm, kd, lv, at_, gd, es⟩, _, rfl, hnm, hes⟩
/-- Cards that came in. -/
theorem rd_cards {v : Value} {d : DataW H} {p : List MemPlace} (hv : ∃ a n c, v = .slice a n c) (h : DataW.Trod enc Try.prog w 0 (fun _ => true) true 22 v d p) (hL : Light Try.prog 22 d) : ∃ (D : Nat) (xs : List Cd), RowIn w 6 72 (CdIn 1 D) v xs := by
  obtain ⟨fuel, hf⟩ := h
  obtain ⟨a, n, c, rfl⟩ := hv
  simp only [Value.cells] at hf
  obtain ⟨xs, hxs⟩ := rd_row (fuel := fuel) (Q := CdIn 1 fuel) (v := .slice a n c) (x := (d, p)) Try.underlying22 c_card b_card (by omega) (fun k cs y hk hc ht hl => rd_card (m := k) (D := fuel) (by omega) cs y hc ht hl) (by simpa using hf) hL
  exact ⟨fuel, xs, hxs⟩
end
end Go.Proofs.Ytppgfkdkopfebaa
