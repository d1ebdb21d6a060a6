/- Tables that came in, of bulk at most 1048576: how they lie, and that their lists are short. -/
import Derived.Test.YtppgfkdkopfebaaTbArgs
import Derived.Test.YtppgfkdkopfebaaRows
namespace Go.Proofs.Ytppgfkdkopfebaa
open Go.RowKit Go.Lib
open Go.ChangeShapes Go.WideShapes Go.Deep

/-- A datum's bulk is small. -/
def Bk {H : Type} (d : DataW H) : Prop := Rows.uptoBulk d ≤ 1048576
theorem bk_one {H : Type} (d : DataW H) : 1 ≤ Rows.uptoBulk d := by
  cases d with
  | lit l => cases l <;> simp [Rows.uptoBulk]
  | nil => simp [Rows.uptoBulk]
  | ptr d => simp [Rows.uptoBulk]
  | slice elems spare => simp [Rows.uptoBulk]
  | agg parts => simp [Rows.uptoBulk]
  | iface t d => simp [Rows.uptoBulk]
  | map entries => simp [Rows.uptoBulk]
  | held h => simp [Rows.uptoBulk]
theorem bk_part {H : Type} {d : DataW H} {l : List (DataW H)} (h : d ∈ l) : Rows.uptoBulk d ≤ Rows.uptoBulkAll l := by
  induction l with
  | nil => cases h
  | cons x r ih =>
    simp only [Rows.uptoBulkAll]
    cases List.mem_cons.1 h with
    | inl e => subst e; omega
    | inr e => have := ih e; omega
theorem bk_len {H : Type} (l : List (DataW H)) : l.length ≤ Rows.uptoBulkAll l := by
  induction l with
  | nil => simp [Rows.uptoBulkAll]
  | cons x r ih => have := bk_one x; simp only [Rows.uptoBulkAll, List.length_cons]; omega
theorem bk_slice {H : Type} {l r : List (DataW H)} (h : Bk (.slice l r)) : l.length ≤ 1048576 ∧ ∀ d ∈ l, Bk d := by
  unfold Bk at h
  simp only [Rows.uptoBulk] at h
  have h1 := bk_len l
  exact ⟨by omega, fun d hd => by have := bk_part hd; unfold Bk; omega⟩
theorem bk_field {H : Type} {ys : List (DataW H)} (h : Bk (.agg ys)) {i : Nat} {y : DataW H} (hy : ys[i]? = some y) : Bk y := by
  unfold Bk at h
  simp only [Rows.uptoBulk] at h
  have := bk_part (List.mem_of_getElem? hy)
  unfold Bk
  omega

section
variable {H : Type} {enc : TypeId × Value → H} {P : Program} {w : World}
/-- A slice's things, out of what it reads as. -/
theorem rd_rowB {α : Type} {t e : TypeId} {size B fuel : Nat} {Q : World → List Value → α → Prop} {v : Value} {x : DataW H × List MemPlace} (ht : P.underlying t = some (.slice e)) (hC : P.cellsOf e = size) (hB : B ≤ 100000000) (hs : 0 < size)
    (hel : ∀ m cs y, m < fuel → cs.length = size → DataW.trod enc P w 0 (fun _ => true) true m e cs = some y → Bk y.1 → ∃ X, Q w cs X)
    (h : DataW.trod enc P w 0 (fun _ => true) true fuel t [v] = some x) (hL : Bk x.1) : ∃ xs, RowIn w size B Q v xs := by
  rcases DataW.trod_slice ht h with ⟨hcs, _⟩ | ⟨a, len, cap, elems, rest, n, hf, hcs, hx, hb, hl, hm, hlen, hel', _, _⟩
  · cases hcs; exact ⟨[], RowIn.nil _ _ _ _ _ _⟩
  · cases hcs
    subst hx
    obtain ⟨hb1, hb2⟩ := bk_slice hL
    have hall : ∀ i, i < len → ∃ X, ∃ cs : List Value, cs.length = size ∧ Q w cs X ∧ ∀ j u, cs[j]? = some u → w.cell? (a.add (i * size + j)) = some u := by
      intro i hi
      have h1 := hel' i hi
      have hy : elems[i]? = some (elems[i]'(by omega)) := List.getElem?_eq_getElem _
      rw [hy, hC, Option.bind_eq_some_iff] at h1
      obtain ⟨cs, hc, ht'⟩ := h1
      obtain ⟨_, hcl, hat⟩ := World.cells?_some hc
      have hcs : cs.length = size := by
        have := hcl; first | exact this | omega
      obtain ⟨X, hX⟩ := hel n cs _ (by omega) hcs ht' (hb2 _ (List.mem_map.2 ⟨_, List.getElem_mem _, rfl⟩))
      refine ⟨X, cs, hcs, hX, fun j u hu => ?_⟩
      have hj : j < size := by have := (List.getElem?_eq_some_iff.1 hu).1; omega
      rw [← Go.Deep.add_add, hat j hj, hu]
    obtain ⟨xs, hxl, hxs⟩ := list_made len hall
    refine ⟨xs, some a, cap, by rw [hxl], by omega, by rw [hxl]; rw [List.length_map, hlen] at hb1; exact Nat.le_trans (Nat.mul_le_mul hb1 hB) (by decide), fun i x hx => ?_⟩
    obtain ⟨cs, hcl, hQ, hcell⟩ := hxs i x hx
    have h0 := hcell 0 (cs[0]'(by omega)) (List.getElem?_eq_getElem _)
    have hsp : a.spot = none := by
      have := World.cell?_spot h0
      by_cases hz : i * size + 0 = 0
      · simpa [Addr.add, hz] using this
      · by_cases hi0 : i = 0
        · subst hi0; simp at hz
        · obtain ⟨cs0, hcl0, -, hc0⟩ := hxs 0 (xs[0]'(by have := (List.getElem?_eq_some_iff.1 hx).1; omega)) (List.getElem?_eq_getElem _)
          have := World.cell?_spot (hc0 0 (cs0[0]'(by omega)) (List.getElem?_eq_getElem _))
          simpa [Addr.add] using this
    obtain ⟨b, o, sp⟩ := a
    simp only at hsp
    subst hsp
    refine ⟨b, o, rfl, cs, hcl, hQ, fun j u hu => ?_⟩
    have := hcell j u hu
    rwa [show (⟨b, o, none⟩ : Addr).add (i * size + j) = ⟨b, o + i * size + j, none⟩ by simp [Addr.add, Nat.add_assoc]] at this
end

section
variable {H : Type} {enc : TypeId × Value → H} {w : World}
set_option maxRecDepth 100000 in
set_option maxHeartbeats 1000000 in
theorem rd_exprB : ∀ (m : Nat) (cs : List Value) (y : DataW H × List MemPlace), cs.length = 7 → DataW.trod enc Try.prog w 0 (fun _ => true) true m 69 cs = some y → Bk y.1 → ∃ X : Ex, ExIn 1000000 m w cs X := by
  intro m
  induction m using Nat.strongRecOn with
  | ind m ih =>
    intro cs y hcs h hL
    obtain ⟨ys, m1, hm, hy, _, hyl, hf⟩ := DataW.trod_struct Try.underlying69 h
    subst hy
    match cs, hcs with
    | [c0, c1, c2, c3, c4, c5, c6], _ =>
      match ys, hyl with
      | [y0, y1, y2, y3, y4], _ =>
        obtain ⟨o, rfl⟩ := rd_u8 (by have := hf 0 _ rfl; simpa [c_u8] using this)
        obtain ⟨z, rfl⟩ := rd_int (by have := hf 1 _ rfl; simpa [c_int] using this)
        obtain ⟨sd, rfl⟩ := rd_u8 (by have := hf 2 _ rfl; simpa [c_u8] using this)
        obtain ⟨sl, hsl⟩ := rd_sel (c0 := c3) (c1 := c4) (c2 := c5) (by have := hf 3 _ rfl; simpa [c_sel] using this)
        simp only [slV, List.cons.injEq, and_true] at hsl
        obtain ⟨rfl, rfl, rfl⟩ := hsl
        have h4 : DataW.trod enc Try.prog w 0 (fun _ => true) true m1 62 [c6] = some y4 := by have := hf 4 _ rfl; simpa [c_exprs] using this
        have hL4 : Bk y4.1 := bk_field hL (i := 4) rfl
        obtain ⟨xs, hxs⟩ := rd_rowB (Q := ExIn 1000000 m1) Try.underlying62 (B := 48 * 1000000) c_expr (by omega) (by omega) (fun k cs y hk hc ht hl => by
          obtain ⟨X, hX⟩ := ih k (by omega) cs y hc ht hl
          exact ⟨X, hX.up (by omega)⟩) h4 hL4
        subst hm
        exact ⟨.mk o z sd sl xs, _, rfl, hxs⟩
theorem rd_exprsB {m : Nat} {v : Value} {y : DataW H × List MemPlace} (h : DataW.trod enc Try.prog w 0 (fun _ => true) true m 62 [v] = some y) (hL : Bk y.1) {D : Nat} (hD : m ≤ D) : ∃ xs, RowIn w 7 (48 * 1000000) (ExIn 1000000 D) v xs :=
  rd_rowB (Q := ExIn 1000000 D) Try.underlying62 (B := 48 * 1000000) c_expr (by omega) (by omega) (fun k cs y hk hc ht hl => by
    obtain ⟨X, hX⟩ := rd_exprB k cs y hc ht hl
    exact ⟨X, hX.up (by omega)⟩) h hL
set_option maxRecDepth 100000 in
set_option maxHeartbeats 1000000 in
theorem rd_stepB {m D : Nat} (hD : m ≤ D) (cs : List Value) (y : DataW H × List MemPlace) (hcs : cs.length = 13) (h : DataW.trod enc Try.prog w 0 (fun _ => true) true m 71 cs = some y) (hL : Bk y.1) : ∃ X : St, StIn 1000000 D w cs X := by
  obtain ⟨ys, m1, hm, hy, _, hyl, hf⟩ := DataW.trod_struct Try.underlying71 h
  subst hy
  match cs, hcs with
  | [c0, c1, c2, c3, c4, c5, c6, c7, c8, c9, c10, c11, c12], _ =>
    match ys, hyl with
    | [y0, y1, y2, y3, y4], _ =>
      obtain ⟨o, rfl⟩ := rd_u8 (by have := hf 0 _ rfl; simpa [c_u8] using this)
      obtain ⟨sd, rfl⟩ := rd_u8 (by have := hf 1 _ rfl; simpa [c_u8] using this)
      have h2 : DataW.trod enc Try.prog w 0 (fun _ => true) true m1 69 [c2, c3, c4, c5, c6, c7, c8] = some y2 := by have := hf 2 _ rfl; simpa [c_expr] using this
      have hL2 : Bk y2.1 := bk_field hL (i := 2) rfl
      obtain ⟨X, hX⟩ := rd_exprB m1 _ _ rfl h2 hL2
      obtain ⟨b, rfl⟩ := rd_bool (by have := hf 3 _ rfl; simpa [c_bool] using this)
      obtain ⟨sl, hsl⟩ := rd_sel (c0 := c10) (c1 := c11) (c2 := c12) (by have := hf 4 _ rfl; simpa [c_sel] using this)
      simp only [slV, List.cons.injEq, and_true] at hsl
      obtain ⟨rfl, rfl, rfl⟩ := hsl
      exact ⟨⟨o, sd, X, b, sl⟩, _, rfl, hX.up (by omega)⟩
set_option maxRecDepth 100000 in
set_option maxHeartbeats 1000000 in
theorem rd_effectB {m D : Nat} (hD : m ≤ D) (cs : List Value) (y : DataW H × List MemPlace) (hcs : cs.length = 12) (h : DataW.trod enc Try.prog w 0 (fun _ => true) true m 67 cs = some y) (hL : Bk y.1) : ∃ X : Ef, EfIn 1000000 D w cs X := by
  obtain ⟨ys, m1, hm, hy, _, hyl, hf⟩ := DataW.trod_struct Try.underlying67 h
  subst hy
  match cs, hcs with
  | [c0, c1, c2, c3, c4, c5, c6, c7, c8, c9, c10, c11], _ =>
    match ys, hyl with
    | [y0, y1, y2, y3, y4, y5, y6, y7, y8, y9], _ =>
      obtain ⟨mo, rfl⟩ := rd_u8 (by have := hf 0 _ rfl; simpa [c_u8] using this)
      obtain ⟨ev, rfl⟩ := rd_u8 (by have := hf 1 _ rfl; simpa [c_u8] using this)
      obtain ⟨sd, rfl⟩ := rd_u8 (by have := hf 2 _ rfl; simpa [c_u8] using this)
      have h3 : DataW.trod enc Try.prog w 0 (fun _ => true) true m1 62 [c3] = some y3 := by have := hf 3 _ rfl; simpa [c_exprs] using this
      have hL3 : Bk y3.1 := bk_field hL (i := 3) rfl
      obtain ⟨cd, hcd⟩ := rd_exprsB h3 hL3 (D := D) (by omega)
      obtain ⟨pay, rfl⟩ := rd_int (by have := hf 4 _ rfl; simpa [c_int] using this)
      obtain ⟨dr, rfl⟩ := rd_int (by have := hf 5 _ rfl; simpa [c_int] using this)
      obtain ⟨tr, rfl⟩ := rd_bool (by have := hf 6 _ rfl; simpa [c_bool] using this)
      obtain ⟨pk, rfl⟩ := rd_int (by have := hf 7 _ rfl; simpa [c_int] using this)
      obtain ⟨sl, hsl⟩ := rd_sel (c0 := c8) (c1 := c9) (c2 := c10) (by have := hf 8 _ rfl; simpa [c_sel] using this)
      simp only [slV, List.cons.injEq, and_true] at hsl
      obtain ⟨rfl, rfl, rfl⟩ := hsl
      have h9 : DataW.trod enc Try.prog w 0 (fun _ => true) true m1 65 [c11] = some y9 := by have := hf 9 _ rfl; simpa [c_steps] using this
      have hL9 : Bk y9.1 := bk_field hL (i := 9) rfl
      obtain ⟨ss, hss⟩ := rd_rowB (Q := StIn 1000000 D) Try.underlying65 (B := 64 * 1000000) c_step (by omega) (by omega) (fun k cs y hk hc ht hl => rd_stepB (by omega) cs y hc ht hl) h9 hL9
      exact ⟨⟨mo, ev, sd, cd, pay, dr, tr, pk, sl, ss⟩, _, _, rfl, hcd, hss⟩
set_option maxRecDepth 100000 in
set_option maxHeartbeats 1000000 in
theorem rd_cardB {m D : Nat} (hD : m ≤ D) (cs : List Value) (y : DataW H × List MemPlace) (hcs : cs.length = 6) (h : DataW.trod enc Try.prog w 0 (fun _ => true) true m 61 cs = some y) (hL : Bk y.1) : ∃ X : Cd, CdIn 1000000 D w cs X := by
  obtain ⟨ys, m1, hm, hy, _, hyl, hf⟩ := DataW.trod_struct Try.underlying61 h
  subst hy
  match cs, hcs with
  | [c0, c1, c2, c3, c4, c5], _ =>
    match ys, hyl with
    | [y0, y1, y2, y3, y4, y5], _ =>
      obtain ⟨nm, rfl, hnm⟩ := rd_string (by have := hf 0 _ rfl; simpa [c_string] using this)
      obtain ⟨kd, rfl⟩ := rd_u8 (by have := hf 1 _ rfl; simpa [c_u8] using this)
      obtain ⟨lv, rfl⟩ := rd_int (by have := hf 2 _ rfl; simpa [c_int] using this)
      obtain ⟨at_, rfl⟩ := rd_int (by have := hf 3 _ rfl; simpa [c_int] using this)
      obtain ⟨gd, rfl⟩ := rd_int (by have := hf 4 _ rfl; simpa [c_int] using this)
      have h5 : DataW.trod enc Try.prog w 0 (fun _ => true) true m1 59 [c5] = some y5 := by have := hf 5 _ rfl; simpa [c_effects] using this
      have hL5 : Bk y5.1 := bk_field hL (i := 5) rfl
      obtain ⟨es, hes⟩ := rd_rowB (Q := EfIn 1000000 D) Try.underlying59 (B := 96 * 1000000) c_effect (by omega) (by omega) (fun k cs y hk hc ht hl => rd_effectB (by omega) cs y hc ht hl) h5 hL5
      exact ⟨⟨nm, kd, lv, at_, gd, es⟩, _, rfl, hnm, hes⟩
set_option maxRecDepth 100000 in
set_option maxHeartbeats 1000000 in
/-- A table that came in. -/
theorem rd_tableB {v : Value} {d : DataW H} {p : List MemPlace} {r : Reach} {b0 : Nat} (hv : Value.okWide Try.prog w r b0 28 v) (h : DataW.Trod enc Try.prog w 0 (fun _ => true) true 28 v d p) (hL : Bk d) :
    ∃ (t : Tb) (D : Nat) (xs : List Cd) (ps : List Pc), v = .agg t.row ∧ RowIn w 6 (72 * 1000000) (CdIn 1000000 D) (.slice t.qk t.nk t.ck) xs ∧ RowIn w 14 (72 * 1000000) PcIn (.slice t.qp t.np t.cp) ps := by
  obtain ⟨cs, rfl, hsz⟩ := okWide_struct Try.underlying28 hv
  obtain ⟨l⟩ := cs
  obtain ⟨fuel, hf⟩ := h
  obtain ⟨ys, m, _, hy, _, hyl, hg⟩ := DataW.trod_struct Try.underlying28 hf
  simp only [Prod.mk.injEq] at hy
  obtain ⟨rfl, -⟩ := hy
  match l, hsz.trans c_table with
  | [c0, c1, c2, c3, c4, c5, c6, c7, c8, c9], _ =>
    match ys, hyl with
    | [y0, y1, y2, y3, y4, y5, y6, y7], _ =>
      have g0 : DataW.trod enc Try.prog w 0 (fun _ => true) true m 22 [c0] = some y0 := by have := hg 0 _ rfl; simpa [Value.cells, c_cards] using this
      have g1 : DataW.trod enc Try.prog w 0 (fun _ => true) true m 23 [c1] = some y1 := by have := hg 1 _ rfl; simpa [Value.cells, c_pieces] using this
      have g2 : DataW.trod enc Try.prog w 0 (fun _ => true) true m 24 [c2, c3] = some y2 := by have := hg 2 _ rfl; simpa [Value.cells, c_life] using this
      have g6 : DataW.trod enc Try.prog w 0 (fun _ => true) true m 25 [c7] = some y6 := by have := hg 6 _ rfl; simpa [Value.cells, c_events] using this
      have g7 : DataW.trod enc Try.prog w 0 (fun _ => true) true m 26 [c8, c9] = some y7 := by have := hg 7 _ rfl; simpa [Value.cells, c_lost] using this
      obtain ⟨tn, rfl⟩ := rd_int (by have := hg 3 _ rfl; simpa [Value.cells, c_int] using this)
      obtain ⟨py, rfl⟩ := rd_u8 (by have := hg 4 _ rfl; simpa [Value.cells, c_u8] using this)
      obtain ⟨mo, rfl⟩ := rd_int (by have := hg 5 _ rfl; simpa [Value.cells, c_int] using this)
      obtain ⟨xs, hxs⟩ := rd_rowB (Q := CdIn 1000000 m) Try.underlying22 (B := 72 * 1000000) c_card (by omega) (by omega) (fun k cs y hk hc ht hl => rd_cardB (m := k) (D := m) (by omega) cs y hc ht hl) g0 (bk_field hL (i := 0) rfl)
      obtain ⟨ps, hps⟩ := rd_rowB (Q := PcIn) Try.underlying23 (B := 72 * 1000000) c_piece (by omega) (by omega) (fun k cs y hk hc ht hl => rd_piece k cs y hc ht) g1 (bk_field hL (i := 1) rfl)
      obtain ⟨es, hes⟩ := rd_rowB (Q := EvOk) Try.underlying25 (B := 32 * 1000000) c_event (by omega) (by omega) (fun k cs y hk hc ht hl => rd_event k cs y hc ht) g6 (bk_field hL (i := 6) rfl)
      obtain ⟨zs, m2, _, _, _, hl2, h2⟩ := DataW.trod_array Try.underlying24 g2
      obtain ⟨bs, m3, _, _, _, hl3, h3⟩ := DataW.trod_array Try.underlying26 g7
      match zs, hl2 with
      | [z0, z1], _ =>
        match bs, hl3 with
        | [u0, u1], _ =>
          obtain ⟨l0, rfl⟩ := rd_int (y := z0) (by have := h2 0 (by omega); simpa [c_int] using this)
          obtain ⟨l1, rfl⟩ := rd_int (y := z1) (by have := h2 1 (by omega); simpa [c_int] using this)
          obtain ⟨b0, rfl⟩ := rd_bool (y := u0) (by have := h3 0 (by omega); simpa [c_bool] using this)
          obtain ⟨b1, rfl⟩ := rd_bool (y := u1) (by have := h3 1 (by omega); simpa [c_bool] using this)
          obtain ⟨qk, ck, rfl, -⟩ := id hxs
          obtain ⟨qp, cp, rfl, -⟩ := id hps
          obtain ⟨qe, ce, rfl, -⟩ := id hes
          exact ⟨⟨qk, xs.length, ck, qp, ps.length, cp, l0, l1, tn, py, mo, qe, es.length, ce, b0, b1⟩, m, xs, ps, rfl, hxs, hps⟩
end
end Go.Proofs.Ytppgfkdkopfebaa
