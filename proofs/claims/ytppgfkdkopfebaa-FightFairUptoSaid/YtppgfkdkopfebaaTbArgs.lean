/- Tables, pieces, events that came in: what they read as says how they lie; arguments read behind a call as ahead of it. -/
import Derived.Test.YtppgfkdkopfebaaTbRead
import Derived.Test.YtppgfkdkopfebaaTbPieces
import Derived.Test.YtppgfkdkopfebaaTbApp
import Derived.Carry
import Derived.OpenShut
namespace Go.Proofs.Ytppgfkdkopfebaa
open Go.RowKit Go.Lib
open Go.ChangeShapes Go.WideShapes Go.Deep

theorem trodAll_below {H : Type} {enc : TypeId × Value → H} {P : Program} {W W' : World} (hl : laidOutB P = true) (hb : Below W.heap.size W W') : ∀ (ts : List TypeId) (vs : List Value) (ds : List (DataW H)) (ps : List MemPlace),
    (ts.all fun t => P.readableRec t && decide (t < P.types.size)) = true → DataW.TrodAll enc P W 0 (fun _ => true) true ts vs ds ps → (∀ x ∈ ps, x.block < W.heap.size) → DataW.TrodAll enc P W' 0 (fun b => decide (b < W.heap.size)) true ts vs ds ps
  | [], vs, ds, ps, _, h, _ => by
    cases vs <;> cases ds <;> simp [DataW.TrodAll] at h ⊢
    exact h
  | t :: ts, vs, ds, ps, hr, h, hlt => by
    obtain ⟨v, vs', d, ds', p, q, rfl, rfl, rfl, h1, h2⟩ := trodAll_cons h
    simp only [List.all_cons, Bool.and_eq_true, decide_eq_true_eq] at hr
    exact ⟨p, q, Below.trod hl hr.1.1 hr.1.2 h1 hb fun x hx => hlt x (List.mem_append.2 (.inl hx)), trodAll_below hl hb ts vs' ds' q hr.2 h2 (fun x hx => hlt x (List.mem_append.2 (.inr hx))), rfl⟩
/-- Of each argument no part is of more bytes than fit together. -/
theorem light_of {H : Type} {P : Program} {ts : List TypeId} {ds : List (DataW H)} (h : (DataW.weightsEach P ts ds).all (· ≤ reachBytes) = true) {j : Nat} {t : TypeId} {d : DataW H} (ht : ts[j]? = some t) (hd : ds[j]? = some d) : Light P t d := fun n hn => by
  have := of_decide_eq_true (List.all_eq_true.1 h n (DataW.weights_mem_each ht hd n hn))
  exact Nat.le_trans this (by decide)

section
variable {H : Type} {enc : TypeId × Value → H} {w : World}
theorem c_piece : Try.prog.cellsOf 45 = 14 := by kernel_rfl
theorem c_event : Try.prog.cellsOf 90 = 4 := by kernel_rfl
theorem c_table : Try.prog.cellsOf 28 = 10 := by kernel_rfl
theorem c_cards : Try.prog.cellsOf 22 = 1 := by kernel_rfl
theorem c_pieces : Try.prog.cellsOf 23 = 1 := by kernel_rfl
theorem c_events : Try.prog.cellsOf 25 = 1 := by kernel_rfl
theorem c_life : Try.prog.cellsOf 24 = 2 := by kernel_rfl
theorem c_lost : Try.prog.cellsOf 26 = 2 := by kernel_rfl
theorem b_piece : Try.prog.bytesOf 45 = 72 := by kernel_rfl
theorem b_event : Try.prog.bytesOf 90 = 32 := by kernel_rfl
theorem rd_u8b {n : Nat} {c : Value} {y : DataW H × List MemPlace} (h : DataW.trod enc Try.prog w 0 (fun _ => true) true n 5 [c] = some y) : ∃ k : Nat, c = .int .u8 k ∧ k ≤ 255 := by
  obtain ⟨z, e, _, w1⟩ := DataW.trod_int Try.underlying5 h
  cases e
  have e0 : IntKind.u8.min = 0 := rfl
  have e1 : IntKind.u8.max = 255 := rfl
  have hz : (0 : Int) ≤ z ∧ z ≤ 255 := by simp [Lit.wf] at w1; omega
  exact ⟨z.toNat, by rw [show ((z.toNat : Nat) : Int) = z by omega], by omega⟩
theorem rd_intb {n : Nat} {c : Value} {y : DataW H × List MemPlace} (h : DataW.trod enc Try.prog w 0 (fun _ => true) true n 3 [c] = some y) : ∃ z : Int, c = .int .i64 z ∧ -9223372036854775808 ≤ z := by
  obtain ⟨z, e, _, w1⟩ := DataW.trod_int Try.underlying3 h
  cases e
  have e0 : IntKind.i64.min = -9223372036854775808 := rfl
  exact ⟨z, rfl, by simp [Lit.wf] at w1; omega⟩
set_option maxRecDepth 100000 in
set_option maxHeartbeats 1000000 in
theorem rd_piece (m : Nat) (cs : List Value) (y : DataW H × List MemPlace) (hcs : cs.length = 14) (h : DataW.trod enc Try.prog w 0 (fun _ => true) true m 45 cs = some y) : ∃ X : Pc, PcIn w cs X := by
  obtain ⟨ys, m1, hm, hy, _, hyl, hf⟩ := DataW.trod_struct Try.underlying45 h
  subst hy
  match cs, hcs with
  | [c0, c1, c2, c3, c4, c5, c6, c7, c8, c9, c10, c11, c12, c13], _ =>
    match ys, hyl with
    | [y0, y1, y2, y3, y4, y5, y6, y7, y8, y9, y10, y11, y12, y13], _ =>
      obtain ⟨a0, rfl⟩ := rd_int (by have := hf 0 _ rfl; simpa [c_int] using this)
      obtain ⟨a1, rfl⟩ := rd_int (by have := hf 1 _ rfl; simpa [c_int] using this)
      obtain ⟨a2, rfl⟩ := rd_int (by have := hf 2 _ rfl; simpa [c_int] using this)
      obtain ⟨a3, rfl⟩ := rd_u8 (by have := hf 3 _ rfl; simpa [c_u8] using this)
      obtain ⟨a4, rfl⟩ := rd_u8 (by have := hf 4 _ rfl; simpa [c_u8] using this)
      obtain ⟨a5, rfl⟩ := rd_u8 (by have := hf 5 _ rfl; simpa [c_u8] using this)
      obtain ⟨a6, rfl⟩ := rd_int (by have := hf 6 _ rfl; simpa [c_int] using this)
      obtain ⟨a7, rfl⟩ := rd_bool (by have := hf 7 _ rfl; simpa [c_bool] using this)
      obtain ⟨a8, rfl⟩ := rd_bool (by have := hf 8 _ rfl; simpa [c_bool] using this)
      obtain ⟨a9, rfl⟩ := rd_int (by have := hf 9 _ rfl; simpa [c_int] using this)
      obtain ⟨a10, rfl⟩ := rd_u8 (by have := hf 10 _ rfl; simpa [c_u8] using this)
      obtain ⟨a11, rfl⟩ := rd_bool (by have := hf 11 _ rfl; simpa [c_bool] using this)
      obtain ⟨a12, rfl⟩ := rd_bool (by have := hf 12 _ rfl; simpa [c_bool] using this)
      obtain ⟨a13, rfl⟩ := rd_int (by have := hf 13 _ rfl; simpa [c_int] using this)
      exact ⟨⟨a0, a1, a2, a3, a4, a5, a6, a7, a8, a9, a10, a11, a12, a13⟩, rfl⟩
def EvOk (w : World) (c : List Value) (e : Ev) : Prop := EvIn w c e ∧ e.2.2.2 ≤ 255 ∧ -9223372036854775808 ≤ e.2.1
set_option maxRecDepth 100000 in
theorem rd_event (m : Nat) (cs : List Value) (y : DataW H × List MemPlace) (hcs : cs.length = 4) (h : DataW.trod enc Try.prog w 0 (fun _ => true) true m 90 cs = some y) : ∃ X : Ev, EvOk w cs X := by
  obtain ⟨ys, m1, hm, hy, _, hyl, hf⟩ := DataW.trod_struct Try.underlying90 h
  subst hy
  match cs, hcs with
  | [c0, c1, c2, c3], _ =>
    match ys, hyl with
    | [y0, y1, y2, y3], _ =>
      obtain ⟨a0, rfl⟩ := rd_u8 (by have := hf 0 _ rfl; simpa [c_u8] using this)
      obtain ⟨a1, rfl, h1⟩ := rd_intb (by have := hf 1 _ rfl; simpa [c_int] using this)
      obtain ⟨a2, rfl⟩ := rd_int (by have := hf 2 _ rfl; simpa [c_int] using this)
      obtain ⟨a3, rfl, h3⟩ := rd_u8b (by have := hf 3 _ rfl; simpa [c_u8] using this)
      exact ⟨(a0, a1, a2, a3), rfl, h3, h1⟩
theorem ev_ok {v : Value} {es : List Ev} (h : RowIn w 4 32 EvOk v es) : RowIn w 4 32 EvIn v es ∧ ∀ x ∈ es, x.2.2.2 ≤ 255 ∧ -9223372036854775808 ≤ x.2.1 := by
  refine ⟨h.mono (Nat.le_refl _) fun _ _ k => k.1, fun x hx => ?_⟩
  obtain ⟨i, hi⟩ := List.mem_iff_getElem?.1 hx
  obtain ⟨q, c, -, -, -, h⟩ := h
  obtain ⟨-, -, -, cs, -, hp, -⟩ := h i x hi
  exact hp.2
/-- Events that came in. -/
theorem rd_events {v : Value} {d : DataW H} {p : List MemPlace} (hv : ∃ a n c, v = .slice a n c) (h : DataW.Trod enc Try.prog w 0 (fun _ => true) true 25 v d p) (hL : Light Try.prog 25 d) : ∃ es : List Ev, RowIn w 4 32 EvIn v es ∧ ∀ x ∈ es, x.2.2.2 ≤ 255 ∧ -9223372036854775808 ≤ x.2.1 := by
  obtain ⟨fuel, hf⟩ := h
  obtain ⟨a, n, c, rfl⟩ := hv
  simp only [Value.cells] at hf
  obtain ⟨xs, hxs⟩ := rd_row (fuel := fuel) (Q := EvOk) (v := .slice a n c) (x := (d, p)) Try.underlying25 c_event b_event (by omega) (fun k cs y hk hc ht hl => rd_event k cs y hc ht) (by simpa using hf) hL
  exact ⟨xs, ev_ok hxs⟩
set_option maxRecDepth 100000 in
set_option maxHeartbeats 1000000 in
/-- A table that came in. -/
theorem rd_table {v : Value} {d : DataW H} {p : List MemPlace} {r : Reach} {b0 : Nat} (hv : Value.okWide Try.prog w r b0 28 v) (h : DataW.Trod enc Try.prog w 0 (fun _ => true) true 28 v d p) (hL : Light Try.prog 28 d) :
    ∃ (t : Tb) (D : Nat) (xs : List Cd) (ps : List Pc) (es : List Ev), v = .agg t.row ∧ RowIn w 6 72 (CdIn 1 D) (.slice t.qk t.nk t.ck) xs ∧ RowIn w 14 72 PcIn (.slice t.qp t.np t.cp) ps ∧ RowIn w 4 32 EvIn (.slice t.qe t.ne t.ce) es := by
  obtain ⟨cs, rfl, hsz⟩ := okWide_struct Try.underlying28 hv
  obtain ⟨l⟩ := cs
  obtain ⟨fuel, hf⟩ := h
  obtain ⟨ys, m, _, hy, _, hyl, hg⟩ := DataW.trod_struct Try.underlying28 hf
  simp only [Prod.mk.injEq] at hy
  obtain ⟨rfl, -⟩ := hy
  match l, hsz.trans c_table with
  | [c0, c1, c2, c3, c4, c5, c6, c7, c8, c9], _ =>
    match ys, hyl with
    | [y0, y1, y2, y3, y4, y5, y6, y7], _ =>
      have g0 : DataW.trod enc Try.prog w 0 (fun _ => true) true m 22 [c0] = some y0 := by have := hg 0 _ rfl; simpa [Value.cells, c_cards] using this
      have g1 : DataW.trod enc Try.prog w 0 (fun _ => true) true m 23 [c1] = some y1 := by have := hg 1 _ rfl; simpa [Value.cells, c_pieces] using this
      have g2 : DataW.trod enc Try.prog w 0 (fun _ => true) true m 24 [c2, c3] = some y2 := by have := hg 2 _ rfl; simpa [Value.cells, c_life] using this
      have g6 : DataW.trod enc Try.prog w 0 (fun _ => true) true m 25 [c7] = some y6 := by have := hg 6 _ rfl; simpa [Value.cells, c_events] using this
      have g7 : DataW.trod enc Try.prog w 0 (fun _ => true) true m 26 [c8, c9] = some y7 := by have := hg 7 _ rfl; simpa [Value.cells, c_lost] using this
      obtain ⟨tn, rfl⟩ := rd_int (by have := hg 3 _ rfl; simpa [Value.cells, c_int] using this)
      obtain ⟨py, rfl⟩ := rd_u8 (by have := hg 4 _ rfl; simpa [Value.cells, c_u8] using this)
      obtain ⟨mo, rfl⟩ := rd_int (by have := hg 5 _ rfl; simpa [Value.cells, c_int] using this)
      obtain ⟨xs, hxs⟩ := rd_row (Q := CdIn 1 m) Try.underlying22 c_card b_card (by omega) (fun k cs y hk hc ht hl => rd_card (m := k) (D := m) (by omega) cs y hc ht hl) g0 (light_field Try.underlying28 hL (i := 0) rfl rfl)
      obtain ⟨ps, hps⟩ := rd_row (Q := PcIn) Try.underlying23 c_piece b_piece (by omega) (fun k cs y hk hc ht hl => rd_piece k cs y hc ht) g1 (light_field Try.underlying28 hL (i := 1) rfl rfl)
      obtain ⟨es, hes⟩ := rd_row (Q := EvOk) Try.underlying25 c_event b_event (by omega) (fun k cs y hk hc ht hl => rd_event k cs y hc ht) g6 (light_field Try.underlying28 hL (i := 6) rfl rfl)
      obtain ⟨zs, m2, _, _, _, hl2, h2⟩ := DataW.trod_array Try.underlying24 g2
      obtain ⟨bs, m3, _, _, _, hl3, h3⟩ := DataW.trod_array Try.underlying26 g7
      match zs, hl2 with
      | [z0, z1], _ =>
        match bs, hl3 with
        | [u0, u1], _ =>
          obtain ⟨l0, rfl⟩ := rd_int (y := z0) (by have := h2 0 (by omega); simpa [c_int] using this)
          obtain ⟨l1, rfl⟩ := rd_int (y := z1) (by have := h2 1 (by omega); simpa [c_int] using this)
          obtain ⟨b0, rfl⟩ := rd_bool (y := u0) (by have := h3 0 (by omega); simpa [c_bool] using this)
          obtain ⟨b1, rfl⟩ := rd_bool (y := u1) (by have := h3 1 (by omega); simpa [c_bool] using this)
          obtain ⟨qk, ck, rfl, -⟩ := id hxs
          obtain ⟨qp, cp, rfl, -⟩ := id hps
          obtain ⟨qe, ce, rfl, -⟩ := id hes
          exact ⟨⟨qk, xs.length, ck, qp, ps.length, cp, l0, l1, tn, py, mo, qe, es.length, ce, b0, b1⟩, m, xs, ps, es, rfl, hxs, hps, (ev_ok hes).1⟩
end
end Go.Proofs.Ytppgfkdkopfebaa
