import Derived.Test.YtfdehhibgdeedaaQRtSame
import Derived.Test.YtfdehhibgdeedaaQRtAtt
import Derived.Test.YtfdehhibgdeedaaQRtOpt
import Derived.Test.YtfdehhibgdeedaaQRtDup
/- joustlaw15.FightTells: it answers true where both sides answer the same. -/
namespace Go.Proofs.Ytfdehhibgdeedaa
open Go.RowKit Go.Lib

/-- What both sides answer of one table and of its copy. -/
structure Pair (w : World) (t u : Tb) (a d : Int) (h : Nat) (o : FO) (er : Int) (ops : List Op3) : Prop where
  own : ∀ W, Below w.heap.size w W → Calls Try.prog 9 #[.agg u.row, .int .i64 a, .int .i64 d] W (OutEnds o er W)
  doc : ∀ W, Below w.heap.size w W → Calls Try.prog 10 #[.agg t.row, .int .i64 a, .int .i64 d] W (OutEnds o er W)
  att : ∀ W, Below w.heap.size w W → Calls Try.prog 11 #[.agg u.row, .int .u8 h] W (RAttEnds ops W)
  datt : ∀ W, Below w.heap.size w W → Calls Try.prog 14 #[.agg t.row, .int .u8 h] W (RAttEnds ops W)
  same : ∀ W, Below w.heap.size w W → Calls Try.prog 15 #[.agg u.row, .agg t.row] W fun e w' => e = .returned (.bool true) ∧ Below W.heap.size W w'
  few : o.2.length ≤ 2
  few' : ops.length ≤ 1000

theorem IntsOwn.shape {w : World} {b : Nat} {v : Value} {l : List Int} (h : IntsOwn w b v l) : ∃ (a : Option Addr) (c : Nat), v = .slice a l.length c := by
  rcases h.2 with ⟨hv, h0⟩ | ⟨g, cap, cur, hv, -⟩
  · exact ⟨none, 0, by rw [hv, h0]⟩
  · exact ⟨_, _, hv⟩
theorem ints_own (w : World) (b b' : Nat) (v v' : Value) (l : List Int) (h : IntsOwn w b v l) (h' : IntsOwn w b' v' l) (hf : l.length ≤ 2) : Calls Try.prog 12 #[v, v'] w fun e w' => e = .returned (.bool true) ∧ Below w.heap.size w w' := by
  obtain ⟨a, c, rfl⟩ := h.shape
  obtain ⟨a', c', rfl⟩ := h'.shape
  have hm : l.length ≤ maxLen := by unfold maxLen; omega
  refine (ints_any w a a' c c' l l h.at' h'.at' hm hm).mono fun e w' ⟨he, hb⟩ => ⟨?_, hb⟩
  rw [he]
  simp [sameB]
/-- Options in memory of one's own: their block. -/
theorem OptsAt.shape {w : World} {b : Nat} {v : Value} {l : List Op3} (h : OptsAt w b v l) : ∃ (a : Option Addr) (c g : Nat), v = .slice a l.length c ∧ (l.length ≠ 0 → a = some ⟨g, 0, none⟩ ∧ b ≤ g ∧ l.length ≤ c ∧ ∃ cur : Array Value, w.heap[g]? = some (.cells cur 41 (0, 0)) ∧ cur.size = c * 3) := by
  rcases h.2 with ⟨hv, h0⟩ | ⟨g, cap, cur, hv, hbg, hh, hc, -, hs, -⟩
  · exact ⟨none, 0, 0, by rw [hv, h0], fun hn => absurd h0 hn⟩
  · exact ⟨_, cap, g, hv, fun _ => ⟨rfl, hbg, hc, cur, hh, hs⟩⟩
theorem OptsAt.cells {w : World} {b : Nat} {v : Value} {l : List Op3} (h : OptsAt w b v l) (hn : l ≠ []) : ∃ (g c : Nat), v = .slice (some ⟨g, 0, none⟩) l.length c ∧ ∀ (i : Nat) (o : Op3), l[i]? = some o → w.cell? ⟨g, i * 3, none⟩ = some (.int .u8 o.1) ∧ w.cell? ⟨g, i * 3 + 1, none⟩ = some (.int .i64 o.2.1) ∧ w.cell? ⟨g, i * 3 + 2, none⟩ = some (.int .i64 o.2.2) := by
  rcases h.2 with ⟨hv, h0⟩ | ⟨g, cap, cur, hv, hbg, hh, hc, -, hs, hx⟩
  · exact absurd (List.eq_nil_of_length_eq_zero h0) hn
  · refine ⟨g, cap, hv, fun i o ho => ?_⟩
    have hf := fun j (hj : j < 3) => flat_get (size := 3) (l.map opV) (fun c hc => by obtain ⟨p, -, rfl⟩ := List.mem_map.1 hc; rfl) i j (opV o) (by simp [ho]) hj
    have hi := (List.getElem?_eq_some_iff.1 ho).1
    have hcell : ∀ j (u : Value), j < 3 → (opV o)[j]? = some u → w.cell? ⟨g, i * 3 + j, none⟩ = some u := fun j u hj hu => by
      have h1 := hf j hj
      rw [hu] at h1
      have h2 : (opsV l)[i * 3 + j]? = some u := h1
      rw [← hx, List.getElem?_take, if_pos (by omega)] at h2
      rw [cell_blk hh]
      simpa using h2
    exact ⟨hcell 0 _ (by omega) rfl, hcell 1 _ (by omega) rfl, hcell 2 _ (by omega) rfl⟩
theorem opts_own (w : World) (b b' : Nat) (v v' : Value) (l : List Op3) (h : OptsAt w b v l) (h' : OptsAt w b' v' l) (hf : l.length ≤ 1000) : Calls Try.prog 13 #[v, v'] w fun e w' => e = .returned (.bool true) ∧ Below w.heap.size w w' := by
  by_cases hn : l = []
  · subst hn
    obtain ⟨a, c, g, rfl, -⟩ := h.shape
    obtain ⟨a', c', g', rfl, -⟩ := h'.shape
    exact options_nil a a' c c' w
  · obtain ⟨g, c, rfl, hx⟩ := h.cells hn
    obtain ⟨g', c', rfl, hy⟩ := h'.cells hn
    exact options_any l g g' c c' w hf hx hy

set_option maxHeartbeats 32000000 in
set_option maxRecDepth 100000 in
theorem lawtells_any (t : Tb) (a d : Int) (h : Nat) (w : World)
    (hcopy : ∀ W, Below w.heap.size w W → Calls Try.prog 8 #[.agg t.row] W fun e w' => (∃ u o er ops, e = .returned (.agg u.row) ∧ Pair w' t u a d h o er ops) ∧ Below W.heap.size W w') :
    Calls Try.prog 3 #[.agg t.row, .int .i64 a, .int .i64 d, .int .u8 h] w fun e w' => e = .returned (.bool true) ∧ Below w.heap.size w w' := by
  have hgr := Lib.hid fun W => fgreat_any t W
  have hliv := Lib.hid fun W => flives_any W
  have hcp := Lib.hid hcopy
  clear hcopy
  obtain ⟨w0, hw0⟩ : ∃ w0, w0 = w.alloc (.cells t.row 28) := ⟨_, rfl⟩
  have hb0 : Below w.heap.size w w0 := by rw [hw0]; exact (Below.refl _ _).alloc (Nat.le_refl _) _
  have hx0 : w0.heap[w.heap.size]? = some (.cells t.row 28 (0, 0)) := by rw [hw0]; exact heap_alloc_new _ _
  have HB0 := Lib.hid hb0
  have HX0 := Lib.hid hx0
  have HW0 := Lib.hid hw0
  clear hb0 hx0 hw0
  have hcp := hcp.out
  simp only [Tb.row] at hgr HX0 HW0 ⊢
  have hcp' : Hid (∀ W, Below w.heap.size w W → Calls Try.prog 8 #[.agg #[.slice t.qk t.nk t.ck, .slice t.qp t.np t.cp, .int .i64 t.l0, .int .i64 t.l1, .int .i64 t.tn, .int .u8 t.py, .int .i64 t.mo, .slice t.qe t.ne t.ce, .bool t.b0, .bool t.b1]] W fun e w' => (∃ u o er ops, e = .returned (.agg u.row) ∧ Pair w' t u a d h o er ops) ∧ Below W.heap.size W w') := Lib.hid hcp
  clear hcp
  go_enter Try.func3, Try.ntmps3
  go_wp2_with fail
  rw [← HW0.out]
  (with_reducible refine (hgr.out _).mono ?_)
  rintro e w1 ⟨⟨bg, rfl⟩, b1⟩
  have HB1 := Lib.hid (HB0.out.trans (b1.mono HB0.out.size))
  have HX1 := Lib.hid ((b1.block _ (heap_lt HX0.out)).trans HX0.out)
  clear b1
  cases bg with
  | true =>
    go_wp2_with fail
    (with_reducible refine (hliv.out _).mono ?_)
    rintro e w2 ⟨rfl, b2⟩
    have HB2 := Lib.hid (HB1.out.trans (b2.mono HB1.out.size))
    clear b2
    go_wp2_with fail
    go_ret
    exact ⟨rfl, HB2.out⟩
  | false =>
    have hlt1 := heap_lt HX1.out
    have y0 := cell_blk (i := 0) HX1.out
    have y1 := cell_blk (i := 1) HX1.out
    have y2 := cell_blk (i := 2) HX1.out
    have y3 := cell_blk (i := 3) HX1.out
    have y4 := cell_blk (i := 4) HX1.out
    have y5 := cell_blk (i := 5) HX1.out
    have y6 := cell_blk (i := 6) HX1.out
    have y7 := cell_blk (i := 7) HX1.out
    have y8 := cell_blk (i := 8) HX1.out
    have y9 := cell_blk (i := 9) HX1.out
    simp at y0 y1 y2 y3 y4 y5 y6 y7 y8 y9
    go_wp2_with fail
    (with_reducible refine (hcp'.out _ HB1.out).mono ?_)
    rintro e w2 ⟨⟨u, o, er, ops, rfl, hP⟩, b2⟩
    obtain ⟨⟨x0, x1⟩, l⟩ := o
    have HB2 := Lib.hid (HB1.out.trans (b2.mono HB1.out.size))
    have HX2 := Lib.hid ((b2.block _ (heap_lt HX1.out)).trans HX1.out)
    clear b2 hlt1 y0 y1 y2 y3 y4 y5 y6 y7 y8 y9 hcp' hgr
    obtain ⟨hO, hR, hA, hQ, hS, hf, hf'⟩ := hP
    simp only [Tb.row] at hO hR hA hQ hS ⊢
    have HO := Lib.hid hO
    have HR := Lib.hid hR
    have HA := Lib.hid hA
    have HQ := Lib.hid hQ
    have HS := Lib.hid hS
    have HF := Lib.hid hf
    have HF' := Lib.hid hf'
    clear hO hR hA hQ hS hf hf'
    obtain ⟨w3, hw3⟩ : ∃ w3, w3 = w2.alloc (.cells #[.slice u.qk u.nk u.ck, .slice u.qp u.np u.cp, .int .i64 u.l0, .int .i64 u.l1, .int .i64 u.tn, .int .u8 u.py, .int .i64 u.mo, .slice u.qe u.ne u.ce, .bool u.b0, .bool u.b1] 28) := ⟨_, rfl⟩
    have C3 : Hid (Below w2.heap.size w2 w3) := Lib.hid (by rw [hw3]; exact (Below.refl _ _).alloc (Nat.le_refl _) _)
    have HY3 : Hid (w3.heap[w2.heap.size]? = some (.cells #[.slice u.qk u.nk u.ck, .slice u.qp u.np u.cp, .int .i64 u.l0, .int .i64 u.l1, .int .i64 u.tn, .int .u8 u.py, .int .i64 u.mo, .slice u.qe u.ne u.ce, .bool u.b0, .bool u.b1] 28 (0, 0))) := Lib.hid (by rw [hw3]; exact heap_alloc_new _ _)
    have HX3 := Lib.hid ((C3.out.block _ (heap_lt HX2.out)).trans HX2.out)
    have HW3 := Lib.hid hw3
    clear hw3
    go_wp2_with fail
    rw [← HW3.out]
    (with_reducible refine (HO.out _ C3.out).mono ?_)
    rintro e w4 ⟨⟨v4, rfl, own4⟩, b4⟩
    have C4 := Lib.hid (C3.out.trans (b4.mono C3.out.size))
    have HX4 := Lib.hid ((b4.block _ (heap_lt HX3.out)).trans HX3.out)
    have HY4 := Lib.hid ((b4.block _ (heap_lt HY3.out)).trans HY3.out)
    have HN4 := Lib.hid own4
    clear b4 own4
    have hlt4 := heap_lt HX4.out
    have y0 := cell_blk (i := 0) HX4.out
    have y1 := cell_blk (i := 1) HX4.out
    have y2 := cell_blk (i := 2) HX4.out
    have y3 := cell_blk (i := 3) HX4.out
    have y4 := cell_blk (i := 4) HX4.out
    have y5 := cell_blk (i := 5) HX4.out
    have y6 := cell_blk (i := 6) HX4.out
    have y7 := cell_blk (i := 7) HX4.out
    have y8 := cell_blk (i := 8) HX4.out
    have y9 := cell_blk (i := 9) HX4.out
    simp at y0 y1 y2 y3 y4 y5 y6 y7 y8 y9
    obtain ⟨w5, hw5⟩ : ∃ w5, w5 = w4.alloc (.cells #[.int .i64 x0, .int .i64 x1] 24) := ⟨_, rfl⟩
    have b45 : Below w4.heap.size w4 w5 := by rw [hw5]; exact (Below.refl _ _).alloc (Nat.le_refl _) _
    have HZ5 : Hid (w5.heap[w4.heap.size]? = some (.cells #[.int .i64 x0, .int .i64 x1] 24 (0, 0))) := Lib.hid (by rw [hw5]; exact heap_alloc_new _ _)
    have C5 := Lib.hid (C4.out.trans (b45.mono C4.out.size))
    have HX5 := Lib.hid ((b45.block _ (heap_lt HX4.out)).trans HX4.out)
    have HY5 := Lib.hid ((b45.block _ (heap_lt HY4.out)).trans HY4.out)
    have HN5 := Lib.hid (HN4.out.below b45)
    have HW5 := Lib.hid hw5
    clear hw5 b45
    go_wp2_with fail
    rw [← HW5.out]
    (with_reducible refine (HR.out _ C5.out).mono ?_)
    rintro e w6 ⟨⟨v6, rfl, own6⟩, b6⟩
    have C6 := Lib.hid (C5.out.trans (b6.mono C5.out.size))
    have HX6 := Lib.hid ((b6.block _ (heap_lt HX5.out)).trans HX5.out)
    have HY6 := Lib.hid ((b6.block _ (heap_lt HY5.out)).trans HY5.out)
    have HZ6 := Lib.hid ((b6.block _ (heap_lt HZ5.out)).trans HZ5.out)
    have HN6 := Lib.hid (HN5.out.below b6)
    have HM6 := Lib.hid own6
    clear b6 own6 y0 y1 y2 y3 y4 y5 y6 y7 y8 y9 hlt4
    have hlt6 := heap_lt HY6.out
    have u0 := cell_blk (i := 0) HY6.out
    have u1 := cell_blk (i := 1) HY6.out
    have u2 := cell_blk (i := 2) HY6.out
    have u3 := cell_blk (i := 3) HY6.out
    have u4 := cell_blk (i := 4) HY6.out
    have u5 := cell_blk (i := 5) HY6.out
    have u6 := cell_blk (i := 6) HY6.out
    have u7 := cell_blk (i := 7) HY6.out
    have u8 := cell_blk (i := 8) HY6.out
    have u9 := cell_blk (i := 9) HY6.out
    simp at u0 u1 u2 u3 u4 u5 u6 u7 u8 u9
    obtain ⟨w7, hw7⟩ : ∃ w7, w7 = w6.alloc (.cells #[.int .i64 x0, .int .i64 x1] 24) := ⟨_, rfl⟩
    have b67 : Below w6.heap.size w6 w7 := by rw [hw7]; exact (Below.refl _ _).alloc (Nat.le_refl _) _
    have HV7 : Hid (w7.heap[w6.heap.size]? = some (.cells #[.int .i64 x0, .int .i64 x1] 24 (0, 0))) := Lib.hid (by rw [hw7]; exact heap_alloc_new _ _)
    have C7 := Lib.hid (C6.out.trans (b67.mono C6.out.size))
    have HX7 := Lib.hid ((b67.block _ (heap_lt HX6.out)).trans HX6.out)
    have HY7 := Lib.hid ((b67.block _ (heap_lt HY6.out)).trans HY6.out)
    have HZ7 := Lib.hid ((b67.block _ (heap_lt HZ6.out)).trans HZ6.out)
    have HN7 := Lib.hid (HN6.out.below b67)
    have HM7 := Lib.hid (HM6.out.below b67)
    have HW7 := Lib.hid hw7
    clear hw7 b67
    go_wp2_with fail
    rw [← HW7.out]
    (with_reducible refine (HA.out _ C7.out).mono ?_)
    rintro e w8 ⟨⟨v8, rfl, own8⟩, b8⟩
    have HB78 := Lib.hid b8
    have C8 := Lib.hid (C7.out.trans (b8.mono C7.out.size))
    have HX8 := Lib.hid ((b8.block _ (heap_lt HX7.out)).trans HX7.out)
    have HY8 := Lib.hid ((b8.block _ (heap_lt HY7.out)).trans HY7.out)
    have HZ8 := Lib.hid ((b8.block _ (heap_lt HZ7.out)).trans HZ7.out)
    have HV8 := Lib.hid ((b8.block _ (heap_lt HV7.out)).trans HV7.out)
    have hints : Hid (∀ W, Below w8.heap.size w8 W → Calls Try.prog 12 #[v4, v6] W fun e w' => e = .returned (.bool true) ∧ Below W.heap.size W w') := Lib.hid fun W hb => ints_own W _ _ v4 v6 l ((HN7.out.below b8).below hb) ((HM7.out.below b8).below hb) HF.out
    obtain ⟨ka, kc, kg, rfl, hk⟩ := own8.shape
    have hopts : Hid (∀ W b' v', Below w8.heap.size w8 W → OptsAt W b' v' ops → Calls Try.prog 13 #[.slice ka ops.length kc, v'] W fun e w' => e = .returned (.bool true) ∧ Below W.heap.size W w') := Lib.hid fun W b' v' hb hv => opts_own W _ b' _ v' ops (own8.below hb) hv HF'.out
    obtain ⟨n, hn⟩ : ∃ n, ops.length = n := ⟨_, rfl⟩
    rw [hn] at hopts hk ⊢
    have HK : Hid (n ≠ 0 → ka = some ⟨kg, 0, none⟩ ∧ w7.heap.size ≤ kg ∧ n ≤ kc ∧ kg < w8.heap.size ∧ ∃ cur : Array Value, w8.heap[kg]? = some (.cells cur 41 (0, 0)) ∧ cur.size = kc * 3) := Lib.hid fun h0 => by
      obtain ⟨e1, e2, e3, cur, e4, e5⟩ := hk h0
      exact ⟨e1, e2, e3, heap_lt e4, cur, e4, e5⟩
    have HNN : Hid (n ≤ 1000) := Lib.hid (by rw [← hn]; exact HF'.out)
    have HN8 : Hid (Below w8.heap.size w8 w8) := Lib.hid (Below.refl _ _)
    clear b8 own8 hk hn u0 u1 u2 u3 u4 u5 u6 u7 u8 u9 hlt6 HN4 HN5 HN6 HM6 HN7 HM7 HO HR HA
    have y0 := cell_blk (i := 0) HX8.out
    have y1 := cell_blk (i := 1) HX8.out
    have y2 := cell_blk (i := 2) HX8.out
    have y3 := cell_blk (i := 3) HX8.out
    have y4 := cell_blk (i := 4) HX8.out
    have y5 := cell_blk (i := 5) HX8.out
    have y6 := cell_blk (i := 6) HX8.out
    have y7 := cell_blk (i := 7) HX8.out
    have y8 := cell_blk (i := 8) HX8.out
    have y9 := cell_blk (i := 9) HX8.out
    simp at y0 y1 y2 y3 y4 y5 y6 y7 y8 y9
    have z0 := cell_blk (i := 0) HZ8.out
    have z1 := cell_blk (i := 1) HZ8.out
    have v0 := cell_blk (i := 0) HV8.out
    have v1 := cell_blk (i := 1) HV8.out
    simp at z0 z1 v0 v1
    have q0 := fun W => two_ieqd 9998 x0 x1 W
    simp only [Nat.reduceAdd] at q0
    go_wp2_with fail
    (with_reducible refine (hints.out _ HN8.out).mono ?_)
    rintro e w9 ⟨rfl, b9⟩
    have N9 := Lib.hid b9
    have HX9 := Lib.hid ((b9.block _ (heap_lt HX8.out)).trans HX8.out)
    clear b9 y0 y1 y2 y3 y4 y5 y6 y7 y8 y9 z0 z1 v0 v1 q0
    have y0 := cell_blk (i := 0) HX9.out
    have y1 := cell_blk (i := 1) HX9.out
    have y2 := cell_blk (i := 2) HX9.out
    have y3 := cell_blk (i := 3) HX9.out
    have y4 := cell_blk (i := 4) HX9.out
    have y5 := cell_blk (i := 5) HX9.out
    have y6 := cell_blk (i := 6) HX9.out
    have y7 := cell_blk (i := 7) HX9.out
    have y8 := cell_blk (i := 8) HX9.out
    have y9 := cell_blk (i := 9) HX9.out
    simp at y0 y1 y2 y3 y4 y5 y6 y7 y8 y9
    go_wp2_with fail
    (with_reducible refine (HQ.out _ (C8.out.trans (N9.out.mono C8.out.size))).mono ?_)
    rintro e w10 ⟨⟨v10, rfl, own10⟩, b10⟩
    have N10 := Lib.hid (N9.out.trans (b10.mono N9.out.size))
    have hop := Lib.hid (hopts.out _ _ _ N10.out own10)
    clear b10 own10 hopts
    go_wp2_with fail
    (with_reducible refine hop.out.mono ?_)
    rintro e w11 ⟨rfl, b11⟩
    have N11 := Lib.hid (N10.out.trans (b11.mono N10.out.size))
    clear b11 y0 y1 y2 y3 y4 y5 y6 y7 y8 y9
    go_wp2_with fail
    go_loopw [66] (fun vi wr => ∃ i : Nat, vi = .int .i64 i ∧ i ≤ n ∧ Below w7.heap.size w7 wr ∧ (n ≠ 0 → ∃ cur : Array Value, wr.heap[kg]? = some (.cells cur 41 (0, 0)) ∧ cur.size = kc * 3)) (fun vi _ => n - (RowKit.intOf vi).toNat)
    case atStart =>
      refine ⟨0, by rfl, by omega, ?_, fun h0 => ?_⟩
      · exact HB78.out.trans ((by repeat (first | (with_reducible exact N11.out) | (with_reducible refine Below.drew ?_)) : Below w8.heap.size w8 _).mono HB78.out.size)
      · obtain ⟨-, -, -, hg, cur, e4, e5⟩ := HK.out h0
        exact ⟨cur, ((by repeat (first | (with_reducible exact N11.out) | (with_reducible refine Below.drew ?_)) : Below w8.heap.size w8 _).block _ hg).trans e4, e5⟩
    case round =>
      obtain ⟨i, rfl, hi, hbw, hcur⟩ := hrel
      rename World => wA
      by_cases hlt : i < n
      · obtain ⟨rfl, hge, hkc, -, -⟩ := HK.out (by omega)
        obtain ⟨cur, hcb, hcs⟩ := hcur (by omega)
        have hnn := HNN.out
        have k0 : (0 : Int) ≤ (i : Int) := by omega
        have k1 : (i : Int) < (n : Int) := by omega
        have hfz : ∀ j, wA.frozen? ⟨kg, j, none⟩ = false := fun j => free_blk hcb
        obtain ⟨c0, hc0⟩ : ∃ c, wA.cell? ⟨kg, i * 3, none⟩ = some c := by rw [cell_blk hcb]; exact ⟨_, Array.getElem?_eq_getElem (by omega)⟩
        obtain ⟨c1, hc1⟩ : ∃ c, wA.cell? ⟨kg, i * 3 + 1, none⟩ = some c := by rw [cell_blk hcb]; exact ⟨_, Array.getElem?_eq_getElem (by omega)⟩
        obtain ⟨c2, hc2⟩ : ∃ c, wA.cell? ⟨kg, i * 3 + 2, none⟩ = some c := by rw [cell_blk hcb]; exact ⟨_, Array.getElem?_eq_getElem (by omega)⟩
        have HBS := Lib.hid (show Below w7.heap.size w7 (((wA.setCell ⟨kg, i * 3, none⟩ (.int .u8 0)).setCell ⟨kg, i * 3 + 1, none⟩ (.int .i64 0)).setCell ⟨kg, i * 3 + 2, none⟩ (.int .i64 0)) from set_below (set_below (set_below hbw hge) hge) hge)
        have HCS := Lib.hid (show ∃ cur : Array Value, (((wA.setCell ⟨kg, i * 3, none⟩ (.int .u8 0)).setCell ⟨kg, i * 3 + 1, none⟩ (.int .i64 0)).setCell ⟨kg, i * 3 + 2, none⟩ (.int .i64 0)).heap[kg]? = some (.cells cur 41 (0, 0)) ∧ cur.size = kc * 3 from ⟨_, set_same (set_same (set_same hcb)), by simp [hcs]⟩)
        clear hcb hcur hbw hcs
        go_wp2_with fail
        go_roundw
        case rel => exact ⟨i + 1, by go_num, by omega, HBS.out, fun _ => HCS.out⟩
        case measure => simp [RowKit.intOf]; omega
      · obtain rfl : i = n := by omega
        have CA := Lib.hid (C7.out.trans (hbw.mono C7.out.size))
        have HXA := Lib.hid ((hbw.block _ (heap_lt HX7.out)).trans HX7.out)
        have HYA := Lib.hid ((hbw.block _ (heap_lt HY7.out)).trans HY7.out)
        clear hbw hcur hlt hi
        have y0 := cell_blk (i := 0) HXA.out
        have y1 := cell_blk (i := 1) HXA.out
        have y2 := cell_blk (i := 2) HXA.out
        have y3 := cell_blk (i := 3) HXA.out
        have y4 := cell_blk (i := 4) HXA.out
        have y5 := cell_blk (i := 5) HXA.out
        have y6 := cell_blk (i := 6) HXA.out
        have y7 := cell_blk (i := 7) HXA.out
        have y8 := cell_blk (i := 8) HXA.out
        have y9 := cell_blk (i := 9) HXA.out
        simp at y0 y1 y2 y3 y4 y5 y6 y7 y8 y9
        have u0 := cell_blk (i := 0) HYA.out
        have u1 := cell_blk (i := 1) HYA.out
        have u2 := cell_blk (i := 2) HYA.out
        have u3 := cell_blk (i := 3) HYA.out
        have u4 := cell_blk (i := 4) HYA.out
        have u5 := cell_blk (i := 5) HYA.out
        have u6 := cell_blk (i := 6) HYA.out
        have u7 := cell_blk (i := 7) HYA.out
        have u8 := cell_blk (i := 8) HYA.out
        have u9 := cell_blk (i := 9) HYA.out
        simp at u0 u1 u2 u3 u4 u5 u6 u7 u8 u9
        go_wp2_with fail
        (with_reducible refine (HS.out _ CA.out).mono ?_)
        rintro e w12 ⟨rfl, b12⟩
        have C12 := Lib.hid (CA.out.trans (b12.mono CA.out.size))
        clear b12 y0 y1 y2 y3 y4 y5 y6 y7 y8 y9 u0 u1 u2 u3 u4 u5 u6 u7 u8 u9
        go_wp2_with fail
        (with_reducible refine (hliv.out _).mono ?_)
        rintro e w13 ⟨rfl, b13⟩
        have C13 := Lib.hid (C12.out.trans (b13.mono C12.out.size))
        go_wp2_with fail
        go_ret
        exact ⟨rfl, HB2.out.trans (C13.out.mono HB2.out.size)⟩
end Go.Proofs.Ytfdehhibgdeedaa
