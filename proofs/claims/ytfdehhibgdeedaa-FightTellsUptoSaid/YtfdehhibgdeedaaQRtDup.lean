import Derived.Test.YtfdehhibgdeedaaQTbE
import Derived.Test.YtfdehhibgdeedaaQRtSame
/- The document's Copy of a table, with all that it holds. -/
namespace Go.Proofs.Ytfdehhibgdeedaa
open Go.RowKit Go.Lib

theorem evs_append2 {w : World} {q : Option Addr} {c : Nat} {es : List Ev} (h : RowIn w 4 32 EvIn (.slice q es.length c) es) :
    ∃ q' c' w', (Builtin.append_ #[25, 25] 25 #[.slice none 0 0, .slice q es.length c]).run Try.prog w = .ok (.slice q' es.length c') w' ∧ Below w.heap.size w w' ∧
      (es.length ≠ 0 → q' = some ⟨w.heap.size, 0, none⟩ ∧ ∃ tail : Array Value, w'.heap[w.heap.size]? = some (.cells ((es.map evV).flatten.toArray ++ tail) 91 (0, 0))) := by
  have hi := ev_info
  have hz := ev_zero
  obtain ⟨i, hi1, hi2⟩ := Option.map_eq_some_iff.1 hi
  simp only [Prod.mk.injEq] at hi2
  rw [hi1] at hz
  obtain ⟨z, hz1⟩ := Option.isSome_iff_exists.1 hz
  have hs := src_row (P := Try.prog) (t := 25) (e := 91) Try.underlying25 (f := evV) h (fun cs x hx => hx) (fun x _ => rfl) (fun x u hu => by simp [evV] at hu; rcases hu with rfl | rfl | rfl | rfl <;> rfl) (row_none h)
  obtain ⟨-, -, -, hm, hb, -⟩ := h
  rw [← hi2.1] at hs
  have hm' := hm
  unfold maxLen at hm'
  exact append_fresh w _ _ _ i z Try.underlying25 hi1 hz1 _ _ _ _ hs (by rw [hi2.2]; omega) hm'
theorem Things.nil {α : Type} {w : World} {size : Nat} {f : α → List Value} {q : Option Addr} {xs : List α} (h : xs.length = 0) : Things w size f q xs := fun i x hx => by
  obtain rfl := List.length_eq_zero_iff.1 h
  simp at hx
theorem Things.of_block {α : Type} {w : World} {size : Nat} {f : α → List Value} {g : Nat} {xs : List α} {tail : Array Value} {ty : TypeId} (hs : ∀ x ∈ xs, (f x).length = size) (hb : w.heap[g]? = some (.cells ((xs.map f).flatten.toArray ++ tail) ty (0, 0))) : Things w size f (some ⟨g, 0, none⟩) xs := fun i x hx => by
  refine ⟨g, 0, rfl, fun j u hu => ?_⟩
  have hj : j < size := by rw [← hs x (List.mem_of_getElem? hx)]; exact (List.getElem?_eq_some_iff.1 hu).1
  have hf := flat_get (size := size) (xs.map f) (fun c hc => by obtain ⟨p, hp, rfl⟩ := List.mem_map.1 hc; exact hs p hp) i j (f x) (by simp [hx]) hj
  rw [hu] at hf
  have hl := (List.getElem?_eq_some_iff.1 hf).1
  rw [cell_blk hb, Nat.zero_add, Array.getElem?_append_left (by simpa using hl), List.getElem?_toArray]
  exact hf
theorem RowIn.things {α : Type} {w : World} {size B : Nat} {f : α → List Value} {P : World → List Value → α → Prop} {q : Option Addr} {n c : Nat} {xs : List α} (hP : ∀ w c x, P w c x → c = f x) (h : RowIn w size B P (.slice q n c) xs) : Things w size f q xs := fun i x hx => by
  obtain ⟨q', c', hv, -, -, h⟩ := h
  simp only [Value.slice.injEq] at hv
  obtain ⟨g, o, hq, cs, -, hp, hu⟩ := h i x hx
  obtain rfl := hP _ _ _ hp
  exact ⟨g, o, by rw [hv.1, hq], hu⟩
/-- A table's copy, whole: all of it in new memory. -/
structure DupE (w' : World) (B D : Nat) (t u : Tb) (xs : List Cd) (ps : List Pc) (es : List Ev) (g : Nat) : Prop where
  base : DupT w' B D t u xs ps g
  ne : u.ne = es.length
  evs : es.length ≠ 0 → ∃ g', u.qe = some ⟨g', 0, none⟩ ∧ B ≤ g' ∧ ∃ tail : Array Value, w'.heap[g']? = some (.cells ((es.map evV).flatten.toArray ++ tail) 91 (0, 0))
  more : u.mo = t.mo ∧ u.b0 = t.b0 ∧ u.b1 = t.b1

set_option maxHeartbeats 8000000 in
set_option maxRecDepth 100000 in
theorem dupe_any (D : Nat) (t : Tb) (xs : List Cd) (ps : List Pc) (es : List Ev) (w : World) (h : CameT w D t xs ps es) :
    Calls Try.prog 8 #[.agg t.row] w fun e w' => (∃ u g, e = .returned (.agg u.row) ∧ DupE w' w.heap.size D t u xs ps es g) ∧ Below w.heap.size w w' := by
  obtain ⟨qk, nk, ck, qp, np, cp, tl0, tl1, tn, py, mo, qe, ne, ce, b0, b1⟩ := t
  obtain ⟨hK, hP, hE⟩ := h
  dsimp only at hK hP hE
  have hcopy := Lib.hid fun (W : World) (hb : Below w.heap.size w W) => copied_any D W _ xs (hK.below (CdIn.stays 1 D) hb)
  have hnp : np = ps.length := by obtain ⟨q, c, hv, -⟩ := hP; simp only [Value.slice.injEq] at hv; exact hv.2.1
  have hne : ne = es.length := by obtain ⟨q, c, hv, -⟩ := hE; simp only [Value.slice.injEq] at hv; exact hv.2.1
  subst hnp hne
  have HP := Lib.hid hP
  have HE := Lib.hid hE
  clear hK hP hE
  obtain ⟨z, hz⟩ : ∃ z : Array Value, z = #[.slice none 0 0, .slice none 0 0, .int .i64 0, .int .i64 0, .int .i64 0, .int .u8 0, .int .i64 0, .slice none 0 0, .bool false, .bool false] := ⟨_, rfl⟩
  obtain ⟨w0, hw0⟩ : ∃ w0, w0 = (w.alloc (.cells #[.slice qk nk ck, .slice qp ps.length cp, .int .i64 tl0, .int .i64 tl1, .int .i64 tn, .int .u8 py, .int .i64 mo, .slice qe es.length ce, .bool b0, .bool b1] 28)).alloc (.cells #[.slice none 0 0, .slice none 0 0, .int .i64 0, .int .i64 0, .int .i64 0, .int .u8 0, .int .i64 0, .slice none 0 0, .bool false, .bool false] 28) := ⟨_, rfl⟩
  have hb0 : Below w.heap.size w w0 := by rw [hw0]; exact ((Below.refl _ _).alloc (Nat.le_refl _) _).alloc (by simp) _
  have hx0 : w0.heap[w.heap.size]? = some (.cells #[.slice qk nk ck, .slice qp ps.length cp, .int .i64 tl0, .int .i64 tl1, .int .i64 tn, .int .u8 py, .int .i64 mo, .slice qe es.length ce, .bool b0, .bool b1] 28 (0, 0)) := by rw [hw0]; exact heap_older (heap_alloc_new _ _)
  have hy0 : w0.heap[w.heap.size + 1]? = some (.cells z 28 (0, 0)) := by rw [hw0, hz]; exact heap_newer _ _ _ (by simp)
  have HB0 := Lib.hid hb0
  have HX0 := Lib.hid hx0
  have HY0 := Lib.hid hy0
  have HW0 := Lib.hid hw0
  have HZ := Lib.hid hz
  clear hb0 hx0 hy0 hw0 hz
  simp only [Tb.row] at *
  go_enter Try.func8, Try.ntmps8
  go_wp2_with fail
  rw [← HW0.out]
  refine (hcopy.out w0 HB0.out).mono ?_
  rintro e w1 ⟨ka, kc, rfl, hrow, b1'⟩
  have HR := Lib.hid hrow
  have HB1 := Lib.hid (HB0.out.trans (b1'.mono HB0.out.size))
  have B1 := Lib.hid b1'
  have hx1 := (b1'.block _ (heap_lt HX0.out)).trans HX0.out
  have hy1 := (b1'.block _ (heap_lt HY0.out)).trans HY0.out
  have HX1 := Lib.hid hx1
  have HY1 := Lib.hid hy1
  have lt1 := heap_lt hx1
  have fz1 : w1.frozen? ⟨w.heap.size, 0, none⟩ = false := by simp [World.frozen?, hx1]
  have y0 := cell_blk (i := 0) HX1.out
  have y1 := cell_blk (i := 1) HX1.out
  have y2 := cell_blk (i := 2) HX1.out
  have y3 := cell_blk (i := 3) HX1.out
  have y4 := cell_blk (i := 4) HX1.out
  have y5 := cell_blk (i := 5) HX1.out
  have y6 := cell_blk (i := 6) HX1.out
  have y7 := cell_blk (i := 7) HX1.out
  have y8 := cell_blk (i := 8) HX1.out
  have y9 := cell_blk (i := 9) HX1.out
  simp at y0 y1 y2 y3 y4 y5 y6 y7 y8 y9
  clear hrow b1' hx1 hy1
  -- the kinds are in their place
  obtain ⟨w2, hw2⟩ : ∃ w2, w2 = w1.setCell ⟨w.heap.size, 0, none⟩ (.slice ka xs.length kc) := ⟨_, rfl⟩
  have b2 : Below w.heap.size w w2 := by rw [hw2]; exact set_below HB1.out (Nat.le_refl _)
  have hx2 : w2.heap[w.heap.size]? = some (.cells #[.slice ka xs.length kc, .slice qp ps.length cp, .int .i64 tl0, .int .i64 tl1, .int .i64 tn, .int .u8 py, .int .i64 mo, .slice qe es.length ce, .bool b0, .bool b1] 28 (0, 0)) := by rw [hw2, heap_setCell_same _ _ _ _ _ _ HX1.out]; rfl
  have hy2 : w2.heap[w.heap.size + 1]? = some (.cells z 28 (0, 0)) := by rw [hw2]; exact (set_other (by omega)).trans HY1.out
  obtain ⟨pa, pc, w3, hr3, b3, hp3⟩ := pcs_append (HP.out.below PcIn.stays b2)
  have b3w := b2.trans (b3.mono b2.size)
  have hx3 := (b3.block _ (heap_lt hx2)).trans hx2
  have hy3 := (b3.block _ (heap_lt hy2)).trans hy2
  have lt3 := heap_lt hx3
  have fz3 : w3.frozen? ⟨w.heap.size, 0 + 1, none⟩ = false := by simp [World.frozen?, hx3]
  have u7 := cell_blk (i := 7) hx3
  have u1 := cell_blk (i := 1) hx3
  simp at u7 u1
  -- the pieces are in their place
  obtain ⟨w4, hw4⟩ : ∃ w4, w4 = w3.setCell ⟨w.heap.size, 1, none⟩ (.slice pa ps.length pc) := ⟨_, rfl⟩
  have b4 : Below w.heap.size w w4 := by rw [hw4]; exact set_below b3w (Nat.le_refl _)
  have hx4 : w4.heap[w.heap.size]? = some (.cells #[.slice ka xs.length kc, .slice pa ps.length pc, .int .i64 tl0, .int .i64 tl1, .int .i64 tn, .int .u8 py, .int .i64 mo, .slice qe es.length ce, .bool b0, .bool b1] 28 (0, 0)) := by rw [hw4, heap_setCell_same _ _ _ _ _ _ hx3]; rfl
  have hy4 : w4.heap[w.heap.size + 1]? = some (.cells z 28 (0, 0)) := by rw [hw4]; exact (set_other (by omega)).trans hy3
  obtain ⟨ea, ec, w5, hr5, b5, he5⟩ := evs_append2 (HE.out.below (fun _ _ _ _ h _ => h) b4)
  have b5w := b4.trans (b5.mono b4.size)
  have hx5 := (b5.block _ (heap_lt hx4)).trans hx4
  have hy5 := (b5.block _ (heap_lt hy4)).trans hy4
  have lt5 := heap_lt hx5
  have lt5' := heap_lt hy5
  have fz5 : w5.frozen? ⟨w.heap.size, 0 + 7, none⟩ = false := by simp [World.frozen?, hx5]
  simp only [Nat.zero_add] at fz3 fz5
  have fy5 : ∀ k, w5.frozen? ⟨w.heap.size + 1, k, none⟩ = false := fun k => by simp [World.frozen?, hy5]
  have v0 := cell_blk (i := 0) hx5; have v1 := cell_blk (i := 1) hx5; have v2 := cell_blk (i := 2) hx5; have v3 := cell_blk (i := 3) hx5; have v4 := cell_blk (i := 4) hx5
  have v5 := cell_blk (i := 5) hx5; have v6 := cell_blk (i := 6) hx5; have v7 := cell_blk (i := 7) hx5; have v8 := cell_blk (i := 8) hx5; have v9 := cell_blk (i := 9) hx5
  have z0 := cell_blk (i := 0) hy5; have z1 := cell_blk (i := 1) hy5; have z2 := cell_blk (i := 2) hy5; have z3 := cell_blk (i := 3) hy5; have z4 := cell_blk (i := 4) hy5
  have z5 := cell_blk (i := 5) hy5; have z6 := cell_blk (i := 6) hy5; have z7 := cell_blk (i := 7) hy5; have z8 := cell_blk (i := 8) hy5; have z9 := cell_blk (i := 9) hy5
  simp [HZ.out] at v0 v1 v2 v3 v4 v5 v6 v7 v8 v9 z0 z1 z2 z3 z4 z5 z6 z7 z8 z9
  have HW2 := Lib.hid hw2
  have HW4 := Lib.hid hw4
  have HR3 := Lib.hid hr3
  have HR5 := Lib.hid hr5
  have B2 := Lib.hid b2
  have B3 := Lib.hid b3
  have B4 := Lib.hid b4
  have B5 := Lib.hid b5
  have B5W := Lib.hid b5w
  have HP3 := Lib.hid hp3
  have HE5 := Lib.hid he5
  have X5 := Lib.hid hx5
  have Y5 := Lib.hid hy5
  clear hw2 hr3 b2 b3 b3w hp3 he5 hx2 hy2 hx3 hy3 hw4 b4 hx4 hy4 hr5 b5 b5w hx5 hy5
  go_wp2_with (at_builtin; first | (rw [← HW2.out]; refine wpList_append_ran rfl (.tmp 9) (.tmp 11) 23 rfl rfl rfl HR3.out ?_) | (rw [← HW4.out]; refine wpList_append_ran rfl (.tmp 14) (.tmp 16) 25 rfl rfl rfl HR5.out ?_))
  obtain ⟨W, hW⟩ : ∃ W, W = (((((((((((w5.setCell ⟨w.heap.size, 7, none⟩ (.slice ea es.length ec)).setCell ⟨w.heap.size + 1, 0, none⟩ (.slice ka xs.length kc)).setCell ⟨w.heap.size + 1, 1, none⟩ (.slice pa ps.length pc)).setCell ⟨w.heap.size + 1, 2, none⟩ (.int .i64 tl0)).setCell ⟨w.heap.size + 1, 3, none⟩ (.int .i64 tl1)).setCell ⟨w.heap.size + 1, 4, none⟩ (.int .i64 tn)).setCell ⟨w.heap.size + 1, 5, none⟩ (.int .u8 py)).setCell ⟨w.heap.size + 1, 6, none⟩ (.int .i64 mo)).setCell ⟨w.heap.size + 1, 7, none⟩ (.slice ea es.length ec)).setCell ⟨w.heap.size + 1, 8, none⟩ (.bool b0)).setCell ⟨w.heap.size + 1, 9, none⟩ (.bool b1)) := ⟨_, rfl⟩
  rw [← hW]
  have q0 : (w5.setCell ⟨w.heap.size, 7, none⟩ (.slice ea es.length ec)).heap[w.heap.size + 1]? = some (.cells z 28 (0, 0)) := (set_other (by omega)).trans Y5.out
  rw [HZ.out] at q0
  have q1 := set_same (i := 0) (v := (.slice ka xs.length kc : Value)) q0
  simp only [List.setIfInBounds_toArray, List.set_cons_zero, List.set_cons_succ] at q1
  have q2 := set_same (i := 1) (v := (.slice pa ps.length pc : Value)) q1
  simp only [List.setIfInBounds_toArray, List.set_cons_zero, List.set_cons_succ] at q2
  have q3 := set_same (i := 2) (v := (.int .i64 tl0 : Value)) q2
  simp only [List.setIfInBounds_toArray, List.set_cons_zero, List.set_cons_succ] at q3
  have q4 := set_same (i := 3) (v := (.int .i64 tl1 : Value)) q3
  simp only [List.setIfInBounds_toArray, List.set_cons_zero, List.set_cons_succ] at q4
  have q5 := set_same (i := 4) (v := (.int .i64 tn : Value)) q4
  simp only [List.setIfInBounds_toArray, List.set_cons_zero, List.set_cons_succ] at q5
  have q6 := set_same (i := 5) (v := (.int .u8 py : Value)) q5
  simp only [List.setIfInBounds_toArray, List.set_cons_zero, List.set_cons_succ] at q6
  have q7 := set_same (i := 6) (v := (.int .i64 mo : Value)) q6
  simp only [List.setIfInBounds_toArray, List.set_cons_zero, List.set_cons_succ] at q7
  have q8 := set_same (i := 7) (v := (.slice ea es.length ec : Value)) q7
  simp only [List.setIfInBounds_toArray, List.set_cons_zero, List.set_cons_succ] at q8
  have q9 := set_same (i := 8) (v := (.bool b0 : Value)) q8
  simp only [List.setIfInBounds_toArray, List.set_cons_zero, List.set_cons_succ] at q9
  have q10 := set_same (i := 9) (v := (.bool b1 : Value)) q9
  simp only [List.setIfInBounds_toArray, List.set_cons_zero, List.set_cons_succ] at q10
  have hB1 : W.heap[w.heap.size + 1]? = some (.cells #[.slice ka xs.length kc, .slice pa ps.length pc, .int .i64 tl0, .int .i64 tl1, .int .i64 tn, .int .u8 py, .int .i64 mo, .slice ea es.length ec, .bool b0, .bool b1] 28 (0, 0)) := by rw [hW]; exact q10
  clear q0 q1 q2 q3 q4 q5 q6 q7 q8 q9 q10
  have hWk : ∀ k, k ≠ w.heap.size → k ≠ w.heap.size + 1 → W.heap[k]? = w5.heap[k]? := fun k h0 h1 => by
    rw [hW]
    exact (set_other h1).trans ((set_other h1).trans ((set_other h1).trans ((set_other h1).trans ((set_other h1).trans ((set_other h1).trans ((set_other h1).trans ((set_other h1).trans ((set_other h1).trans ((set_other h1).trans (set_other h0))))))))))
  have n1 : w.heap.size ≤ w.heap.size + 1 := Nat.le_succ _
  have hWb : Below w.heap.size w W := by
    rw [hW]
    exact set_below (set_below (set_below (set_below (set_below (set_below (set_below (set_below (set_below (set_below (set_below B5W.out (Nat.le_refl _)) n1) n1) n1) n1) n1) n1) n1) n1) n1) n1
  have s0 := heap_lt HY0.out
  have s1 := B1.out.size
  have s2 : w2.heap.size = w1.heap.size := by rw [HW2.out]; simp [World.setCell]
  have s3 := B3.out.size
  have s4 : w4.heap.size = w3.heap.size := by rw [HW4.out]; simp [World.setCell]
  have s5 := B5.out.size
  have h53 : ∀ k, k ≠ w.heap.size → k < w3.heap.size → w5.heap[k]? = w3.heap[k]? := fun k h0 hk => (B5.out.block k (by omega)).trans (by rw [HW4.out]; exact set_other h0)
  clear hW
  refine bodyPost_ret (results_cell_row rfl _ _ (w.heap.size + 1) _ _ _ _ rfl hB1 rfl rfl (by kernel_rfl)) rfl ?_
  refine ⟨⟨⟨ka, xs.length, kc, pa, ps.length, pc, tl0, tl1, tn, py, mo, ea, es.length, ec, b0, b1⟩, w2.heap.size, rfl, ⟨⟨HR.out.frame (CdD.frames D) fun k hk hl => ⟨⟨?_, ?_⟩, ?_⟩, rfl, rfl, by omega, fun hn => ?_, rfl, rfl, rfl, rfl⟩, rfl, fun hn => ?_, rfl, rfl, rfl⟩⟩, hWb⟩
  · have hk : w0.heap.size ≤ k := hk
    omega
  · omega
  · have hk : w0.heap.size ≤ k := hk
    rw [hWk k (by omega) (by omega), h53 k (by omega) (by omega), B3.out.block k (by omega), HW2.out]
    exact set_other (by omega)
  · obtain ⟨e1, tail, e2⟩ := HP3.out hn
    refine ⟨e1, tail, ?_⟩
    rw [hWk _ (by omega) (by omega), h53 _ (by omega) (heap_lt e2)]
    exact e2
  · obtain ⟨e1, tail, e2⟩ := HE5.out hn
    refine ⟨w4.heap.size, e1, by omega, tail, ?_⟩
    rw [hWk _ (by omega) (by omega)]
    exact e2
end Go.Proofs.Ytfdehhibgdeedaa
