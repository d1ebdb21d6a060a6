import Derived.Test.YtfdehhibgdeedaaQFtLives
import Derived.Test.YtfdehhibgdeedaaQTbB
/- joustlaw15.FightMay: it answers true. -/
namespace Go.Proofs.Ytfdehhibgdeedaa
open Go.RowKit Go.Lib

theorem opt_eqIn (x y : Op3) (w : World) : Sem.run Try.prog (Op.equalIn 10000 41 (.agg #[.int .u8 x.1, .int .i64 x.2.1, .int .i64 x.2.2]) (.agg #[.int .u8 y.1, .int .i64 y.2.1, .int .i64 y.2.2])) w = .ok (decide (x = y)) w := by
  have hS : Try.prog.underlying 41 = some (.struct (Try.prog.fieldsOf 41)) := by kernel_rfl
  have hp : Try.prog.stoodInHeld 41 = false := by kernel_rfl
  rw [show (10000 : Nat) = 9999 + 1 from rfl, run_equalIn_agg w 9999 41 _ _ hS hp]
  simp only [Program.fieldsOf, Try.underlying41]
  obtain ⟨x1, x2, x3⟩ := x
  obtain ⟨y1, y2, y3⟩ := y
  go_simp
  by_cases h1 : x1 = y1 <;> by_cases h2 : x2 = y2 <;> by_cases h3 : x3 = y3 <;> simp [h1, h2, h3]
  all_goals (try (intro h; omega))
theorem mem_opts {ps : List Pc} {own : List Nat} {ag : List Int} {o : Op3} : o ∈ optsOf ps own ag ↔ ∃ a ∈ own, canAt ps a = true ∧ ∃ d ∈ ag, o = (8, (a : Int), d) := by
  unfold optsOf
  rw [List.mem_flatMap]
  constructor
  · rintro ⟨a, ha, ho⟩
    by_cases hc : canAt ps a = true
    · rw [if_pos hc] at ho
      obtain ⟨d, hd, rfl⟩ := List.mem_map.1 ho
      exact ⟨a, ha, hc, d, hd, rfl⟩
    · rw [if_neg hc] at ho; cases ho
  · rintro ⟨a, ha, hc, d, hd, rfl⟩
    exact ⟨a, ha, by rw [if_pos hc]; exact List.mem_map.2 ⟨d, hd, rfl⟩⟩
theorem opts_nodup {ps : List Pc} {ag : List Int} (hg : ag.Nodup) : ∀ {own : List Nat}, own.Nodup → (optsOf ps own ag).Nodup
  | [], _ => by simp [optsOf]
  | a :: l, h => by
    have hn := List.nodup_cons.1 h
    have ih := opts_nodup (ps := ps) hg hn.2
    have e : optsOf ps (a :: l) ag = (if canAt ps a = true then ag.map fun d => ((8, (a : Int), d) : Op3) else []) ++ optsOf ps l ag := by simp [optsOf]
    rw [e, List.nodup_append]
    refine ⟨?_, ih, ?_⟩
    · split
      · rw [List.nodup_iff_pairwise_ne, List.pairwise_map]
        rw [List.nodup_iff_pairwise_ne] at hg
        exact hg.imp fun h e => h (by simpa using e)
      · exact List.nodup_nil
    · intro x hx y hy hxy
      subst hxy
      obtain ⟨b, hb, -, d, -, rfl⟩ := mem_opts.1 hy
      split at hx
      · obtain ⟨d', -, hd⟩ := List.mem_map.1 hx
        simp only [Prod.mk.injEq] at hd
        have : a = b := by omega
        exact hn.1 (this ▸ hb)
      · cases hx
theorem tarL_nodup {ids : List Nat} (h : ids.Nodup) : (tarL ids).Nodup := by
  unfold tarL
  split
  · simp
  · rw [List.nodup_iff_pairwise_ne, List.pairwise_map]
    rw [List.nodup_iff_pairwise_ne] at h
    exact h.imp fun h e => h (by omega)
theorem OptsAt.cell {w : World} {b : Nat} {v : Value} {l : List Op3} (h : OptsAt w b v l) (hn : l ≠ []) : ∃ g cap, v = .slice (some ⟨g, 0, none⟩) l.length cap ∧ l.length ≤ cap ∧ g < w.heap.size ∧ ∀ (i : Nat) (o : Op3), l[i]? = some o → w.cell? ⟨g, i * 3, none⟩ = some (.int .u8 o.1) ∧ w.cell? ⟨g, i * 3 + 1, none⟩ = some (.int .i64 o.2.1) ∧ w.cell? ⟨g, i * 3 + 2, none⟩ = some (.int .i64 o.2.2) := by
  rcases h.2 with ⟨-, h0⟩ | ⟨g, cap, cur, rfl, hbg, hh, hc, hm, hs, ht⟩
  · exact absurd (List.eq_nil_of_length_eq_zero h0) hn
  · refine ⟨g, cap, rfl, hc, heap_lt hh, fun i o ho => ?_⟩
    have hi := (List.getElem?_eq_some_iff.1 ho).1
    have hcell : ∀ j u, j < 3 → (opV o)[j]? = some u → w.cell? ⟨g, i * 3 + j, none⟩ = some u := by
      intro j u hj hu
      have hf := flat_get (size := 3) (l.map opV) (fun c hc => by obtain ⟨p, -, rfl⟩ := List.mem_map.1 hc; rfl) i j (opV o) (by simp [ho]) hj
      rw [hu] at hf
      have h1 : (cur.toList.take (l.length * 3))[i * 3 + j]? = (opsV l)[i * 3 + j]? := by rw [ht]
      rw [List.getElem?_take_of_lt (by omega)] at h1
      rw [cell_blk hh, ← Array.getElem?_toList, h1]
      exact hf
    exact ⟨by simpa using hcell 0 _ (by omega) rfl, hcell 1 _ (by omega) rfl, hcell 2 _ (by omega) rfl⟩

set_option maxHeartbeats 4000000 in
set_option maxRecDepth 100000 in
theorem attacks_nomay (t : Tb) (xs : List Cd) (ps : List Pc) (h : Nat) (w : World) (hT : TabIn w t xs ps) (hN : ¬ (LifeOk t ∧ GoodB xs ps)) : Calls Try.prog 11 #[.agg t.row, .int .u8 h] w fun e w' => e = .returned (.slice none 0 0) ∧ Below w.heap.size w w' := by
  have hmay := Lib.hid fun (W : World) (hb : Below w.heap.size w W) => bmay_no t xs ps W (hT.below hb) hN
  clear hT hN
  obtain ⟨w0, hw0⟩ : ∃ w0, w0 = w.alloc (.cells t.row 28) := ⟨_, rfl⟩
  have hb0 : Below w.heap.size w w0 := by rw [hw0]; exact (Below.refl _ _).alloc (Nat.le_refl _) _
  have HB0 := Lib.hid hb0
  have HW0 := Lib.hid hw0
  clear hb0 hw0
  simp only [Tb.row] at *
  go_enter Try.func11, Try.ntmps11
  go_wp2_with fail
  rw [← HW0.out]
  (with_reducible refine (hmay.out _ HB0.out).mono ?_)
  rintro e w1 ⟨rfl, b1⟩
  have HB1 := Lib.hid (HB0.out.trans (b1.mono HB0.out.size))
  clear b1
  go_wp2_with fail
  go_ret
  exact ⟨rfl, HB1.out⟩
set_option maxHeartbeats 4000000 in
set_option maxRecDepth 100000 in
theorem attacks_nowho (t : Tb) (xs : List Cd) (ps : List Pc) (h : Nat) (w : World) (hT : TabIn w t xs ps) (hL : LifeOk t) (hG : GoodB xs ps) (hh : (h : Int) > 1) : Calls Try.prog 11 #[.agg t.row, .int .u8 h] w fun e w' => e = .returned (.slice none 0 0) ∧ Below w.heap.size w w' := by
  have hmay := Lib.hid fun (W : World) (hb : Below w.heap.size w W) => bmay_yes t xs ps W (hT.below hb) hL hG
  clear hT hL hG
  obtain ⟨w0, hw0⟩ : ∃ w0, w0 = w.alloc (.cells t.row 28) := ⟨_, rfl⟩
  have hb0 : Below w.heap.size w w0 := by rw [hw0]; exact (Below.refl _ _).alloc (Nat.le_refl _) _
  have HB0 := Lib.hid hb0
  have HW0 := Lib.hid hw0
  clear hb0 hw0
  simp only [Tb.row] at *
  go_enter Try.func11, Try.ntmps11
  go_wp2_with fail
  rw [← HW0.out]
  (with_reducible refine (hmay.out _ HB0.out).mono ?_)
  rintro e w1 ⟨rfl, b1⟩
  have HB1 := Lib.hid (HB0.out.trans (b1.mono HB0.out.size))
  clear b1
  go_wp2_with fail
  go_ret
  exact ⟨rfl, HB1.out⟩

set_option maxHeartbeats 16000000 in
set_option maxRecDepth 100000 in
theorem lawmay_no (t : Tb) (xs : List Cd) (ps : List Pc) (h : Nat) (w : World) (hT : TabIn w t xs ps) (hN : ¬ (LifeOk t ∧ GoodB xs ps)) : Calls Try.prog 5 #[.agg t.row, .int .u8 h] w fun e w' => e = .returned (.bool true) ∧ Below w.heap.size w w' := by
  have hgr := Lib.hid fun W => fgreat_any t W
  have hliv := Lib.hid fun W => flives_any W
  have hat := Lib.hid fun (W : World) (hb : Below w.heap.size w W) => attacks_nomay t xs ps h W (hT.below hb) hN
  have hrm := Lib.hid fun (W : World) (hb : Below w.heap.size w W) => rmay_no t xs ps W (hT.below hb) hN
  clear hT hN
  obtain ⟨w0, hw0⟩ : ∃ w0, w0 = w.alloc (.cells t.row 28) := ⟨_, rfl⟩
  have hb0 : Below w.heap.size w w0 := by rw [hw0]; exact (Below.refl _ _).alloc (Nat.le_refl _) _
  have hx0 : w0.heap[w.heap.size]? = some (.cells t.row 28 (0, 0)) := by rw [hw0]; exact heap_alloc_new _ _
  have HB0 := Lib.hid hb0
  have HX0 := Lib.hid hx0
  have HW0 := Lib.hid hw0
  clear hb0 hx0 hw0
  simp only [Tb.row] at *
  go_enter Try.func5, Try.ntmps5
  go_wp2_with fail
  rw [← HW0.out]
  (with_reducible refine (hgr.out _).mono ?_)
  rintro e w1 ⟨⟨bg, rfl⟩, b1⟩
  have HB1 := Lib.hid (HB0.out.trans (b1.mono HB0.out.size))
  have HX1 := Lib.hid ((b1.block _ (heap_lt HX0.out)).trans HX0.out)
  clear b1
  cases bg with
  | true =>
    go_wp2_with fail
    (with_reducible refine (hliv.out _).mono ?_)
    rintro e w2 ⟨rfl, b2⟩
    have HB2 := Lib.hid (HB1.out.trans (b2.mono HB1.out.size))
    clear b2
    go_wp2_with fail
    go_ret
    exact ⟨rfl, HB2.out⟩
  | false =>
    have hlt1 := heap_lt HX1.out
    have y0 := cell_blk (i := 0) HX1.out
    have y1 := cell_blk (i := 1) HX1.out
    have y2 := cell_blk (i := 2) HX1.out
    have y3 := cell_blk (i := 3) HX1.out
    have y4 := cell_blk (i := 4) HX1.out
    have y5 := cell_blk (i := 5) HX1.out
    have y6 := cell_blk (i := 6) HX1.out
    have y7 := cell_blk (i := 7) HX1.out
    have y8 := cell_blk (i := 8) HX1.out
    have y9 := cell_blk (i := 9) HX1.out
    simp at y0 y1 y2 y3 y4 y5 y6 y7 y8 y9
    go_wp2_with fail
    (with_reducible refine (hat.out _ HB1.out).mono ?_)
    rintro e w2 ⟨rfl, b2⟩
    have HB2 := Lib.hid (HB1.out.trans (b2.mono HB1.out.size))
    have HX2 := Lib.hid ((b2.block _ (heap_lt HX1.out)).trans HX1.out)
    clear b2
    clear y0 y1 y2 y3 y4 y5 y6 y7 y8 y9 hlt1
    have hlt2 := heap_lt HX2.out
    have y0 := cell_blk (i := 0) HX2.out
    have y1 := cell_blk (i := 1) HX2.out
    have y2 := cell_blk (i := 2) HX2.out
    have y3 := cell_blk (i := 3) HX2.out
    have y4 := cell_blk (i := 4) HX2.out
    have y5 := cell_blk (i := 5) HX2.out
    have y6 := cell_blk (i := 6) HX2.out
    have y7 := cell_blk (i := 7) HX2.out
    have y8 := cell_blk (i := 8) HX2.out
    have y9 := cell_blk (i := 9) HX2.out
    simp at y0 y1 y2 y3 y4 y5 y6 y7 y8 y9
    go_wp2_with fail
    (with_reducible refine (hrm.out _ HB2.out).mono ?_)
    rintro e w3 ⟨rfl, b3⟩
    have HB3 := Lib.hid (HB2.out.trans (b3.mono HB2.out.size))
    clear b3 y0 y1 y2 y3 y4 y5 y6 y7 y8 y9
    go_wp2_with fail
    (with_reducible refine (hliv.out _).mono ?_)
    rintro e w4 ⟨rfl, b4⟩
    have HB4 := Lib.hid (HB3.out.trans (b4.mono HB3.out.size))
    clear b4
    go_wp2_with fail
    go_ret
    exact ⟨rfl, HB4.out⟩

set_option maxHeartbeats 16000000 in
set_option maxRecDepth 100000 in
theorem lawmay_who (t : Tb) (xs : List Cd) (ps : List Pc) (h : Nat) (w : World) (hT : TabIn w t xs ps) (hL : LifeOk t) (hG : GoodB xs ps) (hh : (h : Int) > 1) : Calls Try.prog 5 #[.agg t.row, .int .u8 h] w fun e w' => e = .returned (.bool true) ∧ Below w.heap.size w w' := by
  have hgr := Lib.hid fun W => fgreat_any t W
  have hliv := Lib.hid fun W => flives_any W
  have hat := Lib.hid fun (W : World) (hb : Below w.heap.size w W) => attacks_nowho t xs ps h W (hT.below hb) hL hG hh
  have hrm := Lib.hid fun (W : World) (hb : Below w.heap.size w W) => rmay_yes t xs ps W (hT.below hb) hL hG
  clear hT hL hG
  obtain ⟨w0, hw0⟩ : ∃ w0, w0 = w.alloc (.cells t.row 28) := ⟨_, rfl⟩
  have hb0 : Below w.heap.size w w0 := by rw [hw0]; exact (Below.refl _ _).alloc (Nat.le_refl _) _
  have hx0 : w0.heap[w.heap.size]? = some (.cells t.row 28 (0, 0)) := by rw [hw0]; exact heap_alloc_new _ _
  have HB0 := Lib.hid hb0
  have HX0 := Lib.hid hx0
  have HW0 := Lib.hid hw0
  clear hb0 hx0 hw0
  simp only [Tb.row] at *
  go_enter Try.func5, Try.ntmps5
  go_wp2_with fail
  rw [← HW0.out]
  (with_reducible refine (hgr.out _).mono ?_)
  rintro e w1 ⟨⟨bg, rfl⟩, b1⟩
  have HB1 := Lib.hid (HB0.out.trans (b1.mono HB0.out.size))
  have HX1 := Lib.hid ((b1.block _ (heap_lt HX0.out)).trans HX0.out)
  clear b1
  cases bg with
  | true =>
    go_wp2_with fail
    (with_reducible refine (hliv.out _).mono ?_)
    rintro e w2 ⟨rfl, b2⟩
    have HB2 := Lib.hid (HB1.out.trans (b2.mono HB1.out.size))
    clear b2
    go_wp2_with fail
    go_ret
    exact ⟨rfl, HB2.out⟩
  | false =>
    have hlt1 := heap_lt HX1.out
    have y0 := cell_blk (i := 0) HX1.out
    have y1 := cell_blk (i := 1) HX1.out
    have y2 := cell_blk (i := 2) HX1.out
    have y3 := cell_blk (i := 3) HX1.out
    have y4 := cell_blk (i := 4) HX1.out
    have y5 := cell_blk (i := 5) HX1.out
    have y6 := cell_blk (i := 6) HX1.out
    have y7 := cell_blk (i := 7) HX1.out
    have y8 := cell_blk (i := 8) HX1.out
    have y9 := cell_blk (i := 9) HX1.out
    simp at y0 y1 y2 y3 y4 y5 y6 y7 y8 y9
    go_wp2_with fail
    (with_reducible refine (hat.out _ HB1.out).mono ?_)
    rintro e w2 ⟨rfl, b2⟩
    have HB2 := Lib.hid (HB1.out.trans (b2.mono HB1.out.size))
    have HX2 := Lib.hid ((b2.block _ (heap_lt HX1.out)).trans HX1.out)
    clear b2
    clear y0 y1 y2 y3 y4 y5 y6 y7 y8 y9 hlt1
    have hlt2 := heap_lt HX2.out
    have y0 := cell_blk (i := 0) HX2.out
    have y1 := cell_blk (i := 1) HX2.out
    have y2 := cell_blk (i := 2) HX2.out
    have y3 := cell_blk (i := 3) HX2.out
    have y4 := cell_blk (i := 4) HX2.out
    have y5 := cell_blk (i := 5) HX2.out
    have y6 := cell_blk (i := 6) HX2.out
    have y7 := cell_blk (i := 7) HX2.out
    have y8 := cell_blk (i := 8) HX2.out
    have y9 := cell_blk (i := 9) HX2.out
    simp at y0 y1 y2 y3 y4 y5 y6 y7 y8 y9
    go_wp2_with fail
    (with_reducible refine (hrm.out _ HB2.out).mono ?_)
    rintro e w3 ⟨rfl, b3⟩
    have HB3 := Lib.hid (HB2.out.trans (b3.mono HB2.out.size))
    clear b3 y0 y1 y2 y3 y4 y5 y6 y7 y8 y9
    go_wp2_with fail
    (with_reducible refine (hliv.out _).mono ?_)
    rintro e w4 ⟨rfl, b4⟩
    have HB4 := Lib.hid (HB3.out.trans (b4.mono HB3.out.size))
    clear b4
    go_wp2_with fail
    go_ret
    exact ⟨rfl, HB4.out⟩

set_option maxHeartbeats 16000000 in
set_option maxRecDepth 100000 in
theorem lawmay_yes (t : Tb) (xs : List Cd) (ps : List Pc) (h : Nat) (w : World) (hT : TabIn w t xs ps) (hfew : FewIn xs) (hL : LifeOk t) (hG : GoodB xs ps) (hh : h ≤ 1) : Calls Try.prog 5 #[.agg t.row, .int .u8 h] w fun e w' => e = .returned (.bool true) ∧ Below w.heap.size w w' := by
  have hgr := Lib.hid fun W => fgreat_any t W
  have hliv := Lib.hid fun W => flives_any W
  have hat := Lib.hid fun (W : World) (hb : Below w.heap.size w W) => attacks_any t xs ps h W (hT.below hb) hL hG hh
  have hrm := Lib.hid fun (W : World) (hb : Below w.heap.size w W) => rmay_yes t xs ps W (hT.below hb) hL hG
  have h1 := Lib.hid fun (W : World) (hb : Below w.heap.size w W) (a : Nat) (p : Pc) => outcome_nobody t xs ps a p W (hT.below hb) hL hG hfew
  have h2 := Lib.hid fun (W : World) (hb : Below w.heap.size w W) (a d : Nat) (p q : Pc) => outcome_two t xs ps a d p q W (hT.below hb) hL hG hfew
  have HT := Lib.hid hT
  have HF1 : Hid (∀ l : List Nat, l.Perm (idsIn ps h 2) → l.length ≤ 5) := Lib.hid fun l hl => by rw [hl.length_eq, idsIn_len]; exact row_few hG h
  have HF2 : Hid (∀ l : List Nat, l.Perm (idsIn ps (1 - h) 2) → l.length ≤ 5) := Lib.hid fun l hl => by rw [hl.length_eq, idsIn_len]; exact row_few hG (1 - h)
  have hnw : ¬ (h : Int) > 1 := by omega
  have HH := Lib.hid hh
  clear hT hL hG hfew hh
  obtain ⟨w0, hw0⟩ : ∃ w0, w0 = w.alloc (.cells t.row 28) := ⟨_, rfl⟩
  have hb0 : Below w.heap.size w w0 := by rw [hw0]; exact (Below.refl _ _).alloc (Nat.le_refl _) _
  have hx0 : w0.heap[w.heap.size]? = some (.cells t.row 28 (0, 0)) := by rw [hw0]; exact heap_alloc_new _ _
  have HB0 := Lib.hid hb0
  have HX0 := Lib.hid hx0
  have HW0 := Lib.hid hw0
  clear hb0 hx0 hw0
  simp only [Tb.row] at *
  go_enter Try.func5, Try.ntmps5
  go_wp2_with fail
  rw [← HW0.out]
  (with_reducible refine (hgr.out _).mono ?_)
  rintro e w1 ⟨⟨bg, rfl⟩, b1⟩
  have HB1 := Lib.hid (HB0.out.trans (b1.mono HB0.out.size))
  have HX1 := Lib.hid ((b1.block _ (heap_lt HX0.out)).trans HX0.out)
  clear b1
  cases bg with
  | true =>
    go_wp2_with fail
    (with_reducible refine (hliv.out _).mono ?_)
    rintro e w2 ⟨rfl, b2⟩
    have HB2 := Lib.hid (HB1.out.trans (b2.mono HB1.out.size))
    clear b2
    go_wp2_with fail
    go_ret
    exact ⟨rfl, HB2.out⟩
  | false =>
    have hlt1 := heap_lt HX1.out
    have y0 := cell_blk (i := 0) HX1.out
    have y1 := cell_blk (i := 1) HX1.out
    have y2 := cell_blk (i := 2) HX1.out
    have y3 := cell_blk (i := 3) HX1.out
    have y4 := cell_blk (i := 4) HX1.out
    have y5 := cell_blk (i := 5) HX1.out
    have y6 := cell_blk (i := 6) HX1.out
    have y7 := cell_blk (i := 7) HX1.out
    have y8 := cell_blk (i := 8) HX1.out
    have y9 := cell_blk (i := 9) HX1.out
    simp at y0 y1 y2 y3 y4 y5 y6 y7 y8 y9
    go_wp2_with fail
    (with_reducible refine (hat.out _ HB1.out).mono ?_)
    rintro e w2 ⟨⟨v, own, ids, rfl, hop, hpo, hpi, -, -⟩, b2⟩
    have HB2 := Lib.hid (HB1.out.trans (b2.mono HB1.out.size))
    have HX2 := Lib.hid ((b2.block _ (heap_lt HX1.out)).trans HX1.out)
    obtain ⟨L, hL⟩ : ∃ L, L = optsOf ps own (tarL ids) := ⟨_, rfl⟩
    rw [← hL] at hop
    obtain ⟨g, cap, rfl, hcap, hgl, hcells⟩ := hop.cell (by simp)
    have hnd : L.Nodup := by rw [hL]; exact opts_nodup (tarL_nodup (hpi.nodup_iff.2 idsIn_nodup)) (hpo.nodup_iff.2 idsIn_nodup)
    have hL25 : L.length ≤ 25 := by
      rw [hL]
      have h1 := optsOf_len ps (tarL ids) own
      have h2 := HF1.out own hpo
      have h3 := tarL_len (HF2.out ids hpi)
      have := Nat.mul_le_mul h2 h3
      omega
    have hmem : ∀ o ∈ L, ∃ (a : Nat) (p : Pc), o.1 = 8 ∧ o.2.1 = (a : Int) ∧ ps[a]? = some p ∧ p.hs = h ∧ attB p = true ∧ p.sk = false ∧ (o.2.2 = -1 ∨ ∃ (d : Nat) (q : Pc), o.2.2 = (d : Int) ∧ ps[d]? = some q ∧ tarB q (1 - p.hs) = true) := fun o ho => by
      rw [hL] at ho
      obtain ⟨a, ha, hc, d, hd, rfl⟩ := mem_opts.1 ho
      obtain ⟨p, hp, hph, hpz⟩ := idsIn_mem.1 (hpo.mem_iff.1 ha)
      unfold canAt at hc
      rw [hp] at hc
      simp only [Bool.and_eq_true, Bool.not_eq_true'] at hc
      refine ⟨a, p, rfl, rfl, hp, hph, hc.1, hc.2, ?_⟩
      unfold tarL at hd
      split at hd
      · exact .inl (by simpa using hd)
      · obtain ⟨j, hj, rfl⟩ := List.mem_map.1 hd
        obtain ⟨q, hq, hqh, hqz⟩ := idsIn_mem.1 (hpi.mem_iff.1 hj)
        exact .inr ⟨j, q, rfl, hq, by unfold tarB; rw [hph]; simp [hqh, hqz]⟩
    obtain ⟨N, hN⟩ : ∃ N, L.length = N := ⟨_, rfl⟩
    obtain ⟨n, hn⟩ : ∃ n, (L ++ [((9, -1, -1) : Op3)]).length = n := ⟨_, rfl⟩
    have hnN : n = N + 1 := by rw [← hn, List.length_append, hN]; rfl
    rw [hn] at hcap ⊢
    rw [hN] at hL25
    have hend := hcells N (9, -1, -1) (by rw [List.getElem?_append_right (by omega)]; simp [hN])
    have hrow : ∀ (i : Nat) (o : Op3), L[i]? = some o → w2.cell? ⟨g, i * 3, none⟩ = some (.int .u8 o.1) ∧ w2.cell? ⟨g, i * 3 + 1, none⟩ = some (.int .i64 o.2.1) ∧ w2.cell? ⟨g, i * 3 + 2, none⟩ = some (.int .i64 o.2.2) := fun i o ho => hcells i o (by rw [List.getElem?_append_left (List.getElem?_eq_some_iff.1 ho).1]; exact ho)
    have HROW := Lib.hid hrow
    have HMEM := Lib.hid hmem
    have HND := Lib.hid hnd
    have HNN := Lib.hid hN
    have HEND := Lib.hid hend
    have n0 : ((n : Int) == 0) = false := by (first | (simp; done) | (simp; omega))
    have n1 : IntKind.i64.wrap ((n : Int) - 1) = (N : Int) := by rw [IntWalk.i64_in _ (by omega)]; omega
    have n2 : (0 : Int) ≤ (N : Int) := by omega
    have n3 : (N : Int) < (n : Int) := by omega
    have n4 : (N : Int) ≤ (cap : Int) := by omega
    have n5 : N ≤ cap := by omega
    have HNC := Lib.hid hnN
    clear hop hpo hpi hcells hnd hmem hN hn hnN hend hrow b2 hL hcap
    clear y0 y1 y2 y3 y4 y5 y6 y7 y8 y9 hlt1
    have hlt2 := heap_lt HX2.out
    have y0 := cell_blk (i := 0) HX2.out
    have y1 := cell_blk (i := 1) HX2.out
    have y2 := cell_blk (i := 2) HX2.out
    have y3 := cell_blk (i := 3) HX2.out
    have y4 := cell_blk (i := 4) HX2.out
    have y5 := cell_blk (i := 5) HX2.out
    have y6 := cell_blk (i := 6) HX2.out
    have y7 := cell_blk (i := 7) HX2.out
    have y8 := cell_blk (i := 8) HX2.out
    have y9 := cell_blk (i := 9) HX2.out
    simp at y0 y1 y2 y3 y4 y5 y6 y7 y8 y9
    go_wp2_with fail
    (with_reducible refine (hrm.out _ HB2.out).mono ?_)
    rintro e w3 ⟨rfl, b3⟩
    have HB3 := Lib.hid (HB2.out.trans (b3.mono HB2.out.size))
    have b3' := b3
    have hg3 : g < w3.heap.size := Nat.lt_of_lt_of_le hgl b3.size
    have HX3 := Lib.hid ((b3.block _ (heap_lt HX2.out)).trans HX2.out)
    have e0 := cell_later b3 HEND.out.1
    have e1 := cell_later b3 HEND.out.2.1
    have e2 := cell_later b3 HEND.out.2.2
    have HROW3 : Hid (∀ (i : Nat) (o : Op3), L[i]? = some o → w3.cell? ⟨g, i * 3, none⟩ = some (.int .u8 o.1) ∧ w3.cell? ⟨g, i * 3 + 1, none⟩ = some (.int .i64 o.2.1) ∧ w3.cell? ⟨g, i * 3 + 2, none⟩ = some (.int .i64 o.2.2)) := Lib.hid fun i o ho => ⟨cell_later b3' (HROW.out i o ho).1, cell_later b3' (HROW.out i o ho).2.1, cell_later b3' (HROW.out i o ho).2.2⟩
    simp only [Int.cast_ofNat_Int] at e0
    have q0 : ∀ W : World, Sem.run Try.prog (Op.equalIn 10000 41 (.agg #[.int .u8 9, .int .i64 (-1), .int .i64 (-1)]) (.agg #[.int .u8 9, .int .i64 (-1), .int .i64 (-1)])) W = .ok true W := fun W => by kernel_rfl
    clear b3 b3' y0 y1 y2 y3 y4 y5 y6 y7 y8 y9 HROW HEND hgl hlt2
    go_wp2_with fail
    clear e0 e1 e2 q0
    go_loopw [50] (fun vi wr => ∃ i : Nat, vi = .int .i64 i ∧ i ≤ N ∧ Below w3.heap.size w3 wr) (fun vi _ => N - (RowKit.intOf vi).toNat)
    case atStart => exact ⟨0, by rfl, by omega, Below.refl _ _⟩
    case round =>
      obtain ⟨i, rfl, hi, hbw⟩ := hrel
      rename World => wA
      have HBW := Lib.hid hbw
      have HBw : Hid (Below w.heap.size w wA) := Lib.hid (HB3.out.trans (hbw.mono HB3.out.size))
      have HXA := Lib.hid ((hbw.block _ (heap_lt HX3.out)).trans HX3.out)
      have hgA : g < wA.heap.size := Nat.lt_of_lt_of_le hg3 hbw.size
      clear hbw
      by_cases hlt : i < N
      · obtain ⟨x, hx⟩ : ∃ x, L[i]? = some x := ⟨L[i]'(by rw [HNN.out]; exact hlt), List.getElem?_eq_getElem _⟩
        obtain ⟨a, p, h8, ha, hp, hph, hat', hsk, hd⟩ := HMEM.out x (List.mem_of_getElem? hx)
        obtain ⟨x1, x2, x3⟩ := x
        simp only at h8 ha hd
        subst h8 ha
        have hr3 := HROW3.out i _ hx
        have r0 := cell_later HBW.out hr3.1
        have r1 := cell_later HBW.out hr3.2.1
        have r2 := cell_later HBW.out hr3.2.2
        simp only [Int.cast_ofNat_Int] at r0
        obtain ⟨gp, op, hq, hgp, hc⟩ := HT.out.piece hp
        have hal : a < t.np := by rw [HT.out.np.1]; exact (List.getElem?_eq_some_iff.1 hp).1
        have HC4 := Lib.hid (hc 4 _ rfl)
        have HC11 := Lib.hid (hc 11 _ rfl)
        have hout : Hid (∀ W, Below w.heap.size w W → ∃ o, Calls Try.prog 9 #[.agg t.row, .int .i64 a, .int .i64 x3] W (OutEnds o 0 W)) := Lib.hid fun W hb => by
          rcases hd with rfl | ⟨d, q, rfl, hq', hopp⟩
          · exact ⟨_, h1.out W hb a p hp hat'⟩
          · exact ⟨_, h2.out W hb a d p q hp hq' hat' hopp⟩
        have hne := Lib.hid fun (k : Nat) (y : Op3) (hk : k < i) (hy : L[k]? = some y) => show y ≠ (8, (a : Int), x3) from fun e => by
          subst e
          have h1 := (List.getElem?_inj (List.getElem?_eq_some_iff.1 hy).1 HND.out).1 (hy.trans hx.symm)
          omega
        have hhs : ((p.hs : Int) != (h : Int)) = false := by rw [hph]; simp
        have HHS := Lib.hid hph
        have i0 : (0 : Int) ≤ (i : Int) := by omega
        have i1 : (i : Int) < (N : Int) := by omega
        have i2 : (0 : Int) ≤ (a : Int) := by omega
        have i3 : (a : Int) < (t.np : Int) := by omega
        have i4 : (i : Int) ≤ (cap : Int) := by omega
        have i5 : i ≤ cap := by omega
        have i6 : i ≤ N := by omega
        have hltA := heap_lt HXA.out
        clear hx hd hp hph hat' hc hr3
        simp only [Tb.row] at hout
        rw [hq] at hout HXA ⊢
        have y0 := cell_blk (i := 0) HXA.out
        have y1 := cell_blk (i := 1) HXA.out
        have y2 := cell_blk (i := 2) HXA.out
        have y3 := cell_blk (i := 3) HXA.out
        have y4 := cell_blk (i := 4) HXA.out
        have y5 := cell_blk (i := 5) HXA.out
        have y6 := cell_blk (i := 6) HXA.out
        have y7 := cell_blk (i := 7) HXA.out
        have y8 := cell_blk (i := 8) HXA.out
        have y9 := cell_blk (i := 9) HXA.out
        simp at y0 y1 y2 y3 y4 y5 y6 y7 y8 y9
        go_wp2_with fail
        obtain ⟨o, hcall⟩ := hout.out _ (HBw.out.alloc HBw.out.size (.cells #[.int .u8 8, .int .i64 a, .int .i64 x3] 41))
        refine hcall.mono ?_
        rintro e w4 ⟨⟨v, rfl, -⟩, b4⟩
        have bA4 : Below wA.heap.size wA w4 := ((Below.refl _ wA).alloc (Nat.le_refl _) _).trans (b4.mono (by simp))
        have HO4 := Lib.hid ((b4.block wA.heap.size (by simp)).trans (heap_alloc_new _ _))
        have HX4 := Lib.hid ((bA4.block _ (heap_lt HXA.out)).trans HXA.out)
        have HBW4 := Lib.hid (HBW.out.trans (bA4.mono HBW.out.size))
        have HBw4 := Lib.hid (HBw.out.trans (bA4.mono HBw.out.size))
        have c4 := cell_later HBw4.out HC4.out
        have c11 := cell_later HBw4.out HC11.out
        rw [hsk] at c11
        have hgp4 : gp < w4.heap.size := Nat.lt_of_lt_of_le hgp HBw4.out.size
        have hlt4 := heap_lt HX4.out
        have hlo4 := heap_lt HO4.out
        clear hcall b4 bA4 r0 r1 r2 y0 y1 y2 y3 y4 y5 y6 y7 y8 y9 hltA hgA
        have y1 := cell_blk (i := 1) HX4.out
        have o0 := cell_blk (i := 0) HO4.out
        have o1 := cell_blk (i := 1) HO4.out
        have o2 := cell_blk (i := 2) HO4.out
        simp at y1 o0 o1 o2
        obtain ⟨w5, hw5⟩ : ∃ w5, w5 = w4.alloc (.cells #[.int .i64 o.1.1, .int .i64 o.1.2] 24) := ⟨_, rfl⟩
        have b45 : Below w4.heap.size w4 w5 := by rw [hw5]; exact (Below.refl _ _).alloc (Nat.le_refl _) _
        have HO5 := Lib.hid ((b45.block _ hlo4).trans HO4.out)
        have HBW5 := Lib.hid (HBW4.out.trans (b45.mono HBW4.out.size))
        have HW5 := Lib.hid hw5
        clear hw5 b45
        go_wp2_with fail
        rw [← HW5.out]
        go_loopw [96] (fun vk wr => ∃ k : Nat, vk = .int .i64 k ∧ k ≤ i ∧ Below w5.heap.size w5 wr) (fun vk _ => i - (RowKit.intOf vk).toNat)
        case atStart => exact ⟨0, by rfl, by omega, Below.refl _ _⟩
        case round =>
          obtain ⟨k, rfl, hk, hbw⟩ := hrel
          rename World => wD
          have HBD := Lib.hid (HBW5.out.trans (hbw.mono HBW5.out.size))
          have HOD := Lib.hid ((hbw.block _ (heap_lt HO5.out)).trans HO5.out)
          have HBQ := Lib.hid hbw
          clear hbw
          by_cases hltk : k < i
          · obtain ⟨y, hy⟩ : ∃ y, L[k]? = some y := ⟨L[k]'(by rw [HNN.out]; omega), List.getElem?_eq_getElem _⟩
            have hyne := hne.out k y hltk hy
            have hr3 := HROW3.out k _ hy
            have s0 := cell_later HBD.out hr3.1
            have s1 := cell_later HBD.out hr3.2.1
            have s2 := cell_later HBD.out hr3.2.2
            have hq := fun W => opt_eqIn y (8, (a : Int), x3) W
            rw [decide_eq_false hyne] at hq
            obtain ⟨y1, y2, y3⟩ := y
            simp only [Int.cast_ofNat_Int] at s0 s1 s2 hq
            have p0 := cell_blk (i := 0) HOD.out
            have p1 := cell_blk (i := 1) HOD.out
            have p2 := cell_blk (i := 2) HOD.out
            simp at p0 p1 p2
            have k0 : (0 : Int) ≤ (k : Int) := by omega
            have k1 : (k : Int) < (i : Int) := by omega
            have k2 : (k : Int) < (n : Int) := by have := HNC.out; omega
            clear hy hyne hr3
            go_wp2_with fail
            refine wp_region_held_drew (S := fun w' => w'.cell? ⟨g, k * 3, none⟩ = some (.int .u8 y1) ∧ w'.cell? ⟨g, k * 3 + 1, none⟩ = some (.int .i64 y2) ∧ w'.cell? ⟨g, k * 3 + 2, none⟩ = some (.int .i64 y3) ∧ w'.cell? ⟨wA.heap.size, 0, none⟩ = some (.int .u8 8) ∧ w'.cell? ⟨wA.heap.size, 1, none⟩ = some (.int .i64 a) ∧ w'.cell? ⟨wA.heap.size, 2, none⟩ = some (.int .i64 x3)) (by kernel_rfl) (by (repeat' apply And.intro) <;> go_keep) (fun hHeld => ?_)
            refine take_at (i := 0) (v := ?_) rfl (by kernel_rfl) (by kernel_rfl) (by kernel_rfl) (fun _ _ _ h => h) (Or.inl ⟨by rfl, ?_⟩) hHeld ?_
            rotate_left
            · intro w hSw
              (try dsimp only at hSw)
              go_simp
              try with_reducible rfl
            try simp only [Act.put, List.setIfInBounds_toArray, List.set_cons_zero, List.set_cons_succ]
            try dsimp only
            refine take_at (i := 1) (v := ?_) rfl (by kernel_rfl) (by kernel_rfl) (by kernel_rfl) (fun _ _ _ h => h) (Or.inl ⟨by rfl, ?_⟩) hHeld ?_
            rotate_left
            · intro w hSw
              (try dsimp only at hSw)
              go_simp
              try with_reducible rfl
            try simp only [Act.put, List.setIfInBounds_toArray, List.set_cons_zero, List.set_cons_succ]
            try dsimp only
            refine take_at (i := 2) (v := ?_) rfl (by kernel_rfl) (by kernel_rfl) (by kernel_rfl) (fun _ _ _ h => h) (Or.inl ⟨by rfl, ?_⟩) hHeld ?_
            rotate_left
            · intro w hSw
              (try dsimp only at hSw)
              go_simp
              try with_reducible rfl
            try simp only [Act.put, List.setIfInBounds_toArray, List.set_cons_zero, List.set_cons_succ]
            try dsimp only
            refine take_at (i := 3) (v := ?_) rfl (by kernel_rfl) (by kernel_rfl) (by kernel_rfl) (fun _ _ _ h => h) (Or.inl ⟨by rfl, ?_⟩) hHeld ?_
            rotate_left
            · intro w hSw
              (try dsimp only at hSw)
              go_simp
              try with_reducible rfl
            try simp only [Act.put, List.setIfInBounds_toArray, List.set_cons_zero, List.set_cons_succ]
            try dsimp only
            refine take_at (i := 4) (v := ?_) rfl (by kernel_rfl) (by kernel_rfl) (by kernel_rfl) (fun _ _ _ h => h) (Or.inl ⟨by rfl, ?_⟩) hHeld ?_
            rotate_left
            · intro w hSw
              (try dsimp only at hSw)
              go_simp
              try with_reducible rfl
            try simp only [Act.put, List.setIfInBounds_toArray, List.set_cons_zero, List.set_cons_succ]
            try dsimp only
            refine take_at (i := 5) (v := ?_) rfl (by kernel_rfl) (by kernel_rfl) (by kernel_rfl) (fun _ _ _ h => h) (Or.inl ⟨by rfl, ?_⟩) hHeld ?_
            rotate_left
            · intro w hSw
              (try dsimp only at hSw)
              go_simp
              try with_reducible rfl
            try simp only [Act.put, List.setIfInBounds_toArray, List.set_cons_zero, List.set_cons_succ]
            try dsimp only
            refine wpAnyH_done (by kernel_rfl) ?_ _
            go_wp2_with fail
            go_roundw
            case rel => exact ⟨k + 1, by go_num, by omega, HBQ.out.drew⟩
            case measure => simp [RowKit.intOf]; omega
          · obtain rfl : k = i := by omega
            go_wp2_with fail
            go_roundw
            case rel => exact ⟨k + 1, by go_num, by omega, HBD.out⟩
            case measure => simp [RowKit.intOf]; omega
      · obtain rfl : i = N := by omega
        go_wp2_with fail
        (with_reducible refine (hliv.out _).mono ?_)
        rintro e w4 ⟨rfl, b4⟩
        have HB4 := Lib.hid (HBw.out.trans (b4.mono HBw.out.size))
        clear b4
        go_wp2_with fail
        go_ret
        exact ⟨rfl, HB4.out⟩
end Go.Proofs.Ytfdehhibgdeedaa
