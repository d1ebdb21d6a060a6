/- joustlaw15.FightFair: it answers true where no fight is, where nobody is fought. -/
import Derived.Test.YtppgfkdkopfebaaFtLives
import Derived.Test.YtppgfkdkopfebaaRfAttack
namespace Go.Proofs.Ytppgfkdkopfebaa
open Go.RowKit Go.Lib

theorem IntsOwn.none' {w : World} {b : Nat} {v : Value} (h : IntsOwn w b v []) : ∃ (ao : Option Addr) (c : Nat), v = .slice ao 0 c := by
  rcases h.2 with ⟨hv, h0⟩ | ⟨g, cap, cur, hv, r⟩
  · exact ⟨_, _, hv⟩
  · exact ⟨_, _, hv⟩
theorem IntsOwn.some' {w : World} {b : Nat} {v : Value} {l : List Int} (h : IntsOwn w b v l) (hn : l ≠ []) : ∃ (g cap : Nat), v = .slice (some ⟨g, 0, none⟩) l.length cap ∧ g < w.heap.size ∧ ∀ (i : Nat) (x : Int), l[i]? = some x → w.cell? ⟨g, i, none⟩ = some (.int .i64 x) := by
  rcases h.2 with ⟨-, h0⟩ | ⟨g, cap, cur, hv, hbg, hh, r⟩
  · exact absurd (List.eq_nil_of_length_eq_zero h0) hn
  · refine ⟨g, cap, hv, heap_lt hh, fun i x hx => ?_⟩
    subst hv
    obtain ⟨g', -, -, ⟨cw, hcw⟩, hc⟩ := h.cell.2 i x hx
    simp only [Value.slice.injEq, Option.some.injEq, Addr.mk.injEq] at hcw
    obtain ⟨⟨rfl, -⟩, -⟩ := hcw
    exact hc
theorem IntsOwn.one' {w : World} {b : Nat} {v : Value} {x : Int} (h : IntsOwn w b v [x]) : ∃ (g cap : Nat), v = .slice (some ⟨g, 0, none⟩) 1 cap ∧ g < w.heap.size ∧ w.cell? ⟨g, 0, none⟩ = some (.int .i64 x) := by
  obtain ⟨g, cap, hv, hg, hc⟩ := h.some' (by simp)
  exact ⟨g, cap, hv, hg, hc 0 x rfl⟩
theorem IntsOwn.two' {w : World} {b : Nat} {v : Value} {x y : Int} (h : IntsOwn w b v [x, y]) : ∃ (g cap : Nat), v = .slice (some ⟨g, 0, none⟩) 2 cap ∧ g < w.heap.size ∧ w.cell? ⟨g, 0, none⟩ = some (.int .i64 x) ∧ w.cell? ⟨g, 1, none⟩ = some (.int .i64 y) := by
  obtain ⟨g, cap, hv, hg, hc⟩ := h.some' (by simp)
  exact ⟨g, cap, hv, hg, hc 0 x rfl, hc 1 y rfl⟩
theorem two_eqd (d : Nat) (a b : Int) (W : World) : Sem.run Try.prog (Op.equalIn (d + 2) 24 (.agg #[.int .i64 a, .int .i64 b]) (.agg #[.int .i64 a, .int .i64 b])) W = .ok true W := by
  have hT : Try.prog.underlying 24 = some (.array 2 3) := by kernel_rfl
  have hI : Try.prog.underlying 3 = some (.int .i64) := by kernel_rfl
  have hS : (sizeOf 3).run Try.prog W = .ok 1 W := by kernel_rfl
  have h0 : ∀ (xs : Array Value) (i : Nat) (v : Value), xs[i]? = some v → (part 3 xs i).run Try.prog W = .ok v W := fun xs i v h => by
    simp [part, h]
  have hE : ∀ x : Int, (Op.equalIn (d + 1) 3 (.int .i64 x) (.int .i64 x)).run Try.prog W = .ok true W := fun x => by
    rw [run_equalIn_int W d 3 .i64 .i64 x x hI]; simp
  have p0 := h0 #[.int .i64 a, .int .i64 b] 0 _ rfl
  have p1 := h0 #[.int .i64 a, .int .i64 b] 1 _ rfl
  rw [show d + 2 = (d + 1) + 1 from rfl]
  generalize hd : d + 1 = m at hE ⊢
  simp only [Op.equalIn, Sem.run_bind, run_underlying hT, Result.andThen_ok, hS]
  simp [List.range', Sem.run_bind, p0, p1, hE]
theorem two_eq (a b : Int) (W : World) : Sem.run Try.prog (Op.equalIn 10000 24 (.agg #[.int .i64 a, .int .i64 b]) (.agg #[.int .i64 a, .int .i64 b])) W = .ok true W := two_eqd 9998 a b W

set_option maxHeartbeats 32000000 in
set_option maxRecDepth 100000 in
theorem lawfair_no (t : Tb) (a d : Int) (w : World) (ho : ∀ W, Below w.heap.size w W → Calls Try.prog 8 #[.agg t.row, .int .i64 a, .int .i64 d] W (OutEnds ((0, 0), []) 2 W)) : Calls Try.prog 4 #[.agg t.row, .int .i64 a, .int .i64 d] w fun e w' => e = .returned (.bool true) ∧ Below w.heap.size w w' := by
  have uw0 : IntKind.u8.wrap 0 = 0 := by kernel_rfl
  have uw1 : IntKind.u8.wrap 1 = 1 := by kernel_rfl
  have hgr := Lib.hid fun W => fgreat_any t W
  have hliv := Lib.hid fun W => flives_any W
  have ho := Lib.hid ho
  obtain ⟨w0, hw0⟩ : ∃ w0, w0 = w.alloc (.cells t.row 28) := ⟨_, rfl⟩
  have hb0 : Below w.heap.size w w0 := by rw [hw0]; exact (Below.refl _ _).alloc (Nat.le_refl _) _
  have hx0 : w0.heap[w.heap.size]? = some (.cells t.row 28 (0, 0)) := by rw [hw0]; exact heap_alloc_new _ _
  have HB0 := Lib.hid hb0
  have HX0 := Lib.hid hx0
  have HW0 := Lib.hid hw0
  clear hb0 hx0 hw0
  simp only [Tb.row] at *
  go_enter Try.func4, Try.ntmps4
  go_wp2_with fail
  rw [← HW0.out]
  (with_reducible refine (hgr.out _).mono ?_)
  rintro e w1 ⟨⟨bg, rfl⟩, b1⟩
  have HB1 := Lib.hid (HB0.out.trans (b1.mono HB0.out.size))
  have HX1 := Lib.hid ((b1.block _ (heap_lt HX0.out)).trans HX0.out)
  clear b1
  cases bg with
  | true =>
    go_wp2_with fail
    (with_reducible refine (hliv.out _).mono ?_)
    rintro e w2 ⟨rfl, b2⟩
    have HB2 := Lib.hid (HB1.out.trans (b2.mono HB1.out.size))
    clear b2
    go_wp2_with fail
    go_ret
    exact ⟨rfl, HB2.out⟩
  | false =>
    have hlt1 := heap_lt HX1.out
    have y0 := cell_blk (i := 0) HX1.out
    have y1 := cell_blk (i := 1) HX1.out
    have y2 := cell_blk (i := 2) HX1.out
    have y3 := cell_blk (i := 3) HX1.out
    have y4 := cell_blk (i := 4) HX1.out
    have y5 := cell_blk (i := 5) HX1.out
    have y6 := cell_blk (i := 6) HX1.out
    have y7 := cell_blk (i := 7) HX1.out
    have y8 := cell_blk (i := 8) HX1.out
    have y9 := cell_blk (i := 9) HX1.out
    simp at y0 y1 y2 y3 y4 y5 y6 y7 y8 y9
    go_wp2_with fail
    (with_reducible refine (ho.out _ HB1.out).mono ?_)
    rintro e w2 ⟨⟨v, rfl, hown⟩, b2⟩
    have HB2 := Lib.hid (HB1.out.trans (b2.mono HB1.out.size))
    have HX2 := Lib.hid ((b2.block _ (heap_lt HX1.out)).trans HX1.out)
    clear b2 hlt1 y0 y1 y2 y3 y4 y5 y6 y7 y8 y9
    obtain ⟨ao, c, rfl⟩ := hown.none'
    obtain ⟨w3, hw3⟩ : ∃ w3, w3 = w2.alloc (.cells #[.int .i64 (0), .int .i64 (0)] 24) := ⟨_, rfl⟩
    have b23 : Below w2.heap.size w2 w3 := by rw [hw3]; exact (Below.refl _ _).alloc (Nat.le_refl _) _
    have HY3 : Hid (w3.heap[w2.heap.size]? = some (.cells #[.int .i64 (0), .int .i64 (0)] 24 (0, 0))) := Lib.hid (by rw [hw3]; exact heap_alloc_new _ _)
    have HB3 := Lib.hid (HB2.out.trans (b23.mono HB2.out.size))
    have HX3 := Lib.hid ((b23.block _ (heap_lt HX2.out)).trans HX2.out)
    have HW3 := Lib.hid hw3
    have q0 := fun W => two_eq 0 0 W
    clear hown b23 hw3
    go_wp2_with fail
    rw [← HW3.out]
    (with_reducible refine (hliv.out _).mono ?_)
    rintro e w4 ⟨rfl, b4⟩
    have HB4 := Lib.hid (HB3.out.trans (b4.mono HB3.out.size))
    clear b4
    go_wp2_with fail
    go_ret
    exact ⟨rfl, HB4.out⟩

set_option maxHeartbeats 32000000 in
set_option maxRecDepth 100000 in
theorem lawfair_nobody0 (t : Tb) (a : Nat) (A : Int) (w : World) (hca : a < t.np ∧ ∃ g o, t.qp = some ⟨g, o, none⟩ ∧ w.cell? ⟨g, o + a * 14 + 4, none⟩ = some (.int .u8 0)) (hA : 0 ≤ A ∧ A ≤ 99999) (ho : ∀ W, Below w.heap.size w W → Calls Try.prog 8 #[.agg t.row, .int .i64 a, .int .i64 (-1)] W (OutEnds ((0, A), []) 0 W)) (hf : ∀ W, Below w.heap.size w W → Calls Try.prog 15 #[.agg t.row, .int .i64 a] W fun e w' => e = .returned (.int .i64 A) ∧ Below W.heap.size W w') : Calls Try.prog 4 #[.agg t.row, .int .i64 a, .int .i64 (-1)] w fun e w' => e = .returned (.bool true) ∧ Below w.heap.size w w' := by
  have uw0 : IntKind.u8.wrap 0 = 0 := by kernel_rfl
  have uw1 : IntKind.u8.wrap 1 = 1 := by kernel_rfl
  have hgr := Lib.hid fun W => fgreat_any t W
  have hliv := Lib.hid fun W => flives_any W
  have ho := Lib.hid ho
  have hf := Lib.hid hf
  obtain ⟨hal, g, o, hq, ca⟩ := hca
  have hgw := World.block_lt_of_cell? _ _ ca
  simp only at hgw
  have HCA := Lib.hid ca
  have i0 : (0 : Int) ≤ (a : Int) := by omega
  have i1 : (a : Int) < (t.np : Int) := by omega
  have nA : ¬ A < 0 := by omega
  clear ca hA
  obtain ⟨w0, hw0⟩ : ∃ w0, w0 = w.alloc (.cells t.row 28) := ⟨_, rfl⟩
  have hb0 : Below w.heap.size w w0 := by rw [hw0]; exact (Below.refl _ _).alloc (Nat.le_refl _) _
  have hx0 : w0.heap[w.heap.size]? = some (.cells t.row 28 (0, 0)) := by rw [hw0]; exact heap_alloc_new _ _
  have HB0 := Lib.hid hb0
  have HX0 := Lib.hid hx0
  have HW0 := Lib.hid hw0
  clear hb0 hx0 hw0
  simp only [Tb.row] at *
  rw [hq] at hgr ho hf HX0 HW0 ⊢
  clear hq
  go_enter Try.func4, Try.ntmps4
  go_wp2_with fail
  rw [← HW0.out]
  (with_reducible refine (hgr.out _).mono ?_)
  rintro e w1 ⟨⟨bg, rfl⟩, b1⟩
  have HB1 := Lib.hid (HB0.out.trans (b1.mono HB0.out.size))
  have HX1 := Lib.hid ((b1.block _ (heap_lt HX0.out)).trans HX0.out)
  clear b1
  cases bg with
  | true =>
    go_wp2_with fail
    (with_reducible refine (hliv.out _).mono ?_)
    rintro e w2 ⟨rfl, b2⟩
    have HB2 := Lib.hid (HB1.out.trans (b2.mono HB1.out.size))
    clear b2
    go_wp2_with fail
    go_ret
    exact ⟨rfl, HB2.out⟩
  | false =>
    have hlt1 := heap_lt HX1.out
    have y0 := cell_blk (i := 0) HX1.out
    have y1 := cell_blk (i := 1) HX1.out
    have y2 := cell_blk (i := 2) HX1.out
    have y3 := cell_blk (i := 3) HX1.out
    have y4 := cell_blk (i := 4) HX1.out
    have y5 := cell_blk (i := 5) HX1.out
    have y6 := cell_blk (i := 6) HX1.out
    have y7 := cell_blk (i := 7) HX1.out
    have y8 := cell_blk (i := 8) HX1.out
    have y9 := cell_blk (i := 9) HX1.out
    simp at y0 y1 y2 y3 y4 y5 y6 y7 y8 y9
    go_wp2_with fail
    (with_reducible refine (ho.out _ HB1.out).mono ?_)
    rintro e w2 ⟨⟨v, rfl, hown⟩, b2⟩
    have HB2 := Lib.hid (HB1.out.trans (b2.mono HB1.out.size))
    have HX2 := Lib.hid ((b2.block _ (heap_lt HX1.out)).trans HX1.out)
    clear b2 hlt1 y0 y1 y2 y3 y4 y5 y6 y7 y8 y9
    obtain ⟨ao, c, rfl⟩ := hown.none'
    obtain ⟨w3, hw3⟩ : ∃ w3, w3 = w2.alloc (.cells #[.int .i64 (0), .int .i64 (A)] 24) := ⟨_, rfl⟩
    have b23 : Below w2.heap.size w2 w3 := by rw [hw3]; exact (Below.refl _ _).alloc (Nat.le_refl _) _
    have HY3 : Hid (w3.heap[w2.heap.size]? = some (.cells #[.int .i64 (0), .int .i64 (A)] 24 (0, 0))) := Lib.hid (by rw [hw3]; exact heap_alloc_new _ _)
    have HB3 := Lib.hid (HB2.out.trans (b23.mono HB2.out.size))
    have HX3 := Lib.hid ((b23.block _ (heap_lt HX2.out)).trans HX2.out)
    have HW3 := Lib.hid hw3
    have ca := cell_later HB2.out HCA.out
    have hg2 : g < w2.heap.size := Nat.lt_of_lt_of_le hgw HB2.out.size
    have hlt2 := heap_lt HX2.out
    have y1 := cell_blk (i := 1) HX2.out
    simp at y1
    clear hown b23 hw3
    by_cases pA : A > 0
    · go_wp2_with fail
      rw [← HW3.out]
      clear y1 ca
      have y0 := cell_blk (i := 0) HX3.out
      have y1 := cell_blk (i := 1) HX3.out
      have y2 := cell_blk (i := 2) HX3.out
      have y3 := cell_blk (i := 3) HX3.out
      have y4 := cell_blk (i := 4) HX3.out
      have y5 := cell_blk (i := 5) HX3.out
      have y6 := cell_blk (i := 6) HX3.out
      have y7 := cell_blk (i := 7) HX3.out
      have y8 := cell_blk (i := 8) HX3.out
      have y9 := cell_blk (i := 9) HX3.out
      simp at y0 y1 y2 y3 y4 y5 y6 y7 y8 y9
      have z0 := cell_blk (i := 0) HY3.out
      have z1 := cell_blk (i := 1) HY3.out
      simp at z0 z1
      refine wp_region_held_drew (S := fun w' => w'.cell? ⟨w.heap.size, 0, none⟩ = some (.slice t.qk t.nk t.ck) ∧ w'.cell? ⟨w.heap.size, 1, none⟩ = some (.slice (some ⟨g, o, none⟩) t.np t.cp) ∧ w'.cell? ⟨w.heap.size, 2, none⟩ = some (.int .i64 t.l0) ∧ w'.cell? ⟨w.heap.size, 3, none⟩ = some (.int .i64 t.l1) ∧ w'.cell? ⟨w.heap.size, 4, none⟩ = some (.int .i64 t.tn) ∧ w'.cell? ⟨w.heap.size, 5, none⟩ = some (.int .u8 t.py) ∧ w'.cell? ⟨w.heap.size, 6, none⟩ = some (.int .i64 t.mo) ∧ w'.cell? ⟨w.heap.size, 7, none⟩ = some (.slice t.qe t.ne t.ce) ∧ w'.cell? ⟨w.heap.size, 8, none⟩ = some (.bool t.b0) ∧ w'.cell? ⟨w.heap.size, 9, none⟩ = some (.bool t.b1) ∧ w'.cell? ⟨w2.heap.size, 0, none⟩ = some (.int .i64 (0)) ∧ w'.cell? ⟨w2.heap.size, 1, none⟩ = some (.int .i64 (A))) (by kernel_rfl) (by (repeat' apply And.intro) <;> go_keep) (fun hHeld => ?_)
      refine take_at (i := 0) (v := ?_) rfl (by kernel_rfl) (by kernel_rfl) (by kernel_rfl) (fun _ _ _ h => h) (Or.inl ⟨by rfl, ?_⟩) hHeld ?_
      rotate_left
      · intro w hSw
        (try dsimp only at hSw)
        go_simp
        try with_reducible rfl
      try simp only [Act.put, List.setIfInBounds_toArray, List.set_cons_zero, List.set_cons_succ]
      try dsimp only
      refine take_at (i := 1) (v := ?_) rfl (by kernel_rfl) (by kernel_rfl) (by kernel_rfl) (fun _ _ _ h => h) (Or.inl ⟨by rfl, ?_⟩) hHeld ?_
      rotate_left
      · intro w hSw
        (try dsimp only at hSw)
        go_simp
        try with_reducible rfl
      try simp only [Act.put, List.setIfInBounds_toArray, List.set_cons_zero, List.set_cons_succ]
      try dsimp only
      refine take_at (i := 2) (v := ?_) rfl (by kernel_rfl) (by kernel_rfl) (by kernel_rfl) (fun _ _ _ h => h) (Or.inl ⟨by rfl, ?_⟩) hHeld ?_
      rotate_left
      · intro w hSw
        (try dsimp only at hSw)
        go_simp
        try with_reducible rfl
      try simp only [Act.put, List.setIfInBounds_toArray, List.set_cons_zero, List.set_cons_succ]
      try dsimp only
      refine take_at (i := 3) (v := ?_) rfl (by kernel_rfl) (by kernel_rfl) (by kernel_rfl) (fun _ _ _ h => h) (Or.inl ⟨by rfl, ?_⟩) hHeld ?_
      rotate_left
      · intro w hSw
        (try dsimp only at hSw)
        go_simp
        try with_reducible rfl
      try simp only [Act.put, List.setIfInBounds_toArray, List.set_cons_zero, List.set_cons_succ]
      try dsimp only
      refine take_at (i := 4) (v := ?_) rfl (by kernel_rfl) (by kernel_rfl) (by kernel_rfl) (fun _ _ _ h => h) (Or.inl ⟨by rfl, ?_⟩) hHeld ?_
      rotate_left
      · intro w hSw
        (try dsimp only at hSw)
        go_simp
        try with_reducible rfl
      try simp only [Act.put, List.setIfInBounds_toArray, List.set_cons_zero, List.set_cons_succ]
      try dsimp only
      refine take_at (i := 5) (v := ?_) rfl (by kernel_rfl) (by kernel_rfl) (by kernel_rfl) (fun _ _ _ h => h) (Or.inl ⟨by rfl, ?_⟩) hHeld ?_
      rotate_left
      · intro w hSw
        (try dsimp only at hSw)
        go_simp
        try with_reducible rfl
      try simp only [Act.put, List.setIfInBounds_toArray, List.set_cons_zero, List.set_cons_succ]
      try dsimp only
      refine take_at (i := 6) (v := ?_) rfl (by kernel_rfl) (by kernel_rfl) (by kernel_rfl) (fun _ _ _ h => h) (Or.inl ⟨by rfl, ?_⟩) hHeld ?_
      rotate_left
      · intro w hSw
        (try dsimp only at hSw)
        go_simp
        try with_reducible rfl
      try simp only [Act.put, List.setIfInBounds_toArray, List.set_cons_zero, List.set_cons_succ]
      try dsimp only
      refine take_at (i := 7) (v := ?_) rfl (by kernel_rfl) (by kernel_rfl) (by kernel_rfl) (fun _ _ _ h => h) (Or.inl ⟨by rfl, ?_⟩) hHeld ?_
      rotate_left
      · intro w hSw
        (try dsimp only at hSw)
        go_simp
        try with_reducible rfl
      try simp only [Act.put, List.setIfInBounds_toArray, List.set_cons_zero, List.set_cons_succ]
      try dsimp only
      refine take_at (i := 8) (v := ?_) rfl (by kernel_rfl) (by kernel_rfl) (by kernel_rfl) (fun _ _ _ h => h) (Or.inl ⟨by rfl, ?_⟩) hHeld ?_
      rotate_left
      · intro w hSw
        (try dsimp only at hSw)
        go_simp
        try with_reducible rfl
      try simp only [Act.put, List.setIfInBounds_toArray, List.set_cons_zero, List.set_cons_succ]
      try dsimp only
      refine take_at (i := 9) (v := ?_) rfl (by kernel_rfl) (by kernel_rfl) (by kernel_rfl) (fun _ _ _ h => h) (Or.inl ⟨by rfl, ?_⟩) hHeld ?_
      rotate_left
      · intro w hSw
        (try dsimp only at hSw)
        go_simp
        try with_reducible rfl
      try simp only [Act.put, List.setIfInBounds_toArray, List.set_cons_zero, List.set_cons_succ]
      try dsimp only
      refine take_at (i := 10) (v := ?_) rfl (by kernel_rfl) (by kernel_rfl) (by kernel_rfl) (fun _ _ _ h => h) (Or.inl ⟨by rfl, ?_⟩) hHeld ?_
      rotate_left
      · intro w hSw
        (try dsimp only at hSw)
        go_simp
        try with_reducible rfl
      try simp only [Act.put, List.setIfInBounds_toArray, List.set_cons_zero, List.set_cons_succ]
      try dsimp only
      refine take_at (i := 11) (v := ?_) rfl (by kernel_rfl) (by kernel_rfl) (by kernel_rfl) (fun _ _ _ h => h) (Or.inl ⟨by rfl, ?_⟩) hHeld ?_
      rotate_left
      · intro w hSw
        (try dsimp only at hSw)
        go_simp
        try with_reducible rfl
      try simp only [Act.put, List.setIfInBounds_toArray, List.set_cons_zero, List.set_cons_succ]
      try dsimp only
      refine take_at (i := 12) (v := ?_) rfl (by kernel_rfl) (by kernel_rfl) (by kernel_rfl) (fun _ _ _ h => h) (Or.inl ⟨by rfl, ?_⟩) hHeld ?_
      rotate_left
      · intro w hSw
        (try dsimp only at hSw)
        go_simp
        try with_reducible rfl
      try simp only [Act.put, List.setIfInBounds_toArray, List.set_cons_zero, List.set_cons_succ]
      try dsimp only
      refine take_at (i := 13) (v := ?_) rfl (by kernel_rfl) (by kernel_rfl) (by kernel_rfl) (fun _ _ _ h => h) (Or.inl ⟨by rfl, ?_⟩) hHeld ?_
      rotate_left
      · intro w hSw
        (try dsimp only at hSw)
        go_simp
        try with_reducible rfl
      try simp only [Act.put, List.setIfInBounds_toArray, List.set_cons_zero, List.set_cons_succ]
      try dsimp only
      refine take_at (i := 14) (v := ?_) rfl (by kernel_rfl) (by kernel_rfl) (by kernel_rfl) (fun _ _ _ h => h) (Or.inl ⟨by rfl, ?_⟩) hHeld ?_
      rotate_left
      · intro w hSw
        (try dsimp only at hSw)
        go_simp
        try with_reducible rfl
      try simp only [Act.put, List.setIfInBounds_toArray, List.set_cons_zero, List.set_cons_succ]
      try dsimp only
      refine take_at (i := 15) (v := ?_) rfl (by kernel_rfl) (by kernel_rfl) (by kernel_rfl) (fun _ _ _ h => h) (Or.inl ⟨by rfl, ?_⟩) hHeld ?_
      rotate_left
      · intro w hSw
        (try dsimp only at hSw)
        go_simp
        try with_reducible rfl
      try simp only [Act.put, List.setIfInBounds_toArray, List.set_cons_zero, List.set_cons_succ]
      try dsimp only
      refine wpAnyH_ready (rs := [16]) (by kernel_rfl) (by simp) ?_
      refine cons_at rfl (fun K hK => ?_) AllReadyH.nil
      go_simp
      (with_reducible refine (hf.out _ ((by repeat (first | (with_reducible exact HB3.out) | (with_reducible refine Below.drew ?_))) : Below w.heap.size w _)).mono ?_)
      rintro e w5 ⟨rfl, b5⟩
      have B5 : Below w.heap.size w w5 := Below.trans ((by repeat (first | (with_reducible exact HB3.out) | (with_reducible refine Below.drew ?_))) : Below w.heap.size w _) (b5.mono (by have := HB3.out.size; first | exact this | (simp; omega) | omega))
      refine hK.out _ _ ⟨cell_later b5 hHeld.1, cell_later b5 hHeld.2.1, cell_later b5 hHeld.2.2.1, cell_later b5 hHeld.2.2.2.1, cell_later b5 hHeld.2.2.2.2.1, cell_later b5 hHeld.2.2.2.2.2.1, cell_later b5 hHeld.2.2.2.2.2.2.1, cell_later b5 hHeld.2.2.2.2.2.2.2.1, cell_later b5 hHeld.2.2.2.2.2.2.2.2.1, cell_later b5 hHeld.2.2.2.2.2.2.2.2.2.1, cell_later b5 hHeld.2.2.2.2.2.2.2.2.2.2.1, cell_later b5 hHeld.2.2.2.2.2.2.2.2.2.2.2⟩ (fun hHeld => ?_)
      clear hK K
      try simp only [Act.put, List.setIfInBounds_toArray, List.set_cons_zero, List.set_cons_succ]
      try dsimp only
      refine take_at (i := 17) (v := ?_) rfl (by kernel_rfl) (by kernel_rfl) (by kernel_rfl) (fun _ _ _ h => h) (Or.inl ⟨by rfl, ?_⟩) hHeld ?_
      rotate_left
      · intro w hSw
        (try dsimp only at hSw)
        go_simp
        try with_reducible rfl
      try simp only [Act.put, List.setIfInBounds_toArray, List.set_cons_zero, List.set_cons_succ]
      try dsimp only
      refine take_at (i := 18) (v := ?_) rfl (by kernel_rfl) (by kernel_rfl) (by kernel_rfl) (fun _ _ _ h => h) (Or.inl ⟨by rfl, ?_⟩) hHeld ?_
      rotate_left
      · intro w hSw
        (try dsimp only at hSw)
        go_simp
        try with_reducible rfl
      try simp only [Act.put, List.setIfInBounds_toArray, List.set_cons_zero, List.set_cons_succ]
      try dsimp only
      refine take_at (i := 19) (v := ?_) rfl (by kernel_rfl) (by kernel_rfl) (by kernel_rfl) (fun _ _ _ h => h) (Or.inl ⟨by rfl, ?_⟩) hHeld ?_
      rotate_left
      · intro w hSw
        (try dsimp only at hSw)
        go_simp
        try with_reducible rfl
      try simp only [Act.put, List.setIfInBounds_toArray, List.set_cons_zero, List.set_cons_succ]
      try dsimp only
      refine wpAnyH_ready (rs := [20]) (by kernel_rfl) (by simp) ?_
      refine cons_at rfl (fun K hK => ?_) AllReadyH.nil
      go_simp
      (with_reducible refine (hliv.out _).mono ?_)
      rintro e w6 ⟨rfl, b6⟩
      have B6 : Below w.heap.size w w6 := Below.trans ((by repeat (first | (with_reducible exact HB3.out) | (with_reducible exact B5) | (with_reducible refine Below.drew ?_))) : Below w.heap.size w _) (b6.mono (by have := HB3.out.size; have := Below.size B5; first | exact this | (simp; omega) | omega))
      refine hK.out _ _ ⟨cell_later b6 hHeld.1, cell_later b6 hHeld.2.1, cell_later b6 hHeld.2.2.1, cell_later b6 hHeld.2.2.2.1, cell_later b6 hHeld.2.2.2.2.1, cell_later b6 hHeld.2.2.2.2.2.1, cell_later b6 hHeld.2.2.2.2.2.2.1, cell_later b6 hHeld.2.2.2.2.2.2.2.1, cell_later b6 hHeld.2.2.2.2.2.2.2.2.1, cell_later b6 hHeld.2.2.2.2.2.2.2.2.2.1, cell_later b6 hHeld.2.2.2.2.2.2.2.2.2.2.1, cell_later b6 hHeld.2.2.2.2.2.2.2.2.2.2.2⟩ (fun hHeld => ?_)
      clear hK K
      try simp only [Act.put, List.setIfInBounds_toArray, List.set_cons_zero, List.set_cons_succ]
      try dsimp only
      refine take_at (i := 21) (v := ?_) rfl (by kernel_rfl) (by kernel_rfl) (by kernel_rfl) (fun _ _ _ h => h) (Or.inl ⟨by rfl, ?_⟩) hHeld ?_
      rotate_left
      · intro w hSw
        (try dsimp only at hSw)
        go_simp
        try with_reducible rfl
      try simp only [Act.put, List.setIfInBounds_toArray, List.set_cons_zero, List.set_cons_succ]
      try dsimp only
      refine take_at (i := 22) (v := ?_) rfl (by kernel_rfl) (by kernel_rfl) (by kernel_rfl) (fun _ _ _ h => h) (Or.inl ⟨by rfl, ?_⟩) hHeld ?_
      rotate_left
      · intro w hSw
        (try dsimp only at hSw)
        go_simp
        try with_reducible rfl
      try simp only [Act.put, List.setIfInBounds_toArray, List.set_cons_zero, List.set_cons_succ]
      try dsimp only
      refine wpAnyH_done (by kernel_rfl) ?_ _
      go_wp2_with fail
      go_ret
      exact ⟨rfl, B6⟩
    · go_wp2_with fail
      rw [← HW3.out]
      clear y1 ca
      have y0 := cell_blk (i := 0) HX3.out
      have y1 := cell_blk (i := 1) HX3.out
      have y2 := cell_blk (i := 2) HX3.out
      have y3 := cell_blk (i := 3) HX3.out
      have y4 := cell_blk (i := 4) HX3.out
      have y5 := cell_blk (i := 5) HX3.out
      have y6 := cell_blk (i := 6) HX3.out
      have y7 := cell_blk (i := 7) HX3.out
      have y8 := cell_blk (i := 8) HX3.out
      have y9 := cell_blk (i := 9) HX3.out
      simp at y0 y1 y2 y3 y4 y5 y6 y7 y8 y9
      have z0 := cell_blk (i := 0) HY3.out
      have z1 := cell_blk (i := 1) HY3.out
      simp at z0 z1
      refine wp_region_held_drew (S := fun w' => w'.cell? ⟨w.heap.size, 0, none⟩ = some (.slice t.qk t.nk t.ck) ∧ w'.cell? ⟨w.heap.size, 1, none⟩ = some (.slice (some ⟨g, o, none⟩) t.np t.cp) ∧ w'.cell? ⟨w.heap.size, 2, none⟩ = some (.int .i64 t.l0) ∧ w'.cell? ⟨w.heap.size, 3, none⟩ = some (.int .i64 t.l1) ∧ w'.cell? ⟨w.heap.size, 4, none⟩ = some (.int .i64 t.tn) ∧ w'.cell? ⟨w.heap.size, 5, none⟩ = some (.int .u8 t.py) ∧ w'.cell? ⟨w.heap.size, 6, none⟩ = some (.int .i64 t.mo) ∧ w'.cell? ⟨w.heap.size, 7, none⟩ = some (.slice t.qe t.ne t.ce) ∧ w'.cell? ⟨w.heap.size, 8, none⟩ = some (.bool t.b0) ∧ w'.cell? ⟨w.heap.size, 9, none⟩ = some (.bool t.b1) ∧ w'.cell? ⟨w2.heap.size, 0, none⟩ = some (.int .i64 (0)) ∧ w'.cell? ⟨w2.heap.size, 1, none⟩ = some (.int .i64 (A))) (by kernel_rfl) (by (repeat' apply And.intro) <;> go_keep) (fun hHeld => ?_)
      refine take_at (i := 0) (v := ?_) rfl (by kernel_rfl) (by kernel_rfl) (by kernel_rfl) (fun _ _ _ h => h) (Or.inl ⟨by rfl, ?_⟩) hHeld ?_
      rotate_left
      · intro w hSw
        (try dsimp only at hSw)
        go_simp
        try with_reducible rfl
      try simp only [Act.put, List.setIfInBounds_toArray, List.set_cons_zero, List.set_cons_succ]
      try dsimp only
      refine take_at (i := 1) (v := ?_) rfl (by kernel_rfl) (by kernel_rfl) (by kernel_rfl) (fun _ _ _ h => h) (Or.inl ⟨by rfl, ?_⟩) hHeld ?_
      rotate_left
      · intro w hSw
        (try dsimp only at hSw)
        go_simp
        try with_reducible rfl
      try simp only [Act.put, List.setIfInBounds_toArray, List.set_cons_zero, List.set_cons_succ]
      try dsimp only
      refine take_at (i := 2) (v := ?_) rfl (by kernel_rfl) (by kernel_rfl) (by kernel_rfl) (fun _ _ _ h => h) (Or.inl ⟨by rfl, ?_⟩) hHeld ?_
      rotate_left
      · intro w hSw
        (try dsimp only at hSw)
        go_simp
        try with_reducible rfl
      try simp only [Act.put, List.setIfInBounds_toArray, List.set_cons_zero, List.set_cons_succ]
      try dsimp only
      refine take_at (i := 3) (v := ?_) rfl (by kernel_rfl) (by kernel_rfl) (by kernel_rfl) (fun _ _ _ h => h) (Or.inl ⟨by rfl, ?_⟩) hHeld ?_
      rotate_left
      · intro w hSw
        (try dsimp only at hSw)
        go_simp
        try with_reducible rfl
      try simp only [Act.put, List.setIfInBounds_toArray, List.set_cons_zero, List.set_cons_succ]
      try dsimp only
      refine take_at (i := 4) (v := ?_) rfl (by kernel_rfl) (by kernel_rfl) (by kernel_rfl) (fun _ _ _ h => h) (Or.inl ⟨by rfl, ?_⟩) hHeld ?_
      rotate_left
      · intro w hSw
        (try dsimp only at hSw)
        go_simp
        try with_reducible rfl
      try simp only [Act.put, List.setIfInBounds_toArray, List.set_cons_zero, List.set_cons_succ]
      try dsimp only
      refine take_at (i := 5) (v := ?_) rfl (by kernel_rfl) (by kernel_rfl) (by kernel_rfl) (fun _ _ _ h => h) (Or.inl ⟨by rfl, ?_⟩) hHeld ?_
      rotate_left
      · intro w hSw
        (try dsimp only at hSw)
        go_simp
        try with_reducible rfl
      try simp only [Act.put, List.setIfInBounds_toArray, List.set_cons_zero, List.set_cons_succ]
      try dsimp only
      refine take_at (i := 6) (v := ?_) rfl (by kernel_rfl) (by kernel_rfl) (by kernel_rfl) (fun _ _ _ h => h) (Or.inl ⟨by rfl, ?_⟩) hHeld ?_
      rotate_left
      · intro w hSw
        (try dsimp only at hSw)
        go_simp
        try with_reducible rfl
      try simp only [Act.put, List.setIfInBounds_toArray, List.set_cons_zero, List.set_cons_succ]
      try dsimp only
      refine take_at (i := 7) (v := ?_) rfl (by kernel_rfl) (by kernel_rfl) (by kernel_rfl) (fun _ _ _ h => h) (Or.inl ⟨by rfl, ?_⟩) hHeld ?_
      rotate_left
      · intro w hSw
        (try dsimp only at hSw)
        go_simp
        try with_reducible rfl
      try simp only [Act.put, List.setIfInBounds_toArray, List.set_cons_zero, List.set_cons_succ]
      try dsimp only
      refine take_at (i := 8) (v := ?_) rfl (by kernel_rfl) (by kernel_rfl) (by kernel_rfl) (fun _ _ _ h => h) (Or.inl ⟨by rfl, ?_⟩) hHeld ?_
      rotate_left
      · intro w hSw
        (try dsimp only at hSw)
        go_simp
        try with_reducible rfl
      try simp only [Act.put, List.setIfInBounds_toArray, List.set_cons_zero, List.set_cons_succ]
      try dsimp only
      refine take_at (i := 9) (v := ?_) rfl (by kernel_rfl) (by kernel_rfl) (by kernel_rfl) (fun _ _ _ h => h) (Or.inl ⟨by rfl, ?_⟩) hHeld ?_
      rotate_left
      · intro w hSw
        (try dsimp only at hSw)
        go_simp
        try with_reducible rfl
      try simp only [Act.put, List.setIfInBounds_toArray, List.set_cons_zero, List.set_cons_succ]
      try dsimp only
      refine take_at (i := 10) (v := ?_) rfl (by kernel_rfl) (by kernel_rfl) (by kernel_rfl) (fun _ _ _ h => h) (Or.inl ⟨by rfl, ?_⟩) hHeld ?_
      rotate_left
      · intro w hSw
        (try dsimp only at hSw)
        go_simp
        try with_reducible rfl
      try simp only [Act.put, List.setIfInBounds_toArray, List.set_cons_zero, List.set_cons_succ]
      try dsimp only
      refine take_at (i := 11) (v := ?_) rfl (by kernel_rfl) (by kernel_rfl) (by kernel_rfl) (fun _ _ _ h => h) (Or.inl ⟨by rfl, ?_⟩) hHeld ?_
      rotate_left
      · intro w hSw
        (try dsimp only at hSw)
        go_simp
        try with_reducible rfl
      try simp only [Act.put, List.setIfInBounds_toArray, List.set_cons_zero, List.set_cons_succ]
      try dsimp only
      refine take_at (i := 12) (v := ?_) rfl (by kernel_rfl) (by kernel_rfl) (by kernel_rfl) (fun _ _ _ h => h) (Or.inl ⟨by rfl, ?_⟩) hHeld ?_
      rotate_left
      · intro w hSw
        (try dsimp only at hSw)
        go_simp
        try with_reducible rfl
      try simp only [Act.put, List.setIfInBounds_toArray, List.set_cons_zero, List.set_cons_succ]
      try dsimp only
      refine take_at (i := 13) (v := ?_) rfl (by kernel_rfl) (by kernel_rfl) (by kernel_rfl) (fun _ _ _ h => h) (Or.inl ⟨by rfl, ?_⟩) hHeld ?_
      rotate_left
      · intro w hSw
        (try dsimp only at hSw)
        go_simp
        try with_reducible rfl
      try simp only [Act.put, List.setIfInBounds_toArray, List.set_cons_zero, List.set_cons_succ]
      try dsimp only
      refine take_at (i := 14) (v := ?_) rfl (by kernel_rfl) (by kernel_rfl) (by kernel_rfl) (fun _ _ _ h => h) (Or.inl ⟨by rfl, ?_⟩) hHeld ?_
      rotate_left
      · intro w hSw
        (try dsimp only at hSw)
        go_simp
        try with_reducible rfl
      try simp only [Act.put, List.setIfInBounds_toArray, List.set_cons_zero, List.set_cons_succ]
      try dsimp only
      refine take_at (i := 15) (v := ?_) rfl (by kernel_rfl) (by kernel_rfl) (by kernel_rfl) (fun _ _ _ h => h) (Or.inl ⟨by rfl, ?_⟩) hHeld ?_
      rotate_left
      · intro w hSw
        (try dsimp only at hSw)
        go_simp
        try with_reducible rfl
      try simp only [Act.put, List.setIfInBounds_toArray, List.set_cons_zero, List.set_cons_succ]
      try dsimp only
      refine wpAnyH_ready (rs := [16]) (by kernel_rfl) (by simp) ?_
      refine cons_at rfl (fun K hK => ?_) AllReadyH.nil
      go_simp
      (with_reducible refine (hf.out _ ((by repeat (first | (with_reducible exact HB3.out) | (with_reducible refine Below.drew ?_))) : Below w.heap.size w _)).mono ?_)
      rintro e w5 ⟨rfl, b5⟩
      have B5 : Below w.heap.size w w5 := Below.trans ((by repeat (first | (with_reducible exact HB3.out) | (with_reducible refine Below.drew ?_))) : Below w.heap.size w _) (b5.mono (by have := HB3.out.size; first | exact this | (simp; omega) | omega))
      refine hK.out _ _ ⟨cell_later b5 hHeld.1, cell_later b5 hHeld.2.1, cell_later b5 hHeld.2.2.1, cell_later b5 hHeld.2.2.2.1, cell_later b5 hHeld.2.2.2.2.1, cell_later b5 hHeld.2.2.2.2.2.1, cell_later b5 hHeld.2.2.2.2.2.2.1, cell_later b5 hHeld.2.2.2.2.2.2.2.1, cell_later b5 hHeld.2.2.2.2.2.2.2.2.1, cell_later b5 hHeld.2.2.2.2.2.2.2.2.2.1, cell_later b5 hHeld.2.2.2.2.2.2.2.2.2.2.1, cell_later b5 hHeld.2.2.2.2.2.2.2.2.2.2.2⟩ (fun hHeld => ?_)
      clear hK K
      try simp only [Act.put, List.setIfInBounds_toArray, List.set_cons_zero, List.set_cons_succ]
      try dsimp only
      refine take_at (i := 17) (v := ?_) rfl (by kernel_rfl) (by kernel_rfl) (by kernel_rfl) (fun _ _ _ h => h) (Or.inl ⟨by rfl, ?_⟩) hHeld ?_
      rotate_left
      · intro w hSw
        (try dsimp only at hSw)
        go_simp
        try with_reducible rfl
      try simp only [Act.put, List.setIfInBounds_toArray, List.set_cons_zero, List.set_cons_succ]
      try dsimp only
      refine take_at (i := 18) (v := ?_) rfl (by kernel_rfl) (by kernel_rfl) (by kernel_rfl) (fun _ _ _ h => h) (Or.inl ⟨by rfl, ?_⟩) hHeld ?_
      rotate_left
      · intro w hSw
        (try dsimp only at hSw)
        go_simp
        try with_reducible rfl
      try simp only [Act.put, List.setIfInBounds_toArray, List.set_cons_zero, List.set_cons_succ]
      try dsimp only
      refine take_at (i := 19) (v := ?_) rfl (by kernel_rfl) (by kernel_rfl) (by kernel_rfl) (fun _ _ _ h => h) (Or.inl ⟨by rfl, ?_⟩) hHeld ?_
      rotate_left
      · intro w hSw
        (try dsimp only at hSw)
        go_simp
        try with_reducible rfl
      try simp only [Act.put, List.setIfInBounds_toArray, List.set_cons_zero, List.set_cons_succ]
      try dsimp only
      refine wpAnyH_ready (rs := [20]) (by kernel_rfl) (by simp) ?_
      refine cons_at rfl (fun K hK => ?_) AllReadyH.nil
      go_simp
      (with_reducible refine (hliv.out _).mono ?_)
      rintro e w6 ⟨rfl, b6⟩
      have B6 : Below w.heap.size w w6 := Below.trans ((by repeat (first | (with_reducible exact HB3.out) | (with_reducible exact B5) | (with_reducible refine Below.drew ?_))) : Below w.heap.size w _) (b6.mono (by have := HB3.out.size; have := Below.size B5; first | exact this | (simp; omega) | omega))
      refine hK.out _ _ ⟨cell_later b6 hHeld.1, cell_later b6 hHeld.2.1, cell_later b6 hHeld.2.2.1, cell_later b6 hHeld.2.2.2.1, cell_later b6 hHeld.2.2.2.2.1, cell_later b6 hHeld.2.2.2.2.2.1, cell_later b6 hHeld.2.2.2.2.2.2.1, cell_later b6 hHeld.2.2.2.2.2.2.2.1, cell_later b6 hHeld.2.2.2.2.2.2.2.2.1, cell_later b6 hHeld.2.2.2.2.2.2.2.2.2.1, cell_later b6 hHeld.2.2.2.2.2.2.2.2.2.2.1, cell_later b6 hHeld.2.2.2.2.2.2.2.2.2.2.2⟩ (fun hHeld => ?_)
      clear hK K
      try simp only [Act.put, List.setIfInBounds_toArray, List.set_cons_zero, List.set_cons_succ]
      try dsimp only
      refine take_at (i := 21) (v := ?_) rfl (by kernel_rfl) (by kernel_rfl) (by kernel_rfl) (fun _ _ _ h => h) (Or.inl ⟨by rfl, ?_⟩) hHeld ?_
      rotate_left
      · intro w hSw
        (try dsimp only at hSw)
        go_simp
        try with_reducible rfl
      try simp only [Act.put, List.setIfInBounds_toArray, List.set_cons_zero, List.set_cons_succ]
      try dsimp only
      refine take_at (i := 22) (v := ?_) rfl (by kernel_rfl) (by kernel_rfl) (by kernel_rfl) (fun _ _ _ h => h) (Or.inl ⟨by rfl, ?_⟩) hHeld ?_
      rotate_left
      · intro w hSw
        (try dsimp only at hSw)
        go_simp
        try with_reducible rfl
      try simp only [Act.put, List.setIfInBounds_toArray, List.set_cons_zero, List.set_cons_succ]
      try dsimp only
      refine wpAnyH_done (by kernel_rfl) ?_ _
      go_wp2_with fail
      go_ret
      exact ⟨rfl, B6⟩

set_option maxHeartbeats 32000000 in
set_option maxRecDepth 100000 in
theorem lawfair_nobody1 (t : Tb) (a : Nat) (A : Int) (w : World) (hca : a < t.np ∧ ∃ g o, t.qp = some ⟨g, o, none⟩ ∧ w.cell? ⟨g, o + a * 14 + 4, none⟩ = some (.int .u8 1)) (hA : 0 ≤ A ∧ A ≤ 99999) (ho : ∀ W, Below w.heap.size w W → Calls Try.prog 8 #[.agg t.row, .int .i64 a, .int .i64 (-1)] W (OutEnds ((A, 0), []) 0 W)) (hf : ∀ W, Below w.heap.size w W → Calls Try.prog 15 #[.agg t.row, .int .i64 a] W fun e w' => e = .returned (.int .i64 A) ∧ Below W.heap.size W w') : Calls Try.prog 4 #[.agg t.row, .int .i64 a, .int .i64 (-1)] w fun e w' => e = .returned (.bool true) ∧ Below w.heap.size w w' := by
  have uw0 : IntKind.u8.wrap 0 = 0 := by kernel_rfl
  have uw1 : IntKind.u8.wrap 1 = 1 := by kernel_rfl
  have hgr := Lib.hid fun W => fgreat_any t W
  have hliv := Lib.hid fun W => flives_any W
  have ho := Lib.hid ho
  have hf := Lib.hid hf
  obtain ⟨hal, g, o, hq, ca⟩ := hca
  have hgw := World.block_lt_of_cell? _ _ ca
  simp only at hgw
  have HCA := Lib.hid ca
  have i0 : (0 : Int) ≤ (a : Int) := by omega
  have i1 : (a : Int) < (t.np : Int) := by omega
  have nA : ¬ A < 0 := by omega
  clear ca hA
  obtain ⟨w0, hw0⟩ : ∃ w0, w0 = w.alloc (.cells t.row 28) := ⟨_, rfl⟩
  have hb0 : Below w.heap.size w w0 := by rw [hw0]; exact (Below.refl _ _).alloc (Nat.le_refl _) _
  have hx0 : w0.heap[w.heap.size]? = some (.cells t.row 28 (0, 0)) := by rw [hw0]; exact heap_alloc_new _ _
  have HB0 := Lib.hid hb0
  have HX0 := Lib.hid hx0
  have HW0 := Lib.hid hw0
  clear hb0 hx0 hw0
  simp only [Tb.row] at *
  rw [hq] at hgr ho hf HX0 HW0 ⊢
  clear hq
  go_enter Try.func4, Try.ntmps4
  go_wp2_with fail
  rw [← HW0.out]
  (with_reducible refine (hgr.out _).mono ?_)
  rintro e w1 ⟨⟨bg, rfl⟩, b1⟩
  have HB1 := Lib.hid (HB0.out.trans (b1.mono HB0.out.size))
  have HX1 := Lib.hid ((b1.block _ (heap_lt HX0.out)).trans HX0.out)
  clear b1
  cases bg with
  | true =>
    go_wp2_with fail
    (with_reducible refine (hliv.out _).mono ?_)
    rintro e w2 ⟨rfl, b2⟩
    have HB2 := Lib.hid (HB1.out.trans (b2.mono HB1.out.size))
    clear b2
    go_wp2_with fail
    go_ret
    exact ⟨rfl, HB2.out⟩
  | false =>
    have hlt1 := heap_lt HX1.out
    have y0 := cell_blk (i := 0) HX1.out
    have y1 := cell_blk (i := 1) HX1.out
    have y2 := cell_blk (i := 2) HX1.out
    have y3 := cell_blk (i := 3) HX1.out
    have y4 := cell_blk (i := 4) HX1.out
    have y5 := cell_blk (i := 5) HX1.out
    have y6 := cell_blk (i := 6) HX1.out
    have y7 := cell_blk (i := 7) HX1.out
    have y8 := cell_blk (i := 8) HX1.out
    have y9 := cell_blk (i := 9) HX1.out
    simp at y0 y1 y2 y3 y4 y5 y6 y7 y8 y9
    go_wp2_with fail
    (with_reducible refine (ho.out _ HB1.out).mono ?_)
    rintro e w2 ⟨⟨v, rfl, hown⟩, b2⟩
    have HB2 := Lib.hid (HB1.out.trans (b2.mono HB1.out.size))
    have HX2 := Lib.hid ((b2.block _ (heap_lt HX1.out)).trans HX1.out)
    clear b2 hlt1 y0 y1 y2 y3 y4 y5 y6 y7 y8 y9
    obtain ⟨ao, c, rfl⟩ := hown.none'
    obtain ⟨w3, hw3⟩ : ∃ w3, w3 = w2.alloc (.cells #[.int .i64 (A), .int .i64 (0)] 24) := ⟨_, rfl⟩
    have b23 : Below w2.heap.size w2 w3 := by rw [hw3]; exact (Below.refl _ _).alloc (Nat.le_refl _) _
    have HY3 : Hid (w3.heap[w2.heap.size]? = some (.cells #[.int .i64 (A), .int .i64 (0)] 24 (0, 0))) := Lib.hid (by rw [hw3]; exact heap_alloc_new _ _)
    have HB3 := Lib.hid (HB2.out.trans (b23.mono HB2.out.size))
    have HX3 := Lib.hid ((b23.block _ (heap_lt HX2.out)).trans HX2.out)
    have HW3 := Lib.hid hw3
    have ca := cell_later HB2.out HCA.out
    have hg2 : g < w2.heap.size := Nat.lt_of_lt_of_le hgw HB2.out.size
    have hlt2 := heap_lt HX2.out
    have y1 := cell_blk (i := 1) HX2.out
    simp at y1
    clear hown b23 hw3
    by_cases pA : A > 0
    · go_wp2_with fail
      rw [← HW3.out]
      clear y1 ca
      have y0 := cell_blk (i := 0) HX3.out
      have y1 := cell_blk (i := 1) HX3.out
      have y2 := cell_blk (i := 2) HX3.out
      have y3 := cell_blk (i := 3) HX3.out
      have y4 := cell_blk (i := 4) HX3.out
      have y5 := cell_blk (i := 5) HX3.out
      have y6 := cell_blk (i := 6) HX3.out
      have y7 := cell_blk (i := 7) HX3.out
      have y8 := cell_blk (i := 8) HX3.out
      have y9 := cell_blk (i := 9) HX3.out
      simp at y0 y1 y2 y3 y4 y5 y6 y7 y8 y9
      have z0 := cell_blk (i := 0) HY3.out
      have z1 := cell_blk (i := 1) HY3.out
      simp at z0 z1
      refine wp_region_held_drew (S := fun w' => w'.cell? ⟨w.heap.size, 0, none⟩ = some (.slice t.qk t.nk t.ck) ∧ w'.cell? ⟨w.heap.size, 1, none⟩ = some (.slice (some ⟨g, o, none⟩) t.np t.cp) ∧ w'.cell? ⟨w.heap.size, 2, none⟩ = some (.int .i64 t.l0) ∧ w'.cell? ⟨w.heap.size, 3, none⟩ = some (.int .i64 t.l1) ∧ w'.cell? ⟨w.heap.size, 4, none⟩ = some (.int .i64 t.tn) ∧ w'.cell? ⟨w.heap.size, 5, none⟩ = some (.int .u8 t.py) ∧ w'.cell? ⟨w.heap.size, 6, none⟩ = some (.int .i64 t.mo) ∧ w'.cell? ⟨w.heap.size, 7, none⟩ = some (.slice t.qe t.ne t.ce) ∧ w'.cell? ⟨w.heap.size, 8, none⟩ = some (.bool t.b0) ∧ w'.cell? ⟨w.heap.size, 9, none⟩ = some (.bool t.b1) ∧ w'.cell? ⟨w2.heap.size, 0, none⟩ = some (.int .i64 (A)) ∧ w'.cell? ⟨w2.heap.size, 1, none⟩ = some (.int .i64 (0))) (by kernel_rfl) (by (repeat' apply And.intro) <;> go_keep) (fun hHeld => ?_)
      refine take_at (i := 0) (v := ?_) rfl (by kernel_rfl) (by kernel_rfl) (by kernel_rfl) (fun _ _ _ h => h) (Or.inl ⟨by rfl, ?_⟩) hHeld ?_
      rotate_left
      · intro w hSw
        (try dsimp only at hSw)
        go_simp
        try with_reducible rfl
      try simp only [Act.put, List.setIfInBounds_toArray, List.set_cons_zero, List.set_cons_succ]
      try dsimp only
      refine take_at (i := 1) (v := ?_) rfl (by kernel_rfl) (by kernel_rfl) (by kernel_rfl) (fun _ _ _ h => h) (Or.inl ⟨by rfl, ?_⟩) hHeld ?_
      rotate_left
      · intro w hSw
        (try dsimp only at hSw)
        go_simp
        try with_reducible rfl
      try simp only [Act.put, List.setIfInBounds_toArray, List.set_cons_zero, List.set_cons_succ]
      try dsimp only
      refine take_at (i := 2) (v := ?_) rfl (by kernel_rfl) (by kernel_rfl) (by kernel_rfl) (fun _ _ _ h => h) (Or.inl ⟨by rfl, ?_⟩) hHeld ?_
      rotate_left
      · intro w hSw
        (try dsimp only at hSw)
        go_simp
        try with_reducible rfl
      try simp only [Act.put, List.setIfInBounds_toArray, List.set_cons_zero, List.set_cons_succ]
      try dsimp only
      refine take_at (i := 3) (v := ?_) rfl (by kernel_rfl) (by kernel_rfl) (by kernel_rfl) (fun _ _ _ h => h) (Or.inl ⟨by rfl, ?_⟩) hHeld ?_
      rotate_left
      · intro w hSw
        (try dsimp only at hSw)
        go_simp
        try with_reducible rfl
      try simp only [Act.put, List.setIfInBounds_toArray, List.set_cons_zero, List.set_cons_succ]
      try dsimp only
      refine take_at (i := 4) (v := ?_) rfl (by kernel_rfl) (by kernel_rfl) (by kernel_rfl) (fun _ _ _ h => h) (Or.inl ⟨by rfl, ?_⟩) hHeld ?_
      rotate_left
      · intro w hSw
        (try dsimp only at hSw)
        go_simp
        try with_reducible rfl
      try simp only [Act.put, List.setIfInBounds_toArray, List.set_cons_zero, List.set_cons_succ]
      try dsimp only
      refine take_at (i := 5) (v := ?_) rfl (by kernel_rfl) (by kernel_rfl) (by kernel_rfl) (fun _ _ _ h => h) (Or.inl ⟨by rfl, ?_⟩) hHeld ?_
      rotate_left
      · intro w hSw
        (try dsimp only at hSw)
        go_simp
        try with_reducible rfl
      try simp only [Act.put, List.setIfInBounds_toArray, List.set_cons_zero, List.set_cons_succ]
      try dsimp only
      refine take_at (i := 6) (v := ?_) rfl (by kernel_rfl) (by kernel_rfl) (by kernel_rfl) (fun _ _ _ h => h) (Or.inl ⟨by rfl, ?_⟩) hHeld ?_
      rotate_left
      · intro w hSw
        (try dsimp only at hSw)
        go_simp
        try with_reducible rfl
      try simp only [Act.put, List.setIfInBounds_toArray, List.set_cons_zero, List.set_cons_succ]
      try dsimp only
      refine take_at (i := 7) (v := ?_) rfl (by kernel_rfl) (by kernel_rfl) (by kernel_rfl) (fun _ _ _ h => h) (Or.inl ⟨by rfl, ?_⟩) hHeld ?_
      rotate_left
      · intro w hSw
        (try dsimp only at hSw)
        go_simp
        try with_reducible rfl
      try simp only [Act.put, List.setIfInBounds_toArray, List.set_cons_zero, List.set_cons_succ]
      try dsimp only
      refine take_at (i := 8) (v := ?_) rfl (by kernel_rfl) (by kernel_rfl) (by kernel_rfl) (fun _ _ _ h => h) (Or.inl ⟨by rfl, ?_⟩) hHeld ?_
      rotate_left
      · intro w hSw
        (try dsimp only at hSw)
        go_simp
        try with_reducible rfl
      try simp only [Act.put, List.setIfInBounds_toArray, List.set_cons_zero, List.set_cons_succ]
      try dsimp only
      refine take_at (i := 9) (v := ?_) rfl (by kernel_rfl) (by kernel_rfl) (by kernel_rfl) (fun _ _ _ h => h) (Or.inl ⟨by rfl, ?_⟩) hHeld ?_
      rotate_left
      · intro w hSw
        (try dsimp only at hSw)
        go_simp
        try with_reducible rfl
      try simp only [Act.put, List.setIfInBounds_toArray, List.set_cons_zero, List.set_cons_succ]
      try dsimp only
      refine take_at (i := 10) (v := ?_) rfl (by kernel_rfl) (by kernel_rfl) (by kernel_rfl) (fun _ _ _ h => h) (Or.inl ⟨by rfl, ?_⟩) hHeld ?_
      rotate_left
      · intro w hSw
        (try dsimp only at hSw)
        go_simp
        try with_reducible rfl
      try simp only [Act.put, List.setIfInBounds_toArray, List.set_cons_zero, List.set_cons_succ]
      try dsimp only
      refine take_at (i := 11) (v := ?_) rfl (by kernel_rfl) (by kernel_rfl) (by kernel_rfl) (fun _ _ _ h => h) (Or.inl ⟨by rfl, ?_⟩) hHeld ?_
      rotate_left
      · intro w hSw
        (try dsimp only at hSw)
        go_simp
        try with_reducible rfl
      try simp only [Act.put, List.setIfInBounds_toArray, List.set_cons_zero, List.set_cons_succ]
      try dsimp only
      refine take_at (i := 12) (v := ?_) rfl (by kernel_rfl) (by kernel_rfl) (by kernel_rfl) (fun _ _ _ h => h) (Or.inl ⟨by rfl, ?_⟩) hHeld ?_
      rotate_left
      · intro w hSw
        (try dsimp only at hSw)
        go_simp
        try with_reducible rfl
      try simp only [Act.put, List.setIfInBounds_toArray, List.set_cons_zero, List.set_cons_succ]
      try dsimp only
      refine take_at (i := 13) (v := ?_) rfl (by kernel_rfl) (by kernel_rfl) (by kernel_rfl) (fun _ _ _ h => h) (Or.inl ⟨by rfl, ?_⟩) hHeld ?_
      rotate_left
      · intro w hSw
        (try dsimp only at hSw)
        go_simp
        try with_reducible rfl
      try simp only [Act.put, List.setIfInBounds_toArray, List.set_cons_zero, List.set_cons_succ]
      try dsimp only
      refine take_at (i := 14) (v := ?_) rfl (by kernel_rfl) (by kernel_rfl) (by kernel_rfl) (fun _ _ _ h => h) (Or.inl ⟨by rfl, ?_⟩) hHeld ?_
      rotate_left
      · intro w hSw
        (try dsimp only at hSw)
        go_simp
        try with_reducible rfl
      try simp only [Act.put, List.setIfInBounds_toArray, List.set_cons_zero, List.set_cons_succ]
      try dsimp only
      refine take_at (i := 15) (v := ?_) rfl (by kernel_rfl) (by kernel_rfl) (by kernel_rfl) (fun _ _ _ h => h) (Or.inl ⟨by rfl, ?_⟩) hHeld ?_
      rotate_left
      · intro w hSw
        (try dsimp only at hSw)
        go_simp
        try with_reducible rfl
      try simp only [Act.put, List.setIfInBounds_toArray, List.set_cons_zero, List.set_cons_succ]
      try dsimp only
      refine wpAnyH_ready (rs := [16]) (by kernel_rfl) (by simp) ?_
      refine cons_at rfl (fun K hK => ?_) AllReadyH.nil
      go_simp
      (with_reducible refine (hf.out _ ((by repeat (first | (with_reducible exact HB3.out) | (with_reducible refine Below.drew ?_))) : Below w.heap.size w _)).mono ?_)
      rintro e w5 ⟨rfl, b5⟩
      have B5 : Below w.heap.size w w5 := Below.trans ((by repeat (first | (with_reducible exact HB3.out) | (with_reducible refine Below.drew ?_))) : Below w.heap.size w _) (b5.mono (by have := HB3.out.size; first | exact this | (simp; omega) | omega))
      refine hK.out _ _ ⟨cell_later b5 hHeld.1, cell_later b5 hHeld.2.1, cell_later b5 hHeld.2.2.1, cell_later b5 hHeld.2.2.2.1, cell_later b5 hHeld.2.2.2.2.1, cell_later b5 hHeld.2.2.2.2.2.1, cell_later b5 hHeld.2.2.2.2.2.2.1, cell_later b5 hHeld.2.2.2.2.2.2.2.1, cell_later b5 hHeld.2.2.2.2.2.2.2.2.1, cell_later b5 hHeld.2.2.2.2.2.2.2.2.2.1, cell_later b5 hHeld.2.2.2.2.2.2.2.2.2.2.1, cell_later b5 hHeld.2.2.2.2.2.2.2.2.2.2.2⟩ (fun hHeld => ?_)
      clear hK K
      try simp only [Act.put, List.setIfInBounds_toArray, List.set_cons_zero, List.set_cons_succ]
      try dsimp only
      refine take_at (i := 17) (v := ?_) rfl (by kernel_rfl) (by kernel_rfl) (by kernel_rfl) (fun _ _ _ h => h) (Or.inl ⟨by rfl, ?_⟩) hHeld ?_
      rotate_left
      · intro w hSw
        (try dsimp only at hSw)
        go_simp
        try with_reducible rfl
      try simp only [Act.put, List.setIfInBounds_toArray, List.set_cons_zero, List.set_cons_succ]
      try dsimp only
      refine take_at (i := 18) (v := ?_) rfl (by kernel_rfl) (by kernel_rfl) (by kernel_rfl) (fun _ _ _ h => h) (Or.inl ⟨by rfl, ?_⟩) hHeld ?_
      rotate_left
      · intro w hSw
        (try dsimp only at hSw)
        go_simp
        try with_reducible rfl
      try simp only [Act.put, List.setIfInBounds_toArray, List.set_cons_zero, List.set_cons_succ]
      try dsimp only
      refine take_at (i := 19) (v := ?_) rfl (by kernel_rfl) (by kernel_rfl) (by kernel_rfl) (fun _ _ _ h => h) (Or.inl ⟨by rfl, ?_⟩) hHeld ?_
      rotate_left
      · intro w hSw
        (try dsimp only at hSw)
        go_simp
        try with_reducible rfl
      try simp only [Act.put, List.setIfInBounds_toArray, List.set_cons_zero, List.set_cons_succ]
      try dsimp only
      refine wpAnyH_ready (rs := [20]) (by kernel_rfl) (by simp) ?_
      refine cons_at rfl (fun K hK => ?_) AllReadyH.nil
      go_simp
      (with_reducible refine (hliv.out _).mono ?_)
      rintro e w6 ⟨rfl, b6⟩
      have B6 : Below w.heap.size w w6 := Below.trans ((by repeat (first | (with_reducible exact HB3.out) | (with_reducible exact B5) | (with_reducible refine Below.drew ?_))) : Below w.heap.size w _) (b6.mono (by have := HB3.out.size; have := Below.size B5; first | exact this | (simp; omega) | omega))
      refine hK.out _ _ ⟨cell_later b6 hHeld.1, cell_later b6 hHeld.2.1, cell_later b6 hHeld.2.2.1, cell_later b6 hHeld.2.2.2.1, cell_later b6 hHeld.2.2.2.2.1, cell_later b6 hHeld.2.2.2.2.2.1, cell_later b6 hHeld.2.2.2.2.2.2.1, cell_later b6 hHeld.2.2.2.2.2.2.2.1, cell_later b6 hHeld.2.2.2.2.2.2.2.2.1, cell_later b6 hHeld.2.2.2.2.2.2.2.2.2.1, cell_later b6 hHeld.2.2.2.2.2.2.2.2.2.2.1, cell_later b6 hHeld.2.2.2.2.2.2.2.2.2.2.2⟩ (fun hHeld => ?_)
      clear hK K
      try simp only [Act.put, List.setIfInBounds_toArray, List.set_cons_zero, List.set_cons_succ]
      try dsimp only
      refine take_at (i := 21) (v := ?_) rfl (by kernel_rfl) (by kernel_rfl) (by kernel_rfl) (fun _ _ _ h => h) (Or.inl ⟨by rfl, ?_⟩) hHeld ?_
      rotate_left
      · intro w hSw
        (try dsimp only at hSw)
        go_simp
        try with_reducible rfl
      try simp only [Act.put, List.setIfInBounds_toArray, List.set_cons_zero, List.set_cons_succ]
      try dsimp only
      refine take_at (i := 22) (v := ?_) rfl (by kernel_rfl) (by kernel_rfl) (by kernel_rfl) (fun _ _ _ h => h) (Or.inl ⟨by rfl, ?_⟩) hHeld ?_
      rotate_left
      · intro w hSw
        (try dsimp only at hSw)
        go_simp
        try with_reducible rfl
      try simp only [Act.put, List.setIfInBounds_toArray, List.set_cons_zero, List.set_cons_succ]
      try dsimp only
      refine wpAnyH_done (by kernel_rfl) ?_ _
      go_wp2_with fail
      go_ret
      exact ⟨rfl, B6⟩
    · go_wp2_with fail
      rw [← HW3.out]
      clear y1 ca
      have y0 := cell_blk (i := 0) HX3.out
      have y1 := cell_blk (i := 1) HX3.out
      have y2 := cell_blk (i := 2) HX3.out
      have y3 := cell_blk (i := 3) HX3.out
      have y4 := cell_blk (i := 4) HX3.out
      have y5 := cell_blk (i := 5) HX3.out
      have y6 := cell_blk (i := 6) HX3.out
      have y7 := cell_blk (i := 7) HX3.out
      have y8 := cell_blk (i := 8) HX3.out
      have y9 := cell_blk (i := 9) HX3.out
      simp at y0 y1 y2 y3 y4 y5 y6 y7 y8 y9
      have z0 := cell_blk (i := 0) HY3.out
      have z1 := cell_blk (i := 1) HY3.out
      simp at z0 z1
      refine wp_region_held_drew (S := fun w' => w'.cell? ⟨w.heap.size, 0, none⟩ = some (.slice t.qk t.nk t.ck) ∧ w'.cell? ⟨w.heap.size, 1, none⟩ = some (.slice (some ⟨g, o, none⟩) t.np t.cp) ∧ w'.cell? ⟨w.heap.size, 2, none⟩ = some (.int .i64 t.l0) ∧ w'.cell? ⟨w.heap.size, 3, none⟩ = some (.int .i64 t.l1) ∧ w'.cell? ⟨w.heap.size, 4, none⟩ = some (.int .i64 t.tn) ∧ w'.cell? ⟨w.heap.size, 5, none⟩ = some (.int .u8 t.py) ∧ w'.cell? ⟨w.heap.size, 6, none⟩ = some (.int .i64 t.mo) ∧ w'.cell? ⟨w.heap.size, 7, none⟩ = some (.slice t.qe t.ne t.ce) ∧ w'.cell? ⟨w.heap.size, 8, none⟩ = some (.bool t.b0) ∧ w'.cell? ⟨w.heap.size, 9, none⟩ = some (.bool t.b1) ∧ w'.cell? ⟨w2.heap.size, 0, none⟩ = some (.int .i64 (A)) ∧ w'.cell? ⟨w2.heap.size, 1, none⟩ = some (.int .i64 (0))) (by kernel_rfl) (by (repeat' apply And.intro) <;> go_keep) (fun hHeld => ?_)
      refine take_at (i := 0) (v := ?_) rfl (by kernel_rfl) (by kernel_rfl) (by kernel_rfl) (fun _ _ _ h => h) (Or.inl ⟨by rfl, ?_⟩) hHeld ?_
      rotate_left
      · intro w hSw
        (try dsimp only at hSw)
        go_simp
        try with_reducible rfl
      try simp only [Act.put, List.setIfInBounds_toArray, List.set_cons_zero, List.set_cons_succ]
      try dsimp only
      refine take_at (i := 1) (v := ?_) rfl (by kernel_rfl) (by kernel_rfl) (by kernel_rfl) (fun _ _ _ h => h) (Or.inl ⟨by rfl, ?_⟩) hHeld ?_
      rotate_left
      · intro w hSw
        (try dsimp only at hSw)
        go_simp
        try with_reducible rfl
      try simp only [Act.put, List.setIfInBounds_toArray, List.set_cons_zero, List.set_cons_succ]
      try dsimp only
      refine take_at (i := 2) (v := ?_) rfl (by kernel_rfl) (by kernel_rfl) (by kernel_rfl) (fun _ _ _ h => h) (Or.inl ⟨by rfl, ?_⟩) hHeld ?_
      rotate_left
      · intro w hSw
        (try dsimp only at hSw)
        go_simp
        try with_reducible rfl
      try simp only [Act.put, List.setIfInBounds_toArray, List.set_cons_zero, List.set_cons_succ]
      try dsimp only
      refine take_at (i := 3) (v := ?_) rfl (by kernel_rfl) (by kernel_rfl) (by kernel_rfl) (fun _ _ _ h => h) (Or.inl ⟨by rfl, ?_⟩) hHeld ?_
      rotate_left
      · intro w hSw
        (try dsimp only at hSw)
        go_simp
        try with_reducible rfl
      try simp only [Act.put, List.setIfInBounds_toArray, List.set_cons_zero, List.set_cons_succ]
      try dsimp only
      refine take_at (i := 4) (v := ?_) rfl (by kernel_rfl) (by kernel_rfl) (by kernel_rfl) (fun _ _ _ h => h) (Or.inl ⟨by rfl, ?_⟩) hHeld ?_
      rotate_left
      · intro w hSw
        (try dsimp only at hSw)
        go_simp
        try with_reducible rfl
      try simp only [Act.put, List.setIfInBounds_toArray, List.set_cons_zero, List.set_cons_succ]
      try dsimp only
      refine take_at (i := 5) (v := ?_) rfl (by kernel_rfl) (by kernel_rfl) (by kernel_rfl) (fun _ _ _ h => h) (Or.inl ⟨by rfl, ?_⟩) hHeld ?_
      rotate_left
      · intro w hSw
        (try dsimp only at hSw)
        go_simp
        try with_reducible rfl
      try simp only [Act.put, List.setIfInBounds_toArray, List.set_cons_zero, List.set_cons_succ]
      try dsimp only
      refine take_at (i := 6) (v := ?_) rfl (by kernel_rfl) (by kernel_rfl) (by kernel_rfl) (fun _ _ _ h => h) (Or.inl ⟨by rfl, ?_⟩) hHeld ?_
      rotate_left
      · intro w hSw
        (try dsimp only at hSw)
        go_simp
        try with_reducible rfl
      try simp only [Act.put, List.setIfInBounds_toArray, List.set_cons_zero, List.set_cons_succ]
      try dsimp only
      refine take_at (i := 7) (v := ?_) rfl (by kernel_rfl) (by kernel_rfl) (by kernel_rfl) (fun _ _ _ h => h) (Or.inl ⟨by rfl, ?_⟩) hHeld ?_
      rotate_left
      · intro w hSw
        (try dsimp only at hSw)
        go_simp
        try with_reducible rfl
      try simp only [Act.put, List.setIfInBounds_toArray, List.set_cons_zero, List.set_cons_succ]
      try dsimp only
      refine take_at (i := 8) (v := ?_) rfl (by kernel_rfl) (by kernel_rfl) (by kernel_rfl) (fun _ _ _ h => h) (Or.inl ⟨by rfl, ?_⟩) hHeld ?_
      rotate_left
      · intro w hSw
        (try dsimp only at hSw)
        go_simp
        try with_reducible rfl
      try simp only [Act.put, List.setIfInBounds_toArray, List.set_cons_zero, List.set_cons_succ]
      try dsimp only
      refine take_at (i := 9) (v := ?_) rfl (by kernel_rfl) (by kernel_rfl) (by kernel_rfl) (fun _ _ _ h => h) (Or.inl ⟨by rfl, ?_⟩) hHeld ?_
      rotate_left
      · intro w hSw
        (try dsimp only at hSw)
        go_simp
        try with_reducible rfl
      try simp only [Act.put, List.setIfInBounds_toArray, List.set_cons_zero, List.set_cons_succ]
      try dsimp only
      refine take_at (i := 10) (v := ?_) rfl (by kernel_rfl) (by kernel_rfl) (by kernel_rfl) (fun _ _ _ h => h) (Or.inl ⟨by rfl, ?_⟩) hHeld ?_
      rotate_left
      · intro w hSw
        (try dsimp only at hSw)
        go_simp
        try with_reducible rfl
      try simp only [Act.put, List.setIfInBounds_toArray, List.set_cons_zero, List.set_cons_succ]
      try dsimp only
      refine take_at (i := 11) (v := ?_) rfl (by kernel_rfl) (by kernel_rfl) (by kernel_rfl) (fun _ _ _ h => h) (Or.inl ⟨by rfl, ?_⟩) hHeld ?_
      rotate_left
      · intro w hSw
        (try dsimp only at hSw)
        go_simp
        try with_reducible rfl
      try simp only [Act.put, List.setIfInBounds_toArray, List.set_cons_zero, List.set_cons_succ]
      try dsimp only
      refine take_at (i := 12) (v := ?_) rfl (by kernel_rfl) (by kernel_rfl) (by kernel_rfl) (fun _ _ _ h => h) (Or.inl ⟨by rfl, ?_⟩) hHeld ?_
      rotate_left
      · intro w hSw
        (try dsimp only at hSw)
        go_simp
        try with_reducible rfl
      try simp only [Act.put, List.setIfInBounds_toArray, List.set_cons_zero, List.set_cons_succ]
      try dsimp only
      refine take_at (i := 13) (v := ?_) rfl (by kernel_rfl) (by kernel_rfl) (by kernel_rfl) (fun _ _ _ h => h) (Or.inl ⟨by rfl, ?_⟩) hHeld ?_
      rotate_left
      · intro w hSw
        (try dsimp only at hSw)
        go_simp
        try with_reducible rfl
      try simp only [Act.put, List.setIfInBounds_toArray, List.set_cons_zero, List.set_cons_succ]
      try dsimp only
      refine take_at (i := 14) (v := ?_) rfl (by kernel_rfl) (by kernel_rfl) (by kernel_rfl) (fun _ _ _ h => h) (Or.inl ⟨by rfl, ?_⟩) hHeld ?_
      rotate_left
      · intro w hSw
        (try dsimp only at hSw)
        go_simp
        try with_reducible rfl
      try simp only [Act.put, List.setIfInBounds_toArray, List.set_cons_zero, List.set_cons_succ]
      try dsimp only
      refine take_at (i := 15) (v := ?_) rfl (by kernel_rfl) (by kernel_rfl) (by kernel_rfl) (fun _ _ _ h => h) (Or.inl ⟨by rfl, ?_⟩) hHeld ?_
      rotate_left
      · intro w hSw
        (try dsimp only at hSw)
        go_simp
        try with_reducible rfl
      try simp only [Act.put, List.setIfInBounds_toArray, List.set_cons_zero, List.set_cons_succ]
      try dsimp only
      refine wpAnyH_ready (rs := [16]) (by kernel_rfl) (by simp) ?_
      refine cons_at rfl (fun K hK => ?_) AllReadyH.nil
      go_simp
      (with_reducible refine (hf.out _ ((by repeat (first | (with_reducible exact HB3.out) | (with_reducible refine Below.drew ?_))) : Below w.heap.size w _)).mono ?_)
      rintro e w5 ⟨rfl, b5⟩
      have B5 : Below w.heap.size w w5 := Below.trans ((by repeat (first | (with_reducible exact HB3.out) | (with_reducible refine Below.drew ?_))) : Below w.heap.size w _) (b5.mono (by have := HB3.out.size; first | exact this | (simp; omega) | omega))
      refine hK.out _ _ ⟨cell_later b5 hHeld.1, cell_later b5 hHeld.2.1, cell_later b5 hHeld.2.2.1, cell_later b5 hHeld.2.2.2.1, cell_later b5 hHeld.2.2.2.2.1, cell_later b5 hHeld.2.2.2.2.2.1, cell_later b5 hHeld.2.2.2.2.2.2.1, cell_later b5 hHeld.2.2.2.2.2.2.2.1, cell_later b5 hHeld.2.2.2.2.2.2.2.2.1, cell_later b5 hHeld.2.2.2.2.2.2.2.2.2.1, cell_later b5 hHeld.2.2.2.2.2.2.2.2.2.2.1, cell_later b5 hHeld.2.2.2.2.2.2.2.2.2.2.2⟩ (fun hHeld => ?_)
      clear hK K
      try simp only [Act.put, List.setIfInBounds_toArray, List.set_cons_zero, List.set_cons_succ]
      try dsimp only
      refine take_at (i := 17) (v := ?_) rfl (by kernel_rfl) (by kernel_rfl) (by kernel_rfl) (fun _ _ _ h => h) (Or.inl ⟨by rfl, ?_⟩) hHeld ?_
      rotate_left
      · intro w hSw
        (try dsimp only at hSw)
        go_simp
        try with_reducible rfl
      try simp only [Act.put, List.setIfInBounds_toArray, List.set_cons_zero, List.set_cons_succ]
      try dsimp only
      refine take_at (i := 18) (v := ?_) rfl (by kernel_rfl) (by kernel_rfl) (by kernel_rfl) (fun _ _ _ h => h) (Or.inl ⟨by rfl, ?_⟩) hHeld ?_
      rotate_left
      · intro w hSw
        (try dsimp only at hSw)
        go_simp
        try with_reducible rfl
      try simp only [Act.put, List.setIfInBounds_toArray, List.set_cons_zero, List.set_cons_succ]
      try dsimp only
      refine take_at (i := 19) (v := ?_) rfl (by kernel_rfl) (by kernel_rfl) (by kernel_rfl) (fun _ _ _ h => h) (Or.inl ⟨by rfl, ?_⟩) hHeld ?_
      rotate_left
      · intro w hSw
        (try dsimp only at hSw)
        go_simp
        try with_reducible rfl
      try simp only [Act.put, List.setIfInBounds_toArray, List.set_cons_zero, List.set_cons_succ]
      try dsimp only
      refine wpAnyH_ready (rs := [20]) (by kernel_rfl) (by simp) ?_
      refine cons_at rfl (fun K hK => ?_) AllReadyH.nil
      go_simp
      (with_reducible refine (hliv.out _).mono ?_)
      rintro e w6 ⟨rfl, b6⟩
      have B6 : Below w.heap.size w w6 := Below.trans ((by repeat (first | (with_reducible exact HB3.out) | (with_reducible exact B5) | (with_reducible refine Below.drew ?_))) : Below w.heap.size w _) (b6.mono (by have := HB3.out.size; have := Below.size B5; first | exact this | (simp; omega) | omega))
      refine hK.out _ _ ⟨cell_later b6 hHeld.1, cell_later b6 hHeld.2.1, cell_later b6 hHeld.2.2.1, cell_later b6 hHeld.2.2.2.1, cell_later b6 hHeld.2.2.2.2.1, cell_later b6 hHeld.2.2.2.2.2.1, cell_later b6 hHeld.2.2.2.2.2.2.1, cell_later b6 hHeld.2.2.2.2.2.2.2.1, cell_later b6 hHeld.2.2.2.2.2.2.2.2.1, cell_later b6 hHeld.2.2.2.2.2.2.2.2.2.1, cell_later b6 hHeld.2.2.2.2.2.2.2.2.2.2.1, cell_later b6 hHeld.2.2.2.2.2.2.2.2.2.2.2⟩ (fun hHeld => ?_)
      clear hK K
      try simp only [Act.put, List.setIfInBounds_toArray, List.set_cons_zero, List.set_cons_succ]
      try dsimp only
      refine take_at (i := 21) (v := ?_) rfl (by kernel_rfl) (by kernel_rfl) (by kernel_rfl) (fun _ _ _ h => h) (Or.inl ⟨by rfl, ?_⟩) hHeld ?_
      rotate_left
      · intro w hSw
        (try dsimp only at hSw)
        go_simp
        try with_reducible rfl
      try simp only [Act.put, List.setIfInBounds_toArray, List.set_cons_zero, List.set_cons_succ]
      try dsimp only
      refine take_at (i := 22) (v := ?_) rfl (by kernel_rfl) (by kernel_rfl) (by kernel_rfl) (fun _ _ _ h => h) (Or.inl ⟨by rfl, ?_⟩) hHeld ?_
      rotate_left
      · intro w hSw
        (try dsimp only at hSw)
        go_simp
        try with_reducible rfl
      try simp only [Act.put, List.setIfInBounds_toArray, List.set_cons_zero, List.set_cons_succ]
      try dsimp only
      refine wpAnyH_done (by kernel_rfl) ?_ _
      go_wp2_with fail
      go_ret
      exact ⟨rfl, B6⟩

end Go.Proofs.Ytppgfkdkopfebaa
