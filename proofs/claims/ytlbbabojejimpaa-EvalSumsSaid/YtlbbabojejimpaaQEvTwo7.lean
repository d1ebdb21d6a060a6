import Derived.Test.YtlbbabojejimpaaQEvNot
/- eval.value of an expression of two parts. -/
namespace Go.Proofs.Ytlbbabojejimpaa
open Go.RowKit Go.Lib

set_option maxHeartbeats 8000000 in
set_option maxRecDepth 100000 in
theorem value_two7 (t : Tb) (xs : List Cd) (ps : List Pc) (who : Nat) (i : Int) (x : Ex) (q : Option Addr) (cap : Nat) (d : Nat) (w : World) (hd : d < 100) (hop : x.op = 7) (g o : Nat) (hq : q = some ⟨g, o, none⟩) (hg : g < w.heap.size) (hn2 : 2 ≤ x.args.length) (hcap : x.args.length ≤ cap) (hmx : x.args.length ≤ maxLen) (p : Ex) (vpq : Option Addr) (vpn vpc : Nat) (r1 : Option Int) (hcp : ∀ (j : Nat) (u : Value), (exV p (.slice vpq vpn vpc))[j]? = some u → w.cell? ⟨g, o + 0 + j, none⟩ = some u) (hvp : ∀ W, Below w.heap.size w W → Calls Try.prog 16 #[.agg t.row, .int .u8 who, .int .i64 i, .agg (exV p (.slice vpq vpn vpc)).toArray, .int .i64 d] W (ValEnds r1 W)) (hbp : ∀ a, r1 = some a → -99999 ≤ a ∧ a ≤ 99999) (p2 : Ex) (vp2q : Option Addr) (vp2n vp2c : Nat) (r2 : Option Int) (hcp2 : ∀ (j : Nat) (u : Value), (exV p2 (.slice vp2q vp2n vp2c))[j]? = some u → w.cell? ⟨g, o + 7 + j, none⟩ = some u) (hvp2 : ∀ W, Below w.heap.size w W → Calls Try.prog 16 #[.agg t.row, .int .u8 who, .int .i64 i, .agg (exV p2 (.slice vp2q vp2n vp2c)).toArray, .int .i64 d] W (ValEnds r2 W)) (hbp2 : ∀ a, r2 = some a → -99999 ≤ a ∧ a ≤ 99999)  :
    Calls Try.prog 16 #[.agg t.row, .int .u8 who, .int .i64 i, .agg (exV x (.slice q x.args.length cap)).toArray, .int .i64 (d + 1 : Nat)] w (ValEnds (twoV 7 r1 r2) w) := by
  have hparts : Hid (∀ W, Calls Try.prog 23 #[.int .u8 x.op] W fun e w' => e = .returned (.int .i64 (2 : Nat)) ∧ w' = W) := Lib.hid fun W => by have := parts_any x.op W; rw [hop] at this ⊢; exact this
  have hbnd := Lib.hid fun (k : Int) (W : World) => ebounded_any k W
  have hone := Lib.hid fun (b : Bool) (W : World) => one_any b W
  unfold maxLen at hmx
  have HVp := Lib.hid hvp
  have HCp : Hid (∀ (j : Nat) (u : Value), (exV p (.slice vpq vpn vpc))[j]? = some u → w.cell? ⟨g, o + 0 + j, none⟩ = some u) := Lib.hid hcp
  have HDp := Lib.hid hbp
  clear hvp hcp hbp
  have HVp2 := Lib.hid hvp2
  have HCp2 : Hid (∀ (j : Nat) (u : Value), (exV p2 (.slice vp2q vp2n vp2c))[j]? = some u → w.cell? ⟨g, o + 7 + j, none⟩ = some u) := Lib.hid hcp2
  have HDp2 := Lib.hid hbp2
  clear hvp2 hcp2 hbp2
  subst hq
  obtain ⟨w0, hw0⟩ : ∃ w0, w0 = (w.alloc (.cells t.row 28)).alloc (.cells (exV x (.slice (some ⟨g, o, none⟩) x.args.length cap)).toArray 33) := ⟨_, rfl⟩
  have hb0 : Below w.heap.size w w0 := by rw [hw0]; exact ((Below.refl _ _).alloc (Nat.le_refl _) _).alloc (by simp) _
  have hx0 : w0.heap[w.heap.size]? = some (.cells t.row 28 (0, 0)) := by rw [hw0]; exact heap_older (heap_alloc_new _ _)
  have hy0 : w0.heap[w.heap.size + 1]? = some (.cells (exV x (.slice (some ⟨g, o, none⟩) x.args.length cap)).toArray 33 (0, 0)) := by rw [hw0]; exact heap_newer _ _ _ (by simp)
  have hs0 : w0.heap.size = w.heap.size + 2 := by rw [hw0]; simp
  generalize hn : x.args.length = n at *
  have HB0 := Lib.hid hb0
  have HX0 := Lib.hid hx0
  have HY0 := Lib.hid hy0
  have HW0 := Lib.hid hw0
  have HS0 := Lib.hid hs0
  have HN := Lib.hid hn
  clear hb0 hx0 hy0 hw0 hs0 hn
  simp only [Tb.row, exV] at *
  have o0 : ((x.op : Int) == 0) = false := by rw [hop]; decide
  have o1 : ((x.op : Int) == 1) = false := by rw [hop]; decide
  have o2 : ((x.op : Int) == 2) = false := by rw [hop]; decide
  have o3 : ((x.op : Int) == 3) = false := by rw [hop]; decide
  have o4 : ((x.op : Int) == 4) = false := by rw [hop]; decide
  have o5 : ((x.op : Int) == 5) = false := by rw [hop]; decide
  have o6 : ((x.op : Int) == 6) = false := by rw [hop]; decide
  have o7 : ((x.op : Int) == 7) = true := by rw [hop]; decide
  have o8 : ((x.op : Int) == 8) = false := by rw [hop]; decide
  have o9 : ((x.op : Int) == 9) = false := by rw [hop]; decide
  have o10 : ((x.op : Int) == 10) = false := by rw [hop]; decide
  have o11 : ((x.op : Int) == 11) = false := by rw [hop]; decide
  have k0 : ((d : Int) + 1 == 0) = false := by simp; omega
  have k0' : (((d + 1 : Nat) : Int) == 0) = false := by simp; omega
  have k1 : ¬ (n : Int) < 2 := by omega
  have k2 : (2 : Int) ≤ (cap : Int) := by omega
  have kd : (d : Int) + 1 - 1 = (d : Int) := by omega
  have kd' : ((d + 1 : Nat) : Int) - 1 = (d : Int) := by omega
  clear hop
  obtain ⟨w2, hw2⟩ : ∃ w2, w2 = w0.alloc (.cells #[.int .i64 0, .int .i64 0] 24) := ⟨_, rfl⟩
  have b02 : Below w0.heap.size w0 w2 := by rw [hw2]; exact (Below.refl _ _).alloc (Nat.le_refl _) _
  have HB2 := Lib.hid (HB0.out.trans (b02.mono HB0.out.size))
  have HX2 := Lib.hid ((b02.block _ (heap_lt HX0.out)).trans HX0.out)
  have HY2 := Lib.hid ((b02.block _ (heap_lt HY0.out)).trans HY0.out)
  have HZ2 : Hid (w2.heap[w0.heap.size]? = some (.cells #[.int .i64 0, .int .i64 0] 24 (0, 0))) := Lib.hid (by rw [hw2]; exact heap_alloc_new _ _)
  have HW2 := Lib.hid hw2
  clear hw2 b02
  have hlt0 := heap_lt HY0.out
  have z0 := cell_blk (i := 0) HY0.out
  have z1 := cell_blk (i := 1) HY0.out
  have z2 := cell_blk (i := 2) HY0.out
  have z3 := cell_blk (i := 3) HY0.out
  have z4 := cell_blk (i := 4) HY0.out
  have z5 := cell_blk (i := 5) HY0.out
  have z6 := cell_blk (i := 6) HY0.out
  simp at z0 z1 z2 z3 z4 z5 z6
  go_enter Try.func16, Try.ntmps16
  go_wp2_with fail
  rw [← HW0.out]
  refine (hparts.out w0).mono ?_
  rintro e w1 ⟨rfl, hw1⟩
  have hw1 := hw1.symm
  subst hw1
  go_wp2_with fail
  refine wp_loop_rounds 3 ?_
  rw [rounds_succ]
  have hg0 : g < w0.heap.size := Nat.lt_of_lt_of_le hg HB0.out.size
  have hltX := heap_lt HX0.out
  have y0 := cell_blk (i := 0) HX0.out
  have y1 := cell_blk (i := 1) HX0.out
  have y2 := cell_blk (i := 2) HX0.out
  have y3 := cell_blk (i := 3) HX0.out
  have y4 := cell_blk (i := 4) HX0.out
  have y5 := cell_blk (i := 5) HX0.out
  have y6 := cell_blk (i := 6) HX0.out
  have y7 := cell_blk (i := 7) HX0.out
  have y8 := cell_blk (i := 8) HX0.out
  have y9 := cell_blk (i := 9) HX0.out
  simp at y0 y1 y2 y3 y4 y5 y6 y7 y8 y9
  have a0 : w0.cell? ⟨g, o, none⟩ = some (.int .u8 p.op) := cell_later HB0.out (HCp.out 0 _ rfl)
  have a1 : w0.cell? ⟨g, o + 1, none⟩ = some (.int .i64 p.n) := cell_later HB0.out (HCp.out 1 _ rfl)
  have a2 : w0.cell? ⟨g, o + 2, none⟩ = some (.int .u8 p.side) := cell_later HB0.out (HCp.out 2 _ rfl)
  have a3 : w0.cell? ⟨g, o + 3, none⟩ = some (.int .u8 p.sel.side) := cell_later HB0.out (HCp.out 3 _ rfl)
  have a4 : w0.cell? ⟨g, o + 4, none⟩ = some (.int .u8 p.sel.zone) := cell_later HB0.out (HCp.out 4 _ rfl)
  have a5 : w0.cell? ⟨g, o + 5, none⟩ = some (.int .u8 p.sel.kind) := cell_later HB0.out (HCp.out 5 _ rfl)
  have a6 : w0.cell? ⟨g, o + 6, none⟩ = some (.slice vpq vpn vpc) := cell_later HB0.out (HCp.out 6 _ rfl)
  obtain ⟨w3, hw3⟩ : ∃ w3, w3 = w2.alloc (.cells #[.int .u8 p.op, .int .i64 p.n, .int .u8 p.side, .int .u8 p.sel.side, .int .u8 p.sel.zone, .int .u8 p.sel.kind, .slice vpq vpn vpc] 33) := ⟨_, rfl⟩
  have b23 : Below w2.heap.size w2 w3 := by rw [hw3]; exact (Below.refl _ _).alloc (Nat.le_refl _) _
  have HB3 := Lib.hid (HB2.out.trans (b23.mono HB2.out.size))
  have HX3 := Lib.hid ((b23.block _ (heap_lt HX2.out)).trans HX2.out)
  have HY3 := Lib.hid ((b23.block _ (heap_lt HY2.out)).trans HY2.out)
  have HZ3 := Lib.hid ((b23.block _ (heap_lt HZ2.out)).trans HZ2.out)
  have HW3 := Lib.hid hw3
  clear hw3 b23
  go_wp2_with fail
  rw [← HW2.out, ← HW3.out]
  refine (HVp.out w3 HB3.out).mono ?_
  rintro e w4 ⟨rfl, b4⟩
  have HB4 := Lib.hid (HB3.out.trans (b4.mono HB3.out.size))
  have HX4 := Lib.hid ((b4.block _ (heap_lt HX3.out)).trans HX3.out)
  have HY4 := Lib.hid ((b4.block _ (heap_lt HY3.out)).trans HY3.out)
  have HZ4 := Lib.hid ((b4.block _ (heap_lt HZ3.out)).trans HZ3.out)
  clear b4 y0 y1 y2 y3 y4 y5 y6 y7 y8 y9 z0 z1 z2 z3 z4 z5 z6 a0 a1 a2 a3 a4 a5 a6 hltX hg0 hlt0
  cases r1 with
  | none =>
    simp only [Option.getD_none, Option.isSome_none]
    go_wp2_with fail
    refine bodyPost_ret (results_tmp2 rfl _ _ _) rfl ?_
    exact ⟨by first | rfl | simp [twoV, oneV], HB4.out⟩
  | some a =>
    simp only [Option.getD_some, Option.isSome_some]
    have hba := HDp.out a rfl
    have f0 : w4.frozen? ⟨w0.heap.size, 0, none⟩ = false := free_blk HZ4.out
    have g0 : w4.cell? ⟨w0.heap.size, 0, none⟩ = some (.int .i64 0) := cell_blk HZ4.out
    have hs0 := HS0.out
    obtain ⟨w5, hw5⟩ : ∃ w5, w5 = w4.setCell ⟨w0.heap.size, 0, none⟩ (.int .i64 a) := ⟨_, rfl⟩
    have HB5 : Hid (Below w.heap.size w w5) := Lib.hid (by rw [hw5]; exact HB4.out.setCell (by show _ ≤ _; dsimp only; omega) _)
    have HX5 : Hid (w5.heap[w.heap.size]? = some _) := Lib.hid (by rw [hw5]; exact (heap_set_far (by show _ ≠ _; dsimp only; omega) _).trans HX4.out)
    have HY5 : Hid (w5.heap[w.heap.size + 1]? = some _) := Lib.hid (by rw [hw5]; exact (heap_set_far (by show _ ≠ _; dsimp only; omega) _).trans HY4.out)
    have HZ5 : Hid (w5.heap[w0.heap.size]? = some (.cells #[.int .i64 a, .int .i64 0] 24 (0, 0))) := Lib.hid (by rw [hw5]; exact heap_set (i := 0) HZ4.out _)
    have HW5 := Lib.hid hw5
    clear hw5 hs0
    go_wp2_with fail
    rw [← HW5.out]
    rw [rounds_succ]
    clear f0 g0
    have hg5 : g < w5.heap.size := Nat.lt_of_lt_of_le hg HB5.out.size
    have hlt5 := heap_lt HY5.out
    have hltX := heap_lt HX5.out
    have y0 := cell_blk (i := 0) HX5.out
    have y1 := cell_blk (i := 1) HX5.out
    have y2 := cell_blk (i := 2) HX5.out
    have y3 := cell_blk (i := 3) HX5.out
    have y4 := cell_blk (i := 4) HX5.out
    have y5 := cell_blk (i := 5) HX5.out
    have y6 := cell_blk (i := 6) HX5.out
    have y7 := cell_blk (i := 7) HX5.out
    have y8 := cell_blk (i := 8) HX5.out
    have y9 := cell_blk (i := 9) HX5.out
    simp at y0 y1 y2 y3 y4 y5 y6 y7 y8 y9
    have a0 : w5.cell? ⟨g, o + 7, none⟩ = some (.int .u8 p2.op) := cell_later HB5.out (HCp2.out 0 _ rfl)
    have a1 : w5.cell? ⟨g, o + 8, none⟩ = some (.int .i64 p2.n) := cell_later HB5.out (HCp2.out 1 _ rfl)
    have a2 : w5.cell? ⟨g, o + 9, none⟩ = some (.int .u8 p2.side) := cell_later HB5.out (HCp2.out 2 _ rfl)
    have a3 : w5.cell? ⟨g, o + 10, none⟩ = some (.int .u8 p2.sel.side) := cell_later HB5.out (HCp2.out 3 _ rfl)
    have a4 : w5.cell? ⟨g, o + 11, none⟩ = some (.int .u8 p2.sel.zone) := cell_later HB5.out (HCp2.out 4 _ rfl)
    have a5 : w5.cell? ⟨g, o + 12, none⟩ = some (.int .u8 p2.sel.kind) := cell_later HB5.out (HCp2.out 5 _ rfl)
    have a6 : w5.cell? ⟨g, o + 13, none⟩ = some (.slice vp2q vp2n vp2c) := cell_later HB5.out (HCp2.out 6 _ rfl)
    obtain ⟨w6, hw6⟩ : ∃ w6, w6 = w5.alloc (.cells #[.int .u8 p2.op, .int .i64 p2.n, .int .u8 p2.side, .int .u8 p2.sel.side, .int .u8 p2.sel.zone, .int .u8 p2.sel.kind, .slice vp2q vp2n vp2c] 33) := ⟨_, rfl⟩
    have b56 : Below w5.heap.size w5 w6 := by rw [hw6]; exact (Below.refl _ _).alloc (Nat.le_refl _) _
    have HB6 := Lib.hid (HB5.out.trans (b56.mono HB5.out.size))
    have HX6 := Lib.hid ((b56.block _ (heap_lt HX5.out)).trans HX5.out)
    have HY6 := Lib.hid ((b56.block _ (heap_lt HY5.out)).trans HY5.out)
    have HZ6 := Lib.hid ((b56.block _ (heap_lt HZ5.out)).trans HZ5.out)
    have HW6 := Lib.hid hw6
    clear hw6 b56
    go_wp2_with fail
    rw [← HW6.out]
    refine (HVp2.out w6 HB6.out).mono ?_
    rintro e w7 ⟨rfl, b7⟩
    have HB7 := Lib.hid (HB6.out.trans (b7.mono HB6.out.size))
    have HX7 := Lib.hid ((b7.block _ (heap_lt HX6.out)).trans HX6.out)
    have HY7 := Lib.hid ((b7.block _ (heap_lt HY6.out)).trans HY6.out)
    have HZ7 := Lib.hid ((b7.block _ (heap_lt HZ6.out)).trans HZ6.out)
    clear b7 y0 y1 y2 y3 y4 y5 y6 y7 y8 y9 a0 a1 a2 a3 a4 a5 a6 hltX hg5 hlt5
    cases r2 with
    | none =>
      simp only [Option.getD_none, Option.isSome_none]
      go_wp2_with fail
      refine bodyPost_ret (results_tmp2 rfl _ _ _) rfl ?_
      exact ⟨by first | rfl | simp [twoV], HB7.out⟩
    | some b =>
      simp only [Option.getD_some, Option.isSome_some]
      have hbb := HDp2.out b rfl
      have f1 : w7.frozen? ⟨w0.heap.size, 1, none⟩ = false := free_blk HZ7.out
      have g1 : w7.cell? ⟨w0.heap.size, 1, none⟩ = some (.int .i64 0) := cell_blk HZ7.out
      have hs0 := HS0.out
      obtain ⟨w8, hw8⟩ : ∃ w8, w8 = w7.setCell ⟨w0.heap.size, 1, none⟩ (.int .i64 b) := ⟨_, rfl⟩
      have HB8 : Hid (Below w.heap.size w w8) := Lib.hid (by rw [hw8]; exact HB7.out.setCell (by show _ ≤ _; dsimp only; omega) _)
      have HX8 : Hid (w8.heap[w.heap.size]? = some _) := Lib.hid (by rw [hw8]; exact (heap_set_far (by show _ ≠ _; dsimp only; omega) _).trans HX7.out)
      have HY8 : Hid (w8.heap[w.heap.size + 1]? = some _) := Lib.hid (by rw [hw8]; exact (heap_set_far (by show _ ≠ _; dsimp only; omega) _).trans HY7.out)
      have HZ8 : Hid (w8.heap[w0.heap.size]? = some (.cells #[.int .i64 a, .int .i64 b] 24 (0, 0))) := Lib.hid (by rw [hw8]; exact heap_set (i := 1) HZ7.out _)
      have HW8 := Lib.hid hw8
      clear hw8 hs0
      go_wp2_with fail
      rw [← HW8.out]
      rw [rounds_succ]
      clear f1 g1
      have z0 := cell_blk (i := 0) HY8.out
      have z1 := cell_blk (i := 1) HY8.out
      have z2 := cell_blk (i := 2) HY8.out
      have z3 := cell_blk (i := 3) HY8.out
      have z4 := cell_blk (i := 4) HY8.out
      have z5 := cell_blk (i := 5) HY8.out
      have z6 := cell_blk (i := 6) HY8.out
      simp at z0 z1 z2 z3 z4 z5 z6
      have p0 := cell_blk (i := 0) HZ8.out
      have p1 := cell_blk (i := 1) HZ8.out
      simp at p0 p1
      go_wp2_with fail
      go_quiet (fail)
      go_wp2_with fail
      refine (hone.out _ _).mono ?_
      rintro e w9 ⟨rfl, rfl⟩
      go_wp2_with fail
      refine (hbnd.out _ _).mono ?_
      rintro e w10 ⟨rfl, rfl⟩
      go_wp2_with fail
      refine bodyPost_ret (results_tmp2 rfl _ _ _) rfl ?_
      exact ⟨by first | rfl | simp [twoV, oneV, rawV], bl_drewN HB8.out _⟩
end Go.Proofs.Ytlbbabojejimpaa
