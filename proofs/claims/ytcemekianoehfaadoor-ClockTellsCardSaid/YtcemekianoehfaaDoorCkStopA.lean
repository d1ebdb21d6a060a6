/- clock.Stop and the document's: refused. (Made by gen/mkck.py.) -/
import Derived.Test.YtcemekianoehfaaDoorCkStart
namespace Go.Proofs.YtcemekianoehfaaDoor
open Go.RowKit Go.Lib Go.Sort


def stopC (a b m k : Int) (h : Nat) (on : Bool) (s : Int) (f : Nat) (n : Int) : Ck × Bool × Int :=
  if askB a b m k h on s f n = true then
    if on = true then
      if fallB a b k h true s n = true then (⟨if h = 0 then 0 else a, if h = 0 then b else 0, m, k, h, false, n, h⟩, false, 0)
      else (⟨if h = 0 then fillI (a - (n - s)) m else a, if h = 0 then b else fillI (b - (n - s)) m, m, k, h, false, n, 2⟩, true, 0)
    else (.zero, false, 11)
  else (.zero, false, 2)
theorem ask_bd {a b m k s n : Int} {h f : Nat} {on : Bool} (hn : askB a b m k h on s f n = true) : (0 ≤ a ∧ a ≤ 1073741824) ∧ (0 ≤ b ∧ b ≤ 1073741824) ∧ (a = 0 ↔ f = 0) ∧ (b = 0 ↔ f = 1) ∧ (0 ≤ m ∧ m ≤ 1073741824) ∧ (0 ≤ k ∧ k ≤ 1073741824) ∧ h ≤ 1 ∧ f ≤ 2 ∧ (f = 2 ∨ on = false) ∧ 0 ≤ s ∧ s ≤ n ∧ n ≤ 1073741824 := by
  simp only [askB, Bool.and_eq_true, mayB_iff, timeB_iff, decide_eq_true_eq] at hn
  obtain ⟨⟨⟨h1, h2, h3, h4, h5, h6, h7, h8, h9, h10⟩, h11⟩, h12⟩ := hn
  exact ⟨h1, h2, h3, h4, h5, h6, h7, h9, h10, h8.1, h12, h11.2⟩
theorem fill_bd {a m u : Int} : fillI (a - u) m = max (min (a - u + m) 1073741824) 1 := by unfold fillI; omega
theorem ck_later {w wx : World} {a : Addr} {v : Value} (hb : Below w.heap.size w wx) (h : w.cell? a = some v) : wx.cell? a = some v := (hb.cell (World.block_lt_of_cell? _ _ h)).trans h
theorem ck_set {w : World} {g i j : Nat} {u v : Value} (hne : j ≠ i) (h : w.cell? ⟨g, i, none⟩ = some v) : (w.setCell ⟨g, j, none⟩ u).cell? ⟨g, i, none⟩ = some v := by
  rw [World.cell?_setCell_other]
  · exact h
  · simp only [ne_eq, Addr.mk.injEq, not_and]; omega
set_option maxHeartbeats 4000000 in
set_option maxRecDepth 100000 in
theorem stop_no (a b m k : Int) (h : Nat) (on : Bool) (s : Int) (f : Nat) (n : Int) (hn : askB a b m k h on s f n = false) (w : World) : Calls Tryd.prog 13 #[ckV a b m k h on s f, .int .i64 n] w fun e w' => e = .returned (.tuple #[ckV 0 0 0 0 0 false 0 0, .bool false, .int .i64 2]) ∧ Below w.heap.size w w' := by
  obtain ⟨w0, hw0⟩ : ∃ w0, w0 = (w.alloc (.cells #[.int .i64 a, .int .i64 b, .int .i64 m, .int .i64 k, .int .u8 h, .bool on, .int .i64 s, .int .u8 f] 24)).alloc (.cells #[.int .i64 0, .int .i64 0, .int .i64 0, .int .i64 0, .int .u8 0, .bool false, .int .i64 0, .int .u8 0] 24) := ⟨_, rfl⟩
  have HX0 : Hid (w0.heap[w.heap.size]? = some (.cells #[.int .i64 a, .int .i64 b, .int .i64 m, .int .i64 k, .int .u8 h, .bool on, .int .i64 s, .int .u8 f] 24 (0, 0))) := Lib.hid (by rw [hw0]; exact heap_older (heap_alloc_new _ _))
  have HZ0 : Hid (w0.heap[w.heap.size + 1]? = some (.cells #[.int .i64 0, .int .i64 0, .int .i64 0, .int .i64 0, .int .u8 0, .bool false, .int .i64 0, .int .u8 0] 24 (0, 0))) := Lib.hid (by rw [hw0]; exact heap_newer _ _ _ (by simp))
  have HB0 : Hid (Below w.heap.size w w0) := Lib.hid (by rw [hw0]; exact (box_below _ _).alloc (by simp) _)
  have HW0 := Lib.hid hw0
  clear hw0
  go_enter Tryd.func13, Tryd.ntmps13
  go_wp2_with fail
  refine (ask_any a b m k h on s f n _).mono ?_
  rintro e w2 ⟨rfl, hb2⟩
  rw [← HW0.out] at hb2
  have HX2 := Lib.hid ((hb2.block _ (heap_lt HX0.out)).trans HX0.out)
  have HZ2 := Lib.hid ((hb2.block _ (heap_lt HZ0.out)).trans HZ0.out)
  have HB2 := Lib.hid (HB0.out.trans (hb2.mono HB0.out.size))
  clear hb2
  have x0 := cell_blk (i := 0) HX2.out
  have x1 := cell_blk (i := 1) HX2.out
  have x2 := cell_blk (i := 2) HX2.out
  have x3 := cell_blk (i := 3) HX2.out
  have x4 := cell_blk (i := 4) HX2.out
  have x5 := cell_blk (i := 5) HX2.out
  have x6 := cell_blk (i := 6) HX2.out
  have x7 := cell_blk (i := 7) HX2.out
  simp [ckO] at x0 x1 x2 x3 x4 x5 x6 x7
  have xf0 := free_blk (i := 0) HX2.out
  have xf1 := free_blk (i := 1) HX2.out
  have xf2 := free_blk (i := 2) HX2.out
  have xf3 := free_blk (i := 3) HX2.out
  have xf4 := free_blk (i := 4) HX2.out
  have xf5 := free_blk (i := 5) HX2.out
  have xf6 := free_blk (i := 6) HX2.out
  have xf7 := free_blk (i := 7) HX2.out
  have z0 := cell_blk (i := 0) HZ2.out
  have z1 := cell_blk (i := 1) HZ2.out
  have z2 := cell_blk (i := 2) HZ2.out
  have z3 := cell_blk (i := 3) HZ2.out
  have z4 := cell_blk (i := 4) HZ2.out
  have z5 := cell_blk (i := 5) HZ2.out
  have z6 := cell_blk (i := 6) HZ2.out
  have z7 := cell_blk (i := 7) HZ2.out
  simp [ckO] at z0 z1 z2 z3 z4 z5 z6 z7
  have zf0 := free_blk (i := 0) HZ2.out
  have zf1 := free_blk (i := 1) HZ2.out
  have zf2 := free_blk (i := 2) HZ2.out
  have zf3 := free_blk (i := 3) HZ2.out
  have zf4 := free_blk (i := 4) HZ2.out
  have zf5 := free_blk (i := 5) HZ2.out
  have zf6 := free_blk (i := 6) HZ2.out
  have zf7 := free_blk (i := 7) HZ2.out
  go_wp2
  exact bodyPost_ret (v := .tuple #[ckV 0 0 0 0 0 false 0 0, .bool false, .int .i64 2]) (by simp [results, Tryd.results13, go_sem, z0, z1, z2, z3, z4, z5, z6, z7, zf0, zf1, zf2, zf3, zf4, zf5, zf6, zf7]) rfl ⟨rfl, (by repeat (first | (with_reducible exact HB2.out) | ((with_reducible refine Below.setCell ?_ ?_ _); rotate_left; focus (simp; done)) | (with_reducible refine below_dr ?_ _) | (with_reducible refine Below.drew ?_)))⟩

set_option maxHeartbeats 4000000 in
set_option maxRecDepth 100000 in
theorem stop_off (a b m k : Int) (h : Nat) (s : Int) (f : Nat) (n : Int) (hn : askB a b m k h false s f n = true) (w : World) : Calls Tryd.prog 13 #[ckV a b m k h false s f, .int .i64 n] w fun e w' => e = .returned (.tuple #[ckV 0 0 0 0 0 false 0 0, .bool false, .int .i64 11]) ∧ Below w.heap.size w w' := by
  obtain ⟨w0, hw0⟩ : ∃ w0, w0 = (w.alloc (.cells #[.int .i64 a, .int .i64 b, .int .i64 m, .int .i64 k, .int .u8 h, .bool false, .int .i64 s, .int .u8 f] 24)).alloc (.cells #[.int .i64 0, .int .i64 0, .int .i64 0, .int .i64 0, .int .u8 0, .bool false, .int .i64 0, .int .u8 0] 24) := ⟨_, rfl⟩
  have HX0 : Hid (w0.heap[w.heap.size]? = some (.cells #[.int .i64 a, .int .i64 b, .int .i64 m, .int .i64 k, .int .u8 h, .bool false, .int .i64 s, .int .u8 f] 24 (0, 0))) := Lib.hid (by rw [hw0]; exact heap_older (heap_alloc_new _ _))
  have HZ0 : Hid (w0.heap[w.heap.size + 1]? = some (.cells #[.int .i64 0, .int .i64 0, .int .i64 0, .int .i64 0, .int .u8 0, .bool false, .int .i64 0, .int .u8 0] 24 (0, 0))) := Lib.hid (by rw [hw0]; exact heap_newer _ _ _ (by simp))
  have HB0 : Hid (Below w.heap.size w w0) := Lib.hid (by rw [hw0]; exact (box_below _ _).alloc (by simp) _)
  have HW0 := Lib.hid hw0
  clear hw0
  go_enter Tryd.func13, Tryd.ntmps13
  go_wp2_with fail
  refine (ask_any a b m k h false s f n _).mono ?_
  rintro e w2 ⟨rfl, hb2⟩
  rw [← HW0.out] at hb2
  have HX2 := Lib.hid ((hb2.block _ (heap_lt HX0.out)).trans HX0.out)
  have HZ2 := Lib.hid ((hb2.block _ (heap_lt HZ0.out)).trans HZ0.out)
  have HB2 := Lib.hid (HB0.out.trans (hb2.mono HB0.out.size))
  clear hb2
  have x0 := cell_blk (i := 0) HX2.out
  have x1 := cell_blk (i := 1) HX2.out
  have x2 := cell_blk (i := 2) HX2.out
  have x3 := cell_blk (i := 3) HX2.out
  have x4 := cell_blk (i := 4) HX2.out
  have x5 := cell_blk (i := 5) HX2.out
  have x6 := cell_blk (i := 6) HX2.out
  have x7 := cell_blk (i := 7) HX2.out
  simp [ckO] at x0 x1 x2 x3 x4 x5 x6 x7
  have xf0 := free_blk (i := 0) HX2.out
  have xf1 := free_blk (i := 1) HX2.out
  have xf2 := free_blk (i := 2) HX2.out
  have xf3 := free_blk (i := 3) HX2.out
  have xf4 := free_blk (i := 4) HX2.out
  have xf5 := free_blk (i := 5) HX2.out
  have xf6 := free_blk (i := 6) HX2.out
  have xf7 := free_blk (i := 7) HX2.out
  have z0 := cell_blk (i := 0) HZ2.out
  have z1 := cell_blk (i := 1) HZ2.out
  have z2 := cell_blk (i := 2) HZ2.out
  have z3 := cell_blk (i := 3) HZ2.out
  have z4 := cell_blk (i := 4) HZ2.out
  have z5 := cell_blk (i := 5) HZ2.out
  have z6 := cell_blk (i := 6) HZ2.out
  have z7 := cell_blk (i := 7) HZ2.out
  simp [ckO] at z0 z1 z2 z3 z4 z5 z6 z7
  have zf0 := free_blk (i := 0) HZ2.out
  have zf1 := free_blk (i := 1) HZ2.out
  have zf2 := free_blk (i := 2) HZ2.out
  have zf3 := free_blk (i := 3) HZ2.out
  have zf4 := free_blk (i := 4) HZ2.out
  have zf5 := free_blk (i := 5) HZ2.out
  have zf6 := free_blk (i := 6) HZ2.out
  have zf7 := free_blk (i := 7) HZ2.out
  go_wp2
  exact bodyPost_ret (v := .tuple #[ckV 0 0 0 0 0 false 0 0, .bool false, .int .i64 11]) (by simp [results, Tryd.results13, go_sem, z0, z1, z2, z3, z4, z5, z6, z7, zf0, zf1, zf2, zf3, zf4, zf5, zf6, zf7]) rfl ⟨rfl, (by repeat (first | (with_reducible exact HB2.out) | ((with_reducible refine Below.setCell ?_ ?_ _); rotate_left; focus (simp; done)) | (with_reducible refine below_dr ?_ _) | (with_reducible refine Below.drew ?_)))⟩

set_option maxHeartbeats 4000000 in
set_option maxRecDepth 100000 in
theorem rstop_no (a b m k : Int) (h : Nat) (on : Bool) (s : Int) (f : Nat) (hg : f < 256) (n : Int) (hn : askB a b m k h on s f n = false) (w : World) : Calls Tryd.prog 14 #[ckV a b m k h on s f, .int .i64 n] w fun e w' => e = .returned (.tuple #[ckV 0 0 0 0 0 false 0 0, .bool false, .int .i64 2]) ∧ Below w.heap.size w w' := by
  obtain ⟨w0, hw0⟩ : ∃ w0, w0 = (w.alloc (.cells #[.int .i64 a, .int .i64 b, .int .i64 m, .int .i64 k, .int .u8 h, .bool on, .int .i64 s, .int .u8 f] 24)).alloc (.cells #[.int .i64 0, .int .i64 0, .int .i64 0, .int .i64 0, .int .u8 0, .bool false, .int .i64 0, .int .u8 0] 24) := ⟨_, rfl⟩
  have HX0 : Hid (w0.heap[w.heap.size]? = some (.cells #[.int .i64 a, .int .i64 b, .int .i64 m, .int .i64 k, .int .u8 h, .bool on, .int .i64 s, .int .u8 f] 24 (0, 0))) := Lib.hid (by rw [hw0]; exact heap_older (heap_alloc_new _ _))
  have HZ0 : Hid (w0.heap[w.heap.size + 1]? = some (.cells #[.int .i64 0, .int .i64 0, .int .i64 0, .int .i64 0, .int .u8 0, .bool false, .int .i64 0, .int .u8 0] 24 (0, 0))) := Lib.hid (by rw [hw0]; exact heap_newer _ _ _ (by simp))
  have HB0 : Hid (Below w.heap.size w w0) := Lib.hid (by rw [hw0]; exact (box_below _ _).alloc (by simp) _)
  have HW0 := Lib.hid hw0
  clear hw0
  go_enter Tryd.func14, Tryd.ntmps14
  go_wp2_with fail
  refine (rask_any a b m k h on s f hg n _).mono ?_
  rintro e w2 ⟨rfl, hb2⟩
  rw [← HW0.out] at hb2
  have HX2 := Lib.hid ((hb2.block _ (heap_lt HX0.out)).trans HX0.out)
  have HZ2 := Lib.hid ((hb2.block _ (heap_lt HZ0.out)).trans HZ0.out)
  have HB2 := Lib.hid (HB0.out.trans (hb2.mono HB0.out.size))
  clear hb2
  have x0 := cell_blk (i := 0) HX2.out
  have x1 := cell_blk (i := 1) HX2.out
  have x2 := cell_blk (i := 2) HX2.out
  have x3 := cell_blk (i := 3) HX2.out
  have x4 := cell_blk (i := 4) HX2.out
  have x5 := cell_blk (i := 5) HX2.out
  have x6 := cell_blk (i := 6) HX2.out
  have x7 := cell_blk (i := 7) HX2.out
  simp [ckO] at x0 x1 x2 x3 x4 x5 x6 x7
  have xf0 := free_blk (i := 0) HX2.out
  have xf1 := free_blk (i := 1) HX2.out
  have xf2 := free_blk (i := 2) HX2.out
  have xf3 := free_blk (i := 3) HX2.out
  have xf4 := free_blk (i := 4) HX2.out
  have xf5 := free_blk (i := 5) HX2.out
  have xf6 := free_blk (i := 6) HX2.out
  have xf7 := free_blk (i := 7) HX2.out
  have z0 := cell_blk (i := 0) HZ2.out
  have z1 := cell_blk (i := 1) HZ2.out
  have z2 := cell_blk (i := 2) HZ2.out
  have z3 := cell_blk (i := 3) HZ2.out
  have z4 := cell_blk (i := 4) HZ2.out
  have z5 := cell_blk (i := 5) HZ2.out
  have z6 := cell_blk (i := 6) HZ2.out
  have z7 := cell_blk (i := 7) HZ2.out
  simp [ckO] at z0 z1 z2 z3 z4 z5 z6 z7
  have zf0 := free_blk (i := 0) HZ2.out
  have zf1 := free_blk (i := 1) HZ2.out
  have zf2 := free_blk (i := 2) HZ2.out
  have zf3 := free_blk (i := 3) HZ2.out
  have zf4 := free_blk (i := 4) HZ2.out
  have zf5 := free_blk (i := 5) HZ2.out
  have zf6 := free_blk (i := 6) HZ2.out
  have zf7 := free_blk (i := 7) HZ2.out
  go_wp2
  exact bodyPost_ret (v := .tuple #[ckV 0 0 0 0 0 false 0 0, .bool false, .int .i64 2]) (by simp [results, Tryd.results14, go_sem, z0, z1, z2, z3, z4, z5, z6, z7, zf0, zf1, zf2, zf3, zf4, zf5, zf6, zf7]) rfl ⟨rfl, (by repeat (first | (with_reducible exact HB2.out) | ((with_reducible refine Below.setCell ?_ ?_ _); rotate_left; focus (simp; done)) | (with_reducible refine below_dr ?_ _) | (with_reducible refine Below.drew ?_)))⟩

set_option maxHeartbeats 4000000 in
set_option maxRecDepth 100000 in
theorem rstop_off (a b m k : Int) (h : Nat) (s : Int) (f : Nat) (hg : f < 256) (n : Int) (hn : askB a b m k h false s f n = true) (w : World) : Calls Tryd.prog 14 #[ckV a b m k h false s f, .int .i64 n] w fun e w' => e = .returned (.tuple #[ckV 0 0 0 0 0 false 0 0, .bool false, .int .i64 11]) ∧ Below w.heap.size w w' := by
  obtain ⟨w0, hw0⟩ : ∃ w0, w0 = (w.alloc (.cells #[.int .i64 a, .int .i64 b, .int .i64 m, .int .i64 k, .int .u8 h, .bool false, .int .i64 s, .int .u8 f] 24)).alloc (.cells #[.int .i64 0, .int .i64 0, .int .i64 0, .int .i64 0, .int .u8 0, .bool false, .int .i64 0, .int .u8 0] 24) := ⟨_, rfl⟩
  have HX0 : Hid (w0.heap[w.heap.size]? = some (.cells #[.int .i64 a, .int .i64 b, .int .i64 m, .int .i64 k, .int .u8 h, .bool false, .int .i64 s, .int .u8 f] 24 (0, 0))) := Lib.hid (by rw [hw0]; exact heap_older (heap_alloc_new _ _))
  have HZ0 : Hid (w0.heap[w.heap.size + 1]? = some (.cells #[.int .i64 0, .int .i64 0, .int .i64 0, .int .i64 0, .int .u8 0, .bool false, .int .i64 0, .int .u8 0] 24 (0, 0))) := Lib.hid (by rw [hw0]; exact heap_newer _ _ _ (by simp))
  have HB0 : Hid (Below w.heap.size w w0) := Lib.hid (by rw [hw0]; exact (box_below _ _).alloc (by simp) _)
  have HW0 := Lib.hid hw0
  clear hw0
  go_enter Tryd.func14, Tryd.ntmps14
  go_wp2_with fail
  refine (rask_any a b m k h false s f hg n _).mono ?_
  rintro e w2 ⟨rfl, hb2⟩
  rw [← HW0.out] at hb2
  have HX2 := Lib.hid ((hb2.block _ (heap_lt HX0.out)).trans HX0.out)
  have HZ2 := Lib.hid ((hb2.block _ (heap_lt HZ0.out)).trans HZ0.out)
  have HB2 := Lib.hid (HB0.out.trans (hb2.mono HB0.out.size))
  clear hb2
  have x0 := cell_blk (i := 0) HX2.out
  have x1 := cell_blk (i := 1) HX2.out
  have x2 := cell_blk (i := 2) HX2.out
  have x3 := cell_blk (i := 3) HX2.out
  have x4 := cell_blk (i := 4) HX2.out
  have x5 := cell_blk (i := 5) HX2.out
  have x6 := cell_blk (i := 6) HX2.out
  have x7 := cell_blk (i := 7) HX2.out
  simp [ckO] at x0 x1 x2 x3 x4 x5 x6 x7
  have xf0 := free_blk (i := 0) HX2.out
  have xf1 := free_blk (i := 1) HX2.out
  have xf2 := free_blk (i := 2) HX2.out
  have xf3 := free_blk (i := 3) HX2.out
  have xf4 := free_blk (i := 4) HX2.out
  have xf5 := free_blk (i := 5) HX2.out
  have xf6 := free_blk (i := 6) HX2.out
  have xf7 := free_blk (i := 7) HX2.out
  have z0 := cell_blk (i := 0) HZ2.out
  have z1 := cell_blk (i := 1) HZ2.out
  have z2 := cell_blk (i := 2) HZ2.out
  have z3 := cell_blk (i := 3) HZ2.out
  have z4 := cell_blk (i := 4) HZ2.out
  have z5 := cell_blk (i := 5) HZ2.out
  have z6 := cell_blk (i := 6) HZ2.out
  have z7 := cell_blk (i := 7) HZ2.out
  simp [ckO] at z0 z1 z2 z3 z4 z5 z6 z7
  have zf0 := free_blk (i := 0) HZ2.out
  have zf1 := free_blk (i := 1) HZ2.out
  have zf2 := free_blk (i := 2) HZ2.out
  have zf3 := free_blk (i := 3) HZ2.out
  have zf4 := free_blk (i := 4) HZ2.out
  have zf5 := free_blk (i := 5) HZ2.out
  have zf6 := free_blk (i := 6) HZ2.out
  have zf7 := free_blk (i := 7) HZ2.out
  go_wp2
  exact bodyPost_ret (v := .tuple #[ckV 0 0 0 0 0 false 0 0, .bool false, .int .i64 11]) (by simp [results, Tryd.results14, go_sem, z0, z1, z2, z3, z4, z5, z6, z7, zf0, zf1, zf2, zf3, zf4, zf5, zf6, zf7]) rfl ⟨rfl, (by repeat (first | (with_reducible exact HB2.out) | ((with_reducible refine Below.setCell ?_ ?_ _); rotate_left; focus (simp; done)) | (with_reducible refine below_dr ?_ _) | (with_reducible refine Below.drew ?_)))⟩

end Go.Proofs.YtcemekianoehfaaDoor
