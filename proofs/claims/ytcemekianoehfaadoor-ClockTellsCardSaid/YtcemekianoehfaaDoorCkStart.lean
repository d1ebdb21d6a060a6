/- clock.Start and the document's: walked. (Made by gen/mkck.py.) -/
import Derived.Test.YtcemekianoehfaaDoorCkFns
namespace Go.Proofs.YtcemekianoehfaaDoor
open Go.RowKit Go.Lib Go.Sort


structure Ck where
  a : Int
  b : Int
  m : Int
  k : Int
  h : Nat
  on : Bool
  s : Int
  f : Nat
def Ck.zero : Ck := ⟨0, 0, 0, 0, 0, false, 0, 0⟩
abbrev Ck.val (c : Ck) : Value := ckV c.a c.b c.m c.k c.h c.on c.s c.f
def startC (a b m k : Int) (h : Nat) (on : Bool) (s : Int) (f : Nat) (who : Nat) (n : Int) : Ck × Int :=
  if askB a b m k h on s f n = true ∧ who ≤ 1 then if on = false ∧ f = 2 then (⟨a, b, m, k, who, true, n, f⟩, 0) else (.zero, 11) else (.zero, 2)

theorem zero_obj : (ckO 0 0 0 0 0 false 0 0) = .cells #[.int .i64 0, .int .i64 0, .int .i64 0, .int .i64 0, .int .u8 0, .bool false, .int .i64 0, .int .u8 0] 24 := rfl
set_option maxHeartbeats 4000000 in
set_option maxRecDepth 100000 in
theorem start_no (a b m k : Int) (h : Nat) (on : Bool) (s : Int) (f : Nat) (who : Nat) (n : Int) (hn : askB a b m k h on s f n = false) (w : World) : Calls Tryd.prog 11 #[ckV a b m k h on s f, .int .u8 who, .int .i64 n] w fun e w' => e = .returned (.tuple #[ckV 0 0 0 0 0 false 0 0, .int .i64 2]) ∧ Below w.heap.size w w' := by
  obtain ⟨w0, hw0⟩ : ∃ w0, w0 = (w.alloc (.cells #[.int .i64 a, .int .i64 b, .int .i64 m, .int .i64 k, .int .u8 h, .bool on, .int .i64 s, .int .u8 f] 24)).alloc (.cells #[.int .i64 0, .int .i64 0, .int .i64 0, .int .i64 0, .int .u8 0, .bool false, .int .i64 0, .int .u8 0] 24) := ⟨_, rfl⟩
  have HX0 : Hid (w0.heap[w.heap.size]? = some (.cells #[.int .i64 a, .int .i64 b, .int .i64 m, .int .i64 k, .int .u8 h, .bool on, .int .i64 s, .int .u8 f] 24 (0, 0))) := Lib.hid (by rw [hw0]; exact heap_older (heap_alloc_new _ _))
  have HZ0 : Hid (w0.heap[w.heap.size + 1]? = some (.cells #[.int .i64 0, .int .i64 0, .int .i64 0, .int .i64 0, .int .u8 0, .bool false, .int .i64 0, .int .u8 0] 24 (0, 0))) := Lib.hid (by rw [hw0]; exact heap_newer _ _ _ (by simp))
  have HB0 : Hid (Below w.heap.size w w0) := Lib.hid (by rw [hw0]; exact (box_below _ _).alloc (by simp) _)
  have HW0 := Lib.hid hw0
  clear hw0
  go_enter Tryd.func11, Tryd.ntmps11
  go_wp2_with fail
  refine (ask_any a b m k h on s f n _).mono ?_
  rintro e w2 ⟨rfl, hb2⟩
  rw [← HW0.out] at hb2
  have HX2 := Lib.hid ((hb2.block _ (heap_lt HX0.out)).trans HX0.out)
  have HZ2 := Lib.hid ((hb2.block _ (heap_lt HZ0.out)).trans HZ0.out)
  have HB2 := Lib.hid (HB0.out.trans (hb2.mono HB0.out.size))
  clear hb2
  have x0 := cell_blk (i := 0) HX2.out
  have x1 := cell_blk (i := 1) HX2.out
  have x2 := cell_blk (i := 2) HX2.out
  have x3 := cell_blk (i := 3) HX2.out
  have x4 := cell_blk (i := 4) HX2.out
  have x5 := cell_blk (i := 5) HX2.out
  have x6 := cell_blk (i := 6) HX2.out
  have x7 := cell_blk (i := 7) HX2.out
  simp [ckO] at x0 x1 x2 x3 x4 x5 x6 x7
  have xf0 := free_blk (i := 0) HX2.out
  have xf1 := free_blk (i := 1) HX2.out
  have xf2 := free_blk (i := 2) HX2.out
  have xf3 := free_blk (i := 3) HX2.out
  have xf4 := free_blk (i := 4) HX2.out
  have xf5 := free_blk (i := 5) HX2.out
  have xf6 := free_blk (i := 6) HX2.out
  have xf7 := free_blk (i := 7) HX2.out
  have z0 := cell_blk (i := 0) HZ2.out
  have z1 := cell_blk (i := 1) HZ2.out
  have z2 := cell_blk (i := 2) HZ2.out
  have z3 := cell_blk (i := 3) HZ2.out
  have z4 := cell_blk (i := 4) HZ2.out
  have z5 := cell_blk (i := 5) HZ2.out
  have z6 := cell_blk (i := 6) HZ2.out
  have z7 := cell_blk (i := 7) HZ2.out
  simp [ckO] at z0 z1 z2 z3 z4 z5 z6 z7
  have zf0 := free_blk (i := 0) HZ2.out
  have zf1 := free_blk (i := 1) HZ2.out
  have zf2 := free_blk (i := 2) HZ2.out
  have zf3 := free_blk (i := 3) HZ2.out
  have zf4 := free_blk (i := 4) HZ2.out
  have zf5 := free_blk (i := 5) HZ2.out
  have zf6 := free_blk (i := 6) HZ2.out
  have zf7 := free_blk (i := 7) HZ2.out
  go_wp2
  exact bodyPost_ret (v := .tuple #[ckV 0 0 0 0 0 false 0 0, .int .i64 2]) (by simp [results, Tryd.results11, go_sem, z0, z1, z2, z3, z4, z5, z6, z7, zf0, zf1, zf2, zf3, zf4, zf5, zf6, zf7]) rfl ⟨rfl, (by repeat (first | (with_reducible exact HB2.out) | ((with_reducible refine Below.setCell ?_ ?_ _); rotate_left; focus (simp; done)) | (with_reducible refine below_dr ?_ _) | (with_reducible refine Below.drew ?_)))⟩

set_option maxHeartbeats 4000000 in
set_option maxRecDepth 100000 in
theorem start_who (a b m k : Int) (h : Nat) (on : Bool) (s : Int) (f : Nat) (who : Nat) (n : Int) (hn : askB a b m k h on s f n = true) (hw : 1 < who) (w : World) : Calls Tryd.prog 11 #[ckV a b m k h on s f, .int .u8 who, .int .i64 n] w fun e w' => e = .returned (.tuple #[ckV 0 0 0 0 0 false 0 0, .int .i64 2]) ∧ Below w.heap.size w w' := by
  obtain ⟨w0, hw0⟩ : ∃ w0, w0 = (w.alloc (.cells #[.int .i64 a, .int .i64 b, .int .i64 m, .int .i64 k, .int .u8 h, .bool on, .int .i64 s, .int .u8 f] 24)).alloc (.cells #[.int .i64 0, .int .i64 0, .int .i64 0, .int .i64 0, .int .u8 0, .bool false, .int .i64 0, .int .u8 0] 24) := ⟨_, rfl⟩
  have HX0 : Hid (w0.heap[w.heap.size]? = some (.cells #[.int .i64 a, .int .i64 b, .int .i64 m, .int .i64 k, .int .u8 h, .bool on, .int .i64 s, .int .u8 f] 24 (0, 0))) := Lib.hid (by rw [hw0]; exact heap_older (heap_alloc_new _ _))
  have HZ0 : Hid (w0.heap[w.heap.size + 1]? = some (.cells #[.int .i64 0, .int .i64 0, .int .i64 0, .int .i64 0, .int .u8 0, .bool false, .int .i64 0, .int .u8 0] 24 (0, 0))) := Lib.hid (by rw [hw0]; exact heap_newer _ _ _ (by simp))
  have HB0 : Hid (Below w.heap.size w w0) := Lib.hid (by rw [hw0]; exact (box_below _ _).alloc (by simp) _)
  have HW0 := Lib.hid hw0
  clear hw0
  go_enter Tryd.func11, Tryd.ntmps11
  go_wp2_with fail
  refine (ask_any a b m k h on s f n _).mono ?_
  rintro e w2 ⟨rfl, hb2⟩
  rw [← HW0.out] at hb2
  have HX2 := Lib.hid ((hb2.block _ (heap_lt HX0.out)).trans HX0.out)
  have HZ2 := Lib.hid ((hb2.block _ (heap_lt HZ0.out)).trans HZ0.out)
  have HB2 := Lib.hid (HB0.out.trans (hb2.mono HB0.out.size))
  clear hb2
  have x0 := cell_blk (i := 0) HX2.out
  have x1 := cell_blk (i := 1) HX2.out
  have x2 := cell_blk (i := 2) HX2.out
  have x3 := cell_blk (i := 3) HX2.out
  have x4 := cell_blk (i := 4) HX2.out
  have x5 := cell_blk (i := 5) HX2.out
  have x6 := cell_blk (i := 6) HX2.out
  have x7 := cell_blk (i := 7) HX2.out
  simp [ckO] at x0 x1 x2 x3 x4 x5 x6 x7
  have xf0 := free_blk (i := 0) HX2.out
  have xf1 := free_blk (i := 1) HX2.out
  have xf2 := free_blk (i := 2) HX2.out
  have xf3 := free_blk (i := 3) HX2.out
  have xf4 := free_blk (i := 4) HX2.out
  have xf5 := free_blk (i := 5) HX2.out
  have xf6 := free_blk (i := 6) HX2.out
  have xf7 := free_blk (i := 7) HX2.out
  have z0 := cell_blk (i := 0) HZ2.out
  have z1 := cell_blk (i := 1) HZ2.out
  have z2 := cell_blk (i := 2) HZ2.out
  have z3 := cell_blk (i := 3) HZ2.out
  have z4 := cell_blk (i := 4) HZ2.out
  have z5 := cell_blk (i := 5) HZ2.out
  have z6 := cell_blk (i := 6) HZ2.out
  have z7 := cell_blk (i := 7) HZ2.out
  simp [ckO] at z0 z1 z2 z3 z4 z5 z6 z7
  have zf0 := free_blk (i := 0) HZ2.out
  have zf1 := free_blk (i := 1) HZ2.out
  have zf2 := free_blk (i := 2) HZ2.out
  have zf3 := free_blk (i := 3) HZ2.out
  have zf4 := free_blk (i := 4) HZ2.out
  have zf5 := free_blk (i := 5) HZ2.out
  have zf6 := free_blk (i := 6) HZ2.out
  have zf7 := free_blk (i := 7) HZ2.out
  go_wp2
  exact bodyPost_ret (v := .tuple #[ckV 0 0 0 0 0 false 0 0, .int .i64 2]) (by simp [results, Tryd.results11, go_sem, z0, z1, z2, z3, z4, z5, z6, z7, zf0, zf1, zf2, zf3, zf4, zf5, zf6, zf7]) rfl ⟨rfl, (by repeat (first | (with_reducible exact HB2.out) | ((with_reducible refine Below.setCell ?_ ?_ _); rotate_left; focus (simp; done)) | (with_reducible refine below_dr ?_ _) | (with_reducible refine Below.drew ?_)))⟩

set_option maxHeartbeats 4000000 in
set_option maxRecDepth 100000 in
theorem start_on (a b m k : Int) (h : Nat) (s : Int) (f : Nat) (who : Nat) (n : Int) (hn : askB a b m k h true s f n = true) (hw : who ≤ 1) (w : World) : Calls Tryd.prog 11 #[ckV a b m k h true s f, .int .u8 who, .int .i64 n] w fun e w' => e = .returned (.tuple #[ckV 0 0 0 0 0 false 0 0, .int .i64 11]) ∧ Below w.heap.size w w' := by
  obtain ⟨w0, hw0⟩ : ∃ w0, w0 = (w.alloc (.cells #[.int .i64 a, .int .i64 b, .int .i64 m, .int .i64 k, .int .u8 h, .bool true, .int .i64 s, .int .u8 f] 24)).alloc (.cells #[.int .i64 0, .int .i64 0, .int .i64 0, .int .i64 0, .int .u8 0, .bool false, .int .i64 0, .int .u8 0] 24) := ⟨_, rfl⟩
  have HX0 : Hid (w0.heap[w.heap.size]? = some (.cells #[.int .i64 a, .int .i64 b, .int .i64 m, .int .i64 k, .int .u8 h, .bool true, .int .i64 s, .int .u8 f] 24 (0, 0))) := Lib.hid (by rw [hw0]; exact heap_older (heap_alloc_new _ _))
  have HZ0 : Hid (w0.heap[w.heap.size + 1]? = some (.cells #[.int .i64 0, .int .i64 0, .int .i64 0, .int .i64 0, .int .u8 0, .bool false, .int .i64 0, .int .u8 0] 24 (0, 0))) := Lib.hid (by rw [hw0]; exact heap_newer _ _ _ (by simp))
  have HB0 : Hid (Below w.heap.size w w0) := Lib.hid (by rw [hw0]; exact (box_below _ _).alloc (by simp) _)
  have HW0 := Lib.hid hw0
  clear hw0
  go_enter Tryd.func11, Tryd.ntmps11
  go_wp2_with fail
  refine (ask_any a b m k h true s f n _).mono ?_
  rintro e w2 ⟨rfl, hb2⟩
  rw [← HW0.out] at hb2
  have HX2 := Lib.hid ((hb2.block _ (heap_lt HX0.out)).trans HX0.out)
  have HZ2 := Lib.hid ((hb2.block _ (heap_lt HZ0.out)).trans HZ0.out)
  have HB2 := Lib.hid (HB0.out.trans (hb2.mono HB0.out.size))
  clear hb2
  have x0 := cell_blk (i := 0) HX2.out
  have x1 := cell_blk (i := 1) HX2.out
  have x2 := cell_blk (i := 2) HX2.out
  have x3 := cell_blk (i := 3) HX2.out
  have x4 := cell_blk (i := 4) HX2.out
  have x5 := cell_blk (i := 5) HX2.out
  have x6 := cell_blk (i := 6) HX2.out
  have x7 := cell_blk (i := 7) HX2.out
  simp [ckO] at x0 x1 x2 x3 x4 x5 x6 x7
  have xf0 := free_blk (i := 0) HX2.out
  have xf1 := free_blk (i := 1) HX2.out
  have xf2 := free_blk (i := 2) HX2.out
  have xf3 := free_blk (i := 3) HX2.out
  have xf4 := free_blk (i := 4) HX2.out
  have xf5 := free_blk (i := 5) HX2.out
  have xf6 := free_blk (i := 6) HX2.out
  have xf7 := free_blk (i := 7) HX2.out
  have z0 := cell_blk (i := 0) HZ2.out
  have z1 := cell_blk (i := 1) HZ2.out
  have z2 := cell_blk (i := 2) HZ2.out
  have z3 := cell_blk (i := 3) HZ2.out
  have z4 := cell_blk (i := 4) HZ2.out
  have z5 := cell_blk (i := 5) HZ2.out
  have z6 := cell_blk (i := 6) HZ2.out
  have z7 := cell_blk (i := 7) HZ2.out
  simp [ckO] at z0 z1 z2 z3 z4 z5 z6 z7
  have zf0 := free_blk (i := 0) HZ2.out
  have zf1 := free_blk (i := 1) HZ2.out
  have zf2 := free_blk (i := 2) HZ2.out
  have zf3 := free_blk (i := 3) HZ2.out
  have zf4 := free_blk (i := 4) HZ2.out
  have zf5 := free_blk (i := 5) HZ2.out
  have zf6 := free_blk (i := 6) HZ2.out
  have zf7 := free_blk (i := 7) HZ2.out
  go_wp2
  exact bodyPost_ret (v := .tuple #[ckV 0 0 0 0 0 false 0 0, .int .i64 11]) (by simp [results, Tryd.results11, go_sem, z0, z1, z2, z3, z4, z5, z6, z7, zf0, zf1, zf2, zf3, zf4, zf5, zf6, zf7]) rfl ⟨rfl, (by repeat (first | (with_reducible exact HB2.out) | ((with_reducible refine Below.setCell ?_ ?_ _); rotate_left; focus (simp; done)) | (with_reducible refine below_dr ?_ _) | (with_reducible refine Below.drew ?_)))⟩

set_option maxHeartbeats 4000000 in
set_option maxRecDepth 100000 in
theorem start_fell (a b m k : Int) (h : Nat) (s : Int) (f : Nat) (who : Nat) (n : Int) (hn : askB a b m k h false s f n = true) (hw : who ≤ 1) (hf : f < 2) (w : World) : Calls Tryd.prog 11 #[ckV a b m k h false s f, .int .u8 who, .int .i64 n] w fun e w' => e = .returned (.tuple #[ckV 0 0 0 0 0 false 0 0, .int .i64 11]) ∧ Below w.heap.size w w' := by
  have qf : ((f : Int) != 2) = true := by simp; omega
  obtain ⟨w0, hw0⟩ : ∃ w0, w0 = (w.alloc (.cells #[.int .i64 a, .int .i64 b, .int .i64 m, .int .i64 k, .int .u8 h, .bool false, .int .i64 s, .int .u8 f] 24)).alloc (.cells #[.int .i64 0, .int .i64 0, .int .i64 0, .int .i64 0, .int .u8 0, .bool false, .int .i64 0, .int .u8 0] 24) := ⟨_, rfl⟩
  have HX0 : Hid (w0.heap[w.heap.size]? = some (.cells #[.int .i64 a, .int .i64 b, .int .i64 m, .int .i64 k, .int .u8 h, .bool false, .int .i64 s, .int .u8 f] 24 (0, 0))) := Lib.hid (by rw [hw0]; exact heap_older (heap_alloc_new _ _))
  have HZ0 : Hid (w0.heap[w.heap.size + 1]? = some (.cells #[.int .i64 0, .int .i64 0, .int .i64 0, .int .i64 0, .int .u8 0, .bool false, .int .i64 0, .int .u8 0] 24 (0, 0))) := Lib.hid (by rw [hw0]; exact heap_newer _ _ _ (by simp))
  have HB0 : Hid (Below w.heap.size w w0) := Lib.hid (by rw [hw0]; exact (box_below _ _).alloc (by simp) _)
  have HW0 := Lib.hid hw0
  clear hw0
  go_enter Tryd.func11, Tryd.ntmps11
  go_wp2_with fail
  refine (ask_any a b m k h false s f n _).mono ?_
  rintro e w2 ⟨rfl, hb2⟩
  rw [← HW0.out] at hb2
  have HX2 := Lib.hid ((hb2.block _ (heap_lt HX0.out)).trans HX0.out)
  have HZ2 := Lib.hid ((hb2.block _ (heap_lt HZ0.out)).trans HZ0.out)
  have HB2 := Lib.hid (HB0.out.trans (hb2.mono HB0.out.size))
  clear hb2
  have x0 := cell_blk (i := 0) HX2.out
  have x1 := cell_blk (i := 1) HX2.out
  have x2 := cell_blk (i := 2) HX2.out
  have x3 := cell_blk (i := 3) HX2.out
  have x4 := cell_blk (i := 4) HX2.out
  have x5 := cell_blk (i := 5) HX2.out
  have x6 := cell_blk (i := 6) HX2.out
  have x7 := cell_blk (i := 7) HX2.out
  simp [ckO] at x0 x1 x2 x3 x4 x5 x6 x7
  have xf0 := free_blk (i := 0) HX2.out
  have xf1 := free_blk (i := 1) HX2.out
  have xf2 := free_blk (i := 2) HX2.out
  have xf3 := free_blk (i := 3) HX2.out
  have xf4 := free_blk (i := 4) HX2.out
  have xf5 := free_blk (i := 5) HX2.out
  have xf6 := free_blk (i := 6) HX2.out
  have xf7 := free_blk (i := 7) HX2.out
  have z0 := cell_blk (i := 0) HZ2.out
  have z1 := cell_blk (i := 1) HZ2.out
  have z2 := cell_blk (i := 2) HZ2.out
  have z3 := cell_blk (i := 3) HZ2.out
  have z4 := cell_blk (i := 4) HZ2.out
  have z5 := cell_blk (i := 5) HZ2.out
  have z6 := cell_blk (i := 6) HZ2.out
  have z7 := cell_blk (i := 7) HZ2.out
  simp [ckO] at z0 z1 z2 z3 z4 z5 z6 z7
  have zf0 := free_blk (i := 0) HZ2.out
  have zf1 := free_blk (i := 1) HZ2.out
  have zf2 := free_blk (i := 2) HZ2.out
  have zf3 := free_blk (i := 3) HZ2.out
  have zf4 := free_blk (i := 4) HZ2.out
  have zf5 := free_blk (i := 5) HZ2.out
  have zf6 := free_blk (i := 6) HZ2.out
  have zf7 := free_blk (i := 7) HZ2.out
  go_wp2
  exact bodyPost_ret (v := .tuple #[ckV 0 0 0 0 0 false 0 0, .int .i64 11]) (by simp [results, Tryd.results11, go_sem, z0, z1, z2, z3, z4, z5, z6, z7, zf0, zf1, zf2, zf3, zf4, zf5, zf6, zf7]) rfl ⟨rfl, (by repeat (first | (with_reducible exact HB2.out) | ((with_reducible refine Below.setCell ?_ ?_ _); rotate_left; focus (simp; done)) | (with_reducible refine below_dr ?_ _) | (with_reducible refine Below.drew ?_)))⟩

set_option maxHeartbeats 4000000 in
set_option maxRecDepth 100000 in
theorem start_ok (a b m k : Int) (h : Nat) (s : Int) (who : Nat) (n : Int) (hn : askB a b m k h false s 2 n = true) (hw : who ≤ 1) (w : World) : Calls Tryd.prog 11 #[ckV a b m k h false s 2, .int .u8 who, .int .i64 n] w fun e w' => e = .returned (.tuple #[ckV a b m k who true n 2, .int .i64 0]) ∧ Below w.heap.size w w' := by
  obtain ⟨w0, hw0⟩ : ∃ w0, w0 = (w.alloc (.cells #[.int .i64 a, .int .i64 b, .int .i64 m, .int .i64 k, .int .u8 h, .bool false, .int .i64 s, .int .u8 2] 24)).alloc (.cells #[.int .i64 0, .int .i64 0, .int .i64 0, .int .i64 0, .int .u8 0, .bool false, .int .i64 0, .int .u8 0] 24) := ⟨_, rfl⟩
  have HX0 : Hid (w0.heap[w.heap.size]? = some (.cells #[.int .i64 a, .int .i64 b, .int .i64 m, .int .i64 k, .int .u8 h, .bool false, .int .i64 s, .int .u8 2] 24 (0, 0))) := Lib.hid (by rw [hw0]; exact heap_older (heap_alloc_new _ _))
  have HZ0 : Hid (w0.heap[w.heap.size + 1]? = some (.cells #[.int .i64 0, .int .i64 0, .int .i64 0, .int .i64 0, .int .u8 0, .bool false, .int .i64 0, .int .u8 0] 24 (0, 0))) := Lib.hid (by rw [hw0]; exact heap_newer _ _ _ (by simp))
  have HB0 : Hid (Below w.heap.size w w0) := Lib.hid (by rw [hw0]; exact (box_below _ _).alloc (by simp) _)
  have HW0 := Lib.hid hw0
  clear hw0
  go_enter Tryd.func11, Tryd.ntmps11
  go_wp2_with fail
  refine (ask_any a b m k h false s 2 n _).mono ?_
  rintro e w2 ⟨rfl, hb2⟩
  rw [← HW0.out] at hb2
  have HX2 := Lib.hid ((hb2.block _ (heap_lt HX0.out)).trans HX0.out)
  have HZ2 := Lib.hid ((hb2.block _ (heap_lt HZ0.out)).trans HZ0.out)
  have HB2 := Lib.hid (HB0.out.trans (hb2.mono HB0.out.size))
  clear hb2
  have x0 := cell_blk (i := 0) HX2.out
  have x1 := cell_blk (i := 1) HX2.out
  have x2 := cell_blk (i := 2) HX2.out
  have x3 := cell_blk (i := 3) HX2.out
  have x4 := cell_blk (i := 4) HX2.out
  have x5 := cell_blk (i := 5) HX2.out
  have x6 := cell_blk (i := 6) HX2.out
  have x7 := cell_blk (i := 7) HX2.out
  simp [ckO] at x0 x1 x2 x3 x4 x5 x6 x7
  have xf0 := free_blk (i := 0) HX2.out
  have xf1 := free_blk (i := 1) HX2.out
  have xf2 := free_blk (i := 2) HX2.out
  have xf3 := free_blk (i := 3) HX2.out
  have xf4 := free_blk (i := 4) HX2.out
  have xf5 := free_blk (i := 5) HX2.out
  have xf6 := free_blk (i := 6) HX2.out
  have xf7 := free_blk (i := 7) HX2.out
  have z0 := cell_blk (i := 0) HZ2.out
  have z1 := cell_blk (i := 1) HZ2.out
  have z2 := cell_blk (i := 2) HZ2.out
  have z3 := cell_blk (i := 3) HZ2.out
  have z4 := cell_blk (i := 4) HZ2.out
  have z5 := cell_blk (i := 5) HZ2.out
  have z6 := cell_blk (i := 6) HZ2.out
  have z7 := cell_blk (i := 7) HZ2.out
  simp [ckO] at z0 z1 z2 z3 z4 z5 z6 z7
  have zf0 := free_blk (i := 0) HZ2.out
  have zf1 := free_blk (i := 1) HZ2.out
  have zf2 := free_blk (i := 2) HZ2.out
  have zf3 := free_blk (i := 3) HZ2.out
  have zf4 := free_blk (i := 4) HZ2.out
  have zf5 := free_blk (i := 5) HZ2.out
  have zf6 := free_blk (i := 6) HZ2.out
  have zf7 := free_blk (i := 7) HZ2.out
  go_wp2
  exact bodyPost_ret (v := .tuple #[ckV a b m k who true n 2, .int .i64 0]) (by simp [results, Tryd.results11, go_sem, z0, z1, z2, z3, z4, z5, z6, z7, zf0, zf1, zf2, zf3, zf4, zf5, zf6, zf7, x0, x1, x2, x3, x4, x5, x6, x7, xf0, xf1, xf2, xf3, xf4, xf5, xf6, xf7]) rfl ⟨rfl, (by repeat (first | (with_reducible exact HB2.out) | ((with_reducible refine Below.setCell ?_ ?_ _); rotate_left; focus (simp; done)) | (with_reducible refine below_dr ?_ _) | (with_reducible refine Below.drew ?_)))⟩

theorem start_any (a b m k : Int) (h : Nat) (on : Bool) (s : Int) (f : Nat) (who : Nat) (n : Int) (w : World) : Calls Tryd.prog 11 #[ckV a b m k h on s f, .int .u8 who, .int .i64 n] w fun e w' => e = .returned (.tuple #[(startC a b m k h on s f who n).1.val, .int .i64 (startC a b m k h on s f who n).2]) ∧ Below w.heap.size w w' := by
  unfold startC
  cases hn : askB a b m k h on s f n
  · rw [if_neg (by simp)]
    exact start_no a b m k h on s f who n hn w
  by_cases hw : who ≤ 1
  · rw [if_pos ⟨rfl, hw⟩]
    cases on
    · by_cases hf : f = 2
      · subst hf
        rw [if_pos ⟨rfl, rfl⟩]
        exact start_ok a b m k h s who n hn hw w
      · rw [if_neg (by omega)]
        have hf2 : f ≤ 2 := by
          simp only [askB, Bool.and_eq_true, mayB_iff] at hn
          omega
        exact start_fell a b m k h s f who n hn hw (by omega) w
    · rw [if_neg (by simp)]
      exact start_on a b m k h s f who n hn hw w
  · rw [if_neg (by omega)]
    exact start_who a b m k h on s f who n hn (by omega) w

set_option maxHeartbeats 4000000 in
set_option maxRecDepth 100000 in
theorem rstart_no (a b m k : Int) (h : Nat) (on : Bool) (s : Int) (f : Nat) (hg : f < 256) (who : Nat) (n : Int) (hn : askB a b m k h on s f n = false) (w : World) : Calls Tryd.prog 12 #[ckV a b m k h on s f, .int .u8 who, .int .i64 n] w fun e w' => e = .returned (.tuple #[ckV 0 0 0 0 0 false 0 0, .int .i64 2]) ∧ Below w.heap.size w w' := by
  obtain ⟨w0, hw0⟩ : ∃ w0, w0 = (w.alloc (.cells #[.int .i64 a, .int .i64 b, .int .i64 m, .int .i64 k, .int .u8 h, .bool on, .int .i64 s, .int .u8 f] 24)).alloc (.cells #[.int .i64 0, .int .i64 0, .int .i64 0, .int .i64 0, .int .u8 0, .bool false, .int .i64 0, .int .u8 0] 24) := ⟨_, rfl⟩
  have HX0 : Hid (w0.heap[w.heap.size]? = some (.cells #[.int .i64 a, .int .i64 b, .int .i64 m, .int .i64 k, .int .u8 h, .bool on, .int .i64 s, .int .u8 f] 24 (0, 0))) := Lib.hid (by rw [hw0]; exact heap_older (heap_alloc_new _ _))
  have HZ0 : Hid (w0.heap[w.heap.size + 1]? = some (.cells #[.int .i64 0, .int .i64 0, .int .i64 0, .int .i64 0, .int .u8 0, .bool false, .int .i64 0, .int .u8 0] 24 (0, 0))) := Lib.hid (by rw [hw0]; exact heap_newer _ _ _ (by simp))
  have HB0 : Hid (Below w.heap.size w w0) := Lib.hid (by rw [hw0]; exact (box_below _ _).alloc (by simp) _)
  have HW0 := Lib.hid hw0
  clear hw0
  go_enter Tryd.func12, Tryd.ntmps12
  go_wp2_with fail
  refine (rask_any a b m k h on s f hg n _).mono ?_
  rintro e w2 ⟨rfl, hb2⟩
  rw [← HW0.out] at hb2
  have HX2 := Lib.hid ((hb2.block _ (heap_lt HX0.out)).trans HX0.out)
  have HZ2 := Lib.hid ((hb2.block _ (heap_lt HZ0.out)).trans HZ0.out)
  have HB2 := Lib.hid (HB0.out.trans (hb2.mono HB0.out.size))
  clear hb2
  have x0 := cell_blk (i := 0) HX2.out
  have x1 := cell_blk (i := 1) HX2.out
  have x2 := cell_blk (i := 2) HX2.out
  have x3 := cell_blk (i := 3) HX2.out
  have x4 := cell_blk (i := 4) HX2.out
  have x5 := cell_blk (i := 5) HX2.out
  have x6 := cell_blk (i := 6) HX2.out
  have x7 := cell_blk (i := 7) HX2.out
  simp [ckO] at x0 x1 x2 x3 x4 x5 x6 x7
  have xf0 := free_blk (i := 0) HX2.out
  have xf1 := free_blk (i := 1) HX2.out
  have xf2 := free_blk (i := 2) HX2.out
  have xf3 := free_blk (i := 3) HX2.out
  have xf4 := free_blk (i := 4) HX2.out
  have xf5 := free_blk (i := 5) HX2.out
  have xf6 := free_blk (i := 6) HX2.out
  have xf7 := free_blk (i := 7) HX2.out
  have z0 := cell_blk (i := 0) HZ2.out
  have z1 := cell_blk (i := 1) HZ2.out
  have z2 := cell_blk (i := 2) HZ2.out
  have z3 := cell_blk (i := 3) HZ2.out
  have z4 := cell_blk (i := 4) HZ2.out
  have z5 := cell_blk (i := 5) HZ2.out
  have z6 := cell_blk (i := 6) HZ2.out
  have z7 := cell_blk (i := 7) HZ2.out
  simp [ckO] at z0 z1 z2 z3 z4 z5 z6 z7
  have zf0 := free_blk (i := 0) HZ2.out
  have zf1 := free_blk (i := 1) HZ2.out
  have zf2 := free_blk (i := 2) HZ2.out
  have zf3 := free_blk (i := 3) HZ2.out
  have zf4 := free_blk (i := 4) HZ2.out
  have zf5 := free_blk (i := 5) HZ2.out
  have zf6 := free_blk (i := 6) HZ2.out
  have zf7 := free_blk (i := 7) HZ2.out
  go_wp2
  exact bodyPost_ret (v := .tuple #[ckV 0 0 0 0 0 false 0 0, .int .i64 2]) (by simp [results, Tryd.results12, go_sem, z0, z1, z2, z3, z4, z5, z6, z7, zf0, zf1, zf2, zf3, zf4, zf5, zf6, zf7]) rfl ⟨rfl, (by repeat (first | (with_reducible exact HB2.out) | ((with_reducible refine Below.setCell ?_ ?_ _); rotate_left; focus (simp; done)) | (with_reducible refine below_dr ?_ _) | (with_reducible refine Below.drew ?_)))⟩

set_option maxHeartbeats 4000000 in
set_option maxRecDepth 100000 in
theorem rstart_who (a b m k : Int) (h : Nat) (on : Bool) (s : Int) (f : Nat) (hg : f < 256) (who : Nat) (n : Int) (hn : askB a b m k h on s f n = true) (hw : 1 < who) (w : World) : Calls Tryd.prog 12 #[ckV a b m k h on s f, .int .u8 who, .int .i64 n] w fun e w' => e = .returned (.tuple #[ckV 0 0 0 0 0 false 0 0, .int .i64 2]) ∧ Below w.heap.size w w' := by
  obtain ⟨w0, hw0⟩ : ∃ w0, w0 = (w.alloc (.cells #[.int .i64 a, .int .i64 b, .int .i64 m, .int .i64 k, .int .u8 h, .bool on, .int .i64 s, .int .u8 f] 24)).alloc (.cells #[.int .i64 0, .int .i64 0, .int .i64 0, .int .i64 0, .int .u8 0, .bool false, .int .i64 0, .int .u8 0] 24) := ⟨_, rfl⟩
  have HX0 : Hid (w0.heap[w.heap.size]? = some (.cells #[.int .i64 a, .int .i64 b, .int .i64 m, .int .i64 k, .int .u8 h, .bool on, .int .i64 s, .int .u8 f] 24 (0, 0))) := Lib.hid (by rw [hw0]; exact heap_older (heap_alloc_new _ _))
  have HZ0 : Hid (w0.heap[w.heap.size + 1]? = some (.cells #[.int .i64 0, .int .i64 0, .int .i64 0, .int .i64 0, .int .u8 0, .bool false, .int .i64 0, .int .u8 0] 24 (0, 0))) := Lib.hid (by rw [hw0]; exact heap_newer _ _ _ (by simp))
  have HB0 : Hid (Below w.heap.size w w0) := Lib.hid (by rw [hw0]; exact (box_below _ _).alloc (by simp) _)
  have HW0 := Lib.hid hw0
  clear hw0
  go_enter Tryd.func12, Tryd.ntmps12
  go_wp2_with fail
  refine (rask_any a b m k h on s f hg n _).mono ?_
  rintro e w2 ⟨rfl, hb2⟩
  rw [← HW0.out] at hb2
  have HX2 := Lib.hid ((hb2.block _ (heap_lt HX0.out)).trans HX0.out)
  have HZ2 := Lib.hid ((hb2.block _ (heap_lt HZ0.out)).trans HZ0.out)
  have HB2 := Lib.hid (HB0.out.trans (hb2.mono HB0.out.size))
  clear hb2
  have x0 := cell_blk (i := 0) HX2.out
  have x1 := cell_blk (i := 1) HX2.out
  have x2 := cell_blk (i := 2) HX2.out
  have x3 := cell_blk (i := 3) HX2.out
  have x4 := cell_blk (i := 4) HX2.out
  have x5 := cell_blk (i := 5) HX2.out
  have x6 := cell_blk (i := 6) HX2.out
  have x7 := cell_blk (i := 7) HX2.out
  simp [ckO] at x0 x1 x2 x3 x4 x5 x6 x7
  have xf0 := free_blk (i := 0) HX2.out
  have xf1 := free_blk (i := 1) HX2.out
  have xf2 := free_blk (i := 2) HX2.out
  have xf3 := free_blk (i := 3) HX2.out
  have xf4 := free_blk (i := 4) HX2.out
  have xf5 := free_blk (i := 5) HX2.out
  have xf6 := free_blk (i := 6) HX2.out
  have xf7 := free_blk (i := 7) HX2.out
  have z0 := cell_blk (i := 0) HZ2.out
  have z1 := cell_blk (i := 1) HZ2.out
  have z2 := cell_blk (i := 2) HZ2.out
  have z3 := cell_blk (i := 3) HZ2.out
  have z4 := cell_blk (i := 4) HZ2.out
  have z5 := cell_blk (i := 5) HZ2.out
  have z6 := cell_blk (i := 6) HZ2.out
  have z7 := cell_blk (i := 7) HZ2.out
  simp [ckO] at z0 z1 z2 z3 z4 z5 z6 z7
  have zf0 := free_blk (i := 0) HZ2.out
  have zf1 := free_blk (i := 1) HZ2.out
  have zf2 := free_blk (i := 2) HZ2.out
  have zf3 := free_blk (i := 3) HZ2.out
  have zf4 := free_blk (i := 4) HZ2.out
  have zf5 := free_blk (i := 5) HZ2.out
  have zf6 := free_blk (i := 6) HZ2.out
  have zf7 := free_blk (i := 7) HZ2.out
  go_wp2
  exact bodyPost_ret (v := .tuple #[ckV 0 0 0 0 0 false 0 0, .int .i64 2]) (by simp [results, Tryd.results12, go_sem, z0, z1, z2, z3, z4, z5, z6, z7, zf0, zf1, zf2, zf3, zf4, zf5, zf6, zf7]) rfl ⟨rfl, (by repeat (first | (with_reducible exact HB2.out) | ((with_reducible refine Below.setCell ?_ ?_ _); rotate_left; focus (simp; done)) | (with_reducible refine below_dr ?_ _) | (with_reducible refine Below.drew ?_)))⟩

set_option maxHeartbeats 4000000 in
set_option maxRecDepth 100000 in
theorem rstart_on (a b m k : Int) (h : Nat) (s : Int) (f : Nat) (hg : f < 256) (who : Nat) (n : Int) (hn : askB a b m k h true s f n = true) (hw : who ≤ 1) (w : World) : Calls Tryd.prog 12 #[ckV a b m k h true s f, .int .u8 who, .int .i64 n] w fun e w' => e = .returned (.tuple #[ckV 0 0 0 0 0 false 0 0, .int .i64 11]) ∧ Below w.heap.size w w' := by
  obtain ⟨w0, hw0⟩ : ∃ w0, w0 = (w.alloc (.cells #[.int .i64 a, .int .i64 b, .int .i64 m, .int .i64 k, .int .u8 h, .bool true, .int .i64 s, .int .u8 f] 24)).alloc (.cells #[.int .i64 0, .int .i64 0, .int .i64 0, .int .i64 0, .int .u8 0, .bool false, .int .i64 0, .int .u8 0] 24) := ⟨_, rfl⟩
  have HX0 : Hid (w0.heap[w.heap.size]? = some (.cells #[.int .i64 a, .int .i64 b, .int .i64 m, .int .i64 k, .int .u8 h, .bool true, .int .i64 s, .int .u8 f] 24 (0, 0))) := Lib.hid (by rw [hw0]; exact heap_older (heap_alloc_new _ _))
  have HZ0 : Hid (w0.heap[w.heap.size + 1]? = some (.cells #[.int .i64 0, .int .i64 0, .int .i64 0, .int .i64 0, .int .u8 0, .bool false, .int .i64 0, .int .u8 0] 24 (0, 0))) := Lib.hid (by rw [hw0]; exact heap_newer _ _ _ (by simp))
  have HB0 : Hid (Below w.heap.size w w0) := Lib.hid (by rw [hw0]; exact (box_below _ _).alloc (by simp) _)
  have HW0 := Lib.hid hw0
  clear hw0
  go_enter Tryd.func12, Tryd.ntmps12
  go_wp2_with fail
  refine (rask_any a b m k h true s f hg n _).mono ?_
  rintro e w2 ⟨rfl, hb2⟩
  rw [← HW0.out] at hb2
  have HX2 := Lib.hid ((hb2.block _ (heap_lt HX0.out)).trans HX0.out)
  have HZ2 := Lib.hid ((hb2.block _ (heap_lt HZ0.out)).trans HZ0.out)
  have HB2 := Lib.hid (HB0.out.trans (hb2.mono HB0.out.size))
  clear hb2
  have x0 := cell_blk (i := 0) HX2.out
  have x1 := cell_blk (i := 1) HX2.out
  have x2 := cell_blk (i := 2) HX2.out
  have x3 := cell_blk (i := 3) HX2.out
  have x4 := cell_blk (i := 4) HX2.out
  have x5 := cell_blk (i := 5) HX2.out
  have x6 := cell_blk (i := 6) HX2.out
  have x7 := cell_blk (i := 7) HX2.out
  simp [ckO] at x0 x1 x2 x3 x4 x5 x6 x7
  have xf0 := free_blk (i := 0) HX2.out
  have xf1 := free_blk (i := 1) HX2.out
  have xf2 := free_blk (i := 2) HX2.out
  have xf3 := free_blk (i := 3) HX2.out
  have xf4 := free_blk (i := 4) HX2.out
  have xf5 := free_blk (i := 5) HX2.out
  have xf6 := free_blk (i := 6) HX2.out
  have xf7 := free_blk (i := 7) HX2.out
  have z0 := cell_blk (i := 0) HZ2.out
  have z1 := cell_blk (i := 1) HZ2.out
  have z2 := cell_blk (i := 2) HZ2.out
  have z3 := cell_blk (i := 3) HZ2.out
  have z4 := cell_blk (i := 4) HZ2.out
  have z5 := cell_blk (i := 5) HZ2.out
  have z6 := cell_blk (i := 6) HZ2.out
  have z7 := cell_blk (i := 7) HZ2.out
  simp [ckO] at z0 z1 z2 z3 z4 z5 z6 z7
  have zf0 := free_blk (i := 0) HZ2.out
  have zf1 := free_blk (i := 1) HZ2.out
  have zf2 := free_blk (i := 2) HZ2.out
  have zf3 := free_blk (i := 3) HZ2.out
  have zf4 := free_blk (i := 4) HZ2.out
  have zf5 := free_blk (i := 5) HZ2.out
  have zf6 := free_blk (i := 6) HZ2.out
  have zf7 := free_blk (i := 7) HZ2.out
  go_wp2
  exact bodyPost_ret (v := .tuple #[ckV 0 0 0 0 0 false 0 0, .int .i64 11]) (by simp [results, Tryd.results12, go_sem, z0, z1, z2, z3, z4, z5, z6, z7, zf0, zf1, zf2, zf3, zf4, zf5, zf6, zf7]) rfl ⟨rfl, (by repeat (first | (with_reducible exact HB2.out) | ((with_reducible refine Below.setCell ?_ ?_ _); rotate_left; focus (simp; done)) | (with_reducible refine below_dr ?_ _) | (with_reducible refine Below.drew ?_)))⟩

set_option maxHeartbeats 4000000 in
set_option maxRecDepth 100000 in
theorem rstart_fell (a b m k : Int) (h : Nat) (s : Int) (f : Nat) (hg : f < 256) (who : Nat) (n : Int) (hn : askB a b m k h false s f n = true) (hw : who ≤ 1) (hf : f < 2) (w : World) : Calls Tryd.prog 12 #[ckV a b m k h false s f, .int .u8 who, .int .i64 n] w fun e w' => e = .returned (.tuple #[ckV 0 0 0 0 0 false 0 0, .int .i64 11]) ∧ Below w.heap.size w w' := by
  have qf : ((f : Int) != 2) = true := by simp; omega
  obtain ⟨w0, hw0⟩ : ∃ w0, w0 = (w.alloc (.cells #[.int .i64 a, .int .i64 b, .int .i64 m, .int .i64 k, .int .u8 h, .bool false, .int .i64 s, .int .u8 f] 24)).alloc (.cells #[.int .i64 0, .int .i64 0, .int .i64 0, .int .i64 0, .int .u8 0, .bool false, .int .i64 0, .int .u8 0] 24) := ⟨_, rfl⟩
  have HX0 : Hid (w0.heap[w.heap.size]? = some (.cells #[.int .i64 a, .int .i64 b, .int .i64 m, .int .i64 k, .int .u8 h, .bool false, .int .i64 s, .int .u8 f] 24 (0, 0))) := Lib.hid (by rw [hw0]; exact heap_older (heap_alloc_new _ _))
  have HZ0 : Hid (w0.heap[w.heap.size + 1]? = some (.cells #[.int .i64 0, .int .i64 0, .int .i64 0, .int .i64 0, .int .u8 0, .bool false, .int .i64 0, .int .u8 0] 24 (0, 0))) := Lib.hid (by rw [hw0]; exact heap_newer _ _ _ (by simp))
  have HB0 : Hid (Below w.heap.size w w0) := Lib.hid (by rw [hw0]; exact (box_below _ _).alloc (by simp) _)
  have HW0 := Lib.hid hw0
  clear hw0
  go_enter Tryd.func12, Tryd.ntmps12
  go_wp2_with fail
  refine (rask_any a b m k h false s f hg n _).mono ?_
  rintro e w2 ⟨rfl, hb2⟩
  rw [← HW0.out] at hb2
  have HX2 := Lib.hid ((hb2.block _ (heap_lt HX0.out)).trans HX0.out)
  have HZ2 := Lib.hid ((hb2.block _ (heap_lt HZ0.out)).trans HZ0.out)
  have HB2 := Lib.hid (HB0.out.trans (hb2.mono HB0.out.size))
  clear hb2
  have x0 := cell_blk (i := 0) HX2.out
  have x1 := cell_blk (i := 1) HX2.out
  have x2 := cell_blk (i := 2) HX2.out
  have x3 := cell_blk (i := 3) HX2.out
  have x4 := cell_blk (i := 4) HX2.out
  have x5 := cell_blk (i := 5) HX2.out
  have x6 := cell_blk (i := 6) HX2.out
  have x7 := cell_blk (i := 7) HX2.out
  simp [ckO] at x0 x1 x2 x3 x4 x5 x6 x7
  have xf0 := free_blk (i := 0) HX2.out
  have xf1 := free_blk (i := 1) HX2.out
  have xf2 := free_blk (i := 2) HX2.out
  have xf3 := free_blk (i := 3) HX2.out
  have xf4 := free_blk (i := 4) HX2.out
  have xf5 := free_blk (i := 5) HX2.out
  have xf6 := free_blk (i := 6) HX2.out
  have xf7 := free_blk (i := 7) HX2.out
  have z0 := cell_blk (i := 0) HZ2.out
  have z1 := cell_blk (i := 1) HZ2.out
  have z2 := cell_blk (i := 2) HZ2.out
  have z3 := cell_blk (i := 3) HZ2.out
  have z4 := cell_blk (i := 4) HZ2.out
  have z5 := cell_blk (i := 5) HZ2.out
  have z6 := cell_blk (i := 6) HZ2.out
  have z7 := cell_blk (i := 7) HZ2.out
  simp [ckO] at z0 z1 z2 z3 z4 z5 z6 z7
  have zf0 := free_blk (i := 0) HZ2.out
  have zf1 := free_blk (i := 1) HZ2.out
  have zf2 := free_blk (i := 2) HZ2.out
  have zf3 := free_blk (i := 3) HZ2.out
  have zf4 := free_blk (i := 4) HZ2.out
  have zf5 := free_blk (i := 5) HZ2.out
  have zf6 := free_blk (i := 6) HZ2.out
  have zf7 := free_blk (i := 7) HZ2.out
  go_wp2
  exact bodyPost_ret (v := .tuple #[ckV 0 0 0 0 0 false 0 0, .int .i64 11]) (by simp [results, Tryd.results12, go_sem, z0, z1, z2, z3, z4, z5, z6, z7, zf0, zf1, zf2, zf3, zf4, zf5, zf6, zf7]) rfl ⟨rfl, (by repeat (first | (with_reducible exact HB2.out) | ((with_reducible refine Below.setCell ?_ ?_ _); rotate_left; focus (simp; done)) | (with_reducible refine below_dr ?_ _) | (with_reducible refine Below.drew ?_)))⟩

set_option maxHeartbeats 4000000 in
set_option maxRecDepth 100000 in
theorem rstart_ok (a b m k : Int) (h : Nat) (s : Int) (who : Nat) (n : Int) (hn : askB a b m k h false s 2 n = true) (hw : who ≤ 1) (w : World) : Calls Tryd.prog 12 #[ckV a b m k h false s 2, .int .u8 who, .int .i64 n] w fun e w' => e = .returned (.tuple #[ckV a b m k who true n 2, .int .i64 0]) ∧ Below w.heap.size w w' := by
  obtain ⟨w0, hw0⟩ : ∃ w0, w0 = (w.alloc (.cells #[.int .i64 a, .int .i64 b, .int .i64 m, .int .i64 k, .int .u8 h, .bool false, .int .i64 s, .int .u8 2] 24)).alloc (.cells #[.int .i64 0, .int .i64 0, .int .i64 0, .int .i64 0, .int .u8 0, .bool false, .int .i64 0, .int .u8 0] 24) := ⟨_, rfl⟩
  have HX0 : Hid (w0.heap[w.heap.size]? = some (.cells #[.int .i64 a, .int .i64 b, .int .i64 m, .int .i64 k, .int .u8 h, .bool false, .int .i64 s, .int .u8 2] 24 (0, 0))) := Lib.hid (by rw [hw0]; exact heap_older (heap_alloc_new _ _))
  have HZ0 : Hid (w0.heap[w.heap.size + 1]? = some (.cells #[.int .i64 0, .int .i64 0, .int .i64 0, .int .i64 0, .int .u8 0, .bool false, .int .i64 0, .int .u8 0] 24 (0, 0))) := Lib.hid (by rw [hw0]; exact heap_newer _ _ _ (by simp))
  have HB0 : Hid (Below w.heap.size w w0) := Lib.hid (by rw [hw0]; exact (box_below _ _).alloc (by simp) _)
  have HW0 := Lib.hid hw0
  clear hw0
  go_enter Tryd.func12, Tryd.ntmps12
  go_wp2_with fail
  refine (rask_any a b m k h false s 2 (by omega) n _).mono ?_
  rintro e w2 ⟨rfl, hb2⟩
  rw [← HW0.out] at hb2
  have HX2 := Lib.hid ((hb2.block _ (heap_lt HX0.out)).trans HX0.out)
  have HZ2 := Lib.hid ((hb2.block _ (heap_lt HZ0.out)).trans HZ0.out)
  have HB2 := Lib.hid (HB0.out.trans (hb2.mono HB0.out.size))
  clear hb2
  have x0 := cell_blk (i := 0) HX2.out
  have x1 := cell_blk (i := 1) HX2.out
  have x2 := cell_blk (i := 2) HX2.out
  have x3 := cell_blk (i := 3) HX2.out
  have x4 := cell_blk (i := 4) HX2.out
  have x5 := cell_blk (i := 5) HX2.out
  have x6 := cell_blk (i := 6) HX2.out
  have x7 := cell_blk (i := 7) HX2.out
  simp [ckO] at x0 x1 x2 x3 x4 x5 x6 x7
  have xf0 := free_blk (i := 0) HX2.out
  have xf1 := free_blk (i := 1) HX2.out
  have xf2 := free_blk (i := 2) HX2.out
  have xf3 := free_blk (i := 3) HX2.out
  have xf4 := free_blk (i := 4) HX2.out
  have xf5 := free_blk (i := 5) HX2.out
  have xf6 := free_blk (i := 6) HX2.out
  have xf7 := free_blk (i := 7) HX2.out
  have z0 := cell_blk (i := 0) HZ2.out
  have z1 := cell_blk (i := 1) HZ2.out
  have z2 := cell_blk (i := 2) HZ2.out
  have z3 := cell_blk (i := 3) HZ2.out
  have z4 := cell_blk (i := 4) HZ2.out
  have z5 := cell_blk (i := 5) HZ2.out
  have z6 := cell_blk (i := 6) HZ2.out
  have z7 := cell_blk (i := 7) HZ2.out
  simp [ckO] at z0 z1 z2 z3 z4 z5 z6 z7
  have zf0 := free_blk (i := 0) HZ2.out
  have zf1 := free_blk (i := 1) HZ2.out
  have zf2 := free_blk (i := 2) HZ2.out
  have zf3 := free_blk (i := 3) HZ2.out
  have zf4 := free_blk (i := 4) HZ2.out
  have zf5 := free_blk (i := 5) HZ2.out
  have zf6 := free_blk (i := 6) HZ2.out
  have zf7 := free_blk (i := 7) HZ2.out
  go_wp2
  exact bodyPost_ret (v := .tuple #[ckV a b m k who true n 2, .int .i64 0]) (by simp [results, Tryd.results12, go_sem, z0, z1, z2, z3, z4, z5, z6, z7, zf0, zf1, zf2, zf3, zf4, zf5, zf6, zf7, x0, x1, x2, x3, x4, x5, x6, x7, xf0, xf1, xf2, xf3, xf4, xf5, xf6, xf7]) rfl ⟨rfl, (by repeat (first | (with_reducible exact HB2.out) | ((with_reducible refine Below.setCell ?_ ?_ _); rotate_left; focus (simp; done)) | (with_reducible refine below_dr ?_ _) | (with_reducible refine Below.drew ?_)))⟩

theorem rstart_any (a b m k : Int) (h : Nat) (on : Bool) (s : Int) (f : Nat) (hg : f < 256) (who : Nat) (n : Int) (w : World) : Calls Tryd.prog 12 #[ckV a b m k h on s f, .int .u8 who, .int .i64 n] w fun e w' => e = .returned (.tuple #[(startC a b m k h on s f who n).1.val, .int .i64 (startC a b m k h on s f who n).2]) ∧ Below w.heap.size w w' := by
  unfold startC
  cases hn : askB a b m k h on s f n
  · rw [if_neg (by simp)]
    exact rstart_no a b m k h on s f hg who n hn w
  by_cases hw : who ≤ 1
  · rw [if_pos ⟨rfl, hw⟩]
    cases on
    · by_cases hf : f = 2
      · subst hf
        rw [if_pos ⟨rfl, rfl⟩]
        exact rstart_ok a b m k h s who n hn hw w
      · rw [if_neg (by omega)]
        have hf2 : f ≤ 2 := by
          simp only [askB, Bool.and_eq_true, mayB_iff] at hn
          omega
        exact rstart_fell a b m k h s f hg who n hn hw (by omega) w
    · rw [if_neg (by simp)]
      exact rstart_on a b m k h s f hg who n hn hw w
  · rw [if_neg (by omega)]
    exact rstart_who a b m k h on s f hg who n hn (by omega) w

end Go.Proofs.YtcemekianoehfaaDoor
