/- joustref28.Text: walked. (Made by gen/mkck.py.) -/
import Derived.Test.YtcemekianoehfaaDoorCkTextB
namespace Go.Proofs.YtcemekianoehfaaDoor
open Go.RowKit Go.Lib Go.Sort


theorem dig_sz {n : Nat} (h : n ≤ 1073741824) : (decS n).size ≤ 21 := dec_size (by omega)
theorem app_nil (x : ByteArray) : x ++ ⟨#[]⟩ = x := by apply ByteArray.ext; simp
theorem nil_app (x : ByteArray) : (⟨#[]⟩ : ByteArray) ++ x = x := by apply ByteArray.ext; simp
set_option maxHeartbeats 16000000 in
set_option maxRecDepth 100000 in
theorem rtext_off0 (h : Nat) (a b m k s n : Int) (x y : Nat) (hx : x ≤ 1073741824) (hy : y ≤ 1073741824) (hL : lookC a b m k h false s 0 n = ((x : Int), (y : Int), false, 0)) (w : World) : Calls Tryd.prog 10 #[ckV a b m k h false s 0, .int .i64 n] w fun e w' => e = .returned (.string (joinS x y ⟨#[32, 102, 101, 108, 108]⟩ ⟨#[]⟩)) ∧ Below w.heap.size w w' := by
  have hcall := fun W => rlook_any a b m k h false s 0 (by omega) n W
  rw [hL] at hcall
  have HK := Lib.hid hcall
  clear hcall
  have hd0 := fun W => rdigits_any (x / 60 + 1) (x / 60) W (by omega) (by omega)
  have he0 := fun W => rdigits_any (100 + x % 60 + 1) (100 + x % 60) W (by omega) (by omega)
  have sd0 := dig_sz (n := x / 60) (by omega)
  have se0 := dec_three (i := x % 60) (by omega)
  have SE0 := Lib.hid se0
  rw [show ((x / 60 : Nat) : Int) = (x : Int) / 60 by omega] at hd0
  rw [show ((100 + x % 60 : Nat) : Int) = 100 + (x : Int) % 60 by omega] at he0
  have HD0 := Lib.hid hd0
  have HE0 := Lib.hid he0
  have ua0 : IntKind.i64.wrap ((x : Int).tdiv 60) = (x : Int) / 60 := by rw [Int.tdiv_eq_ediv_of_nonneg (by omega)]; exact IntWalk.i64_in _ (by omega)
  have ub0 : (x : Int).tmod 60 = (x : Int) % 60 := Int.tmod_eq_emod_of_nonneg (by omega)
  have uc0 : IntKind.i64.wrap (100 + (x : Int) % 60) = 100 + (x : Int) % 60 := IntWalk.i64_in _ (by omega)
  clear hd0 he0
  have hd1 := fun W => rdigits_any (y / 60 + 1) (y / 60) W (by omega) (by omega)
  have he1 := fun W => rdigits_any (100 + y % 60 + 1) (100 + y % 60) W (by omega) (by omega)
  have sd1 := dig_sz (n := y / 60) (by omega)
  have se1 := dec_three (i := y % 60) (by omega)
  have SE1 := Lib.hid se1
  rw [show ((y / 60 : Nat) : Int) = (y : Int) / 60 by omega] at hd1
  rw [show ((100 + y % 60 : Nat) : Int) = 100 + (y : Int) % 60 by omega] at he1
  have HD1 := Lib.hid hd1
  have HE1 := Lib.hid he1
  have ua1 : IntKind.i64.wrap ((y : Int).tdiv 60) = (y : Int) / 60 := by rw [Int.tdiv_eq_ediv_of_nonneg (by omega)]; exact IntWalk.i64_in _ (by omega)
  have ub1 : (y : Int).tmod 60 = (y : Int) % 60 := Int.tmod_eq_emod_of_nonneg (by omega)
  have uc1 : IntKind.i64.wrap (100 + (y : Int) % 60) = 100 + (y : Int) % 60 := IntWalk.i64_in _ (by omega)
  clear hd1 he1
  obtain ⟨w0, hw0⟩ : ∃ w0, w0 = w.alloc (.cells #[.int .i64 a, .int .i64 b, .int .i64 m, .int .i64 k, .int .u8 h, .bool false, .int .i64 s, .int .u8 0] 24) := ⟨_, rfl⟩
  have HX0 : Hid (w0.heap[w.heap.size]? = some (.cells #[.int .i64 a, .int .i64 b, .int .i64 m, .int .i64 k, .int .u8 h, .bool false, .int .i64 s, .int .u8 0] 24 (0, 0))) := Lib.hid (by rw [hw0]; exact heap_alloc_new _ _)
  have HB0 : Hid (Below w.heap.size w w0) := Lib.hid (by rw [hw0]; exact box_below _ _)
  have HW0 := Lib.hid hw0
  clear hw0
  go_enter Tryd.func10, Tryd.ntmps10
  go_wp2_with fail
  refine (HK.out _).mono ?_
  rintro e w1 ⟨rfl, b1⟩
  rw [← HW0.out] at b1
  have HX1 := Lib.hid ((b1.block _ (heap_lt HX0.out)).trans HX0.out)
  have HB1 := Lib.hid (HB0.out.trans (b1.mono HB0.out.size))
  clear b1
  have hl1 := heap_lt HX1.out
  have c0 := cell_blk (i := 0) HX1.out
  have c1 := cell_blk (i := 1) HX1.out
  have c2 := cell_blk (i := 2) HX1.out
  have c3 := cell_blk (i := 3) HX1.out
  have c4 := cell_blk (i := 4) HX1.out
  have c5 := cell_blk (i := 5) HX1.out
  have c6 := cell_blk (i := 6) HX1.out
  have c7 := cell_blk (i := 7) HX1.out
  simp [ckO] at c0 c1 c2 c3 c4 c5 c6 c7
  go_wp2_with fail
  obtain ⟨w2, hw2⟩ : ∃ w2, w2 = w1.alloc (.cells #[.int .i64 (x : Int), .int .i64 (y : Int)] 22) := ⟨_, rfl⟩
  rw [← hw2]
  have HX2 := Lib.hid (show w2.heap[w.heap.size]? = some (.cells #[.int .i64 a, .int .i64 b, .int .i64 m, .int .i64 k, .int .u8 h, .bool false, .int .i64 s, .int .u8 0] 24 (0, 0)) by rw [hw2]; exact heap_older HX1.out)
  have HL2 := Lib.hid (show w2.heap[w1.heap.size]? = some (.cells #[.int .i64 (x : Int), .int .i64 (y : Int)] 22 (0, 0)) by rw [hw2]; exact heap_alloc_new _ _)
  have HB2 := Lib.hid (show Below w.heap.size w w2 by rw [hw2]; exact HB1.out.alloc HB1.out.size _)
  clear hw2
  clear c0 c1 c2 c3 c4 c5 c6 c7
  have c0 := cell_blk (i := 0) HX2.out
  have c1 := cell_blk (i := 1) HX2.out
  have c2 := cell_blk (i := 2) HX2.out
  have c3 := cell_blk (i := 3) HX2.out
  have c4 := cell_blk (i := 4) HX2.out
  have c5 := cell_blk (i := 5) HX2.out
  have c6 := cell_blk (i := 6) HX2.out
  have c7 := cell_blk (i := 7) HX2.out
  simp [ckO] at c0 c1 c2 c3 c4 c5 c6 c7
  have l0 := cell_blk (i := 0) HL2.out
  have l1 := cell_blk (i := 1) HL2.out
  simp [ckO] at l0 l1
  refine wp_loop_rounds 3 ?_
  rw [rounds_succ]
  go_wp2_with fail
  go_quiet (first | (go_at_call 24; (with_reducible refine (HD0.out _).mono ?_); exact fun _ _ h => ⟨h.1, _, h.2⟩) | (go_at_call 24; (with_reducible refine (HE0.out _).mono ?_); exact fun _ _ h => ⟨h.1, _, h.2⟩))
  go_wp2_with fail
  rw [rounds_succ]
  go_wp2_with fail
  go_quiet (first | (go_at_call 24; (with_reducible refine (HD1.out _).mono ?_); exact fun _ _ h => ⟨h.1, _, h.2⟩) | (go_at_call 24; (with_reducible refine (HE1.out _).mono ?_); exact fun _ _ h => ⟨h.1, _, h.2⟩))
  go_wp2_with fail
  rw [rounds_succ]
  go_wp2_with fail
  go_ret
  refine ⟨?_, (by repeat (first | (with_reducible exact HB2.out) | (with_reducible refine below_dr ?_ _)))⟩
  refine congrArg Ending.returned ?_
  refine congrArg Value.string ?_
  unfold joinS minS
  rw [SE0.out, SE1.out]
  apply ByteArray.ext
  simp [Array.append_assoc]

set_option maxHeartbeats 16000000 in
set_option maxRecDepth 100000 in
theorem rtext_off1 (h : Nat) (a b m k s n : Int) (x y : Nat) (hx : x ≤ 1073741824) (hy : y ≤ 1073741824) (hL : lookC a b m k h false s 1 n = ((x : Int), (y : Int), false, 0)) (w : World) : Calls Tryd.prog 10 #[ckV a b m k h false s 1, .int .i64 n] w fun e w' => e = .returned (.string (joinS x y ⟨#[]⟩ ⟨#[32, 102, 101, 108, 108]⟩)) ∧ Below w.heap.size w w' := by
  have hcall := fun W => rlook_any a b m k h false s 1 (by omega) n W
  rw [hL] at hcall
  have HK := Lib.hid hcall
  clear hcall
  have hd0 := fun W => rdigits_any (x / 60 + 1) (x / 60) W (by omega) (by omega)
  have he0 := fun W => rdigits_any (100 + x % 60 + 1) (100 + x % 60) W (by omega) (by omega)
  have sd0 := dig_sz (n := x / 60) (by omega)
  have se0 := dec_three (i := x % 60) (by omega)
  have SE0 := Lib.hid se0
  rw [show ((x / 60 : Nat) : Int) = (x : Int) / 60 by omega] at hd0
  rw [show ((100 + x % 60 : Nat) : Int) = 100 + (x : Int) % 60 by omega] at he0
  have HD0 := Lib.hid hd0
  have HE0 := Lib.hid he0
  have ua0 : IntKind.i64.wrap ((x : Int).tdiv 60) = (x : Int) / 60 := by rw [Int.tdiv_eq_ediv_of_nonneg (by omega)]; exact IntWalk.i64_in _ (by omega)
  have ub0 : (x : Int).tmod 60 = (x : Int) % 60 := Int.tmod_eq_emod_of_nonneg (by omega)
  have uc0 : IntKind.i64.wrap (100 + (x : Int) % 60) = 100 + (x : Int) % 60 := IntWalk.i64_in _ (by omega)
  clear hd0 he0
  have hd1 := fun W => rdigits_any (y / 60 + 1) (y / 60) W (by omega) (by omega)
  have he1 := fun W => rdigits_any (100 + y % 60 + 1) (100 + y % 60) W (by omega) (by omega)
  have sd1 := dig_sz (n := y / 60) (by omega)
  have se1 := dec_three (i := y % 60) (by omega)
  have SE1 := Lib.hid se1
  rw [show ((y / 60 : Nat) : Int) = (y : Int) / 60 by omega] at hd1
  rw [show ((100 + y % 60 : Nat) : Int) = 100 + (y : Int) % 60 by omega] at he1
  have HD1 := Lib.hid hd1
  have HE1 := Lib.hid he1
  have ua1 : IntKind.i64.wrap ((y : Int).tdiv 60) = (y : Int) / 60 := by rw [Int.tdiv_eq_ediv_of_nonneg (by omega)]; exact IntWalk.i64_in _ (by omega)
  have ub1 : (y : Int).tmod 60 = (y : Int) % 60 := Int.tmod_eq_emod_of_nonneg (by omega)
  have uc1 : IntKind.i64.wrap (100 + (y : Int) % 60) = 100 + (y : Int) % 60 := IntWalk.i64_in _ (by omega)
  clear hd1 he1
  obtain ⟨w0, hw0⟩ : ∃ w0, w0 = w.alloc (.cells #[.int .i64 a, .int .i64 b, .int .i64 m, .int .i64 k, .int .u8 h, .bool false, .int .i64 s, .int .u8 1] 24) := ⟨_, rfl⟩
  have HX0 : Hid (w0.heap[w.heap.size]? = some (.cells #[.int .i64 a, .int .i64 b, .int .i64 m, .int .i64 k, .int .u8 h, .bool false, .int .i64 s, .int .u8 1] 24 (0, 0))) := Lib.hid (by rw [hw0]; exact heap_alloc_new _ _)
  have HB0 : Hid (Below w.heap.size w w0) := Lib.hid (by rw [hw0]; exact box_below _ _)
  have HW0 := Lib.hid hw0
  clear hw0
  go_enter Tryd.func10, Tryd.ntmps10
  go_wp2_with fail
  refine (HK.out _).mono ?_
  rintro e w1 ⟨rfl, b1⟩
  rw [← HW0.out] at b1
  have HX1 := Lib.hid ((b1.block _ (heap_lt HX0.out)).trans HX0.out)
  have HB1 := Lib.hid (HB0.out.trans (b1.mono HB0.out.size))
  clear b1
  have hl1 := heap_lt HX1.out
  have c0 := cell_blk (i := 0) HX1.out
  have c1 := cell_blk (i := 1) HX1.out
  have c2 := cell_blk (i := 2) HX1.out
  have c3 := cell_blk (i := 3) HX1.out
  have c4 := cell_blk (i := 4) HX1.out
  have c5 := cell_blk (i := 5) HX1.out
  have c6 := cell_blk (i := 6) HX1.out
  have c7 := cell_blk (i := 7) HX1.out
  simp [ckO] at c0 c1 c2 c3 c4 c5 c6 c7
  go_wp2_with fail
  obtain ⟨w2, hw2⟩ : ∃ w2, w2 = w1.alloc (.cells #[.int .i64 (x : Int), .int .i64 (y : Int)] 22) := ⟨_, rfl⟩
  rw [← hw2]
  have HX2 := Lib.hid (show w2.heap[w.heap.size]? = some (.cells #[.int .i64 a, .int .i64 b, .int .i64 m, .int .i64 k, .int .u8 h, .bool false, .int .i64 s, .int .u8 1] 24 (0, 0)) by rw [hw2]; exact heap_older HX1.out)
  have HL2 := Lib.hid (show w2.heap[w1.heap.size]? = some (.cells #[.int .i64 (x : Int), .int .i64 (y : Int)] 22 (0, 0)) by rw [hw2]; exact heap_alloc_new _ _)
  have HB2 := Lib.hid (show Below w.heap.size w w2 by rw [hw2]; exact HB1.out.alloc HB1.out.size _)
  clear hw2
  clear c0 c1 c2 c3 c4 c5 c6 c7
  have c0 := cell_blk (i := 0) HX2.out
  have c1 := cell_blk (i := 1) HX2.out
  have c2 := cell_blk (i := 2) HX2.out
  have c3 := cell_blk (i := 3) HX2.out
  have c4 := cell_blk (i := 4) HX2.out
  have c5 := cell_blk (i := 5) HX2.out
  have c6 := cell_blk (i := 6) HX2.out
  have c7 := cell_blk (i := 7) HX2.out
  simp [ckO] at c0 c1 c2 c3 c4 c5 c6 c7
  have l0 := cell_blk (i := 0) HL2.out
  have l1 := cell_blk (i := 1) HL2.out
  simp [ckO] at l0 l1
  refine wp_loop_rounds 3 ?_
  rw [rounds_succ]
  go_wp2_with fail
  go_quiet (first | (go_at_call 24; (with_reducible refine (HD0.out _).mono ?_); exact fun _ _ h => ⟨h.1, _, h.2⟩) | (go_at_call 24; (with_reducible refine (HE0.out _).mono ?_); exact fun _ _ h => ⟨h.1, _, h.2⟩))
  go_wp2_with fail
  rw [rounds_succ]
  go_wp2_with fail
  go_quiet (first | (go_at_call 24; (with_reducible refine (HD1.out _).mono ?_); exact fun _ _ h => ⟨h.1, _, h.2⟩) | (go_at_call 24; (with_reducible refine (HE1.out _).mono ?_); exact fun _ _ h => ⟨h.1, _, h.2⟩))
  go_wp2_with fail
  rw [rounds_succ]
  go_wp2_with fail
  go_ret
  refine ⟨?_, (by repeat (first | (with_reducible exact HB2.out) | (with_reducible refine below_dr ?_ _)))⟩
  refine congrArg Ending.returned ?_
  refine congrArg Value.string ?_
  unfold joinS minS
  rw [SE0.out, SE1.out]
  apply ByteArray.ext
  simp [Array.append_assoc]

set_option maxHeartbeats 16000000 in
set_option maxRecDepth 100000 in
theorem rtext_off2 (h : Nat) (a b m k s n : Int) (x y : Nat) (hx : x ≤ 1073741824) (hy : y ≤ 1073741824) (hL : lookC a b m k h false s 2 n = ((x : Int), (y : Int), false, 0)) (w : World) : Calls Tryd.prog 10 #[ckV a b m k h false s 2, .int .i64 n] w fun e w' => e = .returned (.string (joinS x y ⟨#[]⟩ ⟨#[]⟩)) ∧ Below w.heap.size w w' := by
  have hcall := fun W => rlook_any a b m k h false s 2 (by omega) n W
  rw [hL] at hcall
  have HK := Lib.hid hcall
  clear hcall
  have hd0 := fun W => rdigits_any (x / 60 + 1) (x / 60) W (by omega) (by omega)
  have he0 := fun W => rdigits_any (100 + x % 60 + 1) (100 + x % 60) W (by omega) (by omega)
  have sd0 := dig_sz (n := x / 60) (by omega)
  have se0 := dec_three (i := x % 60) (by omega)
  have SE0 := Lib.hid se0
  rw [show ((x / 60 : Nat) : Int) = (x : Int) / 60 by omega] at hd0
  rw [show ((100 + x % 60 : Nat) : Int) = 100 + (x : Int) % 60 by omega] at he0
  have HD0 := Lib.hid hd0
  have HE0 := Lib.hid he0
  have ua0 : IntKind.i64.wrap ((x : Int).tdiv 60) = (x : Int) / 60 := by rw [Int.tdiv_eq_ediv_of_nonneg (by omega)]; exact IntWalk.i64_in _ (by omega)
  have ub0 : (x : Int).tmod 60 = (x : Int) % 60 := Int.tmod_eq_emod_of_nonneg (by omega)
  have uc0 : IntKind.i64.wrap (100 + (x : Int) % 60) = 100 + (x : Int) % 60 := IntWalk.i64_in _ (by omega)
  clear hd0 he0
  have hd1 := fun W => rdigits_any (y / 60 + 1) (y / 60) W (by omega) (by omega)
  have he1 := fun W => rdigits_any (100 + y % 60 + 1) (100 + y % 60) W (by omega) (by omega)
  have sd1 := dig_sz (n := y / 60) (by omega)
  have se1 := dec_three (i := y % 60) (by omega)
  have SE1 := Lib.hid se1
  rw [show ((y / 60 : Nat) : Int) = (y : Int) / 60 by omega] at hd1
  rw [show ((100 + y % 60 : Nat) : Int) = 100 + (y : Int) % 60 by omega] at he1
  have HD1 := Lib.hid hd1
  have HE1 := Lib.hid he1
  have ua1 : IntKind.i64.wrap ((y : Int).tdiv 60) = (y : Int) / 60 := by rw [Int.tdiv_eq_ediv_of_nonneg (by omega)]; exact IntWalk.i64_in _ (by omega)
  have ub1 : (y : Int).tmod 60 = (y : Int) % 60 := Int.tmod_eq_emod_of_nonneg (by omega)
  have uc1 : IntKind.i64.wrap (100 + (y : Int) % 60) = 100 + (y : Int) % 60 := IntWalk.i64_in _ (by omega)
  clear hd1 he1
  obtain ⟨w0, hw0⟩ : ∃ w0, w0 = w.alloc (.cells #[.int .i64 a, .int .i64 b, .int .i64 m, .int .i64 k, .int .u8 h, .bool false, .int .i64 s, .int .u8 2] 24) := ⟨_, rfl⟩
  have HX0 : Hid (w0.heap[w.heap.size]? = some (.cells #[.int .i64 a, .int .i64 b, .int .i64 m, .int .i64 k, .int .u8 h, .bool false, .int .i64 s, .int .u8 2] 24 (0, 0))) := Lib.hid (by rw [hw0]; exact heap_alloc_new _ _)
  have HB0 : Hid (Below w.heap.size w w0) := Lib.hid (by rw [hw0]; exact box_below _ _)
  have HW0 := Lib.hid hw0
  clear hw0
  go_enter Tryd.func10, Tryd.ntmps10
  go_wp2_with fail
  refine (HK.out _).mono ?_
  rintro e w1 ⟨rfl, b1⟩
  rw [← HW0.out] at b1
  have HX1 := Lib.hid ((b1.block _ (heap_lt HX0.out)).trans HX0.out)
  have HB1 := Lib.hid (HB0.out.trans (b1.mono HB0.out.size))
  clear b1
  have hl1 := heap_lt HX1.out
  have c0 := cell_blk (i := 0) HX1.out
  have c1 := cell_blk (i := 1) HX1.out
  have c2 := cell_blk (i := 2) HX1.out
  have c3 := cell_blk (i := 3) HX1.out
  have c4 := cell_blk (i := 4) HX1.out
  have c5 := cell_blk (i := 5) HX1.out
  have c6 := cell_blk (i := 6) HX1.out
  have c7 := cell_blk (i := 7) HX1.out
  simp [ckO] at c0 c1 c2 c3 c4 c5 c6 c7
  go_wp2_with fail
  obtain ⟨w2, hw2⟩ : ∃ w2, w2 = w1.alloc (.cells #[.int .i64 (x : Int), .int .i64 (y : Int)] 22) := ⟨_, rfl⟩
  rw [← hw2]
  have HX2 := Lib.hid (show w2.heap[w.heap.size]? = some (.cells #[.int .i64 a, .int .i64 b, .int .i64 m, .int .i64 k, .int .u8 h, .bool false, .int .i64 s, .int .u8 2] 24 (0, 0)) by rw [hw2]; exact heap_older HX1.out)
  have HL2 := Lib.hid (show w2.heap[w1.heap.size]? = some (.cells #[.int .i64 (x : Int), .int .i64 (y : Int)] 22 (0, 0)) by rw [hw2]; exact heap_alloc_new _ _)
  have HB2 := Lib.hid (show Below w.heap.size w w2 by rw [hw2]; exact HB1.out.alloc HB1.out.size _)
  clear hw2
  clear c0 c1 c2 c3 c4 c5 c6 c7
  have c0 := cell_blk (i := 0) HX2.out
  have c1 := cell_blk (i := 1) HX2.out
  have c2 := cell_blk (i := 2) HX2.out
  have c3 := cell_blk (i := 3) HX2.out
  have c4 := cell_blk (i := 4) HX2.out
  have c5 := cell_blk (i := 5) HX2.out
  have c6 := cell_blk (i := 6) HX2.out
  have c7 := cell_blk (i := 7) HX2.out
  simp [ckO] at c0 c1 c2 c3 c4 c5 c6 c7
  have l0 := cell_blk (i := 0) HL2.out
  have l1 := cell_blk (i := 1) HL2.out
  simp [ckO] at l0 l1
  refine wp_loop_rounds 3 ?_
  rw [rounds_succ]
  go_wp2_with fail
  go_quiet (first | (go_at_call 24; (with_reducible refine (HD0.out _).mono ?_); exact fun _ _ h => ⟨h.1, _, h.2⟩) | (go_at_call 24; (with_reducible refine (HE0.out _).mono ?_); exact fun _ _ h => ⟨h.1, _, h.2⟩))
  go_wp2_with fail
  rw [rounds_succ]
  go_wp2_with fail
  go_quiet (first | (go_at_call 24; (with_reducible refine (HD1.out _).mono ?_); exact fun _ _ h => ⟨h.1, _, h.2⟩) | (go_at_call 24; (with_reducible refine (HE1.out _).mono ?_); exact fun _ _ h => ⟨h.1, _, h.2⟩))
  go_wp2_with fail
  rw [rounds_succ]
  go_wp2_with fail
  go_ret
  refine ⟨?_, (by repeat (first | (with_reducible exact HB2.out) | (with_reducible refine below_dr ?_ _)))⟩
  refine congrArg Ending.returned ?_
  refine congrArg Value.string ?_
  unfold joinS minS
  rw [SE0.out, SE1.out]
  apply ByteArray.ext
  simp [Array.append_assoc]

set_option maxHeartbeats 16000000 in
set_option maxRecDepth 100000 in
theorem rtext_on0y (a b m k s n : Int) (x y : Nat) (hx : x ≤ 1073741824) (hy : y ≤ 1073741824) (hL : lookC a b m k 0 true s 2 n = ((x : Int), (y : Int), true, 0)) (w : World) : Calls Tryd.prog 10 #[ckV a b m k 0 true s 2, .int .i64 n] w fun e w' => e = .returned (.string (joinS x y ⟨#[32, 102, 101, 108, 108]⟩ ⟨#[]⟩)) ∧ Below w.heap.size w w' := by
  have hcall := fun W => rlook_any a b m k 0 true s 2 (by omega) n W
  rw [hL] at hcall
  have HK := Lib.hid hcall
  clear hcall
  have hd0 := fun W => rdigits_any (x / 60 + 1) (x / 60) W (by omega) (by omega)
  have he0 := fun W => rdigits_any (100 + x % 60 + 1) (100 + x % 60) W (by omega) (by omega)
  have sd0 := dig_sz (n := x / 60) (by omega)
  have se0 := dec_three (i := x % 60) (by omega)
  have SE0 := Lib.hid se0
  rw [show ((x / 60 : Nat) : Int) = (x : Int) / 60 by omega] at hd0
  rw [show ((100 + x % 60 : Nat) : Int) = 100 + (x : Int) % 60 by omega] at he0
  have HD0 := Lib.hid hd0
  have HE0 := Lib.hid he0
  have ua0 : IntKind.i64.wrap ((x : Int).tdiv 60) = (x : Int) / 60 := by rw [Int.tdiv_eq_ediv_of_nonneg (by omega)]; exact IntWalk.i64_in _ (by omega)
  have ub0 : (x : Int).tmod 60 = (x : Int) % 60 := Int.tmod_eq_emod_of_nonneg (by omega)
  have uc0 : IntKind.i64.wrap (100 + (x : Int) % 60) = 100 + (x : Int) % 60 := IntWalk.i64_in _ (by omega)
  clear hd0 he0
  have hd1 := fun W => rdigits_any (y / 60 + 1) (y / 60) W (by omega) (by omega)
  have he1 := fun W => rdigits_any (100 + y % 60 + 1) (100 + y % 60) W (by omega) (by omega)
  have sd1 := dig_sz (n := y / 60) (by omega)
  have se1 := dec_three (i := y % 60) (by omega)
  have SE1 := Lib.hid se1
  rw [show ((y / 60 : Nat) : Int) = (y : Int) / 60 by omega] at hd1
  rw [show ((100 + y % 60 : Nat) : Int) = 100 + (y : Int) % 60 by omega] at he1
  have HD1 := Lib.hid hd1
  have HE1 := Lib.hid he1
  have ua1 : IntKind.i64.wrap ((y : Int).tdiv 60) = (y : Int) / 60 := by rw [Int.tdiv_eq_ediv_of_nonneg (by omega)]; exact IntWalk.i64_in _ (by omega)
  have ub1 : (y : Int).tmod 60 = (y : Int) % 60 := Int.tmod_eq_emod_of_nonneg (by omega)
  have uc1 : IntKind.i64.wrap (100 + (y : Int) % 60) = 100 + (y : Int) % 60 := IntWalk.i64_in _ (by omega)
  clear hd1 he1
  obtain ⟨w0, hw0⟩ : ∃ w0, w0 = w.alloc (.cells #[.int .i64 a, .int .i64 b, .int .i64 m, .int .i64 k, .int .u8 0, .bool true, .int .i64 s, .int .u8 2] 24) := ⟨_, rfl⟩
  have HX0 : Hid (w0.heap[w.heap.size]? = some (.cells #[.int .i64 a, .int .i64 b, .int .i64 m, .int .i64 k, .int .u8 0, .bool true, .int .i64 s, .int .u8 2] 24 (0, 0))) := Lib.hid (by rw [hw0]; exact heap_alloc_new _ _)
  have HB0 : Hid (Below w.heap.size w w0) := Lib.hid (by rw [hw0]; exact box_below _ _)
  have HW0 := Lib.hid hw0
  clear hw0
  go_enter Tryd.func10, Tryd.ntmps10
  go_wp2_with fail
  refine (HK.out _).mono ?_
  rintro e w1 ⟨rfl, b1⟩
  rw [← HW0.out] at b1
  have HX1 := Lib.hid ((b1.block _ (heap_lt HX0.out)).trans HX0.out)
  have HB1 := Lib.hid (HB0.out.trans (b1.mono HB0.out.size))
  clear b1
  have hl1 := heap_lt HX1.out
  have c0 := cell_blk (i := 0) HX1.out
  have c1 := cell_blk (i := 1) HX1.out
  have c2 := cell_blk (i := 2) HX1.out
  have c3 := cell_blk (i := 3) HX1.out
  have c4 := cell_blk (i := 4) HX1.out
  have c5 := cell_blk (i := 5) HX1.out
  have c6 := cell_blk (i := 6) HX1.out
  have c7 := cell_blk (i := 7) HX1.out
  simp [ckO] at c0 c1 c2 c3 c4 c5 c6 c7
  go_wp2_with fail
  obtain ⟨w2, hw2⟩ : ∃ w2, w2 = w1.alloc (.cells #[.int .i64 (x : Int), .int .i64 (y : Int)] 22) := ⟨_, rfl⟩
  rw [← hw2]
  have HX2 := Lib.hid (show w2.heap[w.heap.size]? = some (.cells #[.int .i64 a, .int .i64 b, .int .i64 m, .int .i64 k, .int .u8 0, .bool true, .int .i64 s, .int .u8 2] 24 (0, 0)) by rw [hw2]; exact heap_older HX1.out)
  have HL2 := Lib.hid (show w2.heap[w1.heap.size]? = some (.cells #[.int .i64 (x : Int), .int .i64 (y : Int)] 22 (0, 0)) by rw [hw2]; exact heap_alloc_new _ _)
  have HB2 := Lib.hid (show Below w.heap.size w w2 by rw [hw2]; exact HB1.out.alloc HB1.out.size _)
  clear hw2
  clear c0 c1 c2 c3 c4 c5 c6 c7
  have c0 := cell_blk (i := 0) HX2.out
  have c1 := cell_blk (i := 1) HX2.out
  have c2 := cell_blk (i := 2) HX2.out
  have c3 := cell_blk (i := 3) HX2.out
  have c4 := cell_blk (i := 4) HX2.out
  have c5 := cell_blk (i := 5) HX2.out
  have c6 := cell_blk (i := 6) HX2.out
  have c7 := cell_blk (i := 7) HX2.out
  simp [ckO] at c0 c1 c2 c3 c4 c5 c6 c7
  have l0 := cell_blk (i := 0) HL2.out
  have l1 := cell_blk (i := 1) HL2.out
  simp [ckO] at l0 l1
  refine wp_loop_rounds 3 ?_
  rw [rounds_succ]
  go_wp2_with fail
  go_quiet (first | (go_at_call 24; (with_reducible refine (HD0.out _).mono ?_); exact fun _ _ h => ⟨h.1, _, h.2⟩) | (go_at_call 24; (with_reducible refine (HE0.out _).mono ?_); exact fun _ _ h => ⟨h.1, _, h.2⟩))
  go_wp2_with fail
  rw [rounds_succ]
  go_wp2_with fail
  go_quiet (first | (go_at_call 24; (with_reducible refine (HD1.out _).mono ?_); exact fun _ _ h => ⟨h.1, _, h.2⟩) | (go_at_call 24; (with_reducible refine (HE1.out _).mono ?_); exact fun _ _ h => ⟨h.1, _, h.2⟩))
  go_wp2_with fail
  rw [rounds_succ]
  go_wp2_with fail
  go_ret
  refine ⟨?_, (by repeat (first | (with_reducible exact HB2.out) | (with_reducible refine below_dr ?_ _)))⟩
  refine congrArg Ending.returned ?_
  refine congrArg Value.string ?_
  unfold joinS minS
  rw [SE0.out, SE1.out]
  apply ByteArray.ext
  simp [Array.append_assoc]

set_option maxHeartbeats 16000000 in
set_option maxRecDepth 100000 in
theorem rtext_on0n (a b m k s n : Int) (x y : Nat) (hx : x ≤ 1073741824) (hy : y ≤ 1073741824) (hL : lookC a b m k 0 true s 2 n = ((x : Int), (y : Int), false, 0)) (w : World) : Calls Tryd.prog 10 #[ckV a b m k 0 true s 2, .int .i64 n] w fun e w' => e = .returned (.string (joinS x y ⟨#[42]⟩ ⟨#[]⟩)) ∧ Below w.heap.size w w' := by
  have hcall := fun W => rlook_any a b m k 0 true s 2 (by omega) n W
  rw [hL] at hcall
  have HK := Lib.hid hcall
  clear hcall
  have hd0 := fun W => rdigits_any (x / 60 + 1) (x / 60) W (by omega) (by omega)
  have he0 := fun W => rdigits_any (100 + x % 60 + 1) (100 + x % 60) W (by omega) (by omega)
  have sd0 := dig_sz (n := x / 60) (by omega)
  have se0 := dec_three (i := x % 60) (by omega)
  have SE0 := Lib.hid se0
  rw [show ((x / 60 : Nat) : Int) = (x : Int) / 60 by omega] at hd0
  rw [show ((100 + x % 60 : Nat) : Int) = 100 + (x : Int) % 60 by omega] at he0
  have HD0 := Lib.hid hd0
  have HE0 := Lib.hid he0
  have ua0 : IntKind.i64.wrap ((x : Int).tdiv 60) = (x : Int) / 60 := by rw [Int.tdiv_eq_ediv_of_nonneg (by omega)]; exact IntWalk.i64_in _ (by omega)
  have ub0 : (x : Int).tmod 60 = (x : Int) % 60 := Int.tmod_eq_emod_of_nonneg (by omega)
  have uc0 : IntKind.i64.wrap (100 + (x : Int) % 60) = 100 + (x : Int) % 60 := IntWalk.i64_in _ (by omega)
  clear hd0 he0
  have hd1 := fun W => rdigits_any (y / 60 + 1) (y / 60) W (by omega) (by omega)
  have he1 := fun W => rdigits_any (100 + y % 60 + 1) (100 + y % 60) W (by omega) (by omega)
  have sd1 := dig_sz (n := y / 60) (by omega)
  have se1 := dec_three (i := y % 60) (by omega)
  have SE1 := Lib.hid se1
  rw [show ((y / 60 : Nat) : Int) = (y : Int) / 60 by omega] at hd1
  rw [show ((100 + y % 60 : Nat) : Int) = 100 + (y : Int) % 60 by omega] at he1
  have HD1 := Lib.hid hd1
  have HE1 := Lib.hid he1
  have ua1 : IntKind.i64.wrap ((y : Int).tdiv 60) = (y : Int) / 60 := by rw [Int.tdiv_eq_ediv_of_nonneg (by omega)]; exact IntWalk.i64_in _ (by omega)
  have ub1 : (y : Int).tmod 60 = (y : Int) % 60 := Int.tmod_eq_emod_of_nonneg (by omega)
  have uc1 : IntKind.i64.wrap (100 + (y : Int) % 60) = 100 + (y : Int) % 60 := IntWalk.i64_in _ (by omega)
  clear hd1 he1
  obtain ⟨w0, hw0⟩ : ∃ w0, w0 = w.alloc (.cells #[.int .i64 a, .int .i64 b, .int .i64 m, .int .i64 k, .int .u8 0, .bool true, .int .i64 s, .int .u8 2] 24) := ⟨_, rfl⟩
  have HX0 : Hid (w0.heap[w.heap.size]? = some (.cells #[.int .i64 a, .int .i64 b, .int .i64 m, .int .i64 k, .int .u8 0, .bool true, .int .i64 s, .int .u8 2] 24 (0, 0))) := Lib.hid (by rw [hw0]; exact heap_alloc_new _ _)
  have HB0 : Hid (Below w.heap.size w w0) := Lib.hid (by rw [hw0]; exact box_below _ _)
  have HW0 := Lib.hid hw0
  clear hw0
  go_enter Tryd.func10, Tryd.ntmps10
  go_wp2_with fail
  refine (HK.out _).mono ?_
  rintro e w1 ⟨rfl, b1⟩
  rw [← HW0.out] at b1
  have HX1 := Lib.hid ((b1.block _ (heap_lt HX0.out)).trans HX0.out)
  have HB1 := Lib.hid (HB0.out.trans (b1.mono HB0.out.size))
  clear b1
  have hl1 := heap_lt HX1.out
  have c0 := cell_blk (i := 0) HX1.out
  have c1 := cell_blk (i := 1) HX1.out
  have c2 := cell_blk (i := 2) HX1.out
  have c3 := cell_blk (i := 3) HX1.out
  have c4 := cell_blk (i := 4) HX1.out
  have c5 := cell_blk (i := 5) HX1.out
  have c6 := cell_blk (i := 6) HX1.out
  have c7 := cell_blk (i := 7) HX1.out
  simp [ckO] at c0 c1 c2 c3 c4 c5 c6 c7
  go_wp2_with fail
  obtain ⟨w2, hw2⟩ : ∃ w2, w2 = w1.alloc (.cells #[.int .i64 (x : Int), .int .i64 (y : Int)] 22) := ⟨_, rfl⟩
  rw [← hw2]
  have HX2 := Lib.hid (show w2.heap[w.heap.size]? = some (.cells #[.int .i64 a, .int .i64 b, .int .i64 m, .int .i64 k, .int .u8 0, .bool true, .int .i64 s, .int .u8 2] 24 (0, 0)) by rw [hw2]; exact heap_older HX1.out)
  have HL2 := Lib.hid (show w2.heap[w1.heap.size]? = some (.cells #[.int .i64 (x : Int), .int .i64 (y : Int)] 22 (0, 0)) by rw [hw2]; exact heap_alloc_new _ _)
  have HB2 := Lib.hid (show Below w.heap.size w w2 by rw [hw2]; exact HB1.out.alloc HB1.out.size _)
  clear hw2
  clear c0 c1 c2 c3 c4 c5 c6 c7
  have c0 := cell_blk (i := 0) HX2.out
  have c1 := cell_blk (i := 1) HX2.out
  have c2 := cell_blk (i := 2) HX2.out
  have c3 := cell_blk (i := 3) HX2.out
  have c4 := cell_blk (i := 4) HX2.out
  have c5 := cell_blk (i := 5) HX2.out
  have c6 := cell_blk (i := 6) HX2.out
  have c7 := cell_blk (i := 7) HX2.out
  simp [ckO] at c0 c1 c2 c3 c4 c5 c6 c7
  have l0 := cell_blk (i := 0) HL2.out
  have l1 := cell_blk (i := 1) HL2.out
  simp [ckO] at l0 l1
  refine wp_loop_rounds 3 ?_
  rw [rounds_succ]
  go_wp2_with fail
  go_quiet (first | (go_at_call 24; (with_reducible refine (HD0.out _).mono ?_); exact fun _ _ h => ⟨h.1, _, h.2⟩) | (go_at_call 24; (with_reducible refine (HE0.out _).mono ?_); exact fun _ _ h => ⟨h.1, _, h.2⟩))
  go_wp2_with fail
  rw [rounds_succ]
  go_wp2_with fail
  go_quiet (first | (go_at_call 24; (with_reducible refine (HD1.out _).mono ?_); exact fun _ _ h => ⟨h.1, _, h.2⟩) | (go_at_call 24; (with_reducible refine (HE1.out _).mono ?_); exact fun _ _ h => ⟨h.1, _, h.2⟩))
  go_wp2_with fail
  rw [rounds_succ]
  go_wp2_with fail
  go_ret
  refine ⟨?_, (by repeat (first | (with_reducible exact HB2.out) | (with_reducible refine below_dr ?_ _)))⟩
  refine congrArg Ending.returned ?_
  refine congrArg Value.string ?_
  unfold joinS minS
  rw [SE0.out, SE1.out]
  apply ByteArray.ext
  simp [Array.append_assoc]

set_option maxHeartbeats 16000000 in
set_option maxRecDepth 100000 in
theorem rtext_on1y (a b m k s n : Int) (x y : Nat) (hx : x ≤ 1073741824) (hy : y ≤ 1073741824) (hL : lookC a b m k 1 true s 2 n = ((x : Int), (y : Int), true, 0)) (w : World) : Calls Tryd.prog 10 #[ckV a b m k 1 true s 2, .int .i64 n] w fun e w' => e = .returned (.string (joinS x y ⟨#[]⟩ ⟨#[32, 102, 101, 108, 108]⟩)) ∧ Below w.heap.size w w' := by
  have hcall := fun W => rlook_any a b m k 1 true s 2 (by omega) n W
  rw [hL] at hcall
  have HK := Lib.hid hcall
  clear hcall
  have hd0 := fun W => rdigits_any (x / 60 + 1) (x / 60) W (by omega) (by omega)
  have he0 := fun W => rdigits_any (100 + x % 60 + 1) (100 + x % 60) W (by omega) (by omega)
  have sd0 := dig_sz (n := x / 60) (by omega)
  have se0 := dec_three (i := x % 60) (by omega)
  have SE0 := Lib.hid se0
  rw [show ((x / 60 : Nat) : Int) = (x : Int) / 60 by omega] at hd0
  rw [show ((100 + x % 60 : Nat) : Int) = 100 + (x : Int) % 60 by omega] at he0
  have HD0 := Lib.hid hd0
  have HE0 := Lib.hid he0
  have ua0 : IntKind.i64.wrap ((x : Int).tdiv 60) = (x : Int) / 60 := by rw [Int.tdiv_eq_ediv_of_nonneg (by omega)]; exact IntWalk.i64_in _ (by omega)
  have ub0 : (x : Int).tmod 60 = (x : Int) % 60 := Int.tmod_eq_emod_of_nonneg (by omega)
  have uc0 : IntKind.i64.wrap (100 + (x : Int) % 60) = 100 + (x : Int) % 60 := IntWalk.i64_in _ (by omega)
  clear hd0 he0
  have hd1 := fun W => rdigits_any (y / 60 + 1) (y / 60) W (by omega) (by omega)
  have he1 := fun W => rdigits_any (100 + y % 60 + 1) (100 + y % 60) W (by omega) (by omega)
  have sd1 := dig_sz (n := y / 60) (by omega)
  have se1 := dec_three (i := y % 60) (by omega)
  have SE1 := Lib.hid se1
  rw [show ((y / 60 : Nat) : Int) = (y : Int) / 60 by omega] at hd1
  rw [show ((100 + y % 60 : Nat) : Int) = 100 + (y : Int) % 60 by omega] at he1
  have HD1 := Lib.hid hd1
  have HE1 := Lib.hid he1
  have ua1 : IntKind.i64.wrap ((y : Int).tdiv 60) = (y : Int) / 60 := by rw [Int.tdiv_eq_ediv_of_nonneg (by omega)]; exact IntWalk.i64_in _ (by omega)
  have ub1 : (y : Int).tmod 60 = (y : Int) % 60 := Int.tmod_eq_emod_of_nonneg (by omega)
  have uc1 : IntKind.i64.wrap (100 + (y : Int) % 60) = 100 + (y : Int) % 60 := IntWalk.i64_in _ (by omega)
  clear hd1 he1
  obtain ⟨w0, hw0⟩ : ∃ w0, w0 = w.alloc (.cells #[.int .i64 a, .int .i64 b, .int .i64 m, .int .i64 k, .int .u8 1, .bool true, .int .i64 s, .int .u8 2] 24) := ⟨_, rfl⟩
  have HX0 : Hid (w0.heap[w.heap.size]? = some (.cells #[.int .i64 a, .int .i64 b, .int .i64 m, .int .i64 k, .int .u8 1, .bool true, .int .i64 s, .int .u8 2] 24 (0, 0))) := Lib.hid (by rw [hw0]; exact heap_alloc_new _ _)
  have HB0 : Hid (Below w.heap.size w w0) := Lib.hid (by rw [hw0]; exact box_below _ _)
  have HW0 := Lib.hid hw0
  clear hw0
  go_enter Tryd.func10, Tryd.ntmps10
  go_wp2_with fail
  refine (HK.out _).mono ?_
  rintro e w1 ⟨rfl, b1⟩
  rw [← HW0.out] at b1
  have HX1 := Lib.hid ((b1.block _ (heap_lt HX0.out)).trans HX0.out)
  have HB1 := Lib.hid (HB0.out.trans (b1.mono HB0.out.size))
  clear b1
  have hl1 := heap_lt HX1.out
  have c0 := cell_blk (i := 0) HX1.out
  have c1 := cell_blk (i := 1) HX1.out
  have c2 := cell_blk (i := 2) HX1.out
  have c3 := cell_blk (i := 3) HX1.out
  have c4 := cell_blk (i := 4) HX1.out
  have c5 := cell_blk (i := 5) HX1.out
  have c6 := cell_blk (i := 6) HX1.out
  have c7 := cell_blk (i := 7) HX1.out
  simp [ckO] at c0 c1 c2 c3 c4 c5 c6 c7
  go_wp2_with fail
  obtain ⟨w2, hw2⟩ : ∃ w2, w2 = w1.alloc (.cells #[.int .i64 (x : Int), .int .i64 (y : Int)] 22) := ⟨_, rfl⟩
  rw [← hw2]
  have HX2 := Lib.hid (show w2.heap[w.heap.size]? = some (.cells #[.int .i64 a, .int .i64 b, .int .i64 m, .int .i64 k, .int .u8 1, .bool true, .int .i64 s, .int .u8 2] 24 (0, 0)) by rw [hw2]; exact heap_older HX1.out)
  have HL2 := Lib.hid (show w2.heap[w1.heap.size]? = some (.cells #[.int .i64 (x : Int), .int .i64 (y : Int)] 22 (0, 0)) by rw [hw2]; exact heap_alloc_new _ _)
  have HB2 := Lib.hid (show Below w.heap.size w w2 by rw [hw2]; exact HB1.out.alloc HB1.out.size _)
  clear hw2
  clear c0 c1 c2 c3 c4 c5 c6 c7
  have c0 := cell_blk (i := 0) HX2.out
  have c1 := cell_blk (i := 1) HX2.out
  have c2 := cell_blk (i := 2) HX2.out
  have c3 := cell_blk (i := 3) HX2.out
  have c4 := cell_blk (i := 4) HX2.out
  have c5 := cell_blk (i := 5) HX2.out
  have c6 := cell_blk (i := 6) HX2.out
  have c7 := cell_blk (i := 7) HX2.out
  simp [ckO] at c0 c1 c2 c3 c4 c5 c6 c7
  have l0 := cell_blk (i := 0) HL2.out
  have l1 := cell_blk (i := 1) HL2.out
  simp [ckO] at l0 l1
  refine wp_loop_rounds 3 ?_
  rw [rounds_succ]
  go_wp2_with fail
  go_quiet (first | (go_at_call 24; (with_reducible refine (HD0.out _).mono ?_); exact fun _ _ h => ⟨h.1, _, h.2⟩) | (go_at_call 24; (with_reducible refine (HE0.out _).mono ?_); exact fun _ _ h => ⟨h.1, _, h.2⟩))
  go_wp2_with fail
  rw [rounds_succ]
  go_wp2_with fail
  go_quiet (first | (go_at_call 24; (with_reducible refine (HD1.out _).mono ?_); exact fun _ _ h => ⟨h.1, _, h.2⟩) | (go_at_call 24; (with_reducible refine (HE1.out _).mono ?_); exact fun _ _ h => ⟨h.1, _, h.2⟩))
  go_wp2_with fail
  rw [rounds_succ]
  go_wp2_with fail
  go_ret
  refine ⟨?_, (by repeat (first | (with_reducible exact HB2.out) | (with_reducible refine below_dr ?_ _)))⟩
  refine congrArg Ending.returned ?_
  refine congrArg Value.string ?_
  unfold joinS minS
  rw [SE0.out, SE1.out]
  apply ByteArray.ext
  simp [Array.append_assoc]

set_option maxHeartbeats 16000000 in
set_option maxRecDepth 100000 in
theorem rtext_on1n (a b m k s n : Int) (x y : Nat) (hx : x ≤ 1073741824) (hy : y ≤ 1073741824) (hL : lookC a b m k 1 true s 2 n = ((x : Int), (y : Int), false, 0)) (w : World) : Calls Tryd.prog 10 #[ckV a b m k 1 true s 2, .int .i64 n] w fun e w' => e = .returned (.string (joinS x y ⟨#[]⟩ ⟨#[42]⟩)) ∧ Below w.heap.size w w' := by
  have hcall := fun W => rlook_any a b m k 1 true s 2 (by omega) n W
  rw [hL] at hcall
  have HK := Lib.hid hcall
  clear hcall
  have hd0 := fun W => rdigits_any (x / 60 + 1) (x / 60) W (by omega) (by omega)
  have he0 := fun W => rdigits_any (100 + x % 60 + 1) (100 + x % 60) W (by omega) (by omega)
  have sd0 := dig_sz (n := x / 60) (by omega)
  have se0 := dec_three (i := x % 60) (by omega)
  have SE0 := Lib.hid se0
  rw [show ((x / 60 : Nat) : Int) = (x : Int) / 60 by omega] at hd0
  rw [show ((100 + x % 60 : Nat) : Int) = 100 + (x : Int) % 60 by omega] at he0
  have HD0 := Lib.hid hd0
  have HE0 := Lib.hid he0
  have ua0 : IntKind.i64.wrap ((x : Int).tdiv 60) = (x : Int) / 60 := by rw [Int.tdiv_eq_ediv_of_nonneg (by omega)]; exact IntWalk.i64_in _ (by omega)
  have ub0 : (x : Int).tmod 60 = (x : Int) % 60 := Int.tmod_eq_emod_of_nonneg (by omega)
  have uc0 : IntKind.i64.wrap (100 + (x : Int) % 60) = 100 + (x : Int) % 60 := IntWalk.i64_in _ (by omega)
  clear hd0 he0
  have hd1 := fun W => rdigits_any (y / 60 + 1) (y / 60) W (by omega) (by omega)
  have he1 := fun W => rdigits_any (100 + y % 60 + 1) (100 + y % 60) W (by omega) (by omega)
  have sd1 := dig_sz (n := y / 60) (by omega)
  have se1 := dec_three (i := y % 60) (by omega)
  have SE1 := Lib.hid se1
  rw [show ((y / 60 : Nat) : Int) = (y : Int) / 60 by omega] at hd1
  rw [show ((100 + y % 60 : Nat) : Int) = 100 + (y : Int) % 60 by omega] at he1
  have HD1 := Lib.hid hd1
  have HE1 := Lib.hid he1
  have ua1 : IntKind.i64.wrap ((y : Int).tdiv 60) = (y : Int) / 60 := by rw [Int.tdiv_eq_ediv_of_nonneg (by omega)]; exact IntWalk.i64_in _ (by omega)
  have ub1 : (y : Int).tmod 60 = (y : Int) % 60 := Int.tmod_eq_emod_of_nonneg (by omega)
  have uc1 : IntKind.i64.wrap (100 + (y : Int) % 60) = 100 + (y : Int) % 60 := IntWalk.i64_in _ (by omega)
  clear hd1 he1
  obtain ⟨w0, hw0⟩ : ∃ w0, w0 = w.alloc (.cells #[.int .i64 a, .int .i64 b, .int .i64 m, .int .i64 k, .int .u8 1, .bool true, .int .i64 s, .int .u8 2] 24) := ⟨_, rfl⟩
  have HX0 : Hid (w0.heap[w.heap.size]? = some (.cells #[.int .i64 a, .int .i64 b, .int .i64 m, .int .i64 k, .int .u8 1, .bool true, .int .i64 s, .int .u8 2] 24 (0, 0))) := Lib.hid (by rw [hw0]; exact heap_alloc_new _ _)
  have HB0 : Hid (Below w.heap.size w w0) := Lib.hid (by rw [hw0]; exact box_below _ _)
  have HW0 := Lib.hid hw0
  clear hw0
  go_enter Tryd.func10, Tryd.ntmps10
  go_wp2_with fail
  refine (HK.out _).mono ?_
  rintro e w1 ⟨rfl, b1⟩
  rw [← HW0.out] at b1
  have HX1 := Lib.hid ((b1.block _ (heap_lt HX0.out)).trans HX0.out)
  have HB1 := Lib.hid (HB0.out.trans (b1.mono HB0.out.size))
  clear b1
  have hl1 := heap_lt HX1.out
  have c0 := cell_blk (i := 0) HX1.out
  have c1 := cell_blk (i := 1) HX1.out
  have c2 := cell_blk (i := 2) HX1.out
  have c3 := cell_blk (i := 3) HX1.out
  have c4 := cell_blk (i := 4) HX1.out
  have c5 := cell_blk (i := 5) HX1.out
  have c6 := cell_blk (i := 6) HX1.out
  have c7 := cell_blk (i := 7) HX1.out
  simp [ckO] at c0 c1 c2 c3 c4 c5 c6 c7
  go_wp2_with fail
  obtain ⟨w2, hw2⟩ : ∃ w2, w2 = w1.alloc (.cells #[.int .i64 (x : Int), .int .i64 (y : Int)] 22) := ⟨_, rfl⟩
  rw [← hw2]
  have HX2 := Lib.hid (show w2.heap[w.heap.size]? = some (.cells #[.int .i64 a, .int .i64 b, .int .i64 m, .int .i64 k, .int .u8 1, .bool true, .int .i64 s, .int .u8 2] 24 (0, 0)) by rw [hw2]; exact heap_older HX1.out)
  have HL2 := Lib.hid (show w2.heap[w1.heap.size]? = some (.cells #[.int .i64 (x : Int), .int .i64 (y : Int)] 22 (0, 0)) by rw [hw2]; exact heap_alloc_new _ _)
  have HB2 := Lib.hid (show Below w.heap.size w w2 by rw [hw2]; exact HB1.out.alloc HB1.out.size _)
  clear hw2
  clear c0 c1 c2 c3 c4 c5 c6 c7
  have c0 := cell_blk (i := 0) HX2.out
  have c1 := cell_blk (i := 1) HX2.out
  have c2 := cell_blk (i := 2) HX2.out
  have c3 := cell_blk (i := 3) HX2.out
  have c4 := cell_blk (i := 4) HX2.out
  have c5 := cell_blk (i := 5) HX2.out
  have c6 := cell_blk (i := 6) HX2.out
  have c7 := cell_blk (i := 7) HX2.out
  simp [ckO] at c0 c1 c2 c3 c4 c5 c6 c7
  have l0 := cell_blk (i := 0) HL2.out
  have l1 := cell_blk (i := 1) HL2.out
  simp [ckO] at l0 l1
  refine wp_loop_rounds 3 ?_
  rw [rounds_succ]
  go_wp2_with fail
  go_quiet (first | (go_at_call 24; (with_reducible refine (HD0.out _).mono ?_); exact fun _ _ h => ⟨h.1, _, h.2⟩) | (go_at_call 24; (with_reducible refine (HE0.out _).mono ?_); exact fun _ _ h => ⟨h.1, _, h.2⟩))
  go_wp2_with fail
  rw [rounds_succ]
  go_wp2_with fail
  go_quiet (first | (go_at_call 24; (with_reducible refine (HD1.out _).mono ?_); exact fun _ _ h => ⟨h.1, _, h.2⟩) | (go_at_call 24; (with_reducible refine (HE1.out _).mono ?_); exact fun _ _ h => ⟨h.1, _, h.2⟩))
  go_wp2_with fail
  rw [rounds_succ]
  go_wp2_with fail
  go_ret
  refine ⟨?_, (by repeat (first | (with_reducible exact HB2.out) | (with_reducible refine below_dr ?_ _)))⟩
  refine congrArg Ending.returned ?_
  refine congrArg Value.string ?_
  unfold joinS minS
  rw [SE0.out, SE1.out]
  apply ByteArray.ext
  simp [Array.append_assoc]

set_option maxHeartbeats 4000000 in
set_option maxRecDepth 100000 in
theorem rtext_no (a b m k : Int) (h : Nat) (on : Bool) (s : Int) (f : Nat) (hg : f < 256) (n : Int) (hL : lookC a b m k h on s f n = (0, 0, false, 2)) (w : World) : Calls Tryd.prog 10 #[ckV a b m k h on s f, .int .i64 n] w fun e w' => e = .returned (.string ⟨#[]⟩) ∧ Below w.heap.size w w' := by
  have hcall := fun W => rlook_any a b m k h on s f hg n W
  rw [hL] at hcall
  have HK := Lib.hid hcall
  clear hcall
  obtain ⟨w0, hw0⟩ : ∃ w0, w0 = w.alloc (.cells #[.int .i64 a, .int .i64 b, .int .i64 m, .int .i64 k, .int .u8 h, .bool on, .int .i64 s, .int .u8 f] 24) := ⟨_, rfl⟩
  have HX0 : Hid (w0.heap[w.heap.size]? = some (.cells #[.int .i64 a, .int .i64 b, .int .i64 m, .int .i64 k, .int .u8 h, .bool on, .int .i64 s, .int .u8 f] 24 (0, 0))) := Lib.hid (by rw [hw0]; exact heap_alloc_new _ _)
  have HB0 : Hid (Below w.heap.size w w0) := Lib.hid (by rw [hw0]; exact box_below _ _)
  have HW0 := Lib.hid hw0
  clear hw0
  go_enter Tryd.func10, Tryd.ntmps10
  go_wp2_with fail
  refine (HK.out _).mono ?_
  rintro e w2 ⟨rfl, b1⟩
  rw [← HW0.out] at b1
  have HB2 := Lib.hid (HB0.out.trans (b1.mono HB0.out.size))
  clear b1
  go_wp2
  go_ret
  exact ⟨rfl, HB2.out.alloc (HB2.out.size) _⟩

theorem rtext_any (a b m k : Int) (h : Nat) (on : Bool) (s : Int) (f : Nat) (hg : f < 256) (n : Int) (w : World) : Calls Tryd.prog 10 #[ckV a b m k h on s f, .int .i64 n] w fun e w' => e = .returned (.string (textC a b m k h on s f n)) ∧ Below w.heap.size w w' := by
  unfold textC
  cases hn : askB a b m k h on s f n
  · rw [if_neg (by simp)]
    exact rtext_no a b m k h on s f hg n (lookC_no hn) w
  · rw [if_pos rfl]
    obtain ⟨x, y, hx, hy, hL⟩ := look_ok hn
    obtain ⟨-, -, -, -, -, -, hh, hf2, hf3, -, -, -⟩ := ask_bd hn
    cases on
    · rw [show fallB a b k h false s n = false from rfl] at hL
      rw [hL, if_neg (by simp)]
      obtain rfl | rfl | rfl : f = 0 ∨ f = 1 ∨ f = 2 := by omega
      · exact rtext_off0 h a b m k s n x y hx hy hL w
      · exact rtext_off1 h a b m k s n x y hx hy hL w
      · exact rtext_off2 h a b m k s n x y hx hy hL w
    · obtain rfl : f = 2 := by
        rcases hf3 with e | e
        · exact e
        · cases e
      obtain rfl | rfl : h = 0 ∨ h = 1 := by omega
      · cases hf : fallB a b k 0 true s n
        · rw [hf] at hL
          rw [hL, if_neg (by simp)]
          exact rtext_on0n a b m k s n x y hx hy hL w
        · rw [hf] at hL
          rw [hL, if_pos rfl]
          exact rtext_on0y a b m k s n x y hx hy hL w
      · cases hf : fallB a b k 1 true s n
        · rw [hf] at hL
          rw [hL, if_neg (by simp)]
          exact rtext_on1n a b m k s n x y hx hy hL w
        · rw [hf] at hL
          rw [hL, if_pos rfl]
          exact rtext_on1y a b m k s n x y hx hy hL w
end Go.Proofs.YtcemekianoehfaaDoor
