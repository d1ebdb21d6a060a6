/- joustlaw28.ClockWhen, where it falls some time. (Made by gen/mkck.py.) -/
import Derived.Test.YteadjkjgmngolaaDoorCkCwB
namespace Go.Proofs.YteadjkjgmngolaaDoor
open Go.RowKit Go.Lib Go.Sort

set_option maxHeartbeats 16000000 in
set_option maxRecDepth 100000 in
theorem cwhen_ok0 (a b m k s early : Int) (hm : mayB a b m k 0 true s 2 = true) (hl : longI a b k 0 < 1073741824 - s) (w : World) (hT : PTab w) : Calls Tryd.prog 4 #[ckV a b m k 0 true s 2, .int .i64 early] w fun e w' => e = .returned (.bool true) ∧ Below w.heap.size w w' := by
  have hw := fun W => when_any a b m k 0 true s 2 W
  rw [show whenC a b m k 0 true s 2 = (s + longI a b k 0 + 1, true) by unfold whenC; rw [if_pos ⟨hm, rfl, hl⟩]] at hw
  obtain ⟨z, hz⟩ : ∃ z, z = s + longI a b k 0 := ⟨_, rfl⟩
  rw [← hz] at hw
  have HW := Lib.hid hw
  have hcm := fun W => may_any a b m k 0 true s 2 W
  rw [hm] at hcm
  have CM := Lib.hid hcm
  clear hw hcm
  have hL0 := (long_bd (h := 0) (may_bd hm).1 (may_bd hm).2.1 (may_bd hm).2.2.2.2.2.1).1
  have hS0 := (may_bd hm).2.2.2.2.2.2.2.1
  have hask1 := cw_ask (n := z + 1) hm (by omega) (by omega)
  have hfal1 := cw_fell (a := a) (b := b) (k := k) (h := 0) (s := s) (n := z + 1) (by omega)
  have hlk1 := fun W => look_any a b m k 0 true s 2 (z + 1) W
  rw [cw_look a b m k s (z + 1) true hask1 hfal1] at hlk1
  have hsp1 := fun W => stop_any a b m k 0 true s 2 (z + 1) W
  rw [cw_stop1 a b m k s (z + 1) hask1 hfal1] at hsp1
  obtain ⟨V1, hV1⟩ : ∃ V1, V1 = max (a - (z + 1 - s)) 0 := ⟨_, rfl⟩
  have HLK1 := Lib.hid (show ∀ W, Calls Tryd.prog 15 #[.agg #[.int .i64 a, .int .i64 b, .int .i64 m, .int .i64 k, .int .u8 0, .bool true, .int .i64 s, .int .u8 2], .int .i64 (z + 1)] W fun e w' => e = .returned (.tuple #[twoV V1 b, .bool true, .int .i64 0]) ∧ Below W.heap.size W w' by rw [hV1]; exact hlk1)
  have HSP1 := Lib.hid (show ∀ W, Calls Tryd.prog 13 #[.agg #[.int .i64 a, .int .i64 b, .int .i64 m, .int .i64 k, .int .u8 0, .bool true, .int .i64 s, .int .u8 2], .int .i64 (z + 1)] W fun e w' => e = .returned (.tuple #[.agg #[.int .i64 0, .int .i64 b, .int .i64 m, .int .i64 k, .int .u8 0, .bool false, .int .i64 (z + 1), .int .u8 0], .bool false, .int .i64 0]) ∧ Below W.heap.size W w' from hsp1)
  clear hlk1 hsp1 hask1 hfal1 hV1
  obtain ⟨ha, hb, -, -, hmm, hk, -, hs, -, -⟩ := may_bd hm
  have hlb := long_bd (h := 0) ha hb hk
  obtain ⟨t, ht⟩ : ∃ t, t = atI early z s := ⟨_, rfl⟩
  have hat := at_bd (early := early) (z := z) hs.1 (by omega)
  rw [← ht] at hat
  have HE := Lib.hid (at_walk (early := early) (z := z) hs.1 (by omega) (by omega))
  rw [← ht] at HE
  clear ht
  have hask := cw_ask (n := t) hm hat.1 (by omega)
  have hfal := cw_not (a := a) (b := b) (k := k) (h := 0) (s := s) (n := t) (by omega)
  have hlk := fun W => look_any a b m k 0 true s 2 t W
  rw [cw_look a b m k s t false hask hfal] at hlk
  have hsp := fun W => stop_any a b m k 0 true s 2 t W
  rw [cw_stop0 a b m k s t hask hfal] at hsp
  obtain ⟨V, hV⟩ : ∃ V, V = max (a - (t - s)) 0 := ⟨_, rfl⟩
  obtain ⟨FV, hFV⟩ : ∃ FV, FV = fillI (a - (t - s)) m := ⟨_, rfl⟩
  have HLK := Lib.hid (show ∀ W, Calls Tryd.prog 15 #[.agg #[.int .i64 a, .int .i64 b, .int .i64 m, .int .i64 k, .int .u8 0, .bool true, .int .i64 s, .int .u8 2], .int .i64 t] W fun e w' => e = .returned (.tuple #[twoV V b, .bool false, .int .i64 0]) ∧ Below W.heap.size W w' by rw [hV]; exact hlk)
  have HSP := Lib.hid (show ∀ W, Calls Tryd.prog 13 #[.agg #[.int .i64 a, .int .i64 b, .int .i64 m, .int .i64 k, .int .u8 0, .bool true, .int .i64 s, .int .u8 2], .int .i64 t] W fun e w' => e = .returned (.tuple #[ckV FV b m k 0 false t 2, .bool true, .int .i64 0]) ∧ Below W.heap.size W w' by rw [hFV]; exact hsp)
  have q1 : (V == (if a - (t - s) < 0 then 0 else a - (t - s))) = true := by
    rw [beq_iff_eq, hV]
    by_cases hx : a - (t - s) < 0
    · rw [if_pos hx]; omega
    · rw [if_neg hx]; omega
  have q2 : (V == max (a - (t - s)) 0) = true := by rw [beq_iff_eq, hV]
  have HQ1 := Lib.hid q1
  have HQ2 := Lib.hid q2
  clear hlk hsp hask hfal hFV hV q1 q2
  have hz1 : s ≤ z := by omega
  have hz2 : z < 1073741824 := by omega
  clear hm hlb hl hz hL0 hS0
  obtain ⟨w0, hw0⟩ : ∃ w0, w0 = w.alloc (.cells #[.int .i64 a, .int .i64 b, .int .i64 m, .int .i64 k, .int .u8 0, .bool true, .int .i64 s, .int .u8 2] 24) := ⟨_, rfl⟩
  have HX0 : Hid (w0.heap[w.heap.size]? = some (.cells #[.int .i64 a, .int .i64 b, .int .i64 m, .int .i64 k, .int .u8 0, .bool true, .int .i64 s, .int .u8 2] 24 (0, 0))) := Lib.hid (by rw [hw0]; exact heap_alloc_new _ _)
  have HB0 : Hid (Below w.heap.size w w0) := Lib.hid (by rw [hw0]; exact box_below _ _)
  have HW0 := Lib.hid hw0
  clear hw0
  have HPT := Lib.hid hT
  clear hT
  go_enter Tryd.func4, Tryd.ntmps4
  go_wp2_with fail
  refine (HW.out _).mono ?_
  rintro e w1 ⟨rfl, b1⟩
  rw [← HW0.out] at b1
  have HX1 := Lib.hid ((b1.block _ (heap_lt HX0.out)).trans HX0.out)
  have HB1 := Lib.hid (HB0.out.trans (b1.mono HB0.out.size))
  clear b1
  have x0 := cell_blk (i := 0) HX1.out
  have x1 := cell_blk (i := 1) HX1.out
  have x2 := cell_blk (i := 2) HX1.out
  have x3 := cell_blk (i := 3) HX1.out
  have x4 := cell_blk (i := 4) HX1.out
  have x5 := cell_blk (i := 5) HX1.out
  have x6 := cell_blk (i := 6) HX1.out
  have x7 := cell_blk (i := 7) HX1.out
  simp [ckO] at x0 x1 x2 x3 x4 x5 x6 x7
  go_wp2_with fail
  refine (CM.out _).mono ?_
  rintro e w2 ⟨rfl, b2⟩
  have HX2 := Lib.hid ((b2.block _ (heap_lt HX1.out)).trans HX1.out)
  have HB2 := Lib.hid (HB1.out.trans (b2.mono HB1.out.size))
  clear b2
  clear x0 x1 x2 x3 x4 x5 x6 x7
  have x0 := cell_blk (i := 0) HX2.out
  have x1 := cell_blk (i := 1) HX2.out
  have x2 := cell_blk (i := 2) HX2.out
  have x3 := cell_blk (i := 3) HX2.out
  have x4 := cell_blk (i := 4) HX2.out
  have x5 := cell_blk (i := 5) HX2.out
  have x6 := cell_blk (i := 6) HX2.out
  have x7 := cell_blk (i := 7) HX2.out
  simp [ckO] at x0 x1 x2 x3 x4 x5 x6 x7
  go_wp2_with fail
  refine (HLK1.out _).mono ?_
  rintro e w3 ⟨rfl, b3⟩
  have HX3 := Lib.hid ((b3.block _ (heap_lt HX2.out)).trans HX2.out)
  have HB3 := Lib.hid (HB2.out.trans (b3.mono HB2.out.size))
  clear b3
  have hm1 := heap_lt HX3.out
  clear x0 x1 x2 x3 x4 x5 x6 x7
  have x0 := cell_blk (i := 0) HX3.out
  have x1 := cell_blk (i := 1) HX3.out
  have x2 := cell_blk (i := 2) HX3.out
  have x3 := cell_blk (i := 3) HX3.out
  have x4 := cell_blk (i := 4) HX3.out
  have x5 := cell_blk (i := 5) HX3.out
  have x6 := cell_blk (i := 6) HX3.out
  have x7 := cell_blk (i := 7) HX3.out
  simp [ckO] at x0 x1 x2 x3 x4 x5 x6 x7
  go_wp2_with fail
  obtain ⟨w4, hw4⟩ : ∃ w4, w4 = w3.alloc (.cells #[.int .i64 V1, .int .i64 b] 22) := ⟨_, rfl⟩
  rw [← hw4]
  have HX4 := Lib.hid (show w4.heap[w.heap.size]? = some (.cells #[.int .i64 a, .int .i64 b, .int .i64 m, .int .i64 k, .int .u8 0, .bool true, .int .i64 s, .int .u8 2] 24 (0, 0)) by rw [hw4]; exact heap_older HX3.out)
  have HB4 := Lib.hid (show Below w.heap.size w w4 by rw [hw4]; exact HB3.out.alloc HB3.out.size _)
  clear hw4
  refine (HSP1.out _).mono ?_
  rintro e w5 ⟨rfl, b5⟩
  have HX5 := Lib.hid ((b5.block _ (heap_lt HX4.out)).trans HX4.out)
  have HB5 := Lib.hid (HB4.out.trans (b5.mono HB4.out.size))
  clear b5
  have hm2 := heap_lt HX5.out
  clear x0 x1 x2 x3 x4 x5 x6 x7
  have x0 := cell_blk (i := 0) HX5.out
  have x1 := cell_blk (i := 1) HX5.out
  have x2 := cell_blk (i := 2) HX5.out
  have x3 := cell_blk (i := 3) HX5.out
  have x4 := cell_blk (i := 4) HX5.out
  have x5 := cell_blk (i := 5) HX5.out
  have x6 := cell_blk (i := 6) HX5.out
  have x7 := cell_blk (i := 7) HX5.out
  simp [ckO] at x0 x1 x2 x3 x4 x5 x6 x7
  have e1 : IntKind.i64.wrap (z - s) = z - s := IntWalk.i64_in _ (by omega)
  have e2 : IntKind.i64.wrap (z - s + 1) = z - s + 1 := IntWalk.i64_in _ (by omega)
  go_wp2
  obtain ⟨w6, hw6⟩ : ∃ w6, w6 = w5.alloc (.cells #[.int .i64 0, .int .i64 b, .int .i64 m, .int .i64 k, .int .u8 0, .bool false, .int .i64 (z + 1), .int .u8 0] 24) := ⟨_, rfl⟩
  rw [← hw6]
  have HX6 := Lib.hid (show w6.heap[w.heap.size]? = some (.cells #[.int .i64 a, .int .i64 b, .int .i64 m, .int .i64 k, .int .u8 0, .bool true, .int .i64 s, .int .u8 2] 24 (0, 0)) by rw [hw6]; exact heap_older HX5.out)
  have HB6 := Lib.hid (show Below w.heap.size w w6 by rw [hw6]; exact HB5.out.alloc HB5.out.size _)
  clear hw6
  clear x0 x1 x2 x3 x4 x5 x6 x7
  have x0 := cell_blk (i := 0) HX6.out
  have x1 := cell_blk (i := 1) HX6.out
  have x2 := cell_blk (i := 2) HX6.out
  have x3 := cell_blk (i := 3) HX6.out
  have x4 := cell_blk (i := 4) HX6.out
  have x5 := cell_blk (i := 5) HX6.out
  have x6 := cell_blk (i := 6) HX6.out
  have x7 := cell_blk (i := 7) HX6.out
  simp [ckO] at x0 x1 x2 x3 x4 x5 x6 x7
  go_quiet (fail)
  go_wp2_with fail
  rw [HE.out]
  obtain ⟨w11, hw11⟩ : ∃ w11, w11 = w6.drewN nq := ⟨_, rfl⟩
  have b11 : Below w6.heap.size w6 w11 := by rw [hw11]; exact below_dr (Below.refl _ _) _
  rw [← hw11]
  clear hw11
  have HX11 := Lib.hid ((b11.block _ (heap_lt HX6.out)).trans HX6.out)
  have HB11 := Lib.hid (HB6.out.trans (b11.mono HB6.out.size))
  clear b11
  refine (HLK.out _).mono ?_
  rintro e w12 ⟨rfl, b12⟩
  have HX12 := Lib.hid ((b12.block _ (heap_lt HX11.out)).trans HX11.out)
  have HB12 := Lib.hid (HB11.out.trans (b12.mono HB11.out.size))
  clear b12
  have hl1 := heap_lt HX12.out
  clear x0 x1 x2 x3 x4 x5 x6 x7
  have x0 := cell_blk (i := 0) HX12.out
  have x1 := cell_blk (i := 1) HX12.out
  have x2 := cell_blk (i := 2) HX12.out
  have x3 := cell_blk (i := 3) HX12.out
  have x4 := cell_blk (i := 4) HX12.out
  have x5 := cell_blk (i := 5) HX12.out
  have x6 := cell_blk (i := 6) HX12.out
  have x7 := cell_blk (i := 7) HX12.out
  simp [ckO] at x0 x1 x2 x3 x4 x5 x6 x7
  go_wp2_with fail
  obtain ⟨w13, hw13⟩ : ∃ w13, w13 = w12.alloc (.cells #[.int .i64 V, .int .i64 b] 22) := ⟨_, rfl⟩
  rw [← hw13]
  have HX13 := Lib.hid (show w13.heap[w.heap.size]? = some (.cells #[.int .i64 a, .int .i64 b, .int .i64 m, .int .i64 k, .int .u8 0, .bool true, .int .i64 s, .int .u8 2] 24 (0, 0)) by rw [hw13]; exact heap_older HX12.out)
  have HL13 := Lib.hid (show w13.heap[w12.heap.size]? = some (.cells #[.int .i64 V, .int .i64 b] 22 (0, 0)) by rw [hw13]; exact heap_alloc_new _ _)
  have HB13 := Lib.hid (show Below w.heap.size w w13 by rw [hw13]; exact HB12.out.alloc HB12.out.size _)
  clear hw13
  refine (HSP.out _).mono ?_
  rintro e w14 ⟨rfl, b14⟩
  have HX14 := Lib.hid ((b14.block _ (heap_lt HX13.out)).trans HX13.out)
  have HL14 := Lib.hid ((b14.block _ (heap_lt HL13.out)).trans HL13.out)
  have HB14 := Lib.hid (HB13.out.trans (b14.mono HB13.out.size))
  clear b14
  have hl2 := heap_lt HX14.out
  have hl3 := heap_lt HL14.out
  clear x0 x1 x2 x3 x4 x5 x6 x7
  have x0 := cell_blk (i := 0) HX14.out
  have x1 := cell_blk (i := 1) HX14.out
  have x2 := cell_blk (i := 2) HX14.out
  have x3 := cell_blk (i := 3) HX14.out
  have x4 := cell_blk (i := 4) HX14.out
  have x5 := cell_blk (i := 5) HX14.out
  have x6 := cell_blk (i := 6) HX14.out
  have x7 := cell_blk (i := 7) HX14.out
  simp [ckO] at x0 x1 x2 x3 x4 x5 x6 x7
  go_wp2
  obtain ⟨w15, hw15⟩ : ∃ w15, w15 = w14.alloc (.cells #[.int .i64 FV, .int .i64 b, .int .i64 m, .int .i64 k, .int .u8 0, .bool false, .int .i64 t, .int .u8 2] 24) := ⟨_, rfl⟩
  rw [← hw15]
  have HX15 := Lib.hid (show w15.heap[w.heap.size]? = some (.cells #[.int .i64 a, .int .i64 b, .int .i64 m, .int .i64 k, .int .u8 0, .bool true, .int .i64 s, .int .u8 2] 24 (0, 0)) by rw [hw15]; exact heap_older HX14.out)
  have HL15 := Lib.hid (show w15.heap[w12.heap.size]? = some (.cells #[.int .i64 V, .int .i64 b] 22 (0, 0)) by rw [hw15]; exact heap_older HL14.out)
  have HS15 := Lib.hid (show w15.heap[w14.heap.size]? = some (.cells #[.int .i64 FV, .int .i64 b, .int .i64 m, .int .i64 k, .int .u8 0, .bool false, .int .i64 t, .int .u8 2] 24 (0, 0)) by rw [hw15]; exact heap_alloc_new _ _)
  have HB15 := Lib.hid (show Below w.heap.size w w15 by rw [hw15]; exact HB14.out.alloc HB14.out.size _)
  clear hw15
  clear x0 x1 x2 x3 x4 x5 x6 x7
  have x0 := far_cell HX15.out 0 rfl
  have x1 := far_cell HX15.out 1 rfl
  have x2 := far_cell HX15.out 2 rfl
  have x3 := far_cell HX15.out 3 rfl
  have x4 := far_cell HX15.out 4 rfl
  have x5 := far_cell HX15.out 5 rfl
  have x6 := far_cell HX15.out 6 rfl
  have x7 := far_cell HX15.out 7 rfl
  simp [ckO] at x0 x1 x2 x3 x4 x5 x6 x7
  have l0 := far_cell HL15.out 0 rfl
  have l1 := far_cell HL15.out 1 rfl
  simp [ckO] at l0 l1
  have v0 := far_cell HS15.out 0 rfl
  have v1 := far_cell HS15.out 1 rfl
  have v2 := far_cell HS15.out 2 rfl
  have v3 := far_cell HS15.out 3 rfl
  have v4 := far_cell HS15.out 4 rfl
  have v5 := far_cell HS15.out 5 rfl
  have v6 := far_cell HS15.out 6 rfl
  have v7 := far_cell HS15.out 7 rfl
  simp [ckO] at v0 v1 v2 v3 v4 v5 v6 v7
  have HT15 := Lib.hid (HPT.out.below HB15.out)
  have e3 : IntKind.i64.wrap (t - s) = t - s := IntWalk.i64_in _ (by omega)
  have e4 : IntKind.i64.wrap (a - (t - s)) = a - (t - s) := IntWalk.i64_in _ (by omega)
  have q1 := HQ1.out
  have q2 := HQ2.out
  refine wp_region_quiet_below (by kernel_rfl) (by kernel_rfl) ?_
  repeat (quiet_step (first | (go_at_call 19; exact Calls.regrown_of (lives_any _ (HT15.out.below (below_regrown _ _ _))))))
  refine wpQuiet_nil ?_
  intro _ hw'
  obtain ⟨⟨dq, osq⟩, hw''⟩ := hw'
  subst hw''
  go_wp2
  go_ret
  exact ⟨rfl, HB15.out.trans ((below_regrown _ _ _).mono HB15.out.size)⟩

set_option maxHeartbeats 16000000 in
set_option maxRecDepth 100000 in
theorem cwhen_ok1 (a b m k s early : Int) (hm : mayB a b m k 1 true s 2 = true) (hl : longI a b k 1 < 1073741824 - s) (w : World) (hT : PTab w) : Calls Tryd.prog 4 #[ckV a b m k 1 true s 2, .int .i64 early] w fun e w' => e = .returned (.bool true) ∧ Below w.heap.size w w' := by
  have hw := fun W => when_any a b m k 1 true s 2 W
  rw [show whenC a b m k 1 true s 2 = (s + longI a b k 1 + 1, true) by unfold whenC; rw [if_pos ⟨hm, rfl, hl⟩]] at hw
  obtain ⟨z, hz⟩ : ∃ z, z = s + longI a b k 1 := ⟨_, rfl⟩
  rw [← hz] at hw
  have HW := Lib.hid hw
  have hcm := fun W => may_any a b m k 1 true s 2 W
  rw [hm] at hcm
  have CM := Lib.hid hcm
  clear hw hcm
  have hL0 := (long_bd (h := 1) (may_bd hm).1 (may_bd hm).2.1 (may_bd hm).2.2.2.2.2.1).1
  have hS0 := (may_bd hm).2.2.2.2.2.2.2.1
  have hask1 := cw_ask (n := z + 1) hm (by omega) (by omega)
  have hfal1 := cw_fell (a := a) (b := b) (k := k) (h := 1) (s := s) (n := z + 1) (by omega)
  have hlk1 := fun W => look_any a b m k 1 true s 2 (z + 1) W
  rw [cw_look a b m k s (z + 1) true hask1 hfal1] at hlk1
  have hsp1 := fun W => stop_any a b m k 1 true s 2 (z + 1) W
  rw [cw_stop1 a b m k s (z + 1) hask1 hfal1] at hsp1
  obtain ⟨V1, hV1⟩ : ∃ V1, V1 = max (b - (z + 1 - s)) 0 := ⟨_, rfl⟩
  have HLK1 := Lib.hid (show ∀ W, Calls Tryd.prog 15 #[.agg #[.int .i64 a, .int .i64 b, .int .i64 m, .int .i64 k, .int .u8 1, .bool true, .int .i64 s, .int .u8 2], .int .i64 (z + 1)] W fun e w' => e = .returned (.tuple #[twoV a V1, .bool true, .int .i64 0]) ∧ Below W.heap.size W w' by rw [hV1]; exact hlk1)
  have HSP1 := Lib.hid (show ∀ W, Calls Tryd.prog 13 #[.agg #[.int .i64 a, .int .i64 b, .int .i64 m, .int .i64 k, .int .u8 1, .bool true, .int .i64 s, .int .u8 2], .int .i64 (z + 1)] W fun e w' => e = .returned (.tuple #[.agg #[.int .i64 a, .int .i64 0, .int .i64 m, .int .i64 k, .int .u8 1, .bool false, .int .i64 (z + 1), .int .u8 1], .bool false, .int .i64 0]) ∧ Below W.heap.size W w' from hsp1)
  clear hlk1 hsp1 hask1 hfal1 hV1
  obtain ⟨ha, hb, -, -, hmm, hk, -, hs, -, -⟩ := may_bd hm
  have hlb := long_bd (h := 1) ha hb hk
  obtain ⟨t, ht⟩ : ∃ t, t = atI early z s := ⟨_, rfl⟩
  have hat := at_bd (early := early) (z := z) hs.1 (by omega)
  rw [← ht] at hat
  have HE := Lib.hid (at_walk (early := early) (z := z) hs.1 (by omega) (by omega))
  rw [← ht] at HE
  clear ht
  have hask := cw_ask (n := t) hm hat.1 (by omega)
  have hfal := cw_not (a := a) (b := b) (k := k) (h := 1) (s := s) (n := t) (by omega)
  have hlk := fun W => look_any a b m k 1 true s 2 t W
  rw [cw_look a b m k s t false hask hfal] at hlk
  have hsp := fun W => stop_any a b m k 1 true s 2 t W
  rw [cw_stop0 a b m k s t hask hfal] at hsp
  obtain ⟨V, hV⟩ : ∃ V, V = max (b - (t - s)) 0 := ⟨_, rfl⟩
  obtain ⟨FV, hFV⟩ : ∃ FV, FV = fillI (b - (t - s)) m := ⟨_, rfl⟩
  have HLK := Lib.hid (show ∀ W, Calls Tryd.prog 15 #[.agg #[.int .i64 a, .int .i64 b, .int .i64 m, .int .i64 k, .int .u8 1, .bool true, .int .i64 s, .int .u8 2], .int .i64 t] W fun e w' => e = .returned (.tuple #[twoV a V, .bool false, .int .i64 0]) ∧ Below W.heap.size W w' by rw [hV]; exact hlk)
  have HSP := Lib.hid (show ∀ W, Calls Tryd.prog 13 #[.agg #[.int .i64 a, .int .i64 b, .int .i64 m, .int .i64 k, .int .u8 1, .bool true, .int .i64 s, .int .u8 2], .int .i64 t] W fun e w' => e = .returned (.tuple #[ckV a FV m k 1 false t 2, .bool true, .int .i64 0]) ∧ Below W.heap.size W w' by rw [hFV]; exact hsp)
  have q1 : (V == (if b - (t - s) < 0 then 0 else b - (t - s))) = true := by
    rw [beq_iff_eq, hV]
    by_cases hx : b - (t - s) < 0
    · rw [if_pos hx]; omega
    · rw [if_neg hx]; omega
  have q2 : (V == max (b - (t - s)) 0) = true := by rw [beq_iff_eq, hV]
  have HQ1 := Lib.hid q1
  have HQ2 := Lib.hid q2
  clear hlk hsp hask hfal hFV hV q1 q2
  have hz1 : s ≤ z := by omega
  have hz2 : z < 1073741824 := by omega
  clear hm hlb hl hz hL0 hS0
  obtain ⟨w0, hw0⟩ : ∃ w0, w0 = w.alloc (.cells #[.int .i64 a, .int .i64 b, .int .i64 m, .int .i64 k, .int .u8 1, .bool true, .int .i64 s, .int .u8 2] 24) := ⟨_, rfl⟩
  have HX0 : Hid (w0.heap[w.heap.size]? = some (.cells #[.int .i64 a, .int .i64 b, .int .i64 m, .int .i64 k, .int .u8 1, .bool true, .int .i64 s, .int .u8 2] 24 (0, 0))) := Lib.hid (by rw [hw0]; exact heap_alloc_new _ _)
  have HB0 : Hid (Below w.heap.size w w0) := Lib.hid (by rw [hw0]; exact box_below _ _)
  have HW0 := Lib.hid hw0
  clear hw0
  have HPT := Lib.hid hT
  clear hT
  go_enter Tryd.func4, Tryd.ntmps4
  go_wp2_with fail
  refine (HW.out _).mono ?_
  rintro e w1 ⟨rfl, b1⟩
  rw [← HW0.out] at b1
  have HX1 := Lib.hid ((b1.block _ (heap_lt HX0.out)).trans HX0.out)
  have HB1 := Lib.hid (HB0.out.trans (b1.mono HB0.out.size))
  clear b1
  have x0 := cell_blk (i := 0) HX1.out
  have x1 := cell_blk (i := 1) HX1.out
  have x2 := cell_blk (i := 2) HX1.out
  have x3 := cell_blk (i := 3) HX1.out
  have x4 := cell_blk (i := 4) HX1.out
  have x5 := cell_blk (i := 5) HX1.out
  have x6 := cell_blk (i := 6) HX1.out
  have x7 := cell_blk (i := 7) HX1.out
  simp [ckO] at x0 x1 x2 x3 x4 x5 x6 x7
  go_wp2_with fail
  refine (CM.out _).mono ?_
  rintro e w2 ⟨rfl, b2⟩
  have HX2 := Lib.hid ((b2.block _ (heap_lt HX1.out)).trans HX1.out)
  have HB2 := Lib.hid (HB1.out.trans (b2.mono HB1.out.size))
  clear b2
  clear x0 x1 x2 x3 x4 x5 x6 x7
  have x0 := cell_blk (i := 0) HX2.out
  have x1 := cell_blk (i := 1) HX2.out
  have x2 := cell_blk (i := 2) HX2.out
  have x3 := cell_blk (i := 3) HX2.out
  have x4 := cell_blk (i := 4) HX2.out
  have x5 := cell_blk (i := 5) HX2.out
  have x6 := cell_blk (i := 6) HX2.out
  have x7 := cell_blk (i := 7) HX2.out
  simp [ckO] at x0 x1 x2 x3 x4 x5 x6 x7
  go_wp2_with fail
  refine (HLK1.out _).mono ?_
  rintro e w3 ⟨rfl, b3⟩
  have HX3 := Lib.hid ((b3.block _ (heap_lt HX2.out)).trans HX2.out)
  have HB3 := Lib.hid (HB2.out.trans (b3.mono HB2.out.size))
  clear b3
  have hm1 := heap_lt HX3.out
  clear x0 x1 x2 x3 x4 x5 x6 x7
  have x0 := cell_blk (i := 0) HX3.out
  have x1 := cell_blk (i := 1) HX3.out
  have x2 := cell_blk (i := 2) HX3.out
  have x3 := cell_blk (i := 3) HX3.out
  have x4 := cell_blk (i := 4) HX3.out
  have x5 := cell_blk (i := 5) HX3.out
  have x6 := cell_blk (i := 6) HX3.out
  have x7 := cell_blk (i := 7) HX3.out
  simp [ckO] at x0 x1 x2 x3 x4 x5 x6 x7
  go_wp2_with fail
  obtain ⟨w4, hw4⟩ : ∃ w4, w4 = w3.alloc (.cells #[.int .i64 a, .int .i64 V1] 22) := ⟨_, rfl⟩
  rw [← hw4]
  have HX4 := Lib.hid (show w4.heap[w.heap.size]? = some (.cells #[.int .i64 a, .int .i64 b, .int .i64 m, .int .i64 k, .int .u8 1, .bool true, .int .i64 s, .int .u8 2] 24 (0, 0)) by rw [hw4]; exact heap_older HX3.out)
  have HB4 := Lib.hid (show Below w.heap.size w w4 by rw [hw4]; exact HB3.out.alloc HB3.out.size _)
  clear hw4
  refine (HSP1.out _).mono ?_
  rintro e w5 ⟨rfl, b5⟩
  have HX5 := Lib.hid ((b5.block _ (heap_lt HX4.out)).trans HX4.out)
  have HB5 := Lib.hid (HB4.out.trans (b5.mono HB4.out.size))
  clear b5
  have hm2 := heap_lt HX5.out
  clear x0 x1 x2 x3 x4 x5 x6 x7
  have x0 := cell_blk (i := 0) HX5.out
  have x1 := cell_blk (i := 1) HX5.out
  have x2 := cell_blk (i := 2) HX5.out
  have x3 := cell_blk (i := 3) HX5.out
  have x4 := cell_blk (i := 4) HX5.out
  have x5 := cell_blk (i := 5) HX5.out
  have x6 := cell_blk (i := 6) HX5.out
  have x7 := cell_blk (i := 7) HX5.out
  simp [ckO] at x0 x1 x2 x3 x4 x5 x6 x7
  have e1 : IntKind.i64.wrap (z - s) = z - s := IntWalk.i64_in _ (by omega)
  have e2 : IntKind.i64.wrap (z - s + 1) = z - s + 1 := IntWalk.i64_in _ (by omega)
  go_wp2
  obtain ⟨w6, hw6⟩ : ∃ w6, w6 = w5.alloc (.cells #[.int .i64 a, .int .i64 0, .int .i64 m, .int .i64 k, .int .u8 1, .bool false, .int .i64 (z + 1), .int .u8 1] 24) := ⟨_, rfl⟩
  rw [← hw6]
  have HX6 := Lib.hid (show w6.heap[w.heap.size]? = some (.cells #[.int .i64 a, .int .i64 b, .int .i64 m, .int .i64 k, .int .u8 1, .bool true, .int .i64 s, .int .u8 2] 24 (0, 0)) by rw [hw6]; exact heap_older HX5.out)
  have HB6 := Lib.hid (show Below w.heap.size w w6 by rw [hw6]; exact HB5.out.alloc HB5.out.size _)
  clear hw6
  clear x0 x1 x2 x3 x4 x5 x6 x7
  have x0 := cell_blk (i := 0) HX6.out
  have x1 := cell_blk (i := 1) HX6.out
  have x2 := cell_blk (i := 2) HX6.out
  have x3 := cell_blk (i := 3) HX6.out
  have x4 := cell_blk (i := 4) HX6.out
  have x5 := cell_blk (i := 5) HX6.out
  have x6 := cell_blk (i := 6) HX6.out
  have x7 := cell_blk (i := 7) HX6.out
  simp [ckO] at x0 x1 x2 x3 x4 x5 x6 x7
  go_quiet (fail)
  go_wp2_with fail
  rw [HE.out]
  obtain ⟨w11, hw11⟩ : ∃ w11, w11 = w6.drewN nq := ⟨_, rfl⟩
  have b11 : Below w6.heap.size w6 w11 := by rw [hw11]; exact below_dr (Below.refl _ _) _
  rw [← hw11]
  clear hw11
  have HX11 := Lib.hid ((b11.block _ (heap_lt HX6.out)).trans HX6.out)
  have HB11 := Lib.hid (HB6.out.trans (b11.mono HB6.out.size))
  clear b11
  refine (HLK.out _).mono ?_
  rintro e w12 ⟨rfl, b12⟩
  have HX12 := Lib.hid ((b12.block _ (heap_lt HX11.out)).trans HX11.out)
  have HB12 := Lib.hid (HB11.out.trans (b12.mono HB11.out.size))
  clear b12
  have hl1 := heap_lt HX12.out
  clear x0 x1 x2 x3 x4 x5 x6 x7
  have x0 := cell_blk (i := 0) HX12.out
  have x1 := cell_blk (i := 1) HX12.out
  have x2 := cell_blk (i := 2) HX12.out
  have x3 := cell_blk (i := 3) HX12.out
  have x4 := cell_blk (i := 4) HX12.out
  have x5 := cell_blk (i := 5) HX12.out
  have x6 := cell_blk (i := 6) HX12.out
  have x7 := cell_blk (i := 7) HX12.out
  simp [ckO] at x0 x1 x2 x3 x4 x5 x6 x7
  go_wp2_with fail
  obtain ⟨w13, hw13⟩ : ∃ w13, w13 = w12.alloc (.cells #[.int .i64 a, .int .i64 V] 22) := ⟨_, rfl⟩
  rw [← hw13]
  have HX13 := Lib.hid (show w13.heap[w.heap.size]? = some (.cells #[.int .i64 a, .int .i64 b, .int .i64 m, .int .i64 k, .int .u8 1, .bool true, .int .i64 s, .int .u8 2] 24 (0, 0)) by rw [hw13]; exact heap_older HX12.out)
  have HL13 := Lib.hid (show w13.heap[w12.heap.size]? = some (.cells #[.int .i64 a, .int .i64 V] 22 (0, 0)) by rw [hw13]; exact heap_alloc_new _ _)
  have HB13 := Lib.hid (show Below w.heap.size w w13 by rw [hw13]; exact HB12.out.alloc HB12.out.size _)
  clear hw13
  refine (HSP.out _).mono ?_
  rintro e w14 ⟨rfl, b14⟩
  have HX14 := Lib.hid ((b14.block _ (heap_lt HX13.out)).trans HX13.out)
  have HL14 := Lib.hid ((b14.block _ (heap_lt HL13.out)).trans HL13.out)
  have HB14 := Lib.hid (HB13.out.trans (b14.mono HB13.out.size))
  clear b14
  have hl2 := heap_lt HX14.out
  have hl3 := heap_lt HL14.out
  clear x0 x1 x2 x3 x4 x5 x6 x7
  have x0 := cell_blk (i := 0) HX14.out
  have x1 := cell_blk (i := 1) HX14.out
  have x2 := cell_blk (i := 2) HX14.out
  have x3 := cell_blk (i := 3) HX14.out
  have x4 := cell_blk (i := 4) HX14.out
  have x5 := cell_blk (i := 5) HX14.out
  have x6 := cell_blk (i := 6) HX14.out
  have x7 := cell_blk (i := 7) HX14.out
  simp [ckO] at x0 x1 x2 x3 x4 x5 x6 x7
  go_wp2
  obtain ⟨w15, hw15⟩ : ∃ w15, w15 = w14.alloc (.cells #[.int .i64 a, .int .i64 FV, .int .i64 m, .int .i64 k, .int .u8 1, .bool false, .int .i64 t, .int .u8 2] 24) := ⟨_, rfl⟩
  rw [← hw15]
  have HX15 := Lib.hid (show w15.heap[w.heap.size]? = some (.cells #[.int .i64 a, .int .i64 b, .int .i64 m, .int .i64 k, .int .u8 1, .bool true, .int .i64 s, .int .u8 2] 24 (0, 0)) by rw [hw15]; exact heap_older HX14.out)
  have HL15 := Lib.hid (show w15.heap[w12.heap.size]? = some (.cells #[.int .i64 a, .int .i64 V] 22 (0, 0)) by rw [hw15]; exact heap_older HL14.out)
  have HS15 := Lib.hid (show w15.heap[w14.heap.size]? = some (.cells #[.int .i64 a, .int .i64 FV, .int .i64 m, .int .i64 k, .int .u8 1, .bool false, .int .i64 t, .int .u8 2] 24 (0, 0)) by rw [hw15]; exact heap_alloc_new _ _)
  have HB15 := Lib.hid (show Below w.heap.size w w15 by rw [hw15]; exact HB14.out.alloc HB14.out.size _)
  clear hw15
  clear x0 x1 x2 x3 x4 x5 x6 x7
  have x0 := far_cell HX15.out 0 rfl
  have x1 := far_cell HX15.out 1 rfl
  have x2 := far_cell HX15.out 2 rfl
  have x3 := far_cell HX15.out 3 rfl
  have x4 := far_cell HX15.out 4 rfl
  have x5 := far_cell HX15.out 5 rfl
  have x6 := far_cell HX15.out 6 rfl
  have x7 := far_cell HX15.out 7 rfl
  simp [ckO] at x0 x1 x2 x3 x4 x5 x6 x7
  have l0 := far_cell HL15.out 0 rfl
  have l1 := far_cell HL15.out 1 rfl
  simp [ckO] at l0 l1
  have v0 := far_cell HS15.out 0 rfl
  have v1 := far_cell HS15.out 1 rfl
  have v2 := far_cell HS15.out 2 rfl
  have v3 := far_cell HS15.out 3 rfl
  have v4 := far_cell HS15.out 4 rfl
  have v5 := far_cell HS15.out 5 rfl
  have v6 := far_cell HS15.out 6 rfl
  have v7 := far_cell HS15.out 7 rfl
  simp [ckO] at v0 v1 v2 v3 v4 v5 v6 v7
  have HT15 := Lib.hid (HPT.out.below HB15.out)
  have e3 : IntKind.i64.wrap (t - s) = t - s := IntWalk.i64_in _ (by omega)
  have e4 : IntKind.i64.wrap (b - (t - s)) = b - (t - s) := IntWalk.i64_in _ (by omega)
  have q1 := HQ1.out
  have q2 := HQ2.out
  refine wp_region_quiet_below (by kernel_rfl) (by kernel_rfl) ?_
  repeat (quiet_step (first | (go_at_call 19; exact Calls.regrown_of (lives_any _ (HT15.out.below (below_regrown _ _ _))))))
  refine wpQuiet_nil ?_
  intro _ hw'
  obtain ⟨⟨dq, osq⟩, hw''⟩ := hw'
  subst hw''
  go_wp2
  go_ret
  exact ⟨rfl, HB15.out.trans ((below_regrown _ _ _).mono HB15.out.size)⟩

end Go.Proofs.YteadjkjgmngolaaDoor
