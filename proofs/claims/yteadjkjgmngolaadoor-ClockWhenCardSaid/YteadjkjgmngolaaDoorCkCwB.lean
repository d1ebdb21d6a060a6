/- joustlaw28.ClockWhen. (Made by gen/mkck.py.) -/
import Derived.Test.YteadjkjgmngolaaDoorCkCwA
namespace Go.Proofs.YteadjkjgmngolaaDoor
open Go.RowKit Go.Lib Go.Sort


theorem at_walk {early z s : Int} (hs : 0 ≤ s) (hz : s ≤ z) (hT : z ≤ 1073741824) : wrap64 (z - (wrap64 (wrap64 (wrap64 (early.tmod (z - s + 1) + z) - s) + 1)).tmod (z - s + 1)) = atI early z s := by
  have h1 := Int.lt_tmod_of_pos early (b := z - s + 1) (by omega)
  have h2 := Int.tmod_lt_of_pos early (b := z - s + 1) (by omega)
  have h3 := Int.tmod_lt_of_pos (early.tmod (z - s + 1) + z - s + 1) (b := z - s + 1) (by omega)
  have h4 : 0 ≤ (early.tmod (z - s + 1) + z - s + 1).tmod (z - s + 1) := Int.tmod_nonneg _ (by omega)
  unfold atI
  rw [IntWalk.wrap64_in (early.tmod (z - s + 1) + z) ⟨by omega, by omega⟩, IntWalk.wrap64_in (early.tmod (z - s + 1) + z - s) ⟨by omega, by omega⟩, IntWalk.wrap64_in (early.tmod (z - s + 1) + z - s + 1) ⟨by omega, by omega⟩, IntWalk.wrap64_in _ ⟨by omega, by omega⟩]
set_option maxHeartbeats 16000000 in
set_option maxRecDepth 100000 in
theorem cwhen_late0 (a b m k s early : Int) (hm : mayB a b m k 0 true s 2 = true) (hl : ¬ longI a b k 0 < 1073741824 - s) (w : World) (hT : PTab w) : Calls Tryd.prog 4 #[ckV a b m k 0 true s 2, .int .i64 early] w fun e w' => e = .returned (.bool true) ∧ Below w.heap.size w w' := by
  have hw := fun W => when_any a b m k 0 true s 2 W
  rw [show whenC a b m k 0 true s 2 = (0, false) by unfold whenC; rw [if_neg (fun x => hl x.2.2)]] at hw
  have HW := Lib.hid hw
  have hcm := fun W => may_any a b m k 0 true s 2 W
  rw [hm] at hcm
  have CM := Lib.hid hcm
  clear hw hcm
  obtain ⟨ha, hb, -, -, hmm, hk, -, hs, -, -⟩ := may_bd hm
  have hlb := long_bd (h := 0) ha hb hk
  obtain ⟨t, ht⟩ : ∃ t, t = atI early 1073741824 s := ⟨_, rfl⟩
  have hat := at_bd (early := early) (z := 1073741824) hs.1 (by omega)
  rw [← ht] at hat
  have HE := Lib.hid (at_walk (early := early) (z := 1073741824) hs.1 (by omega) (by omega))
  rw [← ht] at HE
  clear ht
  have hask := cw_ask (n := t) hm hat.1 (by omega)
  have hfal := cw_not (a := a) (b := b) (k := k) (h := 0) (s := s) (n := t) (by omega)
  have hlk := fun W => look_any a b m k 0 true s 2 t W
  rw [cw_look a b m k s t false hask hfal] at hlk
  have hsp := fun W => stop_any a b m k 0 true s 2 t W
  rw [cw_stop0 a b m k s t hask hfal] at hsp
  obtain ⟨V, hV⟩ : ∃ V, V = max (a - (t - s)) 0 := ⟨_, rfl⟩
  obtain ⟨FV, hFV⟩ : ∃ FV, FV = fillI (a - (t - s)) m := ⟨_, rfl⟩
  have HLK := Lib.hid (show ∀ W, Calls Tryd.prog 15 #[.agg #[.int .i64 a, .int .i64 b, .int .i64 m, .int .i64 k, .int .u8 0, .bool true, .int .i64 s, .int .u8 2], .int .i64 t] W fun e w' => e = .returned (.tuple #[twoV V b, .bool false, .int .i64 0]) ∧ Below W.heap.size W w' by rw [hV]; exact hlk)
  have HSP := Lib.hid (show ∀ W, Calls Tryd.prog 13 #[.agg #[.int .i64 a, .int .i64 b, .int .i64 m, .int .i64 k, .int .u8 0, .bool true, .int .i64 s, .int .u8 2], .int .i64 t] W fun e w' => e = .returned (.tuple #[ckV FV b m k 0 false t 2, .bool true, .int .i64 0]) ∧ Below W.heap.size W w' by rw [hFV]; exact hsp)
  have q1 : (V == (if a - (t - s) < 0 then 0 else a - (t - s))) = true := by
    rw [beq_iff_eq, hV]
    by_cases hx : a - (t - s) < 0
    · rw [if_pos hx]; omega
    · rw [if_neg hx]; omega
  have q2 : (V == max (a - (t - s)) 0) = true := by rw [beq_iff_eq, hV]
  have HQ1 := Lib.hid q1
  have HQ2 := Lib.hid q2
  clear hlk hsp hask hfal hFV hV q1 q2
  clear hm hlb hl
  obtain ⟨w0, hw0⟩ : ∃ w0, w0 = w.alloc (.cells #[.int .i64 a, .int .i64 b, .int .i64 m, .int .i64 k, .int .u8 0, .bool true, .int .i64 s, .int .u8 2] 24) := ⟨_, rfl⟩
  have HX0 : Hid (w0.heap[w.heap.size]? = some (.cells #[.int .i64 a, .int .i64 b, .int .i64 m, .int .i64 k, .int .u8 0, .bool true, .int .i64 s, .int .u8 2] 24 (0, 0))) := Lib.hid (by rw [hw0]; exact heap_alloc_new _ _)
  have HB0 : Hid (Below w.heap.size w w0) := Lib.hid (by rw [hw0]; exact box_below _ _)
  have HW0 := Lib.hid hw0
  clear hw0
  have HPT := Lib.hid hT
  clear hT
  go_enter Tryd.func4, Tryd.ntmps4
  go_wp2_with fail
  refine (HW.out _).mono ?_
  rintro e w1 ⟨rfl, b1⟩
  rw [← HW0.out] at b1
  have HX1 := Lib.hid ((b1.block _ (heap_lt HX0.out)).trans HX0.out)
  have HB1 := Lib.hid (HB0.out.trans (b1.mono HB0.out.size))
  clear b1
  have x0 := cell_blk (i := 0) HX1.out
  have x1 := cell_blk (i := 1) HX1.out
  have x2 := cell_blk (i := 2) HX1.out
  have x3 := cell_blk (i := 3) HX1.out
  have x4 := cell_blk (i := 4) HX1.out
  have x5 := cell_blk (i := 5) HX1.out
  have x6 := cell_blk (i := 6) HX1.out
  have x7 := cell_blk (i := 7) HX1.out
  simp [ckO] at x0 x1 x2 x3 x4 x5 x6 x7
  go_wp2_with fail
  refine (CM.out _).mono ?_
  rintro e w2 ⟨rfl, b2⟩
  have HX2 := Lib.hid ((b2.block _ (heap_lt HX1.out)).trans HX1.out)
  have HB2 := Lib.hid (HB1.out.trans (b2.mono HB1.out.size))
  clear b2
  clear x0 x1 x2 x3 x4 x5 x6 x7
  have x0 := cell_blk (i := 0) HX2.out
  have x1 := cell_blk (i := 1) HX2.out
  have x2 := cell_blk (i := 2) HX2.out
  have x3 := cell_blk (i := 3) HX2.out
  have x4 := cell_blk (i := 4) HX2.out
  have x5 := cell_blk (i := 5) HX2.out
  have x6 := cell_blk (i := 6) HX2.out
  have x7 := cell_blk (i := 7) HX2.out
  simp [ckO] at x0 x1 x2 x3 x4 x5 x6 x7
  have e1 : IntKind.i64.wrap (1073741824 - s) = 1073741824 - s := IntWalk.i64_in _ (by omega)
  have e2 : IntKind.i64.wrap (1073741824 - s + 1) = 1073741824 - s + 1 := IntWalk.i64_in _ (by omega)
  go_wp2_with fail
  go_quiet (fail)
  go_wp2_with fail
  rw [HE.out]
  obtain ⟨w11, hw11⟩ : ∃ w11, w11 = w2.drewN nq := ⟨_, rfl⟩
  have b11 : Below w2.heap.size w2 w11 := by rw [hw11]; exact below_dr (Below.refl _ _) _
  rw [← hw11]
  clear hw11
  have HX11 := Lib.hid ((b11.block _ (heap_lt HX2.out)).trans HX2.out)
  have HB11 := Lib.hid (HB2.out.trans (b11.mono HB2.out.size))
  clear b11
  refine (HLK.out _).mono ?_
  rintro e w12 ⟨rfl, b12⟩
  have HX12 := Lib.hid ((b12.block _ (heap_lt HX11.out)).trans HX11.out)
  have HB12 := Lib.hid (HB11.out.trans (b12.mono HB11.out.size))
  clear b12
  have hl1 := heap_lt HX12.out
  clear x0 x1 x2 x3 x4 x5 x6 x7
  have x0 := cell_blk (i := 0) HX12.out
  have x1 := cell_blk (i := 1) HX12.out
  have x2 := cell_blk (i := 2) HX12.out
  have x3 := cell_blk (i := 3) HX12.out
  have x4 := cell_blk (i := 4) HX12.out
  have x5 := cell_blk (i := 5) HX12.out
  have x6 := cell_blk (i := 6) HX12.out
  have x7 := cell_blk (i := 7) HX12.out
  simp [ckO] at x0 x1 x2 x3 x4 x5 x6 x7
  go_wp2_with fail
  obtain ⟨w13, hw13⟩ : ∃ w13, w13 = w12.alloc (.cells #[.int .i64 V, .int .i64 b] 22) := ⟨_, rfl⟩
  rw [← hw13]
  have HX13 := Lib.hid (show w13.heap[w.heap.size]? = some (.cells #[.int .i64 a, .int .i64 b, .int .i64 m, .int .i64 k, .int .u8 0, .bool true, .int .i64 s, .int .u8 2] 24 (0, 0)) by rw [hw13]; exact heap_older HX12.out)
  have HL13 := Lib.hid (show w13.heap[w12.heap.size]? = some (.cells #[.int .i64 V, .int .i64 b] 22 (0, 0)) by rw [hw13]; exact heap_alloc_new _ _)
  have HB13 := Lib.hid (show Below w.heap.size w w13 by rw [hw13]; exact HB12.out.alloc HB12.out.size _)
  clear hw13
  refine (HSP.out _).mono ?_
  rintro e w14 ⟨rfl, b14⟩
  have HX14 := Lib.hid ((b14.block _ (heap_lt HX13.out)).trans HX13.out)
  have HL14 := Lib.hid ((b14.block _ (heap_lt HL13.out)).trans HL13.out)
  have HB14 := Lib.hid (HB13.out.trans (b14.mono HB13.out.size))
  clear b14
  have hl2 := heap_lt HX14.out
  have hl3 := heap_lt HL14.out
  clear x0 x1 x2 x3 x4 x5 x6 x7
  have x0 := cell_blk (i := 0) HX14.out
  have x1 := cell_blk (i := 1) HX14.out
  have x2 := cell_blk (i := 2) HX14.out
  have x3 := cell_blk (i := 3) HX14.out
  have x4 := cell_blk (i := 4) HX14.out
  have x5 := cell_blk (i := 5) HX14.out
  have x6 := cell_blk (i := 6) HX14.out
  have x7 := cell_blk (i := 7) HX14.out
  simp [ckO] at x0 x1 x2 x3 x4 x5 x6 x7
  go_wp2
  obtain ⟨w15, hw15⟩ : ∃ w15, w15 = w14.alloc (.cells #[.int .i64 FV, .int .i64 b, .int .i64 m, .int .i64 k, .int .u8 0, .bool false, .int .i64 t, .int .u8 2] 24) := ⟨_, rfl⟩
  rw [← hw15]
  have HX15 := Lib.hid (show w15.heap[w.heap.size]? = some (.cells #[.int .i64 a, .int .i64 b, .int .i64 m, .int .i64 k, .int .u8 0, .bool true, .int .i64 s, .int .u8 2] 24 (0, 0)) by rw [hw15]; exact heap_older HX14.out)
  have HL15 := Lib.hid (show w15.heap[w12.heap.size]? = some (.cells #[.int .i64 V, .int .i64 b] 22 (0, 0)) by rw [hw15]; exact heap_older HL14.out)
  have HS15 := Lib.hid (show w15.heap[w14.heap.size]? = some (.cells #[.int .i64 FV, .int .i64 b, .int .i64 m, .int .i64 k, .int .u8 0, .bool false, .int .i64 t, .int .u8 2] 24 (0, 0)) by rw [hw15]; exact heap_alloc_new _ _)
  have HB15 := Lib.hid (show Below w.heap.size w w15 by rw [hw15]; exact HB14.out.alloc HB14.out.size _)
  clear hw15
  clear x0 x1 x2 x3 x4 x5 x6 x7
  have x0 := far_cell HX15.out 0 rfl
  have x1 := far_cell HX15.out 1 rfl
  have x2 := far_cell HX15.out 2 rfl
  have x3 := far_cell HX15.out 3 rfl
  have x4 := far_cell HX15.out 4 rfl
  have x5 := far_cell HX15.out 5 rfl
  have x6 := far_cell HX15.out 6 rfl
  have x7 := far_cell HX15.out 7 rfl
  simp [ckO] at x0 x1 x2 x3 x4 x5 x6 x7
  have l0 := far_cell HL15.out 0 rfl
  have l1 := far_cell HL15.out 1 rfl
  simp [ckO] at l0 l1
  have v0 := far_cell HS15.out 0 rfl
  have v1 := far_cell HS15.out 1 rfl
  have v2 := far_cell HS15.out 2 rfl
  have v3 := far_cell HS15.out 3 rfl
  have v4 := far_cell HS15.out 4 rfl
  have v5 := far_cell HS15.out 5 rfl
  have v6 := far_cell HS15.out 6 rfl
  have v7 := far_cell HS15.out 7 rfl
  simp [ckO] at v0 v1 v2 v3 v4 v5 v6 v7
  have HT15 := Lib.hid (HPT.out.below HB15.out)
  have e3 : IntKind.i64.wrap (t - s) = t - s := IntWalk.i64_in _ (by omega)
  have e4 : IntKind.i64.wrap (a - (t - s)) = a - (t - s) := IntWalk.i64_in _ (by omega)
  have q1 := HQ1.out
  have q2 := HQ2.out
  refine wp_region_quiet_below (by kernel_rfl) (by kernel_rfl) ?_
  repeat (quiet_step (first | (go_at_call 19; exact Calls.regrown_of (lives_any _ (HT15.out.below (below_regrown _ _ _))))))
  refine wpQuiet_nil ?_
  intro _ hw'
  obtain ⟨⟨dq, osq⟩, hw''⟩ := hw'
  subst hw''
  go_wp2
  go_ret
  exact ⟨rfl, HB15.out.trans ((below_regrown _ _ _).mono HB15.out.size)⟩

set_option maxHeartbeats 16000000 in
set_option maxRecDepth 100000 in
theorem cwhen_late1 (a b m k s early : Int) (hm : mayB a b m k 1 true s 2 = true) (hl : ¬ longI a b k 1 < 1073741824 - s) (w : World) (hT : PTab w) : Calls Tryd.prog 4 #[ckV a b m k 1 true s 2, .int .i64 early] w fun e w' => e = .returned (.bool true) ∧ Below w.heap.size w w' := by
  have hw := fun W => when_any a b m k 1 true s 2 W
  rw [show whenC a b m k 1 true s 2 = (0, false) by unfold whenC; rw [if_neg (fun x => hl x.2.2)]] at hw
  have HW := Lib.hid hw
  have hcm := fun W => may_any a b m k 1 true s 2 W
  rw [hm] at hcm
  have CM := Lib.hid hcm
  clear hw hcm
  obtain ⟨ha, hb, -, -, hmm, hk, -, hs, -, -⟩ := may_bd hm
  have hlb := long_bd (h := 1) ha hb hk
  obtain ⟨t, ht⟩ : ∃ t, t = atI early 1073741824 s := ⟨_, rfl⟩
  have hat := at_bd (early := early) (z := 1073741824) hs.1 (by omega)
  rw [← ht] at hat
  have HE := Lib.hid (at_walk (early := early) (z := 1073741824) hs.1 (by omega) (by omega))
  rw [← ht] at HE
  clear ht
  have hask := cw_ask (n := t) hm hat.1 (by omega)
  have hfal := cw_not (a := a) (b := b) (k := k) (h := 1) (s := s) (n := t) (by omega)
  have hlk := fun W => look_any a b m k 1 true s 2 t W
  rw [cw_look a b m k s t false hask hfal] at hlk
  have hsp := fun W => stop_any a b m k 1 true s 2 t W
  rw [cw_stop0 a b m k s t hask hfal] at hsp
  obtain ⟨V, hV⟩ : ∃ V, V = max (b - (t - s)) 0 := ⟨_, rfl⟩
  obtain ⟨FV, hFV⟩ : ∃ FV, FV = fillI (b - (t - s)) m := ⟨_, rfl⟩
  have HLK := Lib.hid (show ∀ W, Calls Tryd.prog 15 #[.agg #[.int .i64 a, .int .i64 b, .int .i64 m, .int .i64 k, .int .u8 1, .bool true, .int .i64 s, .int .u8 2], .int .i64 t] W fun e w' => e = .returned (.tuple #[twoV a V, .bool false, .int .i64 0]) ∧ Below W.heap.size W w' by rw [hV]; exact hlk)
  have HSP := Lib.hid (show ∀ W, Calls Tryd.prog 13 #[.agg #[.int .i64 a, .int .i64 b, .int .i64 m, .int .i64 k, .int .u8 1, .bool true, .int .i64 s, .int .u8 2], .int .i64 t] W fun e w' => e = .returned (.tuple #[ckV a FV m k 1 false t 2, .bool true, .int .i64 0]) ∧ Below W.heap.size W w' by rw [hFV]; exact hsp)
  have q1 : (V == (if b - (t - s) < 0 then 0 else b - (t - s))) = true := by
    rw [beq_iff_eq, hV]
    by_cases hx : b - (t - s) < 0
    · rw [if_pos hx]; omega
    · rw [if_neg hx]; omega
  have q2 : (V == max (b - (t - s)) 0) = true := by rw [beq_iff_eq, hV]
  have HQ1 := Lib.hid q1
  have HQ2 := Lib.hid q2
  clear hlk hsp hask hfal hFV hV q1 q2
  clear hm hlb hl
  obtain ⟨w0, hw0⟩ : ∃ w0, w0 = w.alloc (.cells #[.int .i64 a, .int .i64 b, .int .i64 m, .int .i64 k, .int .u8 1, .bool true, .int .i64 s, .int .u8 2] 24) := ⟨_, rfl⟩
  have HX0 : Hid (w0.heap[w.heap.size]? = some (.cells #[.int .i64 a, .int .i64 b, .int .i64 m, .int .i64 k, .int .u8 1, .bool true, .int .i64 s, .int .u8 2] 24 (0, 0))) := Lib.hid (by rw [hw0]; exact heap_alloc_new _ _)
  have HB0 : Hid (Below w.heap.size w w0) := Lib.hid (by rw [hw0]; exact box_below _ _)
  have HW0 := Lib.hid hw0
  clear hw0
  have HPT := Lib.hid hT
  clear hT
  go_enter Tryd.func4, Tryd.ntmps4
  go_wp2_with fail
  refine (HW.out _).mono ?_
  rintro e w1 ⟨rfl, b1⟩
  rw [← HW0.out] at b1
  have HX1 := Lib.hid ((b1.block _ (heap_lt HX0.out)).trans HX0.out)
  have HB1 := Lib.hid (HB0.out.trans (b1.mono HB0.out.size))
  clear b1
  have x0 := cell_blk (i := 0) HX1.out
  have x1 := cell_blk (i := 1) HX1.out
  have x2 := cell_blk (i := 2) HX1.out
  have x3 := cell_blk (i := 3) HX1.out
  have x4 := cell_blk (i := 4) HX1.out
  have x5 := cell_blk (i := 5) HX1.out
  have x6 := cell_blk (i := 6) HX1.out
  have x7 := cell_blk (i := 7) HX1.out
  simp [ckO] at x0 x1 x2 x3 x4 x5 x6 x7
  go_wp2_with fail
  refine (CM.out _).mono ?_
  rintro e w2 ⟨rfl, b2⟩
  have HX2 := Lib.hid ((b2.block _ (heap_lt HX1.out)).trans HX1.out)
  have HB2 := Lib.hid (HB1.out.trans (b2.mono HB1.out.size))
  clear b2
  clear x0 x1 x2 x3 x4 x5 x6 x7
  have x0 := cell_blk (i := 0) HX2.out
  have x1 := cell_blk (i := 1) HX2.out
  have x2 := cell_blk (i := 2) HX2.out
  have x3 := cell_blk (i := 3) HX2.out
  have x4 := cell_blk (i := 4) HX2.out
  have x5 := cell_blk (i := 5) HX2.out
  have x6 := cell_blk (i := 6) HX2.out
  have x7 := cell_blk (i := 7) HX2.out
  simp [ckO] at x0 x1 x2 x3 x4 x5 x6 x7
  have e1 : IntKind.i64.wrap (1073741824 - s) = 1073741824 - s := IntWalk.i64_in _ (by omega)
  have e2 : IntKind.i64.wrap (1073741824 - s + 1) = 1073741824 - s + 1 := IntWalk.i64_in _ (by omega)
  go_wp2_with fail
  go_quiet (fail)
  go_wp2_with fail
  rw [HE.out]
  obtain ⟨w11, hw11⟩ : ∃ w11, w11 = w2.drewN nq := ⟨_, rfl⟩
  have b11 : Below w2.heap.size w2 w11 := by rw [hw11]; exact below_dr (Below.refl _ _) _
  rw [← hw11]
  clear hw11
  have HX11 := Lib.hid ((b11.block _ (heap_lt HX2.out)).trans HX2.out)
  have HB11 := Lib.hid (HB2.out.trans (b11.mono HB2.out.size))
  clear b11
  refine (HLK.out _).mono ?_
  rintro e w12 ⟨rfl, b12⟩
  have HX12 := Lib.hid ((b12.block _ (heap_lt HX11.out)).trans HX11.out)
  have HB12 := Lib.hid (HB11.out.trans (b12.mono HB11.out.size))
  clear b12
  have hl1 := heap_lt HX12.out
  clear x0 x1 x2 x3 x4 x5 x6 x7
  have x0 := cell_blk (i := 0) HX12.out
  have x1 := cell_blk (i := 1) HX12.out
  have x2 := cell_blk (i := 2) HX12.out
  have x3 := cell_blk (i := 3) HX12.out
  have x4 := cell_blk (i := 4) HX12.out
  have x5 := cell_blk (i := 5) HX12.out
  have x6 := cell_blk (i := 6) HX12.out
  have x7 := cell_blk (i := 7) HX12.out
  simp [ckO] at x0 x1 x2 x3 x4 x5 x6 x7
  go_wp2_with fail
  obtain ⟨w13, hw13⟩ : ∃ w13, w13 = w12.alloc (.cells #[.int .i64 a, .int .i64 V] 22) := ⟨_, rfl⟩
  rw [← hw13]
  have HX13 := Lib.hid (show w13.heap[w.heap.size]? = some (.cells #[.int .i64 a, .int .i64 b, .int .i64 m, .int .i64 k, .int .u8 1, .bool true, .int .i64 s, .int .u8 2] 24 (0, 0)) by rw [hw13]; exact heap_older HX12.out)
  have HL13 := Lib.hid (show w13.heap[w12.heap.size]? = some (.cells #[.int .i64 a, .int .i64 V] 22 (0, 0)) by rw [hw13]; exact heap_alloc_new _ _)
  have HB13 := Lib.hid (show Below w.heap.size w w13 by rw [hw13]; exact HB12.out.alloc HB12.out.size _)
  clear hw13
  refine (HSP.out _).mono ?_
  rintro e w14 ⟨rfl, b14⟩
  have HX14 := Lib.hid ((b14.block _ (heap_lt HX13.out)).trans HX13.out)
  have HL14 := Lib.hid ((b14.block _ (heap_lt HL13.out)).trans HL13.out)
  have HB14 := Lib.hid (HB13.out.trans (b14.mono HB13.out.size))
  clear b14
  have hl2 := heap_lt HX14.out
  have hl3 := heap_lt HL14.out
  clear x0 x1 x2 x3 x4 x5 x6 x7
  have x0 := cell_blk (i := 0) HX14.out
  have x1 := cell_blk (i := 1) HX14.out
  have x2 := cell_blk (i := 2) HX14.out
  have x3 := cell_blk (i := 3) HX14.out
  have x4 := cell_blk (i := 4) HX14.out
  have x5 := cell_blk (i := 5) HX14.out
  have x6 := cell_blk (i := 6) HX14.out
  have x7 := cell_blk (i := 7) HX14.out
  simp [ckO] at x0 x1 x2 x3 x4 x5 x6 x7
  go_wp2
  obtain ⟨w15, hw15⟩ : ∃ w15, w15 = w14.alloc (.cells #[.int .i64 a, .int .i64 FV, .int .i64 m, .int .i64 k, .int .u8 1, .bool false, .int .i64 t, .int .u8 2] 24) := ⟨_, rfl⟩
  rw [← hw15]
  have HX15 := Lib.hid (show w15.heap[w.heap.size]? = some (.cells #[.int .i64 a, .int .i64 b, .int .i64 m, .int .i64 k, .int .u8 1, .bool true, .int .i64 s, .int .u8 2] 24 (0, 0)) by rw [hw15]; exact heap_older HX14.out)
  have HL15 := Lib.hid (show w15.heap[w12.heap.size]? = some (.cells #[.int .i64 a, .int .i64 V] 22 (0, 0)) by rw [hw15]; exact heap_older HL14.out)
  have HS15 := Lib.hid (show w15.heap[w14.heap.size]? = some (.cells #[.int .i64 a, .int .i64 FV, .int .i64 m, .int .i64 k, .int .u8 1, .bool false, .int .i64 t, .int .u8 2] 24 (0, 0)) by rw [hw15]; exact heap_alloc_new _ _)
  have HB15 := Lib.hid (show Below w.heap.size w w15 by rw [hw15]; exact HB14.out.alloc HB14.out.size _)
  clear hw15
  clear x0 x1 x2 x3 x4 x5 x6 x7
  have x0 := far_cell HX15.out 0 rfl
  have x1 := far_cell HX15.out 1 rfl
  have x2 := far_cell HX15.out 2 rfl
  have x3 := far_cell HX15.out 3 rfl
  have x4 := far_cell HX15.out 4 rfl
  have x5 := far_cell HX15.out 5 rfl
  have x6 := far_cell HX15.out 6 rfl
  have x7 := far_cell HX15.out 7 rfl
  simp [ckO] at x0 x1 x2 x3 x4 x5 x6 x7
  have l0 := far_cell HL15.out 0 rfl
  have l1 := far_cell HL15.out 1 rfl
  simp [ckO] at l0 l1
  have v0 := far_cell HS15.out 0 rfl
  have v1 := far_cell HS15.out 1 rfl
  have v2 := far_cell HS15.out 2 rfl
  have v3 := far_cell HS15.out 3 rfl
  have v4 := far_cell HS15.out 4 rfl
  have v5 := far_cell HS15.out 5 rfl
  have v6 := far_cell HS15.out 6 rfl
  have v7 := far_cell HS15.out 7 rfl
  simp [ckO] at v0 v1 v2 v3 v4 v5 v6 v7
  have HT15 := Lib.hid (HPT.out.below HB15.out)
  have e3 : IntKind.i64.wrap (t - s) = t - s := IntWalk.i64_in _ (by omega)
  have e4 : IntKind.i64.wrap (b - (t - s)) = b - (t - s) := IntWalk.i64_in _ (by omega)
  have q1 := HQ1.out
  have q2 := HQ2.out
  refine wp_region_quiet_below (by kernel_rfl) (by kernel_rfl) ?_
  repeat (quiet_step (first | (go_at_call 19; exact Calls.regrown_of (lives_any _ (HT15.out.below (below_regrown _ _ _))))))
  refine wpQuiet_nil ?_
  intro _ hw'
  obtain ⟨⟨dq, osq⟩, hw''⟩ := hw'
  subst hw''
  go_wp2
  go_ret
  exact ⟨rfl, HB15.out.trans ((below_regrown _ _ _).mono HB15.out.size)⟩

end Go.Proofs.YteadjkjgmngolaaDoor
