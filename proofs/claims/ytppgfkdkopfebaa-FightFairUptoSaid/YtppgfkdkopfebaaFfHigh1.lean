/- joustlaw15.FightFair: it answers true where two fight, and the other one strikes. -/
import Derived.Test.YtppgfkdkopfebaaFfBase
namespace Go.Proofs.Ytppgfkdkopfebaa
open Go.RowKit Go.Lib
set_option maxHeartbeats 32000000 in
set_option maxRecDepth 100000 in
theorem highfair1_lt (t : Tb) (up : Bool) (a d : Nat) (A B M D : Int) (w : World) (hca : a < t.np ∧ ∃ g o, t.qp = some ⟨g, o, none⟩ ∧ w.cell? ⟨g, o + a * 14 + 4, none⟩ = some (.int .u8 1)) (hdl : d < t.np) (hcd : ∃ g o, t.qp = some ⟨g, o, none⟩ ∧ w.cell? ⟨g, o + d * 14 + 8, none⟩ = some (.bool false) ∧ w.cell? ⟨g, o + d * 14 + 7, none⟩ = some (.bool up) ∧ w.cell? ⟨g, o + a * 14 + 8, none⟩ = some (.bool false)) (hne : a ≠ d) (hA : 0 ≤ A ∧ A ≤ 99999) (hB : 0 ≤ M ∧ M ≤ 99999) (hD : 0 < D) (hc : A < B) (hMB : M = B) (ho : ∀ W, Below w.heap.size w W → Calls Try.prog 8 #[.agg t.row, .int .i64 a, .int .i64 d] W (OutEnds ((0, D), [(a : Int)]) 0 W)) (hf : ∀ W, Below w.heap.size w W → Calls Try.prog 15 #[.agg t.row, .int .i64 a] W fun e w' => e = .returned (.int .i64 A) ∧ Below W.heap.size W w') (hfd : ∀ W, Below w.heap.size w W → Calls Try.prog 15 #[.agg t.row, .int .i64 d] W fun e w' => e = .returned (.int .i64 M) ∧ Below W.heap.size W w') (ho2 : up = true → ∀ W, Below w.heap.size w W → Calls Try.prog 8 #[.agg t.row, .int .i64 d, .int .i64 a] W (OutEnds ((0, D), [(a : Int)]) 0 W)) (ho3 : up = false → ∀ W, Below w.heap.size w W → Calls Try.prog 8 #[.agg t.row, .int .i64 d, .int .i64 a] W (OutEnds ((0, 0), []) 2 W)) : Calls Try.prog 4 #[.agg t.row, .int .i64 a, .int .i64 d] w fun e w' => e = .returned (.bool true) ∧ Below w.heap.size w w' := by
  have uw0 : IntKind.u8.wrap 0 = 0 := by kernel_rfl
  have uw1 : IntKind.u8.wrap 1 = 1 := by kernel_rfl
  have hgr := Lib.hid fun W => fgreat_any t W
  have hliv := Lib.hid fun W => flives_any W
  have ho := Lib.hid ho
  have hf := Lib.hid hf
  have hfd := Lib.hid hfd
  subst hMB
  have ho2 := Lib.hid ho2
  have ho3 := Lib.hid ho3
  obtain ⟨hal, g, o, hq, ca⟩ := hca
  obtain ⟨g', o', hq', c8, cx, cy⟩ := hcd
  rw [hq, Option.some.injEq, Addr.mk.injEq] at hq'
  obtain ⟨rfl, rfl, -⟩ := hq'
  have hgw := World.block_lt_of_cell? _ _ ca
  simp only at hgw
  have HCA := Lib.hid ca
  have HC8 := Lib.hid c8
  have HCX := Lib.hid cx
  have HCY := Lib.hid cy
  have i0 : (0 : Int) ≤ (a : Int) := by omega
  have i1 : (a : Int) < (t.np : Int) := by omega
  have j0 : (0 : Int) ≤ (d : Int) := by omega
  have j1 : (d : Int) < (t.np : Int) := by omega
  have dn : ((d : Int) == -1) = false := by first | (simp; done) | (simp; omega)
  have ad : ((a : Int) != (d : Int)) = true := by simp; omega
  have da : ((d : Int) != (a : Int)) = true := by simp; omega
  have nD : ¬ D < 0 := by omega
  have pD : D > 0 := hD
  have cAB : ¬ A ≥ M := by omega
  have cBA : M ≥ A := by omega
  clear ca c8 cx cy hA hB hD hc hne hal hdl
  obtain ⟨w0, hw0⟩ : ∃ w0, w0 = w.alloc (.cells t.row 28) := ⟨_, rfl⟩
  have hb0 : Below w.heap.size w w0 := by rw [hw0]; exact (Below.refl _ _).alloc (Nat.le_refl _) _
  have hx0 : w0.heap[w.heap.size]? = some (.cells t.row 28 (0, 0)) := by rw [hw0]; exact heap_alloc_new _ _
  have HB0 := Lib.hid hb0
  have HX0 := Lib.hid hx0
  have HW0 := Lib.hid hw0
  clear hb0 hx0 hw0
  simp only [Tb.row] at *
  rw [hq] at hgr ho hf hfd ho2 ho3 HX0 HW0 ⊢
  clear hq
  go_enter Try.func4, Try.ntmps4
  go_wp2_with fail
  rw [← HW0.out]
  (with_reducible refine (hgr.out _).mono ?_)
  rintro e w1 ⟨⟨bg, rfl⟩, b1⟩
  have HB1 := Lib.hid (HB0.out.trans (b1.mono HB0.out.size))
  have HX1 := Lib.hid ((b1.block _ (heap_lt HX0.out)).trans HX0.out)
  clear b1
  cases bg with
  | true =>
    go_wp2_with fail
    (with_reducible refine (hliv.out _).mono ?_)
    rintro e w2 ⟨rfl, b2⟩
    have HB2 := Lib.hid (HB1.out.trans (b2.mono HB1.out.size))
    clear b2
    go_wp2_with fail
    go_ret
    exact ⟨rfl, HB2.out⟩
  | false =>
    have hlt1 := heap_lt HX1.out
    have y0 := cell_blk (i := 0) HX1.out
    have y1 := cell_blk (i := 1) HX1.out
    have y2 := cell_blk (i := 2) HX1.out
    have y3 := cell_blk (i := 3) HX1.out
    have y4 := cell_blk (i := 4) HX1.out
    have y5 := cell_blk (i := 5) HX1.out
    have y6 := cell_blk (i := 6) HX1.out
    have y7 := cell_blk (i := 7) HX1.out
    have y8 := cell_blk (i := 8) HX1.out
    have y9 := cell_blk (i := 9) HX1.out
    simp at y0 y1 y2 y3 y4 y5 y6 y7 y8 y9
    go_wp2_with fail
    (with_reducible refine (ho.out _ HB1.out).mono ?_)
    rintro e w2 ⟨⟨v, rfl, hown⟩, b2⟩
    have HB2 := Lib.hid (HB1.out.trans (b2.mono HB1.out.size))
    have HX2 := Lib.hid ((b2.block _ (heap_lt HX1.out)).trans HX1.out)
    clear b2 hlt1 y0 y1 y2 y3 y4 y5 y6 y7 y8 y9
    obtain ⟨gl, c, rfl, gll, lc⟩ := hown.one'
    obtain ⟨w3, hw3⟩ : ∃ w3, w3 = w2.alloc (.cells #[.int .i64 (0), .int .i64 (D)] 24) := ⟨_, rfl⟩
    have b23 : Below w2.heap.size w2 w3 := by rw [hw3]; exact (Below.refl _ _).alloc (Nat.le_refl _) _
    have HY3 : Hid (w3.heap[w2.heap.size]? = some (.cells #[.int .i64 (0), .int .i64 (D)] 24 (0, 0))) := Lib.hid (by rw [hw3]; exact heap_alloc_new _ _)
    have HB3 := Lib.hid (HB2.out.trans (b23.mono HB2.out.size))
    have HX3 := Lib.hid ((b23.block _ (heap_lt HX2.out)).trans HX2.out)
    have HW3 := Lib.hid hw3
    have ca := cell_later HB2.out HCA.out
    have hg2 : g < w2.heap.size := Nat.lt_of_lt_of_le hgw HB2.out.size
    have hlt2 := heap_lt HX2.out
    have y1 := cell_blk (i := 1) HX2.out
    simp at y1
    have HLC := Lib.hid (cell_later b23 lc)
    clear lc
    clear hown b23 hw3
    go_wp2_with fail
    rw [← HW3.out]
    clear y1 ca
    go_loopw [97] (fun vi wr => ∃ i : Nat, vi = .int .i64 i ∧ i ≤ 1 ∧ Below w3.heap.size w3 wr) (fun vi _ => 1 - (RowKit.intOf vi).toNat)
    case atStart => exact ⟨0, by rfl, by omega, Below.refl _ _⟩
    case round =>
      obtain ⟨i, rfl, hi, hbw⟩ := hrel
      rename World => wA
      have HBQ := Lib.hid hbw
      have HBA := Lib.hid (HB3.out.trans (hbw.mono HB3.out.size))
      have HXA := Lib.hid ((hbw.block _ (heap_lt HX3.out)).trans HX3.out)
      have HYA := Lib.hid ((hbw.block _ (heap_lt HY3.out)).trans HY3.out)
      have lc := cell_later hbw HLC.out
      clear hbw
      by_cases hlt : i < 1
      · have hi' : i = 0 := by omega
        have k0 : (0 : Int) ≤ (i : Int) := by omega
        have k1 : (i : Int) < 1 := by omega
        have ci : wA.cell? ⟨gl, i, none⟩ = some (.int .i64 (a : Int)) := by subst hi'; exact lc
        clear lc hi'
        go_wp2_with fail
        go_roundw
        case rel => exact ⟨i + 1, by go_num, by omega, HBQ.out⟩
        case measure => simp [RowKit.intOf]; omega
      have hie : i = 1 := by omega
      subst hie
      clear hlt hi
      go_wp2_with fail
      have y0 := cell_blk (i := 0) HXA.out
      have y1 := cell_blk (i := 1) HXA.out
      have y2 := cell_blk (i := 2) HXA.out
      have y3 := cell_blk (i := 3) HXA.out
      have y4 := cell_blk (i := 4) HXA.out
      have y5 := cell_blk (i := 5) HXA.out
      have y6 := cell_blk (i := 6) HXA.out
      have y7 := cell_blk (i := 7) HXA.out
      have y8 := cell_blk (i := 8) HXA.out
      have y9 := cell_blk (i := 9) HXA.out
      simp at y0 y1 y2 y3 y4 y5 y6 y7 y8 y9
      have z0 := cell_blk (i := 0) HYA.out
      have z1 := cell_blk (i := 1) HYA.out
      simp at z0 z1
      refine wp_region_held_drew (S := fun w' => w'.cell? ⟨w.heap.size, 0, none⟩ = some (.slice t.qk t.nk t.ck) ∧ w'.cell? ⟨w.heap.size, 1, none⟩ = some (.slice (some ⟨g, o, none⟩) t.np t.cp) ∧ w'.cell? ⟨w.heap.size, 2, none⟩ = some (.int .i64 t.l0) ∧ w'.cell? ⟨w.heap.size, 3, none⟩ = some (.int .i64 t.l1) ∧ w'.cell? ⟨w.heap.size, 4, none⟩ = some (.int .i64 t.tn) ∧ w'.cell? ⟨w.heap.size, 5, none⟩ = some (.int .u8 t.py) ∧ w'.cell? ⟨w.heap.size, 6, none⟩ = some (.int .i64 t.mo) ∧ w'.cell? ⟨w.heap.size, 7, none⟩ = some (.slice t.qe t.ne t.ce) ∧ w'.cell? ⟨w.heap.size, 8, none⟩ = some (.bool t.b0) ∧ w'.cell? ⟨w.heap.size, 9, none⟩ = some (.bool t.b1) ∧ w'.cell? ⟨w2.heap.size, 0, none⟩ = some (.int .i64 (0)) ∧ w'.cell? ⟨w2.heap.size, 1, none⟩ = some (.int .i64 (D)) ∧ w'.cell? ⟨gl, 0, none⟩ = some (.int .i64 (a : Int))) (by kernel_rfl) (by (repeat' apply And.intro) <;> go_keep) (fun hHeld => ?_)
      refine take_at (i := 0) (v := ?_) rfl (by kernel_rfl) (by kernel_rfl) (by kernel_rfl) (fun _ _ _ h => h) (Or.inl ⟨by rfl, ?_⟩) hHeld ?_
      rotate_left
      · intro w hSw
        (try dsimp only at hSw)
        go_simp
        try with_reducible rfl
      try simp only [Act.put, List.setIfInBounds_toArray, List.set_cons_zero, List.set_cons_succ]
      try dsimp only
      refine take_at (i := 1) (v := ?_) rfl (by kernel_rfl) (by kernel_rfl) (by kernel_rfl) (fun _ _ _ h => h) (Or.inl ⟨by rfl, ?_⟩) hHeld ?_
      rotate_left
      · intro w hSw
        (try dsimp only at hSw)
        go_simp
        try with_reducible rfl
      try simp only [Act.put, List.setIfInBounds_toArray, List.set_cons_zero, List.set_cons_succ]
      try dsimp only
      refine take_at (i := 3) (v := ?_) rfl (by kernel_rfl) (by kernel_rfl) (by kernel_rfl) (fun _ _ _ h => h) (Or.inl ⟨by rfl, ?_⟩) hHeld ?_
      rotate_left
      · intro w hSw
        (try dsimp only at hSw)
        go_simp
        try with_reducible rfl
      try simp only [Act.put, List.setIfInBounds_toArray, List.set_cons_zero, List.set_cons_succ]
      try dsimp only
      refine take_at (i := 4) (v := ?_) rfl (by kernel_rfl) (by kernel_rfl) (by kernel_rfl) (fun _ _ _ h => h) (Or.inl ⟨by rfl, ?_⟩) hHeld ?_
      rotate_left
      · intro w hSw
        (try dsimp only at hSw)
        go_simp
        try with_reducible rfl
      try simp only [Act.put, List.setIfInBounds_toArray, List.set_cons_zero, List.set_cons_succ]
      try dsimp only
      refine wpAnyH_ready (rs := [2]) (by kernel_rfl) (by simp) ?_
      refine cons_at rfl (fun K hK => ?_) AllReadyH.nil
      go_simp
      (with_reducible refine (hf.out _ ((by repeat (first | (with_reducible exact HBA.out) | (with_reducible refine Below.drew ?_))) : Below w.heap.size w _)).mono ?_)
      rintro e w5 ⟨rfl, b5⟩
      have B5 : Below w.heap.size w w5 := Below.trans ((by repeat (first | (with_reducible exact HBA.out) | (with_reducible refine Below.drew ?_))) : Below w.heap.size w _) (b5.mono (by have := HBA.out.size; first | exact this | (simp; omega) | omega))
      refine hK.out _ _ ⟨cell_later b5 hHeld.1, cell_later b5 hHeld.2.1, cell_later b5 hHeld.2.2.1, cell_later b5 hHeld.2.2.2.1, cell_later b5 hHeld.2.2.2.2.1, cell_later b5 hHeld.2.2.2.2.2.1, cell_later b5 hHeld.2.2.2.2.2.2.1, cell_later b5 hHeld.2.2.2.2.2.2.2.1, cell_later b5 hHeld.2.2.2.2.2.2.2.2.1, cell_later b5 hHeld.2.2.2.2.2.2.2.2.2.1, cell_later b5 hHeld.2.2.2.2.2.2.2.2.2.2.1, cell_later b5 hHeld.2.2.2.2.2.2.2.2.2.2.2.1, cell_later b5 hHeld.2.2.2.2.2.2.2.2.2.2.2.2⟩ (fun hHeld => ?_)
      clear hK K
      try simp only [Act.put, List.setIfInBounds_toArray, List.set_cons_zero, List.set_cons_succ]
      try dsimp only
      refine wpAnyH_ready (rs := [5]) (by kernel_rfl) (by simp) ?_
      refine cons_at rfl (fun K hK => ?_) AllReadyH.nil
      go_simp
      (with_reducible refine (hfd.out _ ((by repeat (first | (with_reducible exact HBA.out) | (with_reducible exact B5) | (with_reducible refine Below.drew ?_))) : Below w.heap.size w _)).mono ?_)
      rintro e w6 ⟨rfl, b6⟩
      have B6 : Below w.heap.size w w6 := Below.trans ((by repeat (first | (with_reducible exact HBA.out) | (with_reducible exact B5) | (with_reducible refine Below.drew ?_))) : Below w.heap.size w _) (b6.mono (by have := HBA.out.size; have := Below.size B5; first | exact this | (simp; omega) | omega))
      refine hK.out _ _ ⟨cell_later b6 hHeld.1, cell_later b6 hHeld.2.1, cell_later b6 hHeld.2.2.1, cell_later b6 hHeld.2.2.2.1, cell_later b6 hHeld.2.2.2.2.1, cell_later b6 hHeld.2.2.2.2.2.1, cell_later b6 hHeld.2.2.2.2.2.2.1, cell_later b6 hHeld.2.2.2.2.2.2.2.1, cell_later b6 hHeld.2.2.2.2.2.2.2.2.1, cell_later b6 hHeld.2.2.2.2.2.2.2.2.2.1, cell_later b6 hHeld.2.2.2.2.2.2.2.2.2.2.1, cell_later b6 hHeld.2.2.2.2.2.2.2.2.2.2.2.1, cell_later b6 hHeld.2.2.2.2.2.2.2.2.2.2.2.2⟩ (fun hHeld => ?_)
      clear hK K
      try simp only [Act.put, List.setIfInBounds_toArray, List.set_cons_zero, List.set_cons_succ]
      try dsimp only
      refine take_at (i := 6) (v := ?_) rfl (by kernel_rfl) (by kernel_rfl) (by kernel_rfl) (fun _ _ _ h => h) (Or.inl ⟨by rfl, ?_⟩) hHeld ?_
      rotate_left
      · intro w hSw
        (try dsimp only at hSw)
        go_simp
        try with_reducible rfl
      try simp only [Act.put, List.setIfInBounds_toArray, List.set_cons_zero, List.set_cons_succ]
      try dsimp only
      refine take_at (i := 7) (v := ?_) rfl (by kernel_rfl) (by kernel_rfl) (by kernel_rfl) (fun _ _ _ h => h) (Or.inl ⟨by rfl, ?_⟩) hHeld ?_
      rotate_left
      · intro w hSw
        (try dsimp only at hSw)
        go_simp
        try with_reducible rfl
      try simp only [Act.put, List.setIfInBounds_toArray, List.set_cons_zero, List.set_cons_succ]
      try dsimp only
      refine wpAnyH_done (by kernel_rfl) ?_ _
      clear y0 y1 y2 y3 y4 y5 y6 y7 y8 y9 z0 z1 lc
      obtain ⟨y0, y1, y2, y3, y4, y5, y6, y7, y8, y9, z0, z1, lc⟩ := hHeld
      have HB6 : Hid (Below w.heap.size w w6) := Lib.hid B6
      have c8 := cell_later B6 HC8.out
      have cx := cell_later B6 HCX.out
      have ca := cell_later B6 HCA.out
      have cy := cell_later B6 HCY.out
      clear B5 B6 b5 b6
      go_wp2_with fail
      cases up with
      | false =>
        (with_reducible refine ((ho3.out rfl) _ HB6.out).mono ?_)
        rintro e w7 ⟨⟨v', rfl, hown'⟩, b7⟩
        obtain ⟨gk, ck, rfl⟩ := hown'.none'
        have HB7 := Lib.hid (HB6.out.trans (b7.mono HB6.out.size))
        have y1' := cell_later b7 y1
        have cx' := cell_later b7 cx
        have hl1 := World.block_lt_of_cell? _ _ y1'
        have hl2 := World.block_lt_of_cell? _ _ cx'
        simp only at hl1 hl2
        clear b7 hown' y0 y1 y2 y3 y4 y5 y6 y7 y8 y9 z0 z1 lc c8 cx ca cy
        obtain ⟨w8, hw8⟩ : ∃ w8, w8 = w7.alloc (.cells #[.int .i64 0, .int .i64 0] 24) := ⟨_, rfl⟩
        have HB8 : Hid (Below w.heap.size w w8) := Lib.hid (by rw [hw8]; exact HB7.out.alloc HB7.out.size _)
        have HW8 := Lib.hid hw8
        clear hw8
        go_wp2_with fail
        rw [← HW8.out]
        (with_reducible refine (hliv.out _).mono ?_)
        rintro e w9 ⟨rfl, b9⟩
        have HB9 := Lib.hid (HB8.out.trans (b9.mono HB8.out.size))
        go_wp2_with fail
        go_ret
        exact ⟨rfl, HB9.out⟩
      | true =>
        (with_reducible refine ((ho2.out rfl) _ HB6.out).mono ?_)
        rintro e w7 ⟨⟨v', rfl, hown'⟩, b7⟩
        obtain ⟨gk, ck, rfl, gkl, kc⟩ := hown'.one'
        have HB7 := Lib.hid (HB6.out.trans (b7.mono HB6.out.size))
        have y1' := cell_later b7 y1
        have cx' := cell_later b7 cx
        have cy' := cell_later b7 cy
        have hl1 := World.block_lt_of_cell? _ _ y1'
        have hl2 := World.block_lt_of_cell? _ _ cx'
        simp only at hl1 hl2
        have Z0 := Lib.hid (cell_later b7 z0)
        have Z1 := Lib.hid (cell_later b7 z1)
        have LC := Lib.hid (cell_later b7 lc)
        have KC := Lib.hid kc
        clear b7 hown' y0 y1 y2 y3 y4 y5 y6 y7 y8 y9 z0 z1 lc c8 cx ca cy kc
        obtain ⟨w8, hw8⟩ : ∃ w8, w8 = w7.alloc (.cells #[.int .i64 (0), .int .i64 (D)] 24) := ⟨_, rfl⟩
        have b78 : Below w7.heap.size w7 w8 := by rw [hw8]; exact (Below.refl _ _).alloc (Nat.le_refl _) _
        have HB8 := Lib.hid (HB7.out.trans (b78.mono HB7.out.size))
        have HU8 : Hid (w8.heap[w7.heap.size]? = some (.cells #[.int .i64 (0), .int .i64 (D)] 24 (0, 0))) := Lib.hid (by rw [hw8]; exact heap_alloc_new _ _)
        have z0 := cell_later b78 Z0.out
        have z1 := cell_later b78 Z1.out
        have lc := cell_later b78 LC.out
        have kc := cell_later b78 KC.out
        have u0 := cell_blk (i := 0) HU8.out
        have u1 := cell_blk (i := 1) HU8.out
        simp at u0 u1
        have HW8 := Lib.hid hw8
        have q0 := fun W => two_eq (0) (D) W
        clear hw8 b78
        go_wp2_with fail
        rw [← HW8.out]
        clear y1' cx' cy'
        refine wp_region_held_drew (S := fun w' => w'.cell? ⟨w2.heap.size, 0, none⟩ = some (.int .i64 (0)) ∧ w'.cell? ⟨w2.heap.size, 1, none⟩ = some (.int .i64 (D)) ∧ w'.cell? ⟨w7.heap.size, 0, none⟩ = some (.int .i64 (0)) ∧ w'.cell? ⟨w7.heap.size, 1, none⟩ = some (.int .i64 (D)) ∧ w'.cell? ⟨gl, 0, none⟩ = some (.int .i64 (a : Int)) ∧ w'.cell? ⟨gk, 0, none⟩ = some (.int .i64 (a : Int))) (by kernel_rfl) (by (repeat' apply And.intro) <;> go_keep) (fun hHeld => ?_)
        refine take_at (i := 0) (v := ?_) rfl (by kernel_rfl) (by kernel_rfl) (by kernel_rfl) (fun _ _ _ h => h) (Or.inl ⟨by rfl, ?_⟩) hHeld ?_
        rotate_left
        · intro w hSw
          (try dsimp only at hSw)
          go_simp
          try with_reducible rfl
        try simp only [Act.put, List.setIfInBounds_toArray, List.set_cons_zero, List.set_cons_succ]
        try dsimp only
        refine take_at (i := 1) (v := ?_) rfl (by kernel_rfl) (by kernel_rfl) (by kernel_rfl) (fun _ _ _ h => h) (Or.inl ⟨by rfl, ?_⟩) hHeld ?_
        rotate_left
        · intro w hSw
          (try dsimp only at hSw)
          go_simp
          try with_reducible rfl
        try simp only [Act.put, List.setIfInBounds_toArray, List.set_cons_zero, List.set_cons_succ]
        try dsimp only
        refine take_at (i := 2) (v := ?_) rfl (by kernel_rfl) (by kernel_rfl) (by kernel_rfl) (fun _ _ _ h => h) (Or.inl ⟨by rfl, ?_⟩) hHeld ?_
        rotate_left
        · intro w hSw
          (try dsimp only at hSw)
          go_simp
          try with_reducible rfl
        try simp only [Act.put, List.setIfInBounds_toArray, List.set_cons_zero, List.set_cons_succ]
        try dsimp only
        refine take_at (i := 3) (v := ?_) rfl (by kernel_rfl) (by kernel_rfl) (by kernel_rfl) (fun _ _ _ h => h) (Or.inl ⟨by rfl, ?_⟩) hHeld ?_
        rotate_left
        · intro w hSw
          (try dsimp only at hSw)
          go_simp
          try with_reducible rfl
        try simp only [Act.put, List.setIfInBounds_toArray, List.set_cons_zero, List.set_cons_succ]
        try dsimp only
        refine take_at (i := 4) (v := ?_) rfl (by kernel_rfl) (by kernel_rfl) (by kernel_rfl) (fun _ _ _ h => h) (Or.inl ⟨by rfl, ?_⟩) hHeld ?_
        rotate_left
        · intro w hSw
          (try dsimp only at hSw)
          go_simp
          try with_reducible rfl
        try simp only [Act.put, List.setIfInBounds_toArray, List.set_cons_zero, List.set_cons_succ]
        try dsimp only
        refine take_at (i := 5) (v := ?_) rfl (by kernel_rfl) (by kernel_rfl) (by kernel_rfl) (fun _ _ _ h => h) (Or.inl ⟨by rfl, ?_⟩) hHeld ?_
        rotate_left
        · intro w hSw
          (try dsimp only at hSw)
          go_simp
          try with_reducible rfl
        try simp only [Act.put, List.setIfInBounds_toArray, List.set_cons_zero, List.set_cons_succ]
        try dsimp only
        refine take_at (i := 6) (v := ?_) rfl (by kernel_rfl) (by kernel_rfl) (by kernel_rfl) (fun _ _ _ h => h) (Or.inl ⟨by rfl, ?_⟩) hHeld ?_
        rotate_left
        · intro w hSw
          (try dsimp only at hSw)
          go_simp
          try with_reducible rfl
        try simp only [Act.put, List.setIfInBounds_toArray, List.set_cons_zero, List.set_cons_succ]
        try dsimp only
        refine take_at (i := 7) (v := ?_) rfl (by kernel_rfl) (by kernel_rfl) (by kernel_rfl) (fun _ _ _ h => h) (Or.inl ⟨by rfl, ?_⟩) hHeld ?_
        rotate_left
        · intro w hSw
          (try dsimp only at hSw)
          go_simp
          try with_reducible rfl
        try simp only [Act.put, List.setIfInBounds_toArray, List.set_cons_zero, List.set_cons_succ]
        try dsimp only
        refine take_at (i := 8) (v := ?_) rfl (by kernel_rfl) (by kernel_rfl) (by kernel_rfl) (fun _ _ _ h => h) (Or.inl ⟨by rfl, ?_⟩) hHeld ?_
        rotate_left
        · intro w hSw
          (try dsimp only at hSw)
          go_simp
          try with_reducible rfl
        try simp only [Act.put, List.setIfInBounds_toArray, List.set_cons_zero, List.set_cons_succ]
        try dsimp only
        refine take_at (i := 9) (v := ?_) rfl (by kernel_rfl) (by kernel_rfl) (by kernel_rfl) (fun _ _ _ h => h) (Or.inl ⟨by rfl, ?_⟩) hHeld ?_
        rotate_left
        · intro w hSw
          (try dsimp only at hSw)
          go_simp
          try with_reducible rfl
        try simp only [Act.put, List.setIfInBounds_toArray, List.set_cons_zero, List.set_cons_succ]
        try dsimp only
        refine take_at (i := 10) (v := ?_) rfl (by kernel_rfl) (by kernel_rfl) (by kernel_rfl) (fun _ _ _ h => h) (Or.inl ⟨by rfl, ?_⟩) hHeld ?_
        rotate_left
        · intro w hSw
          (try dsimp only at hSw)
          go_simp
          try with_reducible rfl
        try simp only [Act.put, List.setIfInBounds_toArray, List.set_cons_zero, List.set_cons_succ]
        try dsimp only
        refine take_at (i := 11) (v := ?_) rfl (by kernel_rfl) (by kernel_rfl) (by kernel_rfl) (fun _ _ _ h => h) (Or.inl ⟨by rfl, ?_⟩) hHeld ?_
        rotate_left
        · intro w hSw
          (try dsimp only at hSw)
          go_simp
          try with_reducible rfl
        try simp only [Act.put, List.setIfInBounds_toArray, List.set_cons_zero, List.set_cons_succ]
        try dsimp only
        refine take_at (i := 12) (v := ?_) rfl (by kernel_rfl) (by kernel_rfl) (by kernel_rfl) (fun _ _ _ h => h) (Or.inl ⟨by rfl, ?_⟩) hHeld ?_
        rotate_left
        · intro w hSw
          (try dsimp only at hSw)
          go_simp
          try with_reducible rfl
        try simp only [Act.put, List.setIfInBounds_toArray, List.set_cons_zero, List.set_cons_succ]
        try dsimp only
        refine take_at (i := 13) (v := ?_) rfl (by kernel_rfl) (by kernel_rfl) (by kernel_rfl) (fun _ _ _ h => h) (Or.inl ⟨by rfl, ?_⟩) hHeld ?_
        rotate_left
        · intro w hSw
          (try dsimp only at hSw)
          go_simp
          try with_reducible rfl
        try simp only [Act.put, List.setIfInBounds_toArray, List.set_cons_zero, List.set_cons_succ]
        try dsimp only
        refine take_at (i := 14) (v := ?_) rfl (by kernel_rfl) (by kernel_rfl) (by kernel_rfl) (fun _ _ _ h => h) (Or.inl ⟨by rfl, ?_⟩) hHeld ?_
        rotate_left
        · intro w hSw
          (try dsimp only at hSw)
          go_simp
          try with_reducible rfl
        try simp only [Act.put, List.setIfInBounds_toArray, List.set_cons_zero, List.set_cons_succ]
        try dsimp only
        refine take_at (i := 15) (v := ?_) rfl (by kernel_rfl) (by kernel_rfl) (by kernel_rfl) (fun _ _ _ h => h) (Or.inl ⟨by rfl, ?_⟩) hHeld ?_
        rotate_left
        · intro w hSw
          (try dsimp only at hSw)
          go_simp
          try with_reducible rfl
        try simp only [Act.put, List.setIfInBounds_toArray, List.set_cons_zero, List.set_cons_succ]
        try dsimp only
        refine take_at (i := 16) (v := ?_) rfl (by kernel_rfl) (by kernel_rfl) (by kernel_rfl) (fun _ _ _ h => h) (Or.inl ⟨by rfl, ?_⟩) hHeld ?_
        rotate_left
        · intro w hSw
          (try dsimp only at hSw)
          go_simp
          try with_reducible rfl
        try simp only [Act.put, List.setIfInBounds_toArray, List.set_cons_zero, List.set_cons_succ]
        try dsimp only
        refine take_at (i := 17) (v := ?_) rfl (by kernel_rfl) (by kernel_rfl) (by kernel_rfl) (fun _ _ _ h => h) (Or.inl ⟨by rfl, ?_⟩) hHeld ?_
        rotate_left
        · intro w hSw
          (try dsimp only at hSw)
          go_simp
          try with_reducible rfl
        try simp only [Act.put, List.setIfInBounds_toArray, List.set_cons_zero, List.set_cons_succ]
        try dsimp only
        refine take_at (i := 18) (v := ?_) rfl (by kernel_rfl) (by kernel_rfl) (by kernel_rfl) (fun _ _ _ h => h) (Or.inl ⟨by rfl, ?_⟩) hHeld ?_
        rotate_left
        · intro w hSw
          (try dsimp only at hSw)
          go_simp
          try with_reducible rfl
        try simp only [Act.put, List.setIfInBounds_toArray, List.set_cons_zero, List.set_cons_succ]
        try dsimp only
        refine take_at (i := 19) (v := ?_) rfl (by kernel_rfl) (by kernel_rfl) (by kernel_rfl) (fun _ _ _ h => h) (Or.inl ⟨by rfl, ?_⟩) hHeld ?_
        rotate_left
        · intro w hSw
          (try dsimp only at hSw)
          go_simp
          try with_reducible rfl
        try simp only [Act.put, List.setIfInBounds_toArray, List.set_cons_zero, List.set_cons_succ]
        try dsimp only
        refine take_at (i := 20) (v := ?_) rfl (by kernel_rfl) (by kernel_rfl) (by kernel_rfl) (fun _ _ _ h => h) (Or.inl ⟨by rfl, ?_⟩) hHeld ?_
        rotate_left
        · intro w hSw
          (try dsimp only at hSw)
          go_simp
          try with_reducible rfl
        try simp only [Act.put, List.setIfInBounds_toArray, List.set_cons_zero, List.set_cons_succ]
        try dsimp only
        refine take_at (i := 21) (v := ?_) rfl (by kernel_rfl) (by kernel_rfl) (by kernel_rfl) (fun _ _ _ h => h) (Or.inl ⟨by rfl, ?_⟩) hHeld ?_
        rotate_left
        · intro w hSw
          (try dsimp only at hSw)
          go_simp
          try with_reducible rfl
        try simp only [Act.put, List.setIfInBounds_toArray, List.set_cons_zero, List.set_cons_succ]
        try dsimp only
        refine take_at (i := 22) (v := ?_) rfl (by kernel_rfl) (by kernel_rfl) (by kernel_rfl) (fun _ _ _ h => h) (Or.inl ⟨by rfl, ?_⟩) hHeld ?_
        rotate_left
        · intro w hSw
          (try dsimp only at hSw)
          go_simp
          try with_reducible rfl
        try simp only [Act.put, List.setIfInBounds_toArray, List.set_cons_zero, List.set_cons_succ]
        try dsimp only
        refine take_at (i := 23) (v := ?_) rfl (by kernel_rfl) (by kernel_rfl) (by kernel_rfl) (fun _ _ _ h => h) (Or.inl ⟨by rfl, ?_⟩) hHeld ?_
        rotate_left
        · intro w hSw
          (try dsimp only at hSw)
          go_simp
          try with_reducible rfl
        try simp only [Act.put, List.setIfInBounds_toArray, List.set_cons_zero, List.set_cons_succ]
        try dsimp only
        refine take_at (i := 24) (v := ?_) rfl (by kernel_rfl) (by kernel_rfl) (by kernel_rfl) (fun _ _ _ h => h) (Or.inl ⟨by rfl, ?_⟩) hHeld ?_
        rotate_left
        · intro w hSw
          (try dsimp only at hSw)
          go_simp
          try with_reducible rfl
        try simp only [Act.put, List.setIfInBounds_toArray, List.set_cons_zero, List.set_cons_succ]
        try dsimp only
        refine take_at (i := 25) (v := ?_) rfl (by kernel_rfl) (by kernel_rfl) (by kernel_rfl) (fun _ _ _ h => h) (Or.inl ⟨by rfl, ?_⟩) hHeld ?_
        rotate_left
        · intro w hSw
          (try dsimp only at hSw)
          go_simp
          try with_reducible rfl
        try simp only [Act.put, List.setIfInBounds_toArray, List.set_cons_zero, List.set_cons_succ]
        try dsimp only
        refine take_at (i := 26) (v := ?_) rfl (by kernel_rfl) (by kernel_rfl) (by kernel_rfl) (fun _ _ _ h => h) (Or.inl ⟨by rfl, ?_⟩) hHeld ?_
        rotate_left
        · intro w hSw
          (try dsimp only at hSw)
          go_simp
          try with_reducible rfl
        try simp only [Act.put, List.setIfInBounds_toArray, List.set_cons_zero, List.set_cons_succ]
        try dsimp only
        refine take_at (i := 27) (v := ?_) rfl (by kernel_rfl) (by kernel_rfl) (by kernel_rfl) (fun _ _ _ h => h) (Or.inl ⟨by rfl, ?_⟩) hHeld ?_
        rotate_left
        · intro w hSw
          (try dsimp only at hSw)
          go_simp
          try with_reducible rfl
        try simp only [Act.put, List.setIfInBounds_toArray, List.set_cons_zero, List.set_cons_succ]
        try dsimp only
        refine take_at (i := 28) (v := ?_) rfl (by kernel_rfl) (by kernel_rfl) (by kernel_rfl) (fun _ _ _ h => h) (Or.inl ⟨by rfl, ?_⟩) hHeld ?_
        rotate_left
        · intro w hSw
          (try dsimp only at hSw)
          go_simp
          try with_reducible rfl
        try simp only [Act.put, List.setIfInBounds_toArray, List.set_cons_zero, List.set_cons_succ]
        try dsimp only
        refine wpAnyH_ready (rs := [29]) (by kernel_rfl) (by simp) ?_
        refine cons_at rfl (fun K hK => ?_) AllReadyH.nil
        go_simp
        (with_reducible refine (hliv.out _).mono ?_)
        rintro e w9 ⟨rfl, b9⟩
        have B9 : Below w.heap.size w w9 := Below.trans ((by repeat (first | (with_reducible exact HB8.out) | (with_reducible refine Below.drew ?_))) : Below w.heap.size w _) (b9.mono (by have := HB8.out.size; first | exact this | (simp; omega) | omega))
        refine hK.out _ _ ⟨cell_later b9 hHeld.1, cell_later b9 hHeld.2.1, cell_later b9 hHeld.2.2.1, cell_later b9 hHeld.2.2.2.1, cell_later b9 hHeld.2.2.2.2.1, cell_later b9 hHeld.2.2.2.2.2⟩ (fun hHeld => ?_)
        clear hK K
        try simp only [Act.put, List.setIfInBounds_toArray, List.set_cons_zero, List.set_cons_succ]
        try dsimp only
        refine take_at (i := 30) (v := ?_) rfl (by kernel_rfl) (by kernel_rfl) (by kernel_rfl) (fun _ _ _ h => h) (Or.inl ⟨by rfl, ?_⟩) hHeld ?_
        rotate_left
        · intro w hSw
          (try dsimp only at hSw)
          go_simp
          try with_reducible rfl
        try simp only [Act.put, List.setIfInBounds_toArray, List.set_cons_zero, List.set_cons_succ]
        try dsimp only
        refine take_at (i := 31) (v := ?_) rfl (by kernel_rfl) (by kernel_rfl) (by kernel_rfl) (fun _ _ _ h => h) (Or.inl ⟨by rfl, ?_⟩) hHeld ?_
        rotate_left
        · intro w hSw
          (try dsimp only at hSw)
          go_simp
          try with_reducible rfl
        try simp only [Act.put, List.setIfInBounds_toArray, List.set_cons_zero, List.set_cons_succ]
        try dsimp only
        refine wpAnyH_done (by kernel_rfl) ?_ _
        go_wp2_with fail
        go_ret
        exact ⟨rfl, B9⟩

set_option maxHeartbeats 32000000 in
set_option maxRecDepth 100000 in
theorem highfair1_gt (t : Tb) (up : Bool) (a d : Nat) (A B M D : Int) (w : World) (hca : a < t.np ∧ ∃ g o, t.qp = some ⟨g, o, none⟩ ∧ w.cell? ⟨g, o + a * 14 + 4, none⟩ = some (.int .u8 1)) (hdl : d < t.np) (hcd : ∃ g o, t.qp = some ⟨g, o, none⟩ ∧ w.cell? ⟨g, o + d * 14 + 8, none⟩ = some (.bool false) ∧ w.cell? ⟨g, o + d * 14 + 7, none⟩ = some (.bool up) ∧ w.cell? ⟨g, o + a * 14 + 8, none⟩ = some (.bool false)) (hne : a ≠ d) (hA : 0 ≤ A ∧ A ≤ 99999) (hB : 0 ≤ M ∧ M ≤ 99999) (hD : 0 < D) (hc : A > B) (hMB : M = B) (ho : ∀ W, Below w.heap.size w W → Calls Try.prog 8 #[.agg t.row, .int .i64 a, .int .i64 d] W (OutEnds ((D, 0), [(d : Int)]) 0 W)) (hf : ∀ W, Below w.heap.size w W → Calls Try.prog 15 #[.agg t.row, .int .i64 a] W fun e w' => e = .returned (.int .i64 A) ∧ Below W.heap.size W w') (hfd : ∀ W, Below w.heap.size w W → Calls Try.prog 15 #[.agg t.row, .int .i64 d] W fun e w' => e = .returned (.int .i64 M) ∧ Below W.heap.size W w') (ho2 : up = true → ∀ W, Below w.heap.size w W → Calls Try.prog 8 #[.agg t.row, .int .i64 d, .int .i64 a] W (OutEnds ((D, 0), [(d : Int)]) 0 W)) (ho3 : up = false → ∀ W, Below w.heap.size w W → Calls Try.prog 8 #[.agg t.row, .int .i64 d, .int .i64 a] W (OutEnds ((0, 0), []) 2 W)) : Calls Try.prog 4 #[.agg t.row, .int .i64 a, .int .i64 d] w fun e w' => e = .returned (.bool true) ∧ Below w.heap.size w w' := by
  have uw0 : IntKind.u8.wrap 0 = 0 := by kernel_rfl
  have uw1 : IntKind.u8.wrap 1 = 1 := by kernel_rfl
  have hgr := Lib.hid fun W => fgreat_any t W
  have hliv := Lib.hid fun W => flives_any W
  have ho := Lib.hid ho
  have hf := Lib.hid hf
  have hfd := Lib.hid hfd
  subst hMB
  have ho2 := Lib.hid ho2
  have ho3 := Lib.hid ho3
  obtain ⟨hal, g, o, hq, ca⟩ := hca
  obtain ⟨g', o', hq', c8, cx, cy⟩ := hcd
  rw [hq, Option.some.injEq, Addr.mk.injEq] at hq'
  obtain ⟨rfl, rfl, -⟩ := hq'
  have hgw := World.block_lt_of_cell? _ _ ca
  simp only at hgw
  have HCA := Lib.hid ca
  have HC8 := Lib.hid c8
  have HCX := Lib.hid cx
  have HCY := Lib.hid cy
  have i0 : (0 : Int) ≤ (a : Int) := by omega
  have i1 : (a : Int) < (t.np : Int) := by omega
  have j0 : (0 : Int) ≤ (d : Int) := by omega
  have j1 : (d : Int) < (t.np : Int) := by omega
  have dn : ((d : Int) == -1) = false := by first | (simp; done) | (simp; omega)
  have ad : ((a : Int) != (d : Int)) = true := by simp; omega
  have da : ((d : Int) != (a : Int)) = true := by simp; omega
  have nD : ¬ D < 0 := by omega
  have pD : D > 0 := hD
  have cAB : A ≥ M := by omega
  have cBA : ¬ M ≥ A := by omega
  clear ca c8 cx cy hA hB hD hc hne hal hdl
  obtain ⟨w0, hw0⟩ : ∃ w0, w0 = w.alloc (.cells t.row 28) := ⟨_, rfl⟩
  have hb0 : Below w.heap.size w w0 := by rw [hw0]; exact (Below.refl _ _).alloc (Nat.le_refl _) _
  have hx0 : w0.heap[w.heap.size]? = some (.cells t.row 28 (0, 0)) := by rw [hw0]; exact heap_alloc_new _ _
  have HB0 := Lib.hid hb0
  have HX0 := Lib.hid hx0
  have HW0 := Lib.hid hw0
  clear hb0 hx0 hw0
  simp only [Tb.row] at *
  rw [hq] at hgr ho hf hfd ho2 ho3 HX0 HW0 ⊢
  clear hq
  go_enter Try.func4, Try.ntmps4
  go_wp2_with fail
  rw [← HW0.out]
  (with_reducible refine (hgr.out _).mono ?_)
  rintro e w1 ⟨⟨bg, rfl⟩, b1⟩
  have HB1 := Lib.hid (HB0.out.trans (b1.mono HB0.out.size))
  have HX1 := Lib.hid ((b1.block _ (heap_lt HX0.out)).trans HX0.out)
  clear b1
  cases bg with
  | true =>
    go_wp2_with fail
    (with_reducible refine (hliv.out _).mono ?_)
    rintro e w2 ⟨rfl, b2⟩
    have HB2 := Lib.hid (HB1.out.trans (b2.mono HB1.out.size))
    clear b2
    go_wp2_with fail
    go_ret
    exact ⟨rfl, HB2.out⟩
  | false =>
    have hlt1 := heap_lt HX1.out
    have y0 := cell_blk (i := 0) HX1.out
    have y1 := cell_blk (i := 1) HX1.out
    have y2 := cell_blk (i := 2) HX1.out
    have y3 := cell_blk (i := 3) HX1.out
    have y4 := cell_blk (i := 4) HX1.out
    have y5 := cell_blk (i := 5) HX1.out
    have y6 := cell_blk (i := 6) HX1.out
    have y7 := cell_blk (i := 7) HX1.out
    have y8 := cell_blk (i := 8) HX1.out
    have y9 := cell_blk (i := 9) HX1.out
    simp at y0 y1 y2 y3 y4 y5 y6 y7 y8 y9
    go_wp2_with fail
    (with_reducible refine (ho.out _ HB1.out).mono ?_)
    rintro e w2 ⟨⟨v, rfl, hown⟩, b2⟩
    have HB2 := Lib.hid (HB1.out.trans (b2.mono HB1.out.size))
    have HX2 := Lib.hid ((b2.block _ (heap_lt HX1.out)).trans HX1.out)
    clear b2 hlt1 y0 y1 y2 y3 y4 y5 y6 y7 y8 y9
    obtain ⟨gl, c, rfl, gll, lc⟩ := hown.one'
    obtain ⟨w3, hw3⟩ : ∃ w3, w3 = w2.alloc (.cells #[.int .i64 (D), .int .i64 (0)] 24) := ⟨_, rfl⟩
    have b23 : Below w2.heap.size w2 w3 := by rw [hw3]; exact (Below.refl _ _).alloc (Nat.le_refl _) _
    have HY3 : Hid (w3.heap[w2.heap.size]? = some (.cells #[.int .i64 (D), .int .i64 (0)] 24 (0, 0))) := Lib.hid (by rw [hw3]; exact heap_alloc_new _ _)
    have HB3 := Lib.hid (HB2.out.trans (b23.mono HB2.out.size))
    have HX3 := Lib.hid ((b23.block _ (heap_lt HX2.out)).trans HX2.out)
    have HW3 := Lib.hid hw3
    have ca := cell_later HB2.out HCA.out
    have hg2 : g < w2.heap.size := Nat.lt_of_lt_of_le hgw HB2.out.size
    have hlt2 := heap_lt HX2.out
    have y1 := cell_blk (i := 1) HX2.out
    simp at y1
    have HLC := Lib.hid (cell_later b23 lc)
    clear lc
    clear hown b23 hw3
    go_wp2_with fail
    rw [← HW3.out]
    clear y1 ca
    go_loopw [97] (fun vi wr => ∃ i : Nat, vi = .int .i64 i ∧ i ≤ 1 ∧ Below w3.heap.size w3 wr) (fun vi _ => 1 - (RowKit.intOf vi).toNat)
    case atStart => exact ⟨0, by rfl, by omega, Below.refl _ _⟩
    case round =>
      obtain ⟨i, rfl, hi, hbw⟩ := hrel
      rename World => wA
      have HBQ := Lib.hid hbw
      have HBA := Lib.hid (HB3.out.trans (hbw.mono HB3.out.size))
      have HXA := Lib.hid ((hbw.block _ (heap_lt HX3.out)).trans HX3.out)
      have HYA := Lib.hid ((hbw.block _ (heap_lt HY3.out)).trans HY3.out)
      have lc := cell_later hbw HLC.out
      clear hbw
      by_cases hlt : i < 1
      · have hi' : i = 0 := by omega
        have k0 : (0 : Int) ≤ (i : Int) := by omega
        have k1 : (i : Int) < 1 := by omega
        have ci : wA.cell? ⟨gl, i, none⟩ = some (.int .i64 (d : Int)) := by subst hi'; exact lc
        clear lc hi'
        go_wp2_with fail
        go_roundw
        case rel => exact ⟨i + 1, by go_num, by omega, HBQ.out⟩
        case measure => simp [RowKit.intOf]; omega
      have hie : i = 1 := by omega
      subst hie
      clear hlt hi
      go_wp2_with fail
      have y0 := cell_blk (i := 0) HXA.out
      have y1 := cell_blk (i := 1) HXA.out
      have y2 := cell_blk (i := 2) HXA.out
      have y3 := cell_blk (i := 3) HXA.out
      have y4 := cell_blk (i := 4) HXA.out
      have y5 := cell_blk (i := 5) HXA.out
      have y6 := cell_blk (i := 6) HXA.out
      have y7 := cell_blk (i := 7) HXA.out
      have y8 := cell_blk (i := 8) HXA.out
      have y9 := cell_blk (i := 9) HXA.out
      simp at y0 y1 y2 y3 y4 y5 y6 y7 y8 y9
      have z0 := cell_blk (i := 0) HYA.out
      have z1 := cell_blk (i := 1) HYA.out
      simp at z0 z1
      refine wp_region_held_drew (S := fun w' => w'.cell? ⟨w.heap.size, 0, none⟩ = some (.slice t.qk t.nk t.ck) ∧ w'.cell? ⟨w.heap.size, 1, none⟩ = some (.slice (some ⟨g, o, none⟩) t.np t.cp) ∧ w'.cell? ⟨w.heap.size, 2, none⟩ = some (.int .i64 t.l0) ∧ w'.cell? ⟨w.heap.size, 3, none⟩ = some (.int .i64 t.l1) ∧ w'.cell? ⟨w.heap.size, 4, none⟩ = some (.int .i64 t.tn) ∧ w'.cell? ⟨w.heap.size, 5, none⟩ = some (.int .u8 t.py) ∧ w'.cell? ⟨w.heap.size, 6, none⟩ = some (.int .i64 t.mo) ∧ w'.cell? ⟨w.heap.size, 7, none⟩ = some (.slice t.qe t.ne t.ce) ∧ w'.cell? ⟨w.heap.size, 8, none⟩ = some (.bool t.b0) ∧ w'.cell? ⟨w.heap.size, 9, none⟩ = some (.bool t.b1) ∧ w'.cell? ⟨w2.heap.size, 0, none⟩ = some (.int .i64 (D)) ∧ w'.cell? ⟨w2.heap.size, 1, none⟩ = some (.int .i64 (0)) ∧ w'.cell? ⟨gl, 0, none⟩ = some (.int .i64 (d : Int))) (by kernel_rfl) (by (repeat' apply And.intro) <;> go_keep) (fun hHeld => ?_)
      refine take_at (i := 0) (v := ?_) rfl (by kernel_rfl) (by kernel_rfl) (by kernel_rfl) (fun _ _ _ h => h) (Or.inl ⟨by rfl, ?_⟩) hHeld ?_
      rotate_left
      · intro w hSw
        (try dsimp only at hSw)
        go_simp
        try with_reducible rfl
      try simp only [Act.put, List.setIfInBounds_toArray, List.set_cons_zero, List.set_cons_succ]
      try dsimp only
      refine take_at (i := 1) (v := ?_) rfl (by kernel_rfl) (by kernel_rfl) (by kernel_rfl) (fun _ _ _ h => h) (Or.inl ⟨by rfl, ?_⟩) hHeld ?_
      rotate_left
      · intro w hSw
        (try dsimp only at hSw)
        go_simp
        try with_reducible rfl
      try simp only [Act.put, List.setIfInBounds_toArray, List.set_cons_zero, List.set_cons_succ]
      try dsimp only
      refine take_at (i := 3) (v := ?_) rfl (by kernel_rfl) (by kernel_rfl) (by kernel_rfl) (fun _ _ _ h => h) (Or.inl ⟨by rfl, ?_⟩) hHeld ?_
      rotate_left
      · intro w hSw
        (try dsimp only at hSw)
        go_simp
        try with_reducible rfl
      try simp only [Act.put, List.setIfInBounds_toArray, List.set_cons_zero, List.set_cons_succ]
      try dsimp only
      refine take_at (i := 4) (v := ?_) rfl (by kernel_rfl) (by kernel_rfl) (by kernel_rfl) (fun _ _ _ h => h) (Or.inl ⟨by rfl, ?_⟩) hHeld ?_
      rotate_left
      · intro w hSw
        (try dsimp only at hSw)
        go_simp
        try with_reducible rfl
      try simp only [Act.put, List.setIfInBounds_toArray, List.set_cons_zero, List.set_cons_succ]
      try dsimp only
      refine wpAnyH_ready (rs := [2]) (by kernel_rfl) (by simp) ?_
      refine cons_at rfl (fun K hK => ?_) AllReadyH.nil
      go_simp
      (with_reducible refine (hf.out _ ((by repeat (first | (with_reducible exact HBA.out) | (with_reducible refine Below.drew ?_))) : Below w.heap.size w _)).mono ?_)
      rintro e w5 ⟨rfl, b5⟩
      have B5 : Below w.heap.size w w5 := Below.trans ((by repeat (first | (with_reducible exact HBA.out) | (with_reducible refine Below.drew ?_))) : Below w.heap.size w _) (b5.mono (by have := HBA.out.size; first | exact this | (simp; omega) | omega))
      refine hK.out _ _ ⟨cell_later b5 hHeld.1, cell_later b5 hHeld.2.1, cell_later b5 hHeld.2.2.1, cell_later b5 hHeld.2.2.2.1, cell_later b5 hHeld.2.2.2.2.1, cell_later b5 hHeld.2.2.2.2.2.1, cell_later b5 hHeld.2.2.2.2.2.2.1, cell_later b5 hHeld.2.2.2.2.2.2.2.1, cell_later b5 hHeld.2.2.2.2.2.2.2.2.1, cell_later b5 hHeld.2.2.2.2.2.2.2.2.2.1, cell_later b5 hHeld.2.2.2.2.2.2.2.2.2.2.1, cell_later b5 hHeld.2.2.2.2.2.2.2.2.2.2.2.1, cell_later b5 hHeld.2.2.2.2.2.2.2.2.2.2.2.2⟩ (fun hHeld => ?_)
      clear hK K
      try simp only [Act.put, List.setIfInBounds_toArray, List.set_cons_zero, List.set_cons_succ]
      try dsimp only
      refine wpAnyH_ready (rs := [5]) (by kernel_rfl) (by simp) ?_
      refine cons_at rfl (fun K hK => ?_) AllReadyH.nil
      go_simp
      (with_reducible refine (hfd.out _ ((by repeat (first | (with_reducible exact HBA.out) | (with_reducible exact B5) | (with_reducible refine Below.drew ?_))) : Below w.heap.size w _)).mono ?_)
      rintro e w6 ⟨rfl, b6⟩
      have B6 : Below w.heap.size w w6 := Below.trans ((by repeat (first | (with_reducible exact HBA.out) | (with_reducible exact B5) | (with_reducible refine Below.drew ?_))) : Below w.heap.size w _) (b6.mono (by have := HBA.out.size; have := Below.size B5; first | exact this | (simp; omega) | omega))
      refine hK.out _ _ ⟨cell_later b6 hHeld.1, cell_later b6 hHeld.2.1, cell_later b6 hHeld.2.2.1, cell_later b6 hHeld.2.2.2.1, cell_later b6 hHeld.2.2.2.2.1, cell_later b6 hHeld.2.2.2.2.2.1, cell_later b6 hHeld.2.2.2.2.2.2.1, cell_later b6 hHeld.2.2.2.2.2.2.2.1, cell_later b6 hHeld.2.2.2.2.2.2.2.2.1, cell_later b6 hHeld.2.2.2.2.2.2.2.2.2.1, cell_later b6 hHeld.2.2.2.2.2.2.2.2.2.2.1, cell_later b6 hHeld.2.2.2.2.2.2.2.2.2.2.2.1, cell_later b6 hHeld.2.2.2.2.2.2.2.2.2.2.2.2⟩ (fun hHeld => ?_)
      clear hK K
      try simp only [Act.put, List.setIfInBounds_toArray, List.set_cons_zero, List.set_cons_succ]
      try dsimp only
      refine take_at (i := 6) (v := ?_) rfl (by kernel_rfl) (by kernel_rfl) (by kernel_rfl) (fun _ _ _ h => h) (Or.inl ⟨by rfl, ?_⟩) hHeld ?_
      rotate_left
      · intro w hSw
        (try dsimp only at hSw)
        go_simp
        try with_reducible rfl
      try simp only [Act.put, List.setIfInBounds_toArray, List.set_cons_zero, List.set_cons_succ]
      try dsimp only
      refine take_at (i := 7) (v := ?_) rfl (by kernel_rfl) (by kernel_rfl) (by kernel_rfl) (fun _ _ _ h => h) (Or.inl ⟨by rfl, ?_⟩) hHeld ?_
      rotate_left
      · intro w hSw
        (try dsimp only at hSw)
        go_simp
        try with_reducible rfl
      try simp only [Act.put, List.setIfInBounds_toArray, List.set_cons_zero, List.set_cons_succ]
      try dsimp only
      refine wpAnyH_done (by kernel_rfl) ?_ _
      clear y0 y1 y2 y3 y4 y5 y6 y7 y8 y9 z0 z1 lc
      obtain ⟨y0, y1, y2, y3, y4, y5, y6, y7, y8, y9, z0, z1, lc⟩ := hHeld
      have HB6 : Hid (Below w.heap.size w w6) := Lib.hid B6
      have c8 := cell_later B6 HC8.out
      have cx := cell_later B6 HCX.out
      have ca := cell_later B6 HCA.out
      have cy := cell_later B6 HCY.out
      clear B5 B6 b5 b6
      go_wp2_with fail
      cases up with
      | false =>
        (with_reducible refine ((ho3.out rfl) _ HB6.out).mono ?_)
        rintro e w7 ⟨⟨v', rfl, hown'⟩, b7⟩
        obtain ⟨gk, ck, rfl⟩ := hown'.none'
        have HB7 := Lib.hid (HB6.out.trans (b7.mono HB6.out.size))
        have y1' := cell_later b7 y1
        have cx' := cell_later b7 cx
        have hl1 := World.block_lt_of_cell? _ _ y1'
        have hl2 := World.block_lt_of_cell? _ _ cx'
        simp only at hl1 hl2
        clear b7 hown' y0 y1 y2 y3 y4 y5 y6 y7 y8 y9 z0 z1 lc c8 cx ca cy
        obtain ⟨w8, hw8⟩ : ∃ w8, w8 = w7.alloc (.cells #[.int .i64 0, .int .i64 0] 24) := ⟨_, rfl⟩
        have HB8 : Hid (Below w.heap.size w w8) := Lib.hid (by rw [hw8]; exact HB7.out.alloc HB7.out.size _)
        have HW8 := Lib.hid hw8
        clear hw8
        go_wp2_with fail
        rw [← HW8.out]
        (with_reducible refine (hliv.out _).mono ?_)
        rintro e w9 ⟨rfl, b9⟩
        have HB9 := Lib.hid (HB8.out.trans (b9.mono HB8.out.size))
        go_wp2_with fail
        go_ret
        exact ⟨rfl, HB9.out⟩
      | true =>
        (with_reducible refine ((ho2.out rfl) _ HB6.out).mono ?_)
        rintro e w7 ⟨⟨v', rfl, hown'⟩, b7⟩
        obtain ⟨gk, ck, rfl, gkl, kc⟩ := hown'.one'
        have HB7 := Lib.hid (HB6.out.trans (b7.mono HB6.out.size))
        have y1' := cell_later b7 y1
        have cx' := cell_later b7 cx
        have cy' := cell_later b7 cy
        have hl1 := World.block_lt_of_cell? _ _ y1'
        have hl2 := World.block_lt_of_cell? _ _ cx'
        simp only at hl1 hl2
        have Z0 := Lib.hid (cell_later b7 z0)
        have Z1 := Lib.hid (cell_later b7 z1)
        have LC := Lib.hid (cell_later b7 lc)
        have KC := Lib.hid kc
        clear b7 hown' y0 y1 y2 y3 y4 y5 y6 y7 y8 y9 z0 z1 lc c8 cx ca cy kc
        obtain ⟨w8, hw8⟩ : ∃ w8, w8 = w7.alloc (.cells #[.int .i64 (D), .int .i64 (0)] 24) := ⟨_, rfl⟩
        have b78 : Below w7.heap.size w7 w8 := by rw [hw8]; exact (Below.refl _ _).alloc (Nat.le_refl _) _
        have HB8 := Lib.hid (HB7.out.trans (b78.mono HB7.out.size))
        have HU8 : Hid (w8.heap[w7.heap.size]? = some (.cells #[.int .i64 (D), .int .i64 (0)] 24 (0, 0))) := Lib.hid (by rw [hw8]; exact heap_alloc_new _ _)
        have z0 := cell_later b78 Z0.out
        have z1 := cell_later b78 Z1.out
        have lc := cell_later b78 LC.out
        have kc := cell_later b78 KC.out
        have u0 := cell_blk (i := 0) HU8.out
        have u1 := cell_blk (i := 1) HU8.out
        simp at u0 u1
        have HW8 := Lib.hid hw8
        have q0 := fun W => two_eq (D) (0) W
        clear hw8 b78
        go_wp2_with fail
        rw [← HW8.out]
        clear y1' cx' cy'
        refine wp_region_held_drew (S := fun w' => w'.cell? ⟨w2.heap.size, 0, none⟩ = some (.int .i64 (D)) ∧ w'.cell? ⟨w2.heap.size, 1, none⟩ = some (.int .i64 (0)) ∧ w'.cell? ⟨w7.heap.size, 0, none⟩ = some (.int .i64 (D)) ∧ w'.cell? ⟨w7.heap.size, 1, none⟩ = some (.int .i64 (0)) ∧ w'.cell? ⟨gl, 0, none⟩ = some (.int .i64 (d : Int)) ∧ w'.cell? ⟨gk, 0, none⟩ = some (.int .i64 (d : Int))) (by kernel_rfl) (by (repeat' apply And.intro) <;> go_keep) (fun hHeld => ?_)
        refine take_at (i := 0) (v := ?_) rfl (by kernel_rfl) (by kernel_rfl) (by kernel_rfl) (fun _ _ _ h => h) (Or.inl ⟨by rfl, ?_⟩) hHeld ?_
        rotate_left
        · intro w hSw
          (try dsimp only at hSw)
          go_simp
          try with_reducible rfl
        try simp only [Act.put, List.setIfInBounds_toArray, List.set_cons_zero, List.set_cons_succ]
        try dsimp only
        refine take_at (i := 1) (v := ?_) rfl (by kernel_rfl) (by kernel_rfl) (by kernel_rfl) (fun _ _ _ h => h) (Or.inl ⟨by rfl, ?_⟩) hHeld ?_
        rotate_left
        · intro w hSw
          (try dsimp only at hSw)
          go_simp
          try with_reducible rfl
        try simp only [Act.put, List.setIfInBounds_toArray, List.set_cons_zero, List.set_cons_succ]
        try dsimp only
        refine take_at (i := 2) (v := ?_) rfl (by kernel_rfl) (by kernel_rfl) (by kernel_rfl) (fun _ _ _ h => h) (Or.inl ⟨by rfl, ?_⟩) hHeld ?_
        rotate_left
        · intro w hSw
          (try dsimp only at hSw)
          go_simp
          try with_reducible rfl
        try simp only [Act.put, List.setIfInBounds_toArray, List.set_cons_zero, List.set_cons_succ]
        try dsimp only
        refine take_at (i := 3) (v := ?_) rfl (by kernel_rfl) (by kernel_rfl) (by kernel_rfl) (fun _ _ _ h => h) (Or.inl ⟨by rfl, ?_⟩) hHeld ?_
        rotate_left
        · intro w hSw
          (try dsimp only at hSw)
          go_simp
          try with_reducible rfl
        try simp only [Act.put, List.setIfInBounds_toArray, List.set_cons_zero, List.set_cons_succ]
        try dsimp only
        refine take_at (i := 4) (v := ?_) rfl (by kernel_rfl) (by kernel_rfl) (by kernel_rfl) (fun _ _ _ h => h) (Or.inl ⟨by rfl, ?_⟩) hHeld ?_
        rotate_left
        · intro w hSw
          (try dsimp only at hSw)
          go_simp
          try with_reducible rfl
        try simp only [Act.put, List.setIfInBounds_toArray, List.set_cons_zero, List.set_cons_succ]
        try dsimp only
        refine take_at (i := 5) (v := ?_) rfl (by kernel_rfl) (by kernel_rfl) (by kernel_rfl) (fun _ _ _ h => h) (Or.inl ⟨by rfl, ?_⟩) hHeld ?_
        rotate_left
        · intro w hSw
          (try dsimp only at hSw)
          go_simp
          try with_reducible rfl
        try simp only [Act.put, List.setIfInBounds_toArray, List.set_cons_zero, List.set_cons_succ]
        try dsimp only
        refine take_at (i := 6) (v := ?_) rfl (by kernel_rfl) (by kernel_rfl) (by kernel_rfl) (fun _ _ _ h => h) (Or.inl ⟨by rfl, ?_⟩) hHeld ?_
        rotate_left
        · intro w hSw
          (try dsimp only at hSw)
          go_simp
          try with_reducible rfl
        try simp only [Act.put, List.setIfInBounds_toArray, List.set_cons_zero, List.set_cons_succ]
        try dsimp only
        refine take_at (i := 7) (v := ?_) rfl (by kernel_rfl) (by kernel_rfl) (by kernel_rfl) (fun _ _ _ h => h) (Or.inl ⟨by rfl, ?_⟩) hHeld ?_
        rotate_left
        · intro w hSw
          (try dsimp only at hSw)
          go_simp
          try with_reducible rfl
        try simp only [Act.put, List.setIfInBounds_toArray, List.set_cons_zero, List.set_cons_succ]
        try dsimp only
        refine take_at (i := 8) (v := ?_) rfl (by kernel_rfl) (by kernel_rfl) (by kernel_rfl) (fun _ _ _ h => h) (Or.inl ⟨by rfl, ?_⟩) hHeld ?_
        rotate_left
        · intro w hSw
          (try dsimp only at hSw)
          go_simp
          try with_reducible rfl
        try simp only [Act.put, List.setIfInBounds_toArray, List.set_cons_zero, List.set_cons_succ]
        try dsimp only
        refine take_at (i := 9) (v := ?_) rfl (by kernel_rfl) (by kernel_rfl) (by kernel_rfl) (fun _ _ _ h => h) (Or.inl ⟨by rfl, ?_⟩) hHeld ?_
        rotate_left
        · intro w hSw
          (try dsimp only at hSw)
          go_simp
          try with_reducible rfl
        try simp only [Act.put, List.setIfInBounds_toArray, List.set_cons_zero, List.set_cons_succ]
        try dsimp only
        refine take_at (i := 10) (v := ?_) rfl (by kernel_rfl) (by kernel_rfl) (by kernel_rfl) (fun _ _ _ h => h) (Or.inl ⟨by rfl, ?_⟩) hHeld ?_
        rotate_left
        · intro w hSw
          (try dsimp only at hSw)
          go_simp
          try with_reducible rfl
        try simp only [Act.put, List.setIfInBounds_toArray, List.set_cons_zero, List.set_cons_succ]
        try dsimp only
        refine take_at (i := 11) (v := ?_) rfl (by kernel_rfl) (by kernel_rfl) (by kernel_rfl) (fun _ _ _ h => h) (Or.inl ⟨by rfl, ?_⟩) hHeld ?_
        rotate_left
        · intro w hSw
          (try dsimp only at hSw)
          go_simp
          try with_reducible rfl
        try simp only [Act.put, List.setIfInBounds_toArray, List.set_cons_zero, List.set_cons_succ]
        try dsimp only
        refine take_at (i := 12) (v := ?_) rfl (by kernel_rfl) (by kernel_rfl) (by kernel_rfl) (fun _ _ _ h => h) (Or.inl ⟨by rfl, ?_⟩) hHeld ?_
        rotate_left
        · intro w hSw
          (try dsimp only at hSw)
          go_simp
          try with_reducible rfl
        try simp only [Act.put, List.setIfInBounds_toArray, List.set_cons_zero, List.set_cons_succ]
        try dsimp only
        refine take_at (i := 13) (v := ?_) rfl (by kernel_rfl) (by kernel_rfl) (by kernel_rfl) (fun _ _ _ h => h) (Or.inl ⟨by rfl, ?_⟩) hHeld ?_
        rotate_left
        · intro w hSw
          (try dsimp only at hSw)
          go_simp
          try with_reducible rfl
        try simp only [Act.put, List.setIfInBounds_toArray, List.set_cons_zero, List.set_cons_succ]
        try dsimp only
        refine take_at (i := 14) (v := ?_) rfl (by kernel_rfl) (by kernel_rfl) (by kernel_rfl) (fun _ _ _ h => h) (Or.inl ⟨by rfl, ?_⟩) hHeld ?_
        rotate_left
        · intro w hSw
          (try dsimp only at hSw)
          go_simp
          try with_reducible rfl
        try simp only [Act.put, List.setIfInBounds_toArray, List.set_cons_zero, List.set_cons_succ]
        try dsimp only
        refine take_at (i := 15) (v := ?_) rfl (by kernel_rfl) (by kernel_rfl) (by kernel_rfl) (fun _ _ _ h => h) (Or.inl ⟨by rfl, ?_⟩) hHeld ?_
        rotate_left
        · intro w hSw
          (try dsimp only at hSw)
          go_simp
          try with_reducible rfl
        try simp only [Act.put, List.setIfInBounds_toArray, List.set_cons_zero, List.set_cons_succ]
        try dsimp only
        refine take_at (i := 16) (v := ?_) rfl (by kernel_rfl) (by kernel_rfl) (by kernel_rfl) (fun _ _ _ h => h) (Or.inl ⟨by rfl, ?_⟩) hHeld ?_
        rotate_left
        · intro w hSw
          (try dsimp only at hSw)
          go_simp
          try with_reducible rfl
        try simp only [Act.put, List.setIfInBounds_toArray, List.set_cons_zero, List.set_cons_succ]
        try dsimp only
        refine take_at (i := 17) (v := ?_) rfl (by kernel_rfl) (by kernel_rfl) (by kernel_rfl) (fun _ _ _ h => h) (Or.inl ⟨by rfl, ?_⟩) hHeld ?_
        rotate_left
        · intro w hSw
          (try dsimp only at hSw)
          go_simp
          try with_reducible rfl
        try simp only [Act.put, List.setIfInBounds_toArray, List.set_cons_zero, List.set_cons_succ]
        try dsimp only
        refine take_at (i := 18) (v := ?_) rfl (by kernel_rfl) (by kernel_rfl) (by kernel_rfl) (fun _ _ _ h => h) (Or.inl ⟨by rfl, ?_⟩) hHeld ?_
        rotate_left
        · intro w hSw
          (try dsimp only at hSw)
          go_simp
          try with_reducible rfl
        try simp only [Act.put, List.setIfInBounds_toArray, List.set_cons_zero, List.set_cons_succ]
        try dsimp only
        refine take_at (i := 19) (v := ?_) rfl (by kernel_rfl) (by kernel_rfl) (by kernel_rfl) (fun _ _ _ h => h) (Or.inl ⟨by rfl, ?_⟩) hHeld ?_
        rotate_left
        · intro w hSw
          (try dsimp only at hSw)
          go_simp
          try with_reducible rfl
        try simp only [Act.put, List.setIfInBounds_toArray, List.set_cons_zero, List.set_cons_succ]
        try dsimp only
        refine take_at (i := 20) (v := ?_) rfl (by kernel_rfl) (by kernel_rfl) (by kernel_rfl) (fun _ _ _ h => h) (Or.inl ⟨by rfl, ?_⟩) hHeld ?_
        rotate_left
        · intro w hSw
          (try dsimp only at hSw)
          go_simp
          try with_reducible rfl
        try simp only [Act.put, List.setIfInBounds_toArray, List.set_cons_zero, List.set_cons_succ]
        try dsimp only
        refine take_at (i := 21) (v := ?_) rfl (by kernel_rfl) (by kernel_rfl) (by kernel_rfl) (fun _ _ _ h => h) (Or.inl ⟨by rfl, ?_⟩) hHeld ?_
        rotate_left
        · intro w hSw
          (try dsimp only at hSw)
          go_simp
          try with_reducible rfl
        try simp only [Act.put, List.setIfInBounds_toArray, List.set_cons_zero, List.set_cons_succ]
        try dsimp only
        refine take_at (i := 22) (v := ?_) rfl (by kernel_rfl) (by kernel_rfl) (by kernel_rfl) (fun _ _ _ h => h) (Or.inl ⟨by rfl, ?_⟩) hHeld ?_
        rotate_left
        · intro w hSw
          (try dsimp only at hSw)
          go_simp
          try with_reducible rfl
        try simp only [Act.put, List.setIfInBounds_toArray, List.set_cons_zero, List.set_cons_succ]
        try dsimp only
        refine take_at (i := 23) (v := ?_) rfl (by kernel_rfl) (by kernel_rfl) (by kernel_rfl) (fun _ _ _ h => h) (Or.inl ⟨by rfl, ?_⟩) hHeld ?_
        rotate_left
        · intro w hSw
          (try dsimp only at hSw)
          go_simp
          try with_reducible rfl
        try simp only [Act.put, List.setIfInBounds_toArray, List.set_cons_zero, List.set_cons_succ]
        try dsimp only
        refine take_at (i := 24) (v := ?_) rfl (by kernel_rfl) (by kernel_rfl) (by kernel_rfl) (fun _ _ _ h => h) (Or.inl ⟨by rfl, ?_⟩) hHeld ?_
        rotate_left
        · intro w hSw
          (try dsimp only at hSw)
          go_simp
          try with_reducible rfl
        try simp only [Act.put, List.setIfInBounds_toArray, List.set_cons_zero, List.set_cons_succ]
        try dsimp only
        refine take_at (i := 25) (v := ?_) rfl (by kernel_rfl) (by kernel_rfl) (by kernel_rfl) (fun _ _ _ h => h) (Or.inl ⟨by rfl, ?_⟩) hHeld ?_
        rotate_left
        · intro w hSw
          (try dsimp only at hSw)
          go_simp
          try with_reducible rfl
        try simp only [Act.put, List.setIfInBounds_toArray, List.set_cons_zero, List.set_cons_succ]
        try dsimp only
        refine take_at (i := 26) (v := ?_) rfl (by kernel_rfl) (by kernel_rfl) (by kernel_rfl) (fun _ _ _ h => h) (Or.inl ⟨by rfl, ?_⟩) hHeld ?_
        rotate_left
        · intro w hSw
          (try dsimp only at hSw)
          go_simp
          try with_reducible rfl
        try simp only [Act.put, List.setIfInBounds_toArray, List.set_cons_zero, List.set_cons_succ]
        try dsimp only
        refine take_at (i := 27) (v := ?_) rfl (by kernel_rfl) (by kernel_rfl) (by kernel_rfl) (fun _ _ _ h => h) (Or.inl ⟨by rfl, ?_⟩) hHeld ?_
        rotate_left
        · intro w hSw
          (try dsimp only at hSw)
          go_simp
          try with_reducible rfl
        try simp only [Act.put, List.setIfInBounds_toArray, List.set_cons_zero, List.set_cons_succ]
        try dsimp only
        refine take_at (i := 28) (v := ?_) rfl (by kernel_rfl) (by kernel_rfl) (by kernel_rfl) (fun _ _ _ h => h) (Or.inl ⟨by rfl, ?_⟩) hHeld ?_
        rotate_left
        · intro w hSw
          (try dsimp only at hSw)
          go_simp
          try with_reducible rfl
        try simp only [Act.put, List.setIfInBounds_toArray, List.set_cons_zero, List.set_cons_succ]
        try dsimp only
        refine wpAnyH_ready (rs := [29]) (by kernel_rfl) (by simp) ?_
        refine cons_at rfl (fun K hK => ?_) AllReadyH.nil
        go_simp
        (with_reducible refine (hliv.out _).mono ?_)
        rintro e w9 ⟨rfl, b9⟩
        have B9 : Below w.heap.size w w9 := Below.trans ((by repeat (first | (with_reducible exact HB8.out) | (with_reducible refine Below.drew ?_))) : Below w.heap.size w _) (b9.mono (by have := HB8.out.size; first | exact this | (simp; omega) | omega))
        refine hK.out _ _ ⟨cell_later b9 hHeld.1, cell_later b9 hHeld.2.1, cell_later b9 hHeld.2.2.1, cell_later b9 hHeld.2.2.2.1, cell_later b9 hHeld.2.2.2.2.1, cell_later b9 hHeld.2.2.2.2.2⟩ (fun hHeld => ?_)
        clear hK K
        try simp only [Act.put, List.setIfInBounds_toArray, List.set_cons_zero, List.set_cons_succ]
        try dsimp only
        refine take_at (i := 30) (v := ?_) rfl (by kernel_rfl) (by kernel_rfl) (by kernel_rfl) (fun _ _ _ h => h) (Or.inl ⟨by rfl, ?_⟩) hHeld ?_
        rotate_left
        · intro w hSw
          (try dsimp only at hSw)
          go_simp
          try with_reducible rfl
        try simp only [Act.put, List.setIfInBounds_toArray, List.set_cons_zero, List.set_cons_succ]
        try dsimp only
        refine take_at (i := 31) (v := ?_) rfl (by kernel_rfl) (by kernel_rfl) (by kernel_rfl) (fun _ _ _ h => h) (Or.inl ⟨by rfl, ?_⟩) hHeld ?_
        rotate_left
        · intro w hSw
          (try dsimp only at hSw)
          go_simp
          try with_reducible rfl
        try simp only [Act.put, List.setIfInBounds_toArray, List.set_cons_zero, List.set_cons_succ]
        try dsimp only
        refine wpAnyH_done (by kernel_rfl) ?_ _
        go_wp2_with fail
        go_ret
        exact ⟨rfl, B9⟩

set_option maxHeartbeats 32000000 in
set_option maxRecDepth 100000 in
theorem highfair1_eqp (t : Tb) (up : Bool) (a d : Nat) (A B M D : Int) (w : World) (hca : a < t.np ∧ ∃ g o, t.qp = some ⟨g, o, none⟩ ∧ w.cell? ⟨g, o + a * 14 + 4, none⟩ = some (.int .u8 1)) (hdl : d < t.np) (hcd : ∃ g o, t.qp = some ⟨g, o, none⟩ ∧ w.cell? ⟨g, o + d * 14 + 8, none⟩ = some (.bool false) ∧ w.cell? ⟨g, o + d * 14 + 7, none⟩ = some (.bool up) ∧ w.cell? ⟨g, o + a * 14 + 8, none⟩ = some (.bool false)) (hne : a ≠ d) (hA : 0 ≤ A ∧ A ≤ 99999) (hB : 0 ≤ M ∧ M ≤ 99999) (hD : 0 < D) (hc : A = B) (hMB : M = B) (ho : ∀ W, Below w.heap.size w W → Calls Try.prog 8 #[.agg t.row, .int .i64 a, .int .i64 d] W (OutEnds ((0, 0), [(a : Int), (d : Int)]) 0 W)) (hf : ∀ W, Below w.heap.size w W → Calls Try.prog 15 #[.agg t.row, .int .i64 a] W fun e w' => e = .returned (.int .i64 A) ∧ Below W.heap.size W w') (hfd : ∀ W, Below w.heap.size w W → Calls Try.prog 15 #[.agg t.row, .int .i64 d] W fun e w' => e = .returned (.int .i64 M) ∧ Below W.heap.size W w') (ho2 : up = true → ∀ W, Below w.heap.size w W → Calls Try.prog 8 #[.agg t.row, .int .i64 d, .int .i64 a] W (OutEnds ((0, 0), [(d : Int), (a : Int)]) 0 W)) (ho3 : up = false → ∀ W, Below w.heap.size w W → Calls Try.prog 8 #[.agg t.row, .int .i64 d, .int .i64 a] W (OutEnds ((0, 0), []) 2 W)) : Calls Try.prog 4 #[.agg t.row, .int .i64 a, .int .i64 d] w fun e w' => e = .returned (.bool true) ∧ Below w.heap.size w w' := by
  have uw0 : IntKind.u8.wrap 0 = 0 := by kernel_rfl
  have uw1 : IntKind.u8.wrap 1 = 1 := by kernel_rfl
  have hgr := Lib.hid fun W => fgreat_any t W
  have hliv := Lib.hid fun W => flives_any W
  have ho := Lib.hid ho
  have hf := Lib.hid hf
  have hfd := Lib.hid hfd
  subst hMB
  have ho2 := Lib.hid ho2
  have ho3 := Lib.hid ho3
  obtain ⟨hal, g, o, hq, ca⟩ := hca
  obtain ⟨g', o', hq', c8, cx, cy⟩ := hcd
  rw [hq, Option.some.injEq, Addr.mk.injEq] at hq'
  obtain ⟨rfl, rfl, -⟩ := hq'
  have hgw := World.block_lt_of_cell? _ _ ca
  simp only at hgw
  have HCA := Lib.hid ca
  have HC8 := Lib.hid c8
  have HCX := Lib.hid cx
  have HCY := Lib.hid cy
  have i0 : (0 : Int) ≤ (a : Int) := by omega
  have i1 : (a : Int) < (t.np : Int) := by omega
  have j0 : (0 : Int) ≤ (d : Int) := by omega
  have j1 : (d : Int) < (t.np : Int) := by omega
  have dn : ((d : Int) == -1) = false := by first | (simp; done) | (simp; omega)
  have ad : ((a : Int) != (d : Int)) = true := by simp; omega
  have da : ((d : Int) != (a : Int)) = true := by simp; omega
  have nD : ¬ D < 0 := by omega
  have pD : D > 0 := hD
  clear ca c8 cx cy hA hB hD hc hne hal hdl
  obtain ⟨w0, hw0⟩ : ∃ w0, w0 = w.alloc (.cells t.row 28) := ⟨_, rfl⟩
  have hb0 : Below w.heap.size w w0 := by rw [hw0]; exact (Below.refl _ _).alloc (Nat.le_refl _) _
  have hx0 : w0.heap[w.heap.size]? = some (.cells t.row 28 (0, 0)) := by rw [hw0]; exact heap_alloc_new _ _
  have HB0 := Lib.hid hb0
  have HX0 := Lib.hid hx0
  have HW0 := Lib.hid hw0
  clear hb0 hx0 hw0
  simp only [Tb.row] at *
  rw [hq] at hgr ho hf hfd ho2 ho3 HX0 HW0 ⊢
  clear hq
  go_enter Try.func4, Try.ntmps4
  go_wp2_with fail
  rw [← HW0.out]
  (with_reducible refine (hgr.out _).mono ?_)
  rintro e w1 ⟨⟨bg, rfl⟩, b1⟩
  have HB1 := Lib.hid (HB0.out.trans (b1.mono HB0.out.size))
  have HX1 := Lib.hid ((b1.block _ (heap_lt HX0.out)).trans HX0.out)
  clear b1
  cases bg with
  | true =>
    go_wp2_with fail
    (with_reducible refine (hliv.out _).mono ?_)
    rintro e w2 ⟨rfl, b2⟩
    have HB2 := Lib.hid (HB1.out.trans (b2.mono HB1.out.size))
    clear b2
    go_wp2_with fail
    go_ret
    exact ⟨rfl, HB2.out⟩
  | false =>
    have hlt1 := heap_lt HX1.out
    have y0 := cell_blk (i := 0) HX1.out
    have y1 := cell_blk (i := 1) HX1.out
    have y2 := cell_blk (i := 2) HX1.out
    have y3 := cell_blk (i := 3) HX1.out
    have y4 := cell_blk (i := 4) HX1.out
    have y5 := cell_blk (i := 5) HX1.out
    have y6 := cell_blk (i := 6) HX1.out
    have y7 := cell_blk (i := 7) HX1.out
    have y8 := cell_blk (i := 8) HX1.out
    have y9 := cell_blk (i := 9) HX1.out
    simp at y0 y1 y2 y3 y4 y5 y6 y7 y8 y9
    go_wp2_with fail
    (with_reducible refine (ho.out _ HB1.out).mono ?_)
    rintro e w2 ⟨⟨v, rfl, hown⟩, b2⟩
    have HB2 := Lib.hid (HB1.out.trans (b2.mono HB1.out.size))
    have HX2 := Lib.hid ((b2.block _ (heap_lt HX1.out)).trans HX1.out)
    clear b2 hlt1 y0 y1 y2 y3 y4 y5 y6 y7 y8 y9
    obtain ⟨gl, c, rfl, gll, lc, lc'⟩ := hown.two'
    obtain ⟨w3, hw3⟩ : ∃ w3, w3 = w2.alloc (.cells #[.int .i64 (0), .int .i64 (0)] 24) := ⟨_, rfl⟩
    have b23 : Below w2.heap.size w2 w3 := by rw [hw3]; exact (Below.refl _ _).alloc (Nat.le_refl _) _
    have HY3 : Hid (w3.heap[w2.heap.size]? = some (.cells #[.int .i64 (0), .int .i64 (0)] 24 (0, 0))) := Lib.hid (by rw [hw3]; exact heap_alloc_new _ _)
    have HB3 := Lib.hid (HB2.out.trans (b23.mono HB2.out.size))
    have HX3 := Lib.hid ((b23.block _ (heap_lt HX2.out)).trans HX2.out)
    have HW3 := Lib.hid hw3
    have ca := cell_later HB2.out HCA.out
    have hg2 : g < w2.heap.size := Nat.lt_of_lt_of_le hgw HB2.out.size
    have hlt2 := heap_lt HX2.out
    have y1 := cell_blk (i := 1) HX2.out
    simp at y1
    have HLC := Lib.hid (cell_later b23 lc)
    have HLC' := Lib.hid (cell_later b23 lc')
    clear lc lc'
    clear hown b23 hw3
    go_wp2_with fail
    rw [← HW3.out]
    clear y1 ca
    go_loopw [97] (fun vi wr => ∃ i : Nat, vi = .int .i64 i ∧ i ≤ 2 ∧ Below w3.heap.size w3 wr) (fun vi _ => 2 - (RowKit.intOf vi).toNat)
    case atStart => exact ⟨0, by rfl, by omega, Below.refl _ _⟩
    case round =>
      obtain ⟨i, rfl, hi, hbw⟩ := hrel
      rename World => wA
      have HBQ := Lib.hid hbw
      have HBA := Lib.hid (HB3.out.trans (hbw.mono HB3.out.size))
      have HXA := Lib.hid ((hbw.block _ (heap_lt HX3.out)).trans HX3.out)
      have HYA := Lib.hid ((hbw.block _ (heap_lt HY3.out)).trans HY3.out)
      have lc := cell_later hbw HLC.out
      have lc' := cell_later hbw HLC'.out
      clear hbw
      by_cases hlt : i < 2
      · by_cases hi' : i = 0
        · have k0 : (0 : Int) ≤ (i : Int) := by omega
          have k1 : (i : Int) < 2 := by omega
          have ci : wA.cell? ⟨gl, i, none⟩ = some (.int .i64 (a : Int)) := by subst hi'; exact lc
          clear lc lc' hi'
          go_wp2_with fail
          go_roundw
          case rel => exact ⟨i + 1, by go_num, by omega, HBQ.out⟩
          case measure => simp [RowKit.intOf]; omega
        · have hi' : i = 1 := by omega
          have k0 : (0 : Int) ≤ (i : Int) := by omega
          have k1 : (i : Int) < 2 := by omega
          have ci : wA.cell? ⟨gl, i, none⟩ = some (.int .i64 (d : Int)) := by subst hi'; exact lc'
          clear lc lc' hi'
          go_wp2_with fail
          go_roundw
          case rel => exact ⟨i + 1, by go_num, by omega, HBQ.out⟩
          case measure => simp [RowKit.intOf]; omega
      have hie : i = 2 := by omega
      subst hie
      clear hlt hi
      go_wp2_with fail
      have y0 := cell_blk (i := 0) HXA.out
      have y1 := cell_blk (i := 1) HXA.out
      have y2 := cell_blk (i := 2) HXA.out
      have y3 := cell_blk (i := 3) HXA.out
      have y4 := cell_blk (i := 4) HXA.out
      have y5 := cell_blk (i := 5) HXA.out
      have y6 := cell_blk (i := 6) HXA.out
      have y7 := cell_blk (i := 7) HXA.out
      have y8 := cell_blk (i := 8) HXA.out
      have y9 := cell_blk (i := 9) HXA.out
      simp at y0 y1 y2 y3 y4 y5 y6 y7 y8 y9
      have z0 := cell_blk (i := 0) HYA.out
      have z1 := cell_blk (i := 1) HYA.out
      simp at z0 z1
      refine wp_region_held_drew (S := fun w' => w'.cell? ⟨w.heap.size, 0, none⟩ = some (.slice t.qk t.nk t.ck) ∧ w'.cell? ⟨w.heap.size, 1, none⟩ = some (.slice (some ⟨g, o, none⟩) t.np t.cp) ∧ w'.cell? ⟨w.heap.size, 2, none⟩ = some (.int .i64 t.l0) ∧ w'.cell? ⟨w.heap.size, 3, none⟩ = some (.int .i64 t.l1) ∧ w'.cell? ⟨w.heap.size, 4, none⟩ = some (.int .i64 t.tn) ∧ w'.cell? ⟨w.heap.size, 5, none⟩ = some (.int .u8 t.py) ∧ w'.cell? ⟨w.heap.size, 6, none⟩ = some (.int .i64 t.mo) ∧ w'.cell? ⟨w.heap.size, 7, none⟩ = some (.slice t.qe t.ne t.ce) ∧ w'.cell? ⟨w.heap.size, 8, none⟩ = some (.bool t.b0) ∧ w'.cell? ⟨w.heap.size, 9, none⟩ = some (.bool t.b1) ∧ w'.cell? ⟨w2.heap.size, 0, none⟩ = some (.int .i64 (0)) ∧ w'.cell? ⟨w2.heap.size, 1, none⟩ = some (.int .i64 (0))) (by kernel_rfl) (by (repeat' apply And.intro) <;> go_keep) (fun hHeld => ?_)
      refine take_at (i := 0) (v := ?_) rfl (by kernel_rfl) (by kernel_rfl) (by kernel_rfl) (fun _ _ _ h => h) (Or.inl ⟨by rfl, ?_⟩) hHeld ?_
      rotate_left
      · intro w hSw
        (try dsimp only at hSw)
        go_simp
        try with_reducible rfl
      try simp only [Act.put, List.setIfInBounds_toArray, List.set_cons_zero, List.set_cons_succ]
      try dsimp only
      refine take_at (i := 1) (v := ?_) rfl (by kernel_rfl) (by kernel_rfl) (by kernel_rfl) (fun _ _ _ h => h) (Or.inl ⟨by rfl, ?_⟩) hHeld ?_
      rotate_left
      · intro w hSw
        (try dsimp only at hSw)
        go_simp
        try with_reducible rfl
      try simp only [Act.put, List.setIfInBounds_toArray, List.set_cons_zero, List.set_cons_succ]
      try dsimp only
      refine take_at (i := 3) (v := ?_) rfl (by kernel_rfl) (by kernel_rfl) (by kernel_rfl) (fun _ _ _ h => h) (Or.inl ⟨by rfl, ?_⟩) hHeld ?_
      rotate_left
      · intro w hSw
        (try dsimp only at hSw)
        go_simp
        try with_reducible rfl
      try simp only [Act.put, List.setIfInBounds_toArray, List.set_cons_zero, List.set_cons_succ]
      try dsimp only
      refine take_at (i := 4) (v := ?_) rfl (by kernel_rfl) (by kernel_rfl) (by kernel_rfl) (fun _ _ _ h => h) (Or.inl ⟨by rfl, ?_⟩) hHeld ?_
      rotate_left
      · intro w hSw
        (try dsimp only at hSw)
        go_simp
        try with_reducible rfl
      try simp only [Act.put, List.setIfInBounds_toArray, List.set_cons_zero, List.set_cons_succ]
      try dsimp only
      refine wpAnyH_ready (rs := [2]) (by kernel_rfl) (by simp) ?_
      refine cons_at rfl (fun K hK => ?_) AllReadyH.nil
      go_simp
      (with_reducible refine (hf.out _ ((by repeat (first | (with_reducible exact HBA.out) | (with_reducible refine Below.drew ?_))) : Below w.heap.size w _)).mono ?_)
      rintro e w5 ⟨rfl, b5⟩
      have B5 : Below w.heap.size w w5 := Below.trans ((by repeat (first | (with_reducible exact HBA.out) | (with_reducible refine Below.drew ?_))) : Below w.heap.size w _) (b5.mono (by have := HBA.out.size; first | exact this | (simp; omega) | omega))
      refine hK.out _ _ ⟨cell_later b5 hHeld.1, cell_later b5 hHeld.2.1, cell_later b5 hHeld.2.2.1, cell_later b5 hHeld.2.2.2.1, cell_later b5 hHeld.2.2.2.2.1, cell_later b5 hHeld.2.2.2.2.2.1, cell_later b5 hHeld.2.2.2.2.2.2.1, cell_later b5 hHeld.2.2.2.2.2.2.2.1, cell_later b5 hHeld.2.2.2.2.2.2.2.2.1, cell_later b5 hHeld.2.2.2.2.2.2.2.2.2.1, cell_later b5 hHeld.2.2.2.2.2.2.2.2.2.2.1, cell_later b5 hHeld.2.2.2.2.2.2.2.2.2.2.2⟩ (fun hHeld => ?_)
      clear hK K
      try simp only [Act.put, List.setIfInBounds_toArray, List.set_cons_zero, List.set_cons_succ]
      try dsimp only
      refine wpAnyH_ready (rs := [5]) (by kernel_rfl) (by simp) ?_
      refine cons_at rfl (fun K hK => ?_) AllReadyH.nil
      go_simp
      (with_reducible refine (hfd.out _ ((by repeat (first | (with_reducible exact HBA.out) | (with_reducible exact B5) | (with_reducible refine Below.drew ?_))) : Below w.heap.size w _)).mono ?_)
      rintro e w6 ⟨rfl, b6⟩
      have B6 : Below w.heap.size w w6 := Below.trans ((by repeat (first | (with_reducible exact HBA.out) | (with_reducible exact B5) | (with_reducible refine Below.drew ?_))) : Below w.heap.size w _) (b6.mono (by have := HBA.out.size; have := Below.size B5; first | exact this | (simp; omega) | omega))
      refine hK.out _ _ ⟨cell_later b6 hHeld.1, cell_later b6 hHeld.2.1, cell_later b6 hHeld.2.2.1, cell_later b6 hHeld.2.2.2.1, cell_later b6 hHeld.2.2.2.2.1, cell_later b6 hHeld.2.2.2.2.2.1, cell_later b6 hHeld.2.2.2.2.2.2.1, cell_later b6 hHeld.2.2.2.2.2.2.2.1, cell_later b6 hHeld.2.2.2.2.2.2.2.2.1, cell_later b6 hHeld.2.2.2.2.2.2.2.2.2.1, cell_later b6 hHeld.2.2.2.2.2.2.2.2.2.2.1, cell_later b6 hHeld.2.2.2.2.2.2.2.2.2.2.2⟩ (fun hHeld => ?_)
      clear hK K
      try simp only [Act.put, List.setIfInBounds_toArray, List.set_cons_zero, List.set_cons_succ]
      try dsimp only
      refine take_at (i := 6) (v := ?_) rfl (by kernel_rfl) (by kernel_rfl) (by kernel_rfl) (fun _ _ _ h => h) (Or.inl ⟨by rfl, ?_⟩) hHeld ?_
      rotate_left
      · intro w hSw
        (try dsimp only at hSw)
        go_simp
        try with_reducible rfl
      try simp only [Act.put, List.setIfInBounds_toArray, List.set_cons_zero, List.set_cons_succ]
      try dsimp only
      refine take_at (i := 7) (v := ?_) rfl (by kernel_rfl) (by kernel_rfl) (by kernel_rfl) (fun _ _ _ h => h) (Or.inl ⟨by rfl, ?_⟩) hHeld ?_
      rotate_left
      · intro w hSw
        (try dsimp only at hSw)
        go_simp
        try with_reducible rfl
      try simp only [Act.put, List.setIfInBounds_toArray, List.set_cons_zero, List.set_cons_succ]
      try dsimp only
      refine wpAnyH_done (by kernel_rfl) ?_ _
      clear y0 y1 y2 y3 y4 y5 y6 y7 y8 y9 z0 z1
      obtain ⟨y0, y1, y2, y3, y4, y5, y6, y7, y8, y9, z0, z1⟩ := hHeld
      have HB6 : Hid (Below w.heap.size w w6) := Lib.hid B6
      have c8 := cell_later B6 HC8.out
      have cx := cell_later B6 HCX.out
      have ca := cell_later B6 HCA.out
      have cy := cell_later B6 HCY.out
      clear B5 B6 b5 b6
      go_wp2_with fail
      cases up with
      | false =>
        (with_reducible refine ((ho3.out rfl) _ HB6.out).mono ?_)
        rintro e w7 ⟨⟨v', rfl, hown'⟩, b7⟩
        obtain ⟨gk, ck, rfl⟩ := hown'.none'
        have HB7 := Lib.hid (HB6.out.trans (b7.mono HB6.out.size))
        have y1' := cell_later b7 y1
        have cx' := cell_later b7 cx
        have hl1 := World.block_lt_of_cell? _ _ y1'
        have hl2 := World.block_lt_of_cell? _ _ cx'
        simp only at hl1 hl2
        clear b7 hown' y0 y1 y2 y3 y4 y5 y6 y7 y8 y9 z0 z1 c8 cx ca cy
        obtain ⟨w8, hw8⟩ : ∃ w8, w8 = w7.alloc (.cells #[.int .i64 0, .int .i64 0] 24) := ⟨_, rfl⟩
        have HB8 : Hid (Below w.heap.size w w8) := Lib.hid (by rw [hw8]; exact HB7.out.alloc HB7.out.size _)
        have HW8 := Lib.hid hw8
        clear hw8
        go_wp2_with fail
        rw [← HW8.out]
        (with_reducible refine (hliv.out _).mono ?_)
        rintro e w9 ⟨rfl, b9⟩
        have HB9 := Lib.hid (HB8.out.trans (b9.mono HB8.out.size))
        go_wp2_with fail
        go_ret
        exact ⟨rfl, HB9.out⟩
      | true =>
        (with_reducible refine ((ho2.out rfl) _ HB6.out).mono ?_)
        rintro e w7 ⟨⟨v', rfl, hown'⟩, b7⟩
        obtain ⟨gk, ck, rfl, gkl, kc, kc'⟩ := hown'.two'
        have HB7 := Lib.hid (HB6.out.trans (b7.mono HB6.out.size))
        have y1' := cell_later b7 y1
        have cx' := cell_later b7 cx
        have cy' := cell_later b7 cy
        have hl1 := World.block_lt_of_cell? _ _ y1'
        have hl2 := World.block_lt_of_cell? _ _ cx'
        simp only at hl1 hl2
        have Z0 := Lib.hid (cell_later b7 z0)
        have Z1 := Lib.hid (cell_later b7 z1)
        clear b7 hown' y0 y1 y2 y3 y4 y5 y6 y7 y8 y9 z0 z1 c8 cx ca cy kc kc'
        obtain ⟨w8, hw8⟩ : ∃ w8, w8 = w7.alloc (.cells #[.int .i64 (0), .int .i64 (0)] 24) := ⟨_, rfl⟩
        have b78 : Below w7.heap.size w7 w8 := by rw [hw8]; exact (Below.refl _ _).alloc (Nat.le_refl _) _
        have HB8 := Lib.hid (HB7.out.trans (b78.mono HB7.out.size))
        have HU8 : Hid (w8.heap[w7.heap.size]? = some (.cells #[.int .i64 (0), .int .i64 (0)] 24 (0, 0))) := Lib.hid (by rw [hw8]; exact heap_alloc_new _ _)
        have z0 := cell_later b78 Z0.out
        have z1 := cell_later b78 Z1.out
        have u0 := cell_blk (i := 0) HU8.out
        have u1 := cell_blk (i := 1) HU8.out
        simp at u0 u1
        have HW8 := Lib.hid hw8
        have q0 := fun W => two_eq (0) (0) W
        clear hw8 b78
        go_wp2_with fail
        rw [← HW8.out]
        clear y1' cx' cy'
        refine wp_region_held_drew (S := fun w' => w'.cell? ⟨w2.heap.size, 0, none⟩ = some (.int .i64 (0)) ∧ w'.cell? ⟨w2.heap.size, 1, none⟩ = some (.int .i64 (0)) ∧ w'.cell? ⟨w7.heap.size, 0, none⟩ = some (.int .i64 (0)) ∧ w'.cell? ⟨w7.heap.size, 1, none⟩ = some (.int .i64 (0))) (by kernel_rfl) (by (repeat' apply And.intro) <;> go_keep) (fun hHeld => ?_)
        refine take_at (i := 0) (v := ?_) rfl (by kernel_rfl) (by kernel_rfl) (by kernel_rfl) (fun _ _ _ h => h) (Or.inl ⟨by rfl, ?_⟩) hHeld ?_
        rotate_left
        · intro w hSw
          (try dsimp only at hSw)
          go_simp
          try with_reducible rfl
        try simp only [Act.put, List.setIfInBounds_toArray, List.set_cons_zero, List.set_cons_succ]
        try dsimp only
        refine take_at (i := 1) (v := ?_) rfl (by kernel_rfl) (by kernel_rfl) (by kernel_rfl) (fun _ _ _ h => h) (Or.inl ⟨by rfl, ?_⟩) hHeld ?_
        rotate_left
        · intro w hSw
          (try dsimp only at hSw)
          go_simp
          try with_reducible rfl
        try simp only [Act.put, List.setIfInBounds_toArray, List.set_cons_zero, List.set_cons_succ]
        try dsimp only
        refine take_at (i := 2) (v := ?_) rfl (by kernel_rfl) (by kernel_rfl) (by kernel_rfl) (fun _ _ _ h => h) (Or.inl ⟨by rfl, ?_⟩) hHeld ?_
        rotate_left
        · intro w hSw
          (try dsimp only at hSw)
          go_simp
          try with_reducible rfl
        try simp only [Act.put, List.setIfInBounds_toArray, List.set_cons_zero, List.set_cons_succ]
        try dsimp only
        refine take_at (i := 3) (v := ?_) rfl (by kernel_rfl) (by kernel_rfl) (by kernel_rfl) (fun _ _ _ h => h) (Or.inl ⟨by rfl, ?_⟩) hHeld ?_
        rotate_left
        · intro w hSw
          (try dsimp only at hSw)
          go_simp
          try with_reducible rfl
        try simp only [Act.put, List.setIfInBounds_toArray, List.set_cons_zero, List.set_cons_succ]
        try dsimp only
        refine take_at (i := 4) (v := ?_) rfl (by kernel_rfl) (by kernel_rfl) (by kernel_rfl) (fun _ _ _ h => h) (Or.inl ⟨by rfl, ?_⟩) hHeld ?_
        rotate_left
        · intro w hSw
          (try dsimp only at hSw)
          go_simp
          try with_reducible rfl
        try simp only [Act.put, List.setIfInBounds_toArray, List.set_cons_zero, List.set_cons_succ]
        try dsimp only
        refine take_at (i := 5) (v := ?_) rfl (by kernel_rfl) (by kernel_rfl) (by kernel_rfl) (fun _ _ _ h => h) (Or.inl ⟨by rfl, ?_⟩) hHeld ?_
        rotate_left
        · intro w hSw
          (try dsimp only at hSw)
          go_simp
          try with_reducible rfl
        try simp only [Act.put, List.setIfInBounds_toArray, List.set_cons_zero, List.set_cons_succ]
        try dsimp only
        refine take_at (i := 6) (v := ?_) rfl (by kernel_rfl) (by kernel_rfl) (by kernel_rfl) (fun _ _ _ h => h) (Or.inl ⟨by rfl, ?_⟩) hHeld ?_
        rotate_left
        · intro w hSw
          (try dsimp only at hSw)
          go_simp
          try with_reducible rfl
        try simp only [Act.put, List.setIfInBounds_toArray, List.set_cons_zero, List.set_cons_succ]
        try dsimp only
        refine take_at (i := 7) (v := ?_) rfl (by kernel_rfl) (by kernel_rfl) (by kernel_rfl) (fun _ _ _ h => h) (Or.inl ⟨by rfl, ?_⟩) hHeld ?_
        rotate_left
        · intro w hSw
          (try dsimp only at hSw)
          go_simp
          try with_reducible rfl
        try simp only [Act.put, List.setIfInBounds_toArray, List.set_cons_zero, List.set_cons_succ]
        try dsimp only
        refine take_at (i := 8) (v := ?_) rfl (by kernel_rfl) (by kernel_rfl) (by kernel_rfl) (fun _ _ _ h => h) (Or.inl ⟨by rfl, ?_⟩) hHeld ?_
        rotate_left
        · intro w hSw
          (try dsimp only at hSw)
          go_simp
          try with_reducible rfl
        try simp only [Act.put, List.setIfInBounds_toArray, List.set_cons_zero, List.set_cons_succ]
        try dsimp only
        refine take_at (i := 9) (v := ?_) rfl (by kernel_rfl) (by kernel_rfl) (by kernel_rfl) (fun _ _ _ h => h) (Or.inl ⟨by rfl, ?_⟩) hHeld ?_
        rotate_left
        · intro w hSw
          (try dsimp only at hSw)
          go_simp
          try with_reducible rfl
        try simp only [Act.put, List.setIfInBounds_toArray, List.set_cons_zero, List.set_cons_succ]
        try dsimp only
        refine take_at (i := 10) (v := ?_) rfl (by kernel_rfl) (by kernel_rfl) (by kernel_rfl) (fun _ _ _ h => h) (Or.inl ⟨by rfl, ?_⟩) hHeld ?_
        rotate_left
        · intro w hSw
          (try dsimp only at hSw)
          go_simp
          try with_reducible rfl
        try simp only [Act.put, List.setIfInBounds_toArray, List.set_cons_zero, List.set_cons_succ]
        try dsimp only
        refine take_at (i := 11) (v := ?_) rfl (by kernel_rfl) (by kernel_rfl) (by kernel_rfl) (fun _ _ _ h => h) (Or.inl ⟨by rfl, ?_⟩) hHeld ?_
        rotate_left
        · intro w hSw
          (try dsimp only at hSw)
          go_simp
          try with_reducible rfl
        try simp only [Act.put, List.setIfInBounds_toArray, List.set_cons_zero, List.set_cons_succ]
        try dsimp only
        refine take_at (i := 12) (v := ?_) rfl (by kernel_rfl) (by kernel_rfl) (by kernel_rfl) (fun _ _ _ h => h) (Or.inl ⟨by rfl, ?_⟩) hHeld ?_
        rotate_left
        · intro w hSw
          (try dsimp only at hSw)
          go_simp
          try with_reducible rfl
        try simp only [Act.put, List.setIfInBounds_toArray, List.set_cons_zero, List.set_cons_succ]
        try dsimp only
        refine take_at (i := 13) (v := ?_) rfl (by kernel_rfl) (by kernel_rfl) (by kernel_rfl) (fun _ _ _ h => h) (Or.inl ⟨by rfl, ?_⟩) hHeld ?_
        rotate_left
        · intro w hSw
          (try dsimp only at hSw)
          go_simp
          try with_reducible rfl
        try simp only [Act.put, List.setIfInBounds_toArray, List.set_cons_zero, List.set_cons_succ]
        try dsimp only
        refine take_at (i := 14) (v := ?_) rfl (by kernel_rfl) (by kernel_rfl) (by kernel_rfl) (fun _ _ _ h => h) (Or.inl ⟨by rfl, ?_⟩) hHeld ?_
        rotate_left
        · intro w hSw
          (try dsimp only at hSw)
          go_simp
          try with_reducible rfl
        try simp only [Act.put, List.setIfInBounds_toArray, List.set_cons_zero, List.set_cons_succ]
        try dsimp only
        refine take_at (i := 15) (v := ?_) rfl (by kernel_rfl) (by kernel_rfl) (by kernel_rfl) (fun _ _ _ h => h) (Or.inl ⟨by rfl, ?_⟩) hHeld ?_
        rotate_left
        · intro w hSw
          (try dsimp only at hSw)
          go_simp
          try with_reducible rfl
        try simp only [Act.put, List.setIfInBounds_toArray, List.set_cons_zero, List.set_cons_succ]
        try dsimp only
        refine take_at (i := 16) (v := ?_) rfl (by kernel_rfl) (by kernel_rfl) (by kernel_rfl) (fun _ _ _ h => h) (Or.inl ⟨by rfl, ?_⟩) hHeld ?_
        rotate_left
        · intro w hSw
          (try dsimp only at hSw)
          go_simp
          try with_reducible rfl
        try simp only [Act.put, List.setIfInBounds_toArray, List.set_cons_zero, List.set_cons_succ]
        try dsimp only
        refine take_at (i := 17) (v := ?_) rfl (by kernel_rfl) (by kernel_rfl) (by kernel_rfl) (fun _ _ _ h => h) (Or.inl ⟨by rfl, ?_⟩) hHeld ?_
        rotate_left
        · intro w hSw
          (try dsimp only at hSw)
          go_simp
          try with_reducible rfl
        try simp only [Act.put, List.setIfInBounds_toArray, List.set_cons_zero, List.set_cons_succ]
        try dsimp only
        refine take_at (i := 18) (v := ?_) rfl (by kernel_rfl) (by kernel_rfl) (by kernel_rfl) (fun _ _ _ h => h) (Or.inl ⟨by rfl, ?_⟩) hHeld ?_
        rotate_left
        · intro w hSw
          (try dsimp only at hSw)
          go_simp
          try with_reducible rfl
        try simp only [Act.put, List.setIfInBounds_toArray, List.set_cons_zero, List.set_cons_succ]
        try dsimp only
        refine take_at (i := 19) (v := undef) rfl (by kernel_rfl) (by kernel_rfl) (by kernel_rfl) (fun _ _ _ h => h) (Or.inr ⟨by rfl, rfl⟩) hHeld ?_
        try simp only [Act.put, List.setIfInBounds_toArray, List.set_cons_zero, List.set_cons_succ]
        try dsimp only
        refine take_at (i := 20) (v := undef) rfl (by kernel_rfl) (by kernel_rfl) (by kernel_rfl) (fun _ _ _ h => h) (Or.inr ⟨by rfl, rfl⟩) hHeld ?_
        try simp only [Act.put, List.setIfInBounds_toArray, List.set_cons_zero, List.set_cons_succ]
        try dsimp only
        refine take_at (i := 21) (v := undef) rfl (by kernel_rfl) (by kernel_rfl) (by kernel_rfl) (fun _ _ _ h => h) (Or.inr ⟨by rfl, rfl⟩) hHeld ?_
        try simp only [Act.put, List.setIfInBounds_toArray, List.set_cons_zero, List.set_cons_succ]
        try dsimp only
        refine take_at (i := 22) (v := undef) rfl (by kernel_rfl) (by kernel_rfl) (by kernel_rfl) (fun _ _ _ h => h) (Or.inr ⟨by rfl, rfl⟩) hHeld ?_
        try simp only [Act.put, List.setIfInBounds_toArray, List.set_cons_zero, List.set_cons_succ]
        try dsimp only
        refine take_at (i := 23) (v := undef) rfl (by kernel_rfl) (by kernel_rfl) (by kernel_rfl) (fun _ _ _ h => h) (Or.inr ⟨by rfl, rfl⟩) hHeld ?_
        try simp only [Act.put, List.setIfInBounds_toArray, List.set_cons_zero, List.set_cons_succ]
        try dsimp only
        refine take_at (i := 24) (v := undef) rfl (by kernel_rfl) (by kernel_rfl) (by kernel_rfl) (fun _ _ _ h => h) (Or.inr ⟨by rfl, rfl⟩) hHeld ?_
        try simp only [Act.put, List.setIfInBounds_toArray, List.set_cons_zero, List.set_cons_succ]
        try dsimp only
        refine take_at (i := 25) (v := undef) rfl (by kernel_rfl) (by kernel_rfl) (by kernel_rfl) (fun _ _ _ h => h) (Or.inr ⟨by rfl, rfl⟩) hHeld ?_
        try simp only [Act.put, List.setIfInBounds_toArray, List.set_cons_zero, List.set_cons_succ]
        try dsimp only
        refine take_at (i := 26) (v := ?_) rfl (by kernel_rfl) (by kernel_rfl) (by kernel_rfl) (fun _ _ _ h => h) (Or.inl ⟨by rfl, ?_⟩) hHeld ?_
        rotate_left
        · intro w hSw
          (try dsimp only at hSw)
          go_simp
          try with_reducible rfl
        try simp only [Act.put, List.setIfInBounds_toArray, List.set_cons_zero, List.set_cons_succ]
        try dsimp only
        refine take_at (i := 27) (v := ?_) rfl (by kernel_rfl) (by kernel_rfl) (by kernel_rfl) (fun _ _ _ h => h) (Or.inl ⟨by rfl, ?_⟩) hHeld ?_
        rotate_left
        · intro w hSw
          (try dsimp only at hSw)
          go_simp
          try with_reducible rfl
        try simp only [Act.put, List.setIfInBounds_toArray, List.set_cons_zero, List.set_cons_succ]
        try dsimp only
        refine take_at (i := 28) (v := ?_) rfl (by kernel_rfl) (by kernel_rfl) (by kernel_rfl) (fun _ _ _ h => h) (Or.inl ⟨by rfl, ?_⟩) hHeld ?_
        rotate_left
        · intro w hSw
          (try dsimp only at hSw)
          go_simp
          try with_reducible rfl
        try simp only [Act.put, List.setIfInBounds_toArray, List.set_cons_zero, List.set_cons_succ]
        try dsimp only
        refine wpAnyH_ready (rs := [29]) (by kernel_rfl) (by simp) ?_
        refine cons_at rfl (fun K hK => ?_) AllReadyH.nil
        go_simp
        (with_reducible refine (hliv.out _).mono ?_)
        rintro e w9 ⟨rfl, b9⟩
        have B9 : Below w.heap.size w w9 := Below.trans ((by repeat (first | (with_reducible exact HB8.out) | (with_reducible refine Below.drew ?_))) : Below w.heap.size w _) (b9.mono (by have := HB8.out.size; first | exact this | (simp; omega) | omega))
        refine hK.out _ _ ⟨cell_later b9 hHeld.1, cell_later b9 hHeld.2.1, cell_later b9 hHeld.2.2.1, cell_later b9 hHeld.2.2.2⟩ (fun hHeld => ?_)
        clear hK K
        try simp only [Act.put, List.setIfInBounds_toArray, List.set_cons_zero, List.set_cons_succ]
        try dsimp only
        refine take_at (i := 30) (v := ?_) rfl (by kernel_rfl) (by kernel_rfl) (by kernel_rfl) (fun _ _ _ h => h) (Or.inl ⟨by rfl, ?_⟩) hHeld ?_
        rotate_left
        · intro w hSw
          (try dsimp only at hSw)
          go_simp
          try with_reducible rfl
        try simp only [Act.put, List.setIfInBounds_toArray, List.set_cons_zero, List.set_cons_succ]
        try dsimp only
        refine take_at (i := 31) (v := ?_) rfl (by kernel_rfl) (by kernel_rfl) (by kernel_rfl) (fun _ _ _ h => h) (Or.inl ⟨by rfl, ?_⟩) hHeld ?_
        rotate_left
        · intro w hSw
          (try dsimp only at hSw)
          go_simp
          try with_reducible rfl
        try simp only [Act.put, List.setIfInBounds_toArray, List.set_cons_zero, List.set_cons_succ]
        try dsimp only
        refine wpAnyH_done (by kernel_rfl) ?_ _
        go_wp2_with fail
        go_ret
        exact ⟨rfl, B9⟩

set_option maxHeartbeats 32000000 in
set_option maxRecDepth 100000 in
theorem highfair1_eqz (t : Tb) (up : Bool) (a d : Nat) (A B M D : Int) (w : World) (hca : a < t.np ∧ ∃ g o, t.qp = some ⟨g, o, none⟩ ∧ w.cell? ⟨g, o + a * 14 + 4, none⟩ = some (.int .u8 1)) (hdl : d < t.np) (hcd : ∃ g o, t.qp = some ⟨g, o, none⟩ ∧ w.cell? ⟨g, o + d * 14 + 8, none⟩ = some (.bool false) ∧ w.cell? ⟨g, o + d * 14 + 7, none⟩ = some (.bool up) ∧ w.cell? ⟨g, o + a * 14 + 8, none⟩ = some (.bool false)) (hne : a ≠ d) (hA : 0 ≤ A ∧ A ≤ 99999) (hB : 0 ≤ M ∧ M ≤ 99999) (hD : 0 < D) (hc : A = B) (hMB : M = B) (ho : ∀ W, Below w.heap.size w W → Calls Try.prog 8 #[.agg t.row, .int .i64 a, .int .i64 d] W (OutEnds ((0, 0), []) 0 W)) (hf : ∀ W, Below w.heap.size w W → Calls Try.prog 15 #[.agg t.row, .int .i64 a] W fun e w' => e = .returned (.int .i64 A) ∧ Below W.heap.size W w') (hfd : ∀ W, Below w.heap.size w W → Calls Try.prog 15 #[.agg t.row, .int .i64 d] W fun e w' => e = .returned (.int .i64 M) ∧ Below W.heap.size W w') (ho2 : up = true → ∀ W, Below w.heap.size w W → Calls Try.prog 8 #[.agg t.row, .int .i64 d, .int .i64 a] W (OutEnds ((0, 0), []) 0 W)) (ho3 : up = false → ∀ W, Below w.heap.size w W → Calls Try.prog 8 #[.agg t.row, .int .i64 d, .int .i64 a] W (OutEnds ((0, 0), []) 2 W)) : Calls Try.prog 4 #[.agg t.row, .int .i64 a, .int .i64 d] w fun e w' => e = .returned (.bool true) ∧ Below w.heap.size w w' := by
  have uw0 : IntKind.u8.wrap 0 = 0 := by kernel_rfl
  have uw1 : IntKind.u8.wrap 1 = 1 := by kernel_rfl
  have hgr := Lib.hid fun W => fgreat_any t W
  have hliv := Lib.hid fun W => flives_any W
  have ho := Lib.hid ho
  have hf := Lib.hid hf
  have hfd := Lib.hid hfd
  subst hMB
  have ho2 := Lib.hid ho2
  have ho3 := Lib.hid ho3
  obtain ⟨hal, g, o, hq, ca⟩ := hca
  obtain ⟨g', o', hq', c8, cx, cy⟩ := hcd
  rw [hq, Option.some.injEq, Addr.mk.injEq] at hq'
  obtain ⟨rfl, rfl, -⟩ := hq'
  have hgw := World.block_lt_of_cell? _ _ ca
  simp only at hgw
  have HCA := Lib.hid ca
  have HC8 := Lib.hid c8
  have HCX := Lib.hid cx
  have HCY := Lib.hid cy
  have i0 : (0 : Int) ≤ (a : Int) := by omega
  have i1 : (a : Int) < (t.np : Int) := by omega
  have j0 : (0 : Int) ≤ (d : Int) := by omega
  have j1 : (d : Int) < (t.np : Int) := by omega
  have dn : ((d : Int) == -1) = false := by first | (simp; done) | (simp; omega)
  have ad : ((a : Int) != (d : Int)) = true := by simp; omega
  have da : ((d : Int) != (a : Int)) = true := by simp; omega
  have nD : ¬ D < 0 := by omega
  have pD : D > 0 := hD
  clear ca c8 cx cy hA hB hD hc hne hal hdl
  obtain ⟨w0, hw0⟩ : ∃ w0, w0 = w.alloc (.cells t.row 28) := ⟨_, rfl⟩
  have hb0 : Below w.heap.size w w0 := by rw [hw0]; exact (Below.refl _ _).alloc (Nat.le_refl _) _
  have hx0 : w0.heap[w.heap.size]? = some (.cells t.row 28 (0, 0)) := by rw [hw0]; exact heap_alloc_new _ _
  have HB0 := Lib.hid hb0
  have HX0 := Lib.hid hx0
  have HW0 := Lib.hid hw0
  clear hb0 hx0 hw0
  simp only [Tb.row] at *
  rw [hq] at hgr ho hf hfd ho2 ho3 HX0 HW0 ⊢
  clear hq
  go_enter Try.func4, Try.ntmps4
  go_wp2_with fail
  rw [← HW0.out]
  (with_reducible refine (hgr.out _).mono ?_)
  rintro e w1 ⟨⟨bg, rfl⟩, b1⟩
  have HB1 := Lib.hid (HB0.out.trans (b1.mono HB0.out.size))
  have HX1 := Lib.hid ((b1.block _ (heap_lt HX0.out)).trans HX0.out)
  clear b1
  cases bg with
  | true =>
    go_wp2_with fail
    (with_reducible refine (hliv.out _).mono ?_)
    rintro e w2 ⟨rfl, b2⟩
    have HB2 := Lib.hid (HB1.out.trans (b2.mono HB1.out.size))
    clear b2
    go_wp2_with fail
    go_ret
    exact ⟨rfl, HB2.out⟩
  | false =>
    have hlt1 := heap_lt HX1.out
    have y0 := cell_blk (i := 0) HX1.out
    have y1 := cell_blk (i := 1) HX1.out
    have y2 := cell_blk (i := 2) HX1.out
    have y3 := cell_blk (i := 3) HX1.out
    have y4 := cell_blk (i := 4) HX1.out
    have y5 := cell_blk (i := 5) HX1.out
    have y6 := cell_blk (i := 6) HX1.out
    have y7 := cell_blk (i := 7) HX1.out
    have y8 := cell_blk (i := 8) HX1.out
    have y9 := cell_blk (i := 9) HX1.out
    simp at y0 y1 y2 y3 y4 y5 y6 y7 y8 y9
    go_wp2_with fail
    (with_reducible refine (ho.out _ HB1.out).mono ?_)
    rintro e w2 ⟨⟨v, rfl, hown⟩, b2⟩
    have HB2 := Lib.hid (HB1.out.trans (b2.mono HB1.out.size))
    have HX2 := Lib.hid ((b2.block _ (heap_lt HX1.out)).trans HX1.out)
    clear b2 hlt1 y0 y1 y2 y3 y4 y5 y6 y7 y8 y9
    obtain ⟨gl, c, rfl⟩ := hown.none'
    obtain ⟨w3, hw3⟩ : ∃ w3, w3 = w2.alloc (.cells #[.int .i64 (0), .int .i64 (0)] 24) := ⟨_, rfl⟩
    have b23 : Below w2.heap.size w2 w3 := by rw [hw3]; exact (Below.refl _ _).alloc (Nat.le_refl _) _
    have HY3 : Hid (w3.heap[w2.heap.size]? = some (.cells #[.int .i64 (0), .int .i64 (0)] 24 (0, 0))) := Lib.hid (by rw [hw3]; exact heap_alloc_new _ _)
    have HB3 := Lib.hid (HB2.out.trans (b23.mono HB2.out.size))
    have HX3 := Lib.hid ((b23.block _ (heap_lt HX2.out)).trans HX2.out)
    have HW3 := Lib.hid hw3
    have ca := cell_later HB2.out HCA.out
    have hg2 : g < w2.heap.size := Nat.lt_of_lt_of_le hgw HB2.out.size
    have hlt2 := heap_lt HX2.out
    have y1 := cell_blk (i := 1) HX2.out
    simp at y1
    clear hown b23 hw3
    go_wp2_with fail
    rw [← HW3.out]
    clear y1 ca
    go_loopw [97] (fun vi wr => vi = .int .i64 0 ∧ Below w3.heap.size w3 wr) (fun _ _ => 0)
    case atStart => exact ⟨rfl, Below.refl _ _⟩
    case round =>
      obtain ⟨rfl, hbw⟩ := hrel
      rename World => wA
      have HBA := Lib.hid (HB3.out.trans (hbw.mono HB3.out.size))
      have HXA := Lib.hid ((hbw.block _ (heap_lt HX3.out)).trans HX3.out)
      have HYA := Lib.hid ((hbw.block _ (heap_lt HY3.out)).trans HY3.out)
      clear hbw
      go_wp2_with fail
      have y0 := cell_blk (i := 0) HXA.out
      have y1 := cell_blk (i := 1) HXA.out
      have y2 := cell_blk (i := 2) HXA.out
      have y3 := cell_blk (i := 3) HXA.out
      have y4 := cell_blk (i := 4) HXA.out
      have y5 := cell_blk (i := 5) HXA.out
      have y6 := cell_blk (i := 6) HXA.out
      have y7 := cell_blk (i := 7) HXA.out
      have y8 := cell_blk (i := 8) HXA.out
      have y9 := cell_blk (i := 9) HXA.out
      simp at y0 y1 y2 y3 y4 y5 y6 y7 y8 y9
      have z0 := cell_blk (i := 0) HYA.out
      have z1 := cell_blk (i := 1) HYA.out
      simp at z0 z1
      refine wp_region_held_drew (S := fun w' => w'.cell? ⟨w.heap.size, 0, none⟩ = some (.slice t.qk t.nk t.ck) ∧ w'.cell? ⟨w.heap.size, 1, none⟩ = some (.slice (some ⟨g, o, none⟩) t.np t.cp) ∧ w'.cell? ⟨w.heap.size, 2, none⟩ = some (.int .i64 t.l0) ∧ w'.cell? ⟨w.heap.size, 3, none⟩ = some (.int .i64 t.l1) ∧ w'.cell? ⟨w.heap.size, 4, none⟩ = some (.int .i64 t.tn) ∧ w'.cell? ⟨w.heap.size, 5, none⟩ = some (.int .u8 t.py) ∧ w'.cell? ⟨w.heap.size, 6, none⟩ = some (.int .i64 t.mo) ∧ w'.cell? ⟨w.heap.size, 7, none⟩ = some (.slice t.qe t.ne t.ce) ∧ w'.cell? ⟨w.heap.size, 8, none⟩ = some (.bool t.b0) ∧ w'.cell? ⟨w.heap.size, 9, none⟩ = some (.bool t.b1) ∧ w'.cell? ⟨w2.heap.size, 0, none⟩ = some (.int .i64 (0)) ∧ w'.cell? ⟨w2.heap.size, 1, none⟩ = some (.int .i64 (0))) (by kernel_rfl) (by (repeat' apply And.intro) <;> go_keep) (fun hHeld => ?_)
      refine take_at (i := 0) (v := ?_) rfl (by kernel_rfl) (by kernel_rfl) (by kernel_rfl) (fun _ _ _ h => h) (Or.inl ⟨by rfl, ?_⟩) hHeld ?_
      rotate_left
      · intro w hSw
        (try dsimp only at hSw)
        go_simp
        try with_reducible rfl
      try simp only [Act.put, List.setIfInBounds_toArray, List.set_cons_zero, List.set_cons_succ]
      try dsimp only
      refine take_at (i := 1) (v := ?_) rfl (by kernel_rfl) (by kernel_rfl) (by kernel_rfl) (fun _ _ _ h => h) (Or.inl ⟨by rfl, ?_⟩) hHeld ?_
      rotate_left
      · intro w hSw
        (try dsimp only at hSw)
        go_simp
        try with_reducible rfl
      try simp only [Act.put, List.setIfInBounds_toArray, List.set_cons_zero, List.set_cons_succ]
      try dsimp only
      refine take_at (i := 3) (v := ?_) rfl (by kernel_rfl) (by kernel_rfl) (by kernel_rfl) (fun _ _ _ h => h) (Or.inl ⟨by rfl, ?_⟩) hHeld ?_
      rotate_left
      · intro w hSw
        (try dsimp only at hSw)
        go_simp
        try with_reducible rfl
      try simp only [Act.put, List.setIfInBounds_toArray, List.set_cons_zero, List.set_cons_succ]
      try dsimp only
      refine take_at (i := 4) (v := ?_) rfl (by kernel_rfl) (by kernel_rfl) (by kernel_rfl) (fun _ _ _ h => h) (Or.inl ⟨by rfl, ?_⟩) hHeld ?_
      rotate_left
      · intro w hSw
        (try dsimp only at hSw)
        go_simp
        try with_reducible rfl
      try simp only [Act.put, List.setIfInBounds_toArray, List.set_cons_zero, List.set_cons_succ]
      try dsimp only
      refine wpAnyH_ready (rs := [2]) (by kernel_rfl) (by simp) ?_
      refine cons_at rfl (fun K hK => ?_) AllReadyH.nil
      go_simp
      (with_reducible refine (hf.out _ ((by repeat (first | (with_reducible exact HBA.out) | (with_reducible refine Below.drew ?_))) : Below w.heap.size w _)).mono ?_)
      rintro e w5 ⟨rfl, b5⟩
      have B5 : Below w.heap.size w w5 := Below.trans ((by repeat (first | (with_reducible exact HBA.out) | (with_reducible refine Below.drew ?_))) : Below w.heap.size w _) (b5.mono (by have := HBA.out.size; first | exact this | (simp; omega) | omega))
      refine hK.out _ _ ⟨cell_later b5 hHeld.1, cell_later b5 hHeld.2.1, cell_later b5 hHeld.2.2.1, cell_later b5 hHeld.2.2.2.1, cell_later b5 hHeld.2.2.2.2.1, cell_later b5 hHeld.2.2.2.2.2.1, cell_later b5 hHeld.2.2.2.2.2.2.1, cell_later b5 hHeld.2.2.2.2.2.2.2.1, cell_later b5 hHeld.2.2.2.2.2.2.2.2.1, cell_later b5 hHeld.2.2.2.2.2.2.2.2.2.1, cell_later b5 hHeld.2.2.2.2.2.2.2.2.2.2.1, cell_later b5 hHeld.2.2.2.2.2.2.2.2.2.2.2⟩ (fun hHeld => ?_)
      clear hK K
      try simp only [Act.put, List.setIfInBounds_toArray, List.set_cons_zero, List.set_cons_succ]
      try dsimp only
      refine wpAnyH_ready (rs := [5]) (by kernel_rfl) (by simp) ?_
      refine cons_at rfl (fun K hK => ?_) AllReadyH.nil
      go_simp
      (with_reducible refine (hfd.out _ ((by repeat (first | (with_reducible exact HBA.out) | (with_reducible exact B5) | (with_reducible refine Below.drew ?_))) : Below w.heap.size w _)).mono ?_)
      rintro e w6 ⟨rfl, b6⟩
      have B6 : Below w.heap.size w w6 := Below.trans ((by repeat (first | (with_reducible exact HBA.out) | (with_reducible exact B5) | (with_reducible refine Below.drew ?_))) : Below w.heap.size w _) (b6.mono (by have := HBA.out.size; have := Below.size B5; first | exact this | (simp; omega) | omega))
      refine hK.out _ _ ⟨cell_later b6 hHeld.1, cell_later b6 hHeld.2.1, cell_later b6 hHeld.2.2.1, cell_later b6 hHeld.2.2.2.1, cell_later b6 hHeld.2.2.2.2.1, cell_later b6 hHeld.2.2.2.2.2.1, cell_later b6 hHeld.2.2.2.2.2.2.1, cell_later b6 hHeld.2.2.2.2.2.2.2.1, cell_later b6 hHeld.2.2.2.2.2.2.2.2.1, cell_later b6 hHeld.2.2.2.2.2.2.2.2.2.1, cell_later b6 hHeld.2.2.2.2.2.2.2.2.2.2.1, cell_later b6 hHeld.2.2.2.2.2.2.2.2.2.2.2⟩ (fun hHeld => ?_)
      clear hK K
      try simp only [Act.put, List.setIfInBounds_toArray, List.set_cons_zero, List.set_cons_succ]
      try dsimp only
      refine take_at (i := 6) (v := ?_) rfl (by kernel_rfl) (by kernel_rfl) (by kernel_rfl) (fun _ _ _ h => h) (Or.inl ⟨by rfl, ?_⟩) hHeld ?_
      rotate_left
      · intro w hSw
        (try dsimp only at hSw)
        go_simp
        try with_reducible rfl
      try simp only [Act.put, List.setIfInBounds_toArray, List.set_cons_zero, List.set_cons_succ]
      try dsimp only
      refine take_at (i := 7) (v := ?_) rfl (by kernel_rfl) (by kernel_rfl) (by kernel_rfl) (fun _ _ _ h => h) (Or.inl ⟨by rfl, ?_⟩) hHeld ?_
      rotate_left
      · intro w hSw
        (try dsimp only at hSw)
        go_simp
        try with_reducible rfl
      try simp only [Act.put, List.setIfInBounds_toArray, List.set_cons_zero, List.set_cons_succ]
      try dsimp only
      refine wpAnyH_done (by kernel_rfl) ?_ _
      clear y0 y1 y2 y3 y4 y5 y6 y7 y8 y9 z0 z1
      obtain ⟨y0, y1, y2, y3, y4, y5, y6, y7, y8, y9, z0, z1⟩ := hHeld
      have HB6 : Hid (Below w.heap.size w w6) := Lib.hid B6
      have c8 := cell_later B6 HC8.out
      have cx := cell_later B6 HCX.out
      have ca := cell_later B6 HCA.out
      have cy := cell_later B6 HCY.out
      clear B5 B6 b5 b6
      go_wp2_with fail
      cases up with
      | false =>
        (with_reducible refine ((ho3.out rfl) _ HB6.out).mono ?_)
        rintro e w7 ⟨⟨v', rfl, hown'⟩, b7⟩
        obtain ⟨gk, ck, rfl⟩ := hown'.none'
        have HB7 := Lib.hid (HB6.out.trans (b7.mono HB6.out.size))
        have y1' := cell_later b7 y1
        have cx' := cell_later b7 cx
        have hl1 := World.block_lt_of_cell? _ _ y1'
        have hl2 := World.block_lt_of_cell? _ _ cx'
        simp only at hl1 hl2
        clear b7 hown' y0 y1 y2 y3 y4 y5 y6 y7 y8 y9 z0 z1 c8 cx ca cy
        obtain ⟨w8, hw8⟩ : ∃ w8, w8 = w7.alloc (.cells #[.int .i64 0, .int .i64 0] 24) := ⟨_, rfl⟩
        have HB8 : Hid (Below w.heap.size w w8) := Lib.hid (by rw [hw8]; exact HB7.out.alloc HB7.out.size _)
        have HW8 := Lib.hid hw8
        clear hw8
        go_wp2_with fail
        rw [← HW8.out]
        (with_reducible refine (hliv.out _).mono ?_)
        rintro e w9 ⟨rfl, b9⟩
        have HB9 := Lib.hid (HB8.out.trans (b9.mono HB8.out.size))
        go_wp2_with fail
        go_ret
        exact ⟨rfl, HB9.out⟩
      | true =>
        (with_reducible refine ((ho2.out rfl) _ HB6.out).mono ?_)
        rintro e w7 ⟨⟨v', rfl, hown'⟩, b7⟩
        obtain ⟨gk, ck, rfl⟩ := hown'.none'
        have HB7 := Lib.hid (HB6.out.trans (b7.mono HB6.out.size))
        have y1' := cell_later b7 y1
        have cx' := cell_later b7 cx
        have cy' := cell_later b7 cy
        have hl1 := World.block_lt_of_cell? _ _ y1'
        have hl2 := World.block_lt_of_cell? _ _ cx'
        simp only at hl1 hl2
        have Z0 := Lib.hid (cell_later b7 z0)
        have Z1 := Lib.hid (cell_later b7 z1)
        clear b7 hown' y0 y1 y2 y3 y4 y5 y6 y7 y8 y9 z0 z1 c8 cx ca cy
        obtain ⟨w8, hw8⟩ : ∃ w8, w8 = w7.alloc (.cells #[.int .i64 (0), .int .i64 (0)] 24) := ⟨_, rfl⟩
        have b78 : Below w7.heap.size w7 w8 := by rw [hw8]; exact (Below.refl _ _).alloc (Nat.le_refl _) _
        have HB8 := Lib.hid (HB7.out.trans (b78.mono HB7.out.size))
        have HU8 : Hid (w8.heap[w7.heap.size]? = some (.cells #[.int .i64 (0), .int .i64 (0)] 24 (0, 0))) := Lib.hid (by rw [hw8]; exact heap_alloc_new _ _)
        have z0 := cell_later b78 Z0.out
        have z1 := cell_later b78 Z1.out
        have u0 := cell_blk (i := 0) HU8.out
        have u1 := cell_blk (i := 1) HU8.out
        simp at u0 u1
        have HW8 := Lib.hid hw8
        have q0 := fun W => two_eq (0) (0) W
        clear hw8 b78
        go_wp2_with fail
        rw [← HW8.out]
        clear y1' cx' cy'
        refine wp_region_held_drew (S := fun w' => w'.cell? ⟨w2.heap.size, 0, none⟩ = some (.int .i64 (0)) ∧ w'.cell? ⟨w2.heap.size, 1, none⟩ = some (.int .i64 (0)) ∧ w'.cell? ⟨w7.heap.size, 0, none⟩ = some (.int .i64 (0)) ∧ w'.cell? ⟨w7.heap.size, 1, none⟩ = some (.int .i64 (0))) (by kernel_rfl) (by (repeat' apply And.intro) <;> go_keep) (fun hHeld => ?_)
        refine take_at (i := 0) (v := ?_) rfl (by kernel_rfl) (by kernel_rfl) (by kernel_rfl) (fun _ _ _ h => h) (Or.inl ⟨by rfl, ?_⟩) hHeld ?_
        rotate_left
        · intro w hSw
          (try dsimp only at hSw)
          go_simp
          try with_reducible rfl
        try simp only [Act.put, List.setIfInBounds_toArray, List.set_cons_zero, List.set_cons_succ]
        try dsimp only
        refine take_at (i := 1) (v := ?_) rfl (by kernel_rfl) (by kernel_rfl) (by kernel_rfl) (fun _ _ _ h => h) (Or.inl ⟨by rfl, ?_⟩) hHeld ?_
        rotate_left
        · intro w hSw
          (try dsimp only at hSw)
          go_simp
          try with_reducible rfl
        try simp only [Act.put, List.setIfInBounds_toArray, List.set_cons_zero, List.set_cons_succ]
        try dsimp only
        refine take_at (i := 2) (v := ?_) rfl (by kernel_rfl) (by kernel_rfl) (by kernel_rfl) (fun _ _ _ h => h) (Or.inl ⟨by rfl, ?_⟩) hHeld ?_
        rotate_left
        · intro w hSw
          (try dsimp only at hSw)
          go_simp
          try with_reducible rfl
        try simp only [Act.put, List.setIfInBounds_toArray, List.set_cons_zero, List.set_cons_succ]
        try dsimp only
        refine take_at (i := 3) (v := ?_) rfl (by kernel_rfl) (by kernel_rfl) (by kernel_rfl) (fun _ _ _ h => h) (Or.inl ⟨by rfl, ?_⟩) hHeld ?_
        rotate_left
        · intro w hSw
          (try dsimp only at hSw)
          go_simp
          try with_reducible rfl
        try simp only [Act.put, List.setIfInBounds_toArray, List.set_cons_zero, List.set_cons_succ]
        try dsimp only
        refine take_at (i := 4) (v := ?_) rfl (by kernel_rfl) (by kernel_rfl) (by kernel_rfl) (fun _ _ _ h => h) (Or.inl ⟨by rfl, ?_⟩) hHeld ?_
        rotate_left
        · intro w hSw
          (try dsimp only at hSw)
          go_simp
          try with_reducible rfl
        try simp only [Act.put, List.setIfInBounds_toArray, List.set_cons_zero, List.set_cons_succ]
        try dsimp only
        refine take_at (i := 5) (v := ?_) rfl (by kernel_rfl) (by kernel_rfl) (by kernel_rfl) (fun _ _ _ h => h) (Or.inl ⟨by rfl, ?_⟩) hHeld ?_
        rotate_left
        · intro w hSw
          (try dsimp only at hSw)
          go_simp
          try with_reducible rfl
        try simp only [Act.put, List.setIfInBounds_toArray, List.set_cons_zero, List.set_cons_succ]
        try dsimp only
        refine take_at (i := 6) (v := ?_) rfl (by kernel_rfl) (by kernel_rfl) (by kernel_rfl) (fun _ _ _ h => h) (Or.inl ⟨by rfl, ?_⟩) hHeld ?_
        rotate_left
        · intro w hSw
          (try dsimp only at hSw)
          go_simp
          try with_reducible rfl
        try simp only [Act.put, List.setIfInBounds_toArray, List.set_cons_zero, List.set_cons_succ]
        try dsimp only
        refine take_at (i := 7) (v := ?_) rfl (by kernel_rfl) (by kernel_rfl) (by kernel_rfl) (fun _ _ _ h => h) (Or.inl ⟨by rfl, ?_⟩) hHeld ?_
        rotate_left
        · intro w hSw
          (try dsimp only at hSw)
          go_simp
          try with_reducible rfl
        try simp only [Act.put, List.setIfInBounds_toArray, List.set_cons_zero, List.set_cons_succ]
        try dsimp only
        refine take_at (i := 8) (v := ?_) rfl (by kernel_rfl) (by kernel_rfl) (by kernel_rfl) (fun _ _ _ h => h) (Or.inl ⟨by rfl, ?_⟩) hHeld ?_
        rotate_left
        · intro w hSw
          (try dsimp only at hSw)
          go_simp
          try with_reducible rfl
        try simp only [Act.put, List.setIfInBounds_toArray, List.set_cons_zero, List.set_cons_succ]
        try dsimp only
        refine take_at (i := 9) (v := ?_) rfl (by kernel_rfl) (by kernel_rfl) (by kernel_rfl) (fun _ _ _ h => h) (Or.inl ⟨by rfl, ?_⟩) hHeld ?_
        rotate_left
        · intro w hSw
          (try dsimp only at hSw)
          go_simp
          try with_reducible rfl
        try simp only [Act.put, List.setIfInBounds_toArray, List.set_cons_zero, List.set_cons_succ]
        try dsimp only
        refine take_at (i := 10) (v := ?_) rfl (by kernel_rfl) (by kernel_rfl) (by kernel_rfl) (fun _ _ _ h => h) (Or.inl ⟨by rfl, ?_⟩) hHeld ?_
        rotate_left
        · intro w hSw
          (try dsimp only at hSw)
          go_simp
          try with_reducible rfl
        try simp only [Act.put, List.setIfInBounds_toArray, List.set_cons_zero, List.set_cons_succ]
        try dsimp only
        refine take_at (i := 11) (v := ?_) rfl (by kernel_rfl) (by kernel_rfl) (by kernel_rfl) (fun _ _ _ h => h) (Or.inl ⟨by rfl, ?_⟩) hHeld ?_
        rotate_left
        · intro w hSw
          (try dsimp only at hSw)
          go_simp
          try with_reducible rfl
        try simp only [Act.put, List.setIfInBounds_toArray, List.set_cons_zero, List.set_cons_succ]
        try dsimp only
        refine take_at (i := 12) (v := ?_) rfl (by kernel_rfl) (by kernel_rfl) (by kernel_rfl) (fun _ _ _ h => h) (Or.inl ⟨by rfl, ?_⟩) hHeld ?_
        rotate_left
        · intro w hSw
          (try dsimp only at hSw)
          go_simp
          try with_reducible rfl
        try simp only [Act.put, List.setIfInBounds_toArray, List.set_cons_zero, List.set_cons_succ]
        try dsimp only
        refine take_at (i := 13) (v := ?_) rfl (by kernel_rfl) (by kernel_rfl) (by kernel_rfl) (fun _ _ _ h => h) (Or.inl ⟨by rfl, ?_⟩) hHeld ?_
        rotate_left
        · intro w hSw
          (try dsimp only at hSw)
          go_simp
          try with_reducible rfl
        try simp only [Act.put, List.setIfInBounds_toArray, List.set_cons_zero, List.set_cons_succ]
        try dsimp only
        refine take_at (i := 14) (v := ?_) rfl (by kernel_rfl) (by kernel_rfl) (by kernel_rfl) (fun _ _ _ h => h) (Or.inl ⟨by rfl, ?_⟩) hHeld ?_
        rotate_left
        · intro w hSw
          (try dsimp only at hSw)
          go_simp
          try with_reducible rfl
        try simp only [Act.put, List.setIfInBounds_toArray, List.set_cons_zero, List.set_cons_succ]
        try dsimp only
        refine take_at (i := 15) (v := ?_) rfl (by kernel_rfl) (by kernel_rfl) (by kernel_rfl) (fun _ _ _ h => h) (Or.inl ⟨by rfl, ?_⟩) hHeld ?_
        rotate_left
        · intro w hSw
          (try dsimp only at hSw)
          go_simp
          try with_reducible rfl
        try simp only [Act.put, List.setIfInBounds_toArray, List.set_cons_zero, List.set_cons_succ]
        try dsimp only
        refine take_at (i := 16) (v := ?_) rfl (by kernel_rfl) (by kernel_rfl) (by kernel_rfl) (fun _ _ _ h => h) (Or.inl ⟨by rfl, ?_⟩) hHeld ?_
        rotate_left
        · intro w hSw
          (try dsimp only at hSw)
          go_simp
          try with_reducible rfl
        try simp only [Act.put, List.setIfInBounds_toArray, List.set_cons_zero, List.set_cons_succ]
        try dsimp only
        refine take_at (i := 17) (v := ?_) rfl (by kernel_rfl) (by kernel_rfl) (by kernel_rfl) (fun _ _ _ h => h) (Or.inl ⟨by rfl, ?_⟩) hHeld ?_
        rotate_left
        · intro w hSw
          (try dsimp only at hSw)
          go_simp
          try with_reducible rfl
        try simp only [Act.put, List.setIfInBounds_toArray, List.set_cons_zero, List.set_cons_succ]
        try dsimp only
        refine take_at (i := 18) (v := ?_) rfl (by kernel_rfl) (by kernel_rfl) (by kernel_rfl) (fun _ _ _ h => h) (Or.inl ⟨by rfl, ?_⟩) hHeld ?_
        rotate_left
        · intro w hSw
          (try dsimp only at hSw)
          go_simp
          try with_reducible rfl
        try simp only [Act.put, List.setIfInBounds_toArray, List.set_cons_zero, List.set_cons_succ]
        try dsimp only
        refine take_at (i := 19) (v := undef) rfl (by kernel_rfl) (by kernel_rfl) (by kernel_rfl) (fun _ _ _ h => h) (Or.inr ⟨by rfl, rfl⟩) hHeld ?_
        try simp only [Act.put, List.setIfInBounds_toArray, List.set_cons_zero, List.set_cons_succ]
        try dsimp only
        refine take_at (i := 20) (v := undef) rfl (by kernel_rfl) (by kernel_rfl) (by kernel_rfl) (fun _ _ _ h => h) (Or.inr ⟨by rfl, rfl⟩) hHeld ?_
        try simp only [Act.put, List.setIfInBounds_toArray, List.set_cons_zero, List.set_cons_succ]
        try dsimp only
        refine take_at (i := 21) (v := undef) rfl (by kernel_rfl) (by kernel_rfl) (by kernel_rfl) (fun _ _ _ h => h) (Or.inr ⟨by rfl, rfl⟩) hHeld ?_
        try simp only [Act.put, List.setIfInBounds_toArray, List.set_cons_zero, List.set_cons_succ]
        try dsimp only
        refine take_at (i := 22) (v := undef) rfl (by kernel_rfl) (by kernel_rfl) (by kernel_rfl) (fun _ _ _ h => h) (Or.inr ⟨by rfl, rfl⟩) hHeld ?_
        try simp only [Act.put, List.setIfInBounds_toArray, List.set_cons_zero, List.set_cons_succ]
        try dsimp only
        refine take_at (i := 23) (v := undef) rfl (by kernel_rfl) (by kernel_rfl) (by kernel_rfl) (fun _ _ _ h => h) (Or.inr ⟨by rfl, rfl⟩) hHeld ?_
        try simp only [Act.put, List.setIfInBounds_toArray, List.set_cons_zero, List.set_cons_succ]
        try dsimp only
        refine take_at (i := 24) (v := undef) rfl (by kernel_rfl) (by kernel_rfl) (by kernel_rfl) (fun _ _ _ h => h) (Or.inr ⟨by rfl, rfl⟩) hHeld ?_
        try simp only [Act.put, List.setIfInBounds_toArray, List.set_cons_zero, List.set_cons_succ]
        try dsimp only
        refine take_at (i := 25) (v := undef) rfl (by kernel_rfl) (by kernel_rfl) (by kernel_rfl) (fun _ _ _ h => h) (Or.inr ⟨by rfl, rfl⟩) hHeld ?_
        try simp only [Act.put, List.setIfInBounds_toArray, List.set_cons_zero, List.set_cons_succ]
        try dsimp only
        refine take_at (i := 26) (v := ?_) rfl (by kernel_rfl) (by kernel_rfl) (by kernel_rfl) (fun _ _ _ h => h) (Or.inl ⟨by rfl, ?_⟩) hHeld ?_
        rotate_left
        · intro w hSw
          (try dsimp only at hSw)
          go_simp
          try with_reducible rfl
        try simp only [Act.put, List.setIfInBounds_toArray, List.set_cons_zero, List.set_cons_succ]
        try dsimp only
        refine take_at (i := 27) (v := ?_) rfl (by kernel_rfl) (by kernel_rfl) (by kernel_rfl) (fun _ _ _ h => h) (Or.inl ⟨by rfl, ?_⟩) hHeld ?_
        rotate_left
        · intro w hSw
          (try dsimp only at hSw)
          go_simp
          try with_reducible rfl
        try simp only [Act.put, List.setIfInBounds_toArray, List.set_cons_zero, List.set_cons_succ]
        try dsimp only
        refine take_at (i := 28) (v := ?_) rfl (by kernel_rfl) (by kernel_rfl) (by kernel_rfl) (fun _ _ _ h => h) (Or.inl ⟨by rfl, ?_⟩) hHeld ?_
        rotate_left
        · intro w hSw
          (try dsimp only at hSw)
          go_simp
          try with_reducible rfl
        try simp only [Act.put, List.setIfInBounds_toArray, List.set_cons_zero, List.set_cons_succ]
        try dsimp only
        refine wpAnyH_ready (rs := [29]) (by kernel_rfl) (by simp) ?_
        refine cons_at rfl (fun K hK => ?_) AllReadyH.nil
        go_simp
        (with_reducible refine (hliv.out _).mono ?_)
        rintro e w9 ⟨rfl, b9⟩
        have B9 : Below w.heap.size w w9 := Below.trans ((by repeat (first | (with_reducible exact HB8.out) | (with_reducible refine Below.drew ?_))) : Below w.heap.size w _) (b9.mono (by have := HB8.out.size; first | exact this | (simp; omega) | omega))
        refine hK.out _ _ ⟨cell_later b9 hHeld.1, cell_later b9 hHeld.2.1, cell_later b9 hHeld.2.2.1, cell_later b9 hHeld.2.2.2⟩ (fun hHeld => ?_)
        clear hK K
        try simp only [Act.put, List.setIfInBounds_toArray, List.set_cons_zero, List.set_cons_succ]
        try dsimp only
        refine take_at (i := 30) (v := ?_) rfl (by kernel_rfl) (by kernel_rfl) (by kernel_rfl) (fun _ _ _ h => h) (Or.inl ⟨by rfl, ?_⟩) hHeld ?_
        rotate_left
        · intro w hSw
          (try dsimp only at hSw)
          go_simp
          try with_reducible rfl
        try simp only [Act.put, List.setIfInBounds_toArray, List.set_cons_zero, List.set_cons_succ]
        try dsimp only
        refine take_at (i := 31) (v := ?_) rfl (by kernel_rfl) (by kernel_rfl) (by kernel_rfl) (fun _ _ _ h => h) (Or.inl ⟨by rfl, ?_⟩) hHeld ?_
        rotate_left
        · intro w hSw
          (try dsimp only at hSw)
          go_simp
          try with_reducible rfl
        try simp only [Act.put, List.setIfInBounds_toArray, List.set_cons_zero, List.set_cons_succ]
        try dsimp only
        refine wpAnyH_done (by kernel_rfl) ?_ _
        go_wp2_with fail
        go_ret
        exact ⟨rfl, B9⟩

end Go.Proofs.Ytppgfkdkopfebaa
