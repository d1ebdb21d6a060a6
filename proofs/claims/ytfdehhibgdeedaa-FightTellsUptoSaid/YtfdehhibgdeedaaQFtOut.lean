import Derived.Test.YtfdehhibgdeedaaQFtMay
import Derived.Test.YtfdehhibgdeedaaQFtStrike
/- fight.Outcome. -/
namespace Go.Proofs.Ytfdehhibgdeedaa
open Go.RowKit Go.Lib

theorem cell_set_far {w : World} {a p : Addr} {u v : Value} (hne : a.block ≠ p.block) (h : w.cell? a = some v) : (w.setCell p u).cell? a = some v := by rw [World.cell?_of_block (w := w) (heap_set_far hne u)]; exact h
theorem IntsOwn.far {w : World} {b : Nat} {v : Value} {l : List Int} (h : IntsOwn w b v l) {p : Addr} (hp : p.block < b) (u : Value) : IntsOwn (w.setCell p u) b v l := ownsRow_same h fun g hg => heap_set_far (by have := (World.ownsRow.lt h g hg).1; omega) u
def OutEnds (o : FO) (er : Int) (w : World) (e : Ending) (w' : World) : Prop := (∃ v, e = .returned (.tuple #[.agg #[.int .i64 o.1.1, .int .i64 o.1.2], v, .int .i64 er]) ∧ IntsOwn w' w.heap.size v o.2) ∧ Below w.heap.size w w'

set_option maxHeartbeats 8000000 in
set_option maxRecDepth 100000 in
theorem out_no (t : Tb) (a d : Int) (w : World) (hfm : ∀ W, Below w.heap.size w W → Calls Try.prog 20 #[.agg t.row, .int .i64 a, .int .i64 d] W fun e w' => e = .returned (.bool false) ∧ Below W.heap.size W w') :
    Calls Try.prog 9 #[.agg t.row, .int .i64 a, .int .i64 d] w (OutEnds ((((0, 0), []) : FO)) 2 w) := by
  have HFM := Lib.hid hfm
  clear hfm
  obtain ⟨w0, hw0⟩ : ∃ w0, w0 = (w.alloc (.cells t.row 28)).alloc (.cells #[.int .i64 0, .int .i64 0] 24) := ⟨_, rfl⟩
  have hb0 : Below w.heap.size w w0 := by rw [hw0]; exact ((Below.refl _ _).alloc (Nat.le_refl _) _).alloc (by simp) _
  have hx0 : w0.heap[w.heap.size]? = some (.cells t.row 28 (0, 0)) := by rw [hw0]; exact heap_older (heap_alloc_new _ _)
  have hh0 : w0.heap[w.heap.size + 1]? = some (.cells #[.int .i64 0, .int .i64 0] 24 (0, 0)) := by rw [hw0]; exact heap_newer _ _ _ (by simp)
  have HB0 := Lib.hid hb0
  have HX0 := Lib.hid hx0
  have HH0 := Lib.hid hh0
  have HW0 := Lib.hid hw0
  clear hb0 hx0 hh0 hw0
  simp only [Tb.row] at *
  go_enter Try.func9, Try.ntmps9
  go_wp2_with fail
  rw [← HW0.out]
  (with_reducible refine (HFM.out _ HB0.out).mono ?_)
  rintro e w1 ⟨rfl, b1⟩
  have HB1 := Lib.hid (HB0.out.trans (b1.mono HB0.out.size))
  have HX1 := Lib.hid ((b1.block _ (heap_lt HX0.out)).trans HX0.out)
  have HH1 := Lib.hid ((b1.block _ (heap_lt HH0.out)).trans HH0.out)
  clear b1
  have hlt1 := heap_lt HH1.out
  have y0 := cell_blk (i := 0) HX1.out
  have y1 := cell_blk (i := 1) HX1.out
  have y2 := cell_blk (i := 2) HX1.out
  have y3 := cell_blk (i := 3) HX1.out
  have y4 := cell_blk (i := 4) HX1.out
  have y5 := cell_blk (i := 5) HX1.out
  have y6 := cell_blk (i := 6) HX1.out
  have y7 := cell_blk (i := 7) HX1.out
  have y8 := cell_blk (i := 8) HX1.out
  have y9 := cell_blk (i := 9) HX1.out
  simp at y0 y1 y2 y3 y4 y5 y6 y7 y8 y9
  have z0 := cell_blk (i := 0) HH1.out
  have z1 := cell_blk (i := 1) HH1.out
  have f0 := free_blk (i := 0) HH1.out
  have f1 := free_blk (i := 1) HH1.out
  simp at z0 z1
  clear y0 y1 y2 y3 y4 y5 y6 y7 y8 y9
  go_wp2_with fail
  refine bodyPost_ret (results_cell_slot2 rfl _ _ _ (w.heap.size + 1) _ _ _ _ _ rfl (two_set1 _ (two_set0 _ HH1.out)) Try.underlying24 (by kernel_rfl)) rfl ?_
  exact ⟨⟨_, rfl, IntsOwn.nil _ _⟩, ((HB1.out.setCell (p := ⟨w.heap.size + 1, 0, none⟩) (by simp) _).setCell (p := ⟨w.heap.size + 1, 1, none⟩) (by simp) _)⟩

set_option maxHeartbeats 8000000 in
set_option maxRecDepth 100000 in
theorem out_nobody (t : Tb) (a : Nat) (A : Int) (h : Nat) (w : World) (hA : ∀ W, Below w.heap.size w W → Calls Try.prog 21 #[.agg t.row, .int .i64 a] W fun e w' => e = .returned (.int .i64 A) ∧ Below W.heap.size W w') (hh : h ≤ 1) (hca : HasAt w t a h) (hfm : ∀ W, Below w.heap.size w W → Calls Try.prog 20 #[.agg t.row, .int .i64 a, .int .i64 (-1)] W fun e w' => e = .returned (.bool true) ∧ Below W.heap.size W w') :
    Calls Try.prog 9 #[.agg t.row, .int .i64 a, .int .i64 (-1)] w (OutEnds (((harmOf (1 - h) A, []) : FO)) 0 w) := by
  have HFM := Lib.hid hfm
  clear hfm
  have HAT := Lib.hid hA
  obtain ⟨hal, g, o, hq, ca⟩ := hca
  have hgw := World.block_lt_of_cell? _ _ ca
  simp only at hgw
  have HCA := Lib.hid ca
  have i0 : (0 : Int) ≤ (a : Int) := by omega
  have i1 : (a : Int) < (t.np : Int) := by omega
  have hot := Lib.hid fun W => fother_any h W hh
  obtain ⟨k, hk⟩ : ∃ k, 1 - h = k := ⟨_, rfl⟩
  have hk1 : k ≤ 1 := by omega
  rw [hk] at hot ⊢
  clear hA ca hk
  obtain ⟨w0, hw0⟩ : ∃ w0, w0 = (w.alloc (.cells t.row 28)).alloc (.cells #[.int .i64 0, .int .i64 0] 24) := ⟨_, rfl⟩
  have hb0 : Below w.heap.size w w0 := by rw [hw0]; exact ((Below.refl _ _).alloc (Nat.le_refl _) _).alloc (by simp) _
  have hx0 : w0.heap[w.heap.size]? = some (.cells t.row 28 (0, 0)) := by rw [hw0]; exact heap_older (heap_alloc_new _ _)
  have hh0 : w0.heap[w.heap.size + 1]? = some (.cells #[.int .i64 0, .int .i64 0] 24 (0, 0)) := by rw [hw0]; exact heap_newer _ _ _ (by simp)
  have HB0 := Lib.hid hb0
  have HX0 := Lib.hid hx0
  have HH0 := Lib.hid hh0
  have HW0 := Lib.hid hw0
  clear hb0 hx0 hh0 hw0
  simp only [Tb.row] at *
  rw [hq] at HFM HX0 HW0 HAT ⊢
  go_enter Try.func9, Try.ntmps9
  go_wp2_with fail
  rw [← HW0.out]
  (with_reducible refine (HFM.out _ HB0.out).mono ?_)
  rintro e w1 ⟨rfl, b1⟩
  have HB1 := Lib.hid (HB0.out.trans (b1.mono HB0.out.size))
  have HX1 := Lib.hid ((b1.block _ (heap_lt HX0.out)).trans HX0.out)
  have HH1 := Lib.hid ((b1.block _ (heap_lt HH0.out)).trans HH0.out)
  clear b1
  have hlt1 := heap_lt HH1.out
  have y0 := cell_blk (i := 0) HX1.out
  have y1 := cell_blk (i := 1) HX1.out
  have y2 := cell_blk (i := 2) HX1.out
  have y3 := cell_blk (i := 3) HX1.out
  have y4 := cell_blk (i := 4) HX1.out
  have y5 := cell_blk (i := 5) HX1.out
  have y6 := cell_blk (i := 6) HX1.out
  have y7 := cell_blk (i := 7) HX1.out
  have y8 := cell_blk (i := 8) HX1.out
  have y9 := cell_blk (i := 9) HX1.out
  simp at y0 y1 y2 y3 y4 y5 y6 y7 y8 y9
  have z0 := cell_blk (i := 0) HH1.out
  have z1 := cell_blk (i := 1) HH1.out
  have f0 := free_blk (i := 0) HH1.out
  have f1 := free_blk (i := 1) HH1.out
  simp at z0 z1
  have ca := cell_later HB1.out HCA.out
  rcases (show k = 0 ∨ k = 1 by omega) with rfl | rfl
  · simp only [Int.natCast_zero, Int.natCast_one, Int.cast_ofNat_Int] at hot
    clear hk1
    go_wp2_with fail
    refine wp_region_held_drew (S := fun w' => w'.cell? ⟨w.heap.size, 0, none⟩ = some (.slice t.qk t.nk t.ck) ∧ w'.cell? ⟨w.heap.size, 1, none⟩ = some (.slice (some ⟨g, o, none⟩) t.np t.cp) ∧ w'.cell? ⟨w.heap.size, 2, none⟩ = some (.int .i64 t.l0) ∧ w'.cell? ⟨w.heap.size, 3, none⟩ = some (.int .i64 t.l1) ∧ w'.cell? ⟨w.heap.size, 4, none⟩ = some (.int .i64 t.tn) ∧ w'.cell? ⟨w.heap.size, 5, none⟩ = some (.int .u8 t.py) ∧ w'.cell? ⟨w.heap.size, 6, none⟩ = some (.int .i64 t.mo) ∧ w'.cell? ⟨w.heap.size, 7, none⟩ = some (.slice t.qe t.ne t.ce) ∧ w'.cell? ⟨w.heap.size, 8, none⟩ = some (.bool t.b0) ∧ w'.cell? ⟨w.heap.size, 9, none⟩ = some (.bool t.b1) ∧ w'.cell? ⟨g, o + a * 14 + 4, none⟩ = some (.int .u8 h)) (by kernel_rfl) (by (repeat' apply And.intro) <;> go_keep) (fun hHeld => ?_)
    refine take_at (i := 0) (v := ?_) rfl (by kernel_rfl) (by kernel_rfl) (by kernel_rfl) (fun _ _ _ h => h) (Or.inl ⟨by rfl, ?_⟩) hHeld ?_
    rotate_left
    · intro w hSw
      (try dsimp only at hSw)
      go_simp
      try with_reducible rfl
    try simp only [Act.put, List.setIfInBounds_toArray, List.set_cons_zero, List.set_cons_succ]
    try dsimp only
    refine take_at (i := 1) (v := ?_) rfl (by kernel_rfl) (by kernel_rfl) (by kernel_rfl) (fun _ _ _ h => h) (Or.inl ⟨by rfl, ?_⟩) hHeld ?_
    rotate_left
    · intro w hSw
      (try dsimp only at hSw)
      go_simp
      try with_reducible rfl
    try simp only [Act.put, List.setIfInBounds_toArray, List.set_cons_zero, List.set_cons_succ]
    try dsimp only
    refine take_at (i := 2) (v := ?_) rfl (by kernel_rfl) (by kernel_rfl) (by kernel_rfl) (fun _ _ _ h => h) (Or.inl ⟨by rfl, ?_⟩) hHeld ?_
    rotate_left
    · intro w hSw
      (try dsimp only at hSw)
      go_simp
      try with_reducible rfl
    try simp only [Act.put, List.setIfInBounds_toArray, List.set_cons_zero, List.set_cons_succ]
    try dsimp only
    refine take_at (i := 3) (v := ?_) rfl (by kernel_rfl) (by kernel_rfl) (by kernel_rfl) (fun _ _ _ h => h) (Or.inl ⟨by rfl, ?_⟩) hHeld ?_
    rotate_left
    · intro w hSw
      (try dsimp only at hSw)
      go_simp
      try with_reducible rfl
    try simp only [Act.put, List.setIfInBounds_toArray, List.set_cons_zero, List.set_cons_succ]
    try dsimp only
    refine take_at (i := 4) (v := ?_) rfl (by kernel_rfl) (by kernel_rfl) (by kernel_rfl) (fun _ _ _ h => h) (Or.inl ⟨by rfl, ?_⟩) hHeld ?_
    rotate_left
    · intro w hSw
      (try dsimp only at hSw)
      go_simp
      try with_reducible rfl
    try simp only [Act.put, List.setIfInBounds_toArray, List.set_cons_zero, List.set_cons_succ]
    try dsimp only
    refine take_at (i := 5) (v := ?_) rfl (by kernel_rfl) (by kernel_rfl) (by kernel_rfl) (fun _ _ _ h => h) (Or.inl ⟨by rfl, ?_⟩) hHeld ?_
    rotate_left
    · intro w hSw
      (try dsimp only at hSw)
      go_simp
      try with_reducible rfl
    try simp only [Act.put, List.setIfInBounds_toArray, List.set_cons_zero, List.set_cons_succ]
    try dsimp only
    refine take_at (i := 7) (v := ?_) rfl (by kernel_rfl) (by kernel_rfl) (by kernel_rfl) (fun _ _ _ h => h) (Or.inl ⟨by rfl, ?_⟩) hHeld ?_
    rotate_left
    · intro w hSw
      (try dsimp only at hSw)
      go_simp
      try with_reducible rfl
    try simp only [Act.put, List.setIfInBounds_toArray, List.set_cons_zero, List.set_cons_succ]
    try dsimp only
    refine take_at (i := 8) (v := ?_) rfl (by kernel_rfl) (by kernel_rfl) (by kernel_rfl) (fun _ _ _ h => h) (Or.inl ⟨by rfl, ?_⟩) hHeld ?_
    rotate_left
    · intro w hSw
      (try dsimp only at hSw)
      go_simp
      try with_reducible rfl
    try simp only [Act.put, List.setIfInBounds_toArray, List.set_cons_zero, List.set_cons_succ]
    try dsimp only
    refine wpAnyH_ready (rs := [6]) (by kernel_rfl) (by simp) ?_
    refine cons_at rfl (fun K hK => ?_) AllReadyH.nil
    go_simp
    (with_reducible refine (hot.out _).mono ?_)
    rintro e w5 ⟨rfl, rfl⟩
    refine hK.out _ _ ⟨hHeld.1, hHeld.2.1, hHeld.2.2.1, hHeld.2.2.2.1, hHeld.2.2.2.2.1, hHeld.2.2.2.2.2.1, hHeld.2.2.2.2.2.2.1, hHeld.2.2.2.2.2.2.2.1, hHeld.2.2.2.2.2.2.2.2.1, hHeld.2.2.2.2.2.2.2.2.2.1, hHeld.2.2.2.2.2.2.2.2.2.2⟩ (fun hHeld => ?_)
    clear hK K
    try simp only [Act.put, List.setIfInBounds_toArray, List.set_cons_zero, List.set_cons_succ]
    try dsimp only
    refine wpAnyH_ready (rs := [9]) (by kernel_rfl) (by simp) ?_
    refine cons_at rfl (fun K hK => ?_) AllReadyH.nil
    go_simp
    (with_reducible refine (HAT.out _ ((by repeat (first | (with_reducible exact HB1.out) | (with_reducible refine Below.drew ?_))) : Below w.heap.size w _)).mono ?_)
    rintro e w6 ⟨rfl, b6⟩
    have B6 : Below w.heap.size w w6 := Below.trans ((by repeat (first | (with_reducible exact HB1.out) | (with_reducible refine Below.drew ?_))) : Below w.heap.size w _) (b6.mono (by have := HB1.out.size; first | exact this | (simp; omega)))
    refine hK.out _ _ ⟨cell_later b6 hHeld.1, cell_later b6 hHeld.2.1, cell_later b6 hHeld.2.2.1, cell_later b6 hHeld.2.2.2.1, cell_later b6 hHeld.2.2.2.2.1, cell_later b6 hHeld.2.2.2.2.2.1, cell_later b6 hHeld.2.2.2.2.2.2.1, cell_later b6 hHeld.2.2.2.2.2.2.2.1, cell_later b6 hHeld.2.2.2.2.2.2.2.2.1, cell_later b6 hHeld.2.2.2.2.2.2.2.2.2.1, cell_later b6 hHeld.2.2.2.2.2.2.2.2.2.2⟩ (fun hHeld => ?_)
    clear hK K
    try simp only [Act.put, List.setIfInBounds_toArray, List.set_cons_zero, List.set_cons_succ]
    try dsimp only
    have HH6 := Lib.hid ((b6.block _ (heap_lt HH1.out)).trans HH1.out)
    have HB6 := Lib.hid B6
    have hlt6 := heap_lt HH6.out
    have v0 := cell_blk (i := 0) HH6.out
    have v1 := cell_blk (i := 1) HH6.out
    have g0 := free_blk (i := 0) HH6.out
    have g1 := free_blk (i := 1) HH6.out
    simp at v0 v1
    refine take_at (i := 10) (v := ?_) rfl (by kernel_rfl) (by kernel_rfl) (by kernel_rfl) (fun _ _ _ h => h) (Or.inl ⟨by rfl, ?_⟩) hHeld ?_
    rotate_left
    · intro w hSw
      (try dsimp only at hSw)
      go_simp
      try with_reducible rfl
    try simp only [Act.put, List.setIfInBounds_toArray, List.set_cons_zero, List.set_cons_succ]
    try dsimp only
    refine wpAnyH_ready (rs := [11]) (by kernel_rfl) (by simp) ?_
    refine cons_at rfl (fun K hK => ?_) AllReadyH.nil
    go_simp
    refine hK.out _ _ ⟨cell_set_far (by show _ ≠ _; dsimp only; omega) hHeld.1, cell_set_far (by show _ ≠ _; dsimp only; omega) hHeld.2.1, cell_set_far (by show _ ≠ _; dsimp only; omega) hHeld.2.2.1, cell_set_far (by show _ ≠ _; dsimp only; omega) hHeld.2.2.2.1, cell_set_far (by show _ ≠ _; dsimp only; omega) hHeld.2.2.2.2.1, cell_set_far (by show _ ≠ _; dsimp only; omega) hHeld.2.2.2.2.2.1, cell_set_far (by show _ ≠ _; dsimp only; omega) hHeld.2.2.2.2.2.2.1, cell_set_far (by show _ ≠ _; dsimp only; omega) hHeld.2.2.2.2.2.2.2.1, cell_set_far (by show _ ≠ _; dsimp only; omega) hHeld.2.2.2.2.2.2.2.2.1, cell_set_far (by show _ ≠ _; dsimp only; omega) hHeld.2.2.2.2.2.2.2.2.2.1, cell_set_far (by show _ ≠ _; dsimp only; omega) hHeld.2.2.2.2.2.2.2.2.2.2⟩ (fun hHeld => ?_)
    clear hK K
    try simp only [Act.put, List.setIfInBounds_toArray, List.set_cons_zero, List.set_cons_succ]
    try dsimp only
    refine wpAnyH_done (by kernel_rfl) ?_ _
    clear b6 B6 hHeld z0 z1 f0 f1
    clear y0 y1 y2 y3 y4 y5 y6 y7 y8 y9
    go_wp2_with fail
    refine bodyPost_ret (results_cell_slot2 rfl _ _ _ (w.heap.size + 1) _ _ _ _ _ rfl (two_set1 _ (two_set0 _ (two_set0 _ HH6.out))) Try.underlying24 (by kernel_rfl)) rfl ?_
    exact ⟨⟨_, rfl, IntsOwn.nil _ _⟩, (((HB6.out.setCell (p := ⟨w.heap.size + 1, 0, none⟩) (by simp) _).setCell (p := ⟨w.heap.size + 1, 0, none⟩) (by simp) _).setCell (p := ⟨w.heap.size + 1, 1, none⟩) (by simp) _)⟩
  · simp only [Int.natCast_zero, Int.natCast_one, Int.cast_ofNat_Int] at hot
    clear hk1
    go_wp2_with fail
    refine wp_region_held_drew (S := fun w' => w'.cell? ⟨w.heap.size, 0, none⟩ = some (.slice t.qk t.nk t.ck) ∧ w'.cell? ⟨w.heap.size, 1, none⟩ = some (.slice (some ⟨g, o, none⟩) t.np t.cp) ∧ w'.cell? ⟨w.heap.size, 2, none⟩ = some (.int .i64 t.l0) ∧ w'.cell? ⟨w.heap.size, 3, none⟩ = some (.int .i64 t.l1) ∧ w'.cell? ⟨w.heap.size, 4, none⟩ = some (.int .i64 t.tn) ∧ w'.cell? ⟨w.heap.size, 5, none⟩ = some (.int .u8 t.py) ∧ w'.cell? ⟨w.heap.size, 6, none⟩ = some (.int .i64 t.mo) ∧ w'.cell? ⟨w.heap.size, 7, none⟩ = some (.slice t.qe t.ne t.ce) ∧ w'.cell? ⟨w.heap.size, 8, none⟩ = some (.bool t.b0) ∧ w'.cell? ⟨w.heap.size, 9, none⟩ = some (.bool t.b1) ∧ w'.cell? ⟨g, o + a * 14 + 4, none⟩ = some (.int .u8 h)) (by kernel_rfl) (by (repeat' apply And.intro) <;> go_keep) (fun hHeld => ?_)
    refine take_at (i := 0) (v := ?_) rfl (by kernel_rfl) (by kernel_rfl) (by kernel_rfl) (fun _ _ _ h => h) (Or.inl ⟨by rfl, ?_⟩) hHeld ?_
    rotate_left
    · intro w hSw
      (try dsimp only at hSw)
      go_simp
      try with_reducible rfl
    try simp only [Act.put, List.setIfInBounds_toArray, List.set_cons_zero, List.set_cons_succ]
    try dsimp only
    refine take_at (i := 1) (v := ?_) rfl (by kernel_rfl) (by kernel_rfl) (by kernel_rfl) (fun _ _ _ h => h) (Or.inl ⟨by rfl, ?_⟩) hHeld ?_
    rotate_left
    · intro w hSw
      (try dsimp only at hSw)
      go_simp
      try with_reducible rfl
    try simp only [Act.put, List.setIfInBounds_toArray, List.set_cons_zero, List.set_cons_succ]
    try dsimp only
    refine take_at (i := 2) (v := ?_) rfl (by kernel_rfl) (by kernel_rfl) (by kernel_rfl) (fun _ _ _ h => h) (Or.inl ⟨by rfl, ?_⟩) hHeld ?_
    rotate_left
    · intro w hSw
      (try dsimp only at hSw)
      go_simp
      try with_reducible rfl
    try simp only [Act.put, List.setIfInBounds_toArray, List.set_cons_zero, List.set_cons_succ]
    try dsimp only
    refine take_at (i := 3) (v := ?_) rfl (by kernel_rfl) (by kernel_rfl) (by kernel_rfl) (fun _ _ _ h => h) (Or.inl ⟨by rfl, ?_⟩) hHeld ?_
    rotate_left
    · intro w hSw
      (try dsimp only at hSw)
      go_simp
      try with_reducible rfl
    try simp only [Act.put, List.setIfInBounds_toArray, List.set_cons_zero, List.set_cons_succ]
    try dsimp only
    refine take_at (i := 4) (v := ?_) rfl (by kernel_rfl) (by kernel_rfl) (by kernel_rfl) (fun _ _ _ h => h) (Or.inl ⟨by rfl, ?_⟩) hHeld ?_
    rotate_left
    · intro w hSw
      (try dsimp only at hSw)
      go_simp
      try with_reducible rfl
    try simp only [Act.put, List.setIfInBounds_toArray, List.set_cons_zero, List.set_cons_succ]
    try dsimp only
    refine take_at (i := 5) (v := ?_) rfl (by kernel_rfl) (by kernel_rfl) (by kernel_rfl) (fun _ _ _ h => h) (Or.inl ⟨by rfl, ?_⟩) hHeld ?_
    rotate_left
    · intro w hSw
      (try dsimp only at hSw)
      go_simp
      try with_reducible rfl
    try simp only [Act.put, List.setIfInBounds_toArray, List.set_cons_zero, List.set_cons_succ]
    try dsimp only
    refine take_at (i := 7) (v := ?_) rfl (by kernel_rfl) (by kernel_rfl) (by kernel_rfl) (fun _ _ _ h => h) (Or.inl ⟨by rfl, ?_⟩) hHeld ?_
    rotate_left
    · intro w hSw
      (try dsimp only at hSw)
      go_simp
      try with_reducible rfl
    try simp only [Act.put, List.setIfInBounds_toArray, List.set_cons_zero, List.set_cons_succ]
    try dsimp only
    refine take_at (i := 8) (v := ?_) rfl (by kernel_rfl) (by kernel_rfl) (by kernel_rfl) (fun _ _ _ h => h) (Or.inl ⟨by rfl, ?_⟩) hHeld ?_
    rotate_left
    · intro w hSw
      (try dsimp only at hSw)
      go_simp
      try with_reducible rfl
    try simp only [Act.put, List.setIfInBounds_toArray, List.set_cons_zero, List.set_cons_succ]
    try dsimp only
    refine wpAnyH_ready (rs := [6]) (by kernel_rfl) (by simp) ?_
    refine cons_at rfl (fun K hK => ?_) AllReadyH.nil
    go_simp
    (with_reducible refine (hot.out _).mono ?_)
    rintro e w5 ⟨rfl, rfl⟩
    refine hK.out _ _ ⟨hHeld.1, hHeld.2.1, hHeld.2.2.1, hHeld.2.2.2.1, hHeld.2.2.2.2.1, hHeld.2.2.2.2.2.1, hHeld.2.2.2.2.2.2.1, hHeld.2.2.2.2.2.2.2.1, hHeld.2.2.2.2.2.2.2.2.1, hHeld.2.2.2.2.2.2.2.2.2.1, hHeld.2.2.2.2.2.2.2.2.2.2⟩ (fun hHeld => ?_)
    clear hK K
    try simp only [Act.put, List.setIfInBounds_toArray, List.set_cons_zero, List.set_cons_succ]
    try dsimp only
    refine wpAnyH_ready (rs := [9]) (by kernel_rfl) (by simp) ?_
    refine cons_at rfl (fun K hK => ?_) AllReadyH.nil
    go_simp
    (with_reducible refine (HAT.out _ ((by repeat (first | (with_reducible exact HB1.out) | (with_reducible refine Below.drew ?_))) : Below w.heap.size w _)).mono ?_)
    rintro e w6 ⟨rfl, b6⟩
    have B6 : Below w.heap.size w w6 := Below.trans ((by repeat (first | (with_reducible exact HB1.out) | (with_reducible refine Below.drew ?_))) : Below w.heap.size w _) (b6.mono (by have := HB1.out.size; first | exact this | (simp; omega)))
    refine hK.out _ _ ⟨cell_later b6 hHeld.1, cell_later b6 hHeld.2.1, cell_later b6 hHeld.2.2.1, cell_later b6 hHeld.2.2.2.1, cell_later b6 hHeld.2.2.2.2.1, cell_later b6 hHeld.2.2.2.2.2.1, cell_later b6 hHeld.2.2.2.2.2.2.1, cell_later b6 hHeld.2.2.2.2.2.2.2.1, cell_later b6 hHeld.2.2.2.2.2.2.2.2.1, cell_later b6 hHeld.2.2.2.2.2.2.2.2.2.1, cell_later b6 hHeld.2.2.2.2.2.2.2.2.2.2⟩ (fun hHeld => ?_)
    clear hK K
    try simp only [Act.put, List.setIfInBounds_toArray, List.set_cons_zero, List.set_cons_succ]
    try dsimp only
    have HH6 := Lib.hid ((b6.block _ (heap_lt HH1.out)).trans HH1.out)
    have HB6 := Lib.hid B6
    have hlt6 := heap_lt HH6.out
    have v0 := cell_blk (i := 0) HH6.out
    have v1 := cell_blk (i := 1) HH6.out
    have g0 := free_blk (i := 0) HH6.out
    have g1 := free_blk (i := 1) HH6.out
    simp at v0 v1
    refine take_at (i := 10) (v := ?_) rfl (by kernel_rfl) (by kernel_rfl) (by kernel_rfl) (fun _ _ _ h => h) (Or.inl ⟨by rfl, ?_⟩) hHeld ?_
    rotate_left
    · intro w hSw
      (try dsimp only at hSw)
      go_simp
      try with_reducible rfl
    try simp only [Act.put, List.setIfInBounds_toArray, List.set_cons_zero, List.set_cons_succ]
    try dsimp only
    refine wpAnyH_ready (rs := [11]) (by kernel_rfl) (by simp) ?_
    refine cons_at rfl (fun K hK => ?_) AllReadyH.nil
    go_simp
    refine hK.out _ _ ⟨cell_set_far (by show _ ≠ _; dsimp only; omega) hHeld.1, cell_set_far (by show _ ≠ _; dsimp only; omega) hHeld.2.1, cell_set_far (by show _ ≠ _; dsimp only; omega) hHeld.2.2.1, cell_set_far (by show _ ≠ _; dsimp only; omega) hHeld.2.2.2.1, cell_set_far (by show _ ≠ _; dsimp only; omega) hHeld.2.2.2.2.1, cell_set_far (by show _ ≠ _; dsimp only; omega) hHeld.2.2.2.2.2.1, cell_set_far (by show _ ≠ _; dsimp only; omega) hHeld.2.2.2.2.2.2.1, cell_set_far (by show _ ≠ _; dsimp only; omega) hHeld.2.2.2.2.2.2.2.1, cell_set_far (by show _ ≠ _; dsimp only; omega) hHeld.2.2.2.2.2.2.2.2.1, cell_set_far (by show _ ≠ _; dsimp only; omega) hHeld.2.2.2.2.2.2.2.2.2.1, cell_set_far (by show _ ≠ _; dsimp only; omega) hHeld.2.2.2.2.2.2.2.2.2.2⟩ (fun hHeld => ?_)
    clear hK K
    try simp only [Act.put, List.setIfInBounds_toArray, List.set_cons_zero, List.set_cons_succ]
    try dsimp only
    refine wpAnyH_done (by kernel_rfl) ?_ _
    clear b6 B6 hHeld z0 z1 f0 f1
    clear y0 y1 y2 y3 y4 y5 y6 y7 y8 y9
    go_wp2_with fail
    refine bodyPost_ret (results_cell_slot2 rfl _ _ _ (w.heap.size + 1) _ _ _ _ _ rfl (two_set1 _ (two_set0 _ (two_set1 _ HH6.out))) Try.underlying24 (by kernel_rfl)) rfl ?_
    exact ⟨⟨_, rfl, IntsOwn.nil _ _⟩, (((HB6.out.setCell (p := ⟨w.heap.size + 1, 1, none⟩) (by simp) _).setCell (p := ⟨w.heap.size + 1, 0, none⟩) (by simp) _).setCell (p := ⟨w.heap.size + 1, 1, none⟩) (by simp) _)⟩
set_option maxHeartbeats 8000000 in
set_option maxRecDepth 100000 in
theorem out_low (t : Tb) (w : World) (a d : Nat) (o : FO) (hS : ∀ W, Below w.heap.size w W → Calls Try.prog 23 #[.agg t.row, .int .i64 a, .int .i64 d] W (SideEnds o W)) (hdl : d < t.np) (hlow : ∃ g o, t.qp = some ⟨g, o, none⟩ ∧ w.cell? ⟨g, o + d * 14 + 8, none⟩ = some (.bool true)) (hfm : ∀ W, Below w.heap.size w W → Calls Try.prog 20 #[.agg t.row, .int .i64 a, .int .i64 d] W fun e w' => e = .returned (.bool true) ∧ Below W.heap.size W w') :
    Calls Try.prog 9 #[.agg t.row, .int .i64 a, .int .i64 d] w (OutEnds (o) 0 w) := by
  have HFM := Lib.hid hfm
  clear hfm
  have HAT := Lib.hid hS
  obtain ⟨g, o', hq, cl⟩ := hlow
  have hgw := World.block_lt_of_cell? _ _ cl
  simp only at hgw
  have HCL := Lib.hid cl
  have j0 : (0 : Int) ≤ (d : Int) := by omega
  have j1 : (d : Int) < (t.np : Int) := by omega
  have dne : ((d : Int) == -1) = false := by (first | (simp; done) | (simp; omega))
  clear hS cl
  obtain ⟨w0, hw0⟩ : ∃ w0, w0 = (w.alloc (.cells t.row 28)).alloc (.cells #[.int .i64 0, .int .i64 0] 24) := ⟨_, rfl⟩
  have hb0 : Below w.heap.size w w0 := by rw [hw0]; exact ((Below.refl _ _).alloc (Nat.le_refl _) _).alloc (by simp) _
  have hx0 : w0.heap[w.heap.size]? = some (.cells t.row 28 (0, 0)) := by rw [hw0]; exact heap_older (heap_alloc_new _ _)
  have hh0 : w0.heap[w.heap.size + 1]? = some (.cells #[.int .i64 0, .int .i64 0] 24 (0, 0)) := by rw [hw0]; exact heap_newer _ _ _ (by simp)
  have HB0 := Lib.hid hb0
  have HX0 := Lib.hid hx0
  have HH0 := Lib.hid hh0
  have HW0 := Lib.hid hw0
  clear hb0 hx0 hh0 hw0
  simp only [Tb.row] at *
  rw [hq] at HFM HX0 HW0 HAT ⊢
  go_enter Try.func9, Try.ntmps9
  go_wp2_with fail
  rw [← HW0.out]
  (with_reducible refine (HFM.out _ HB0.out).mono ?_)
  rintro e w1 ⟨rfl, b1⟩
  have HB1 := Lib.hid (HB0.out.trans (b1.mono HB0.out.size))
  have HX1 := Lib.hid ((b1.block _ (heap_lt HX0.out)).trans HX0.out)
  have HH1 := Lib.hid ((b1.block _ (heap_lt HH0.out)).trans HH0.out)
  clear b1
  have hlt1 := heap_lt HH1.out
  have y0 := cell_blk (i := 0) HX1.out
  have y1 := cell_blk (i := 1) HX1.out
  have y2 := cell_blk (i := 2) HX1.out
  have y3 := cell_blk (i := 3) HX1.out
  have y4 := cell_blk (i := 4) HX1.out
  have y5 := cell_blk (i := 5) HX1.out
  have y6 := cell_blk (i := 6) HX1.out
  have y7 := cell_blk (i := 7) HX1.out
  have y8 := cell_blk (i := 8) HX1.out
  have y9 := cell_blk (i := 9) HX1.out
  simp at y0 y1 y2 y3 y4 y5 y6 y7 y8 y9
  have z0 := cell_blk (i := 0) HH1.out
  have z1 := cell_blk (i := 1) HH1.out
  have f0 := free_blk (i := 0) HH1.out
  have f1 := free_blk (i := 1) HH1.out
  simp at z0 z1
  have cl := cell_later HB1.out HCL.out
  go_wp2_with fail
  (with_reducible refine (HAT.out _ HB1.out).mono ?_)
  rintro e w2 ⟨⟨v, rfl, hv⟩, b2⟩
  have HB2 := Lib.hid (HB1.out.trans (b2.mono HB1.out.size))
  have HH2 := Lib.hid ((b2.block _ (heap_lt HH1.out)).trans HH1.out)
  have HV := Lib.hid (show IntsOwn w2 w1.heap.size v o.2 from hv)
  have hlw := heap_lt HH1.out
  clear b2 hv z0 z1 f0 f1 y0 y1 y2 y3 y4 y5 y6 y7 y8 y9
  have hlt2 := heap_lt HH2.out
  have v0 := cell_blk (i := 0) HH2.out
  have v1 := cell_blk (i := 1) HH2.out
  have g0 := free_blk (i := 0) HH2.out
  have g1 := free_blk (i := 1) HH2.out
  simp at v0 v1
  go_wp2_with fail
  refine bodyPost_ret (results_cell_slot2 rfl _ _ _ (w.heap.size + 1) _ _ _ _ _ rfl (two_set1 _ (two_set0 _ (two_set1 _ (two_set0 _ HH2.out)))) Try.underlying24 (by kernel_rfl)) rfl ?_
  exact ⟨⟨_, rfl, (((((HV.out.far (p := ⟨w.heap.size + 1, 0, none⟩) hlw _).far (p := ⟨w.heap.size + 1, 1, none⟩) hlw _).far (p := ⟨w.heap.size + 1, 0, none⟩) hlw _).far (p := ⟨w.heap.size + 1, 1, none⟩) hlw _).base (by have := HB1.out.size; omega))⟩, ((((HB2.out.setCell (p := ⟨w.heap.size + 1, 0, none⟩) (by simp) _).setCell (p := ⟨w.heap.size + 1, 1, none⟩) (by simp) _).setCell (p := ⟨w.heap.size + 1, 0, none⟩) (by simp) _).setCell (p := ⟨w.heap.size + 1, 1, none⟩) (by simp) _)⟩

set_option maxHeartbeats 8000000 in
set_option maxRecDepth 100000 in
theorem out_high (t : Tb) (w : World) (a d : Nat) (o : FO) (hS : ∀ W, Below w.heap.size w W → Calls Try.prog 24 #[.agg t.row, .int .i64 a, .int .i64 d] W (SideEnds o W)) (hdl : d < t.np) (hlow : ∃ g o, t.qp = some ⟨g, o, none⟩ ∧ w.cell? ⟨g, o + d * 14 + 8, none⟩ = some (.bool false)) (hfm : ∀ W, Below w.heap.size w W → Calls Try.prog 20 #[.agg t.row, .int .i64 a, .int .i64 d] W fun e w' => e = .returned (.bool true) ∧ Below W.heap.size W w') :
    Calls Try.prog 9 #[.agg t.row, .int .i64 a, .int .i64 d] w (OutEnds (o) 0 w) := by
  have HFM := Lib.hid hfm
  clear hfm
  have HAT := Lib.hid hS
  obtain ⟨g, o', hq, cl⟩ := hlow
  have hgw := World.block_lt_of_cell? _ _ cl
  simp only at hgw
  have HCL := Lib.hid cl
  have j0 : (0 : Int) ≤ (d : Int) := by omega
  have j1 : (d : Int) < (t.np : Int) := by omega
  have dne : ((d : Int) == -1) = false := by (first | (simp; done) | (simp; omega))
  clear hS cl
  obtain ⟨w0, hw0⟩ : ∃ w0, w0 = (w.alloc (.cells t.row 28)).alloc (.cells #[.int .i64 0, .int .i64 0] 24) := ⟨_, rfl⟩
  have hb0 : Below w.heap.size w w0 := by rw [hw0]; exact ((Below.refl _ _).alloc (Nat.le_refl _) _).alloc (by simp) _
  have hx0 : w0.heap[w.heap.size]? = some (.cells t.row 28 (0, 0)) := by rw [hw0]; exact heap_older (heap_alloc_new _ _)
  have hh0 : w0.heap[w.heap.size + 1]? = some (.cells #[.int .i64 0, .int .i64 0] 24 (0, 0)) := by rw [hw0]; exact heap_newer _ _ _ (by simp)
  have HB0 := Lib.hid hb0
  have HX0 := Lib.hid hx0
  have HH0 := Lib.hid hh0
  have HW0 := Lib.hid hw0
  clear hb0 hx0 hh0 hw0
  simp only [Tb.row] at *
  rw [hq] at HFM HX0 HW0 HAT ⊢
  go_enter Try.func9, Try.ntmps9
  go_wp2_with fail
  rw [← HW0.out]
  (with_reducible refine (HFM.out _ HB0.out).mono ?_)
  rintro e w1 ⟨rfl, b1⟩
  have HB1 := Lib.hid (HB0.out.trans (b1.mono HB0.out.size))
  have HX1 := Lib.hid ((b1.block _ (heap_lt HX0.out)).trans HX0.out)
  have HH1 := Lib.hid ((b1.block _ (heap_lt HH0.out)).trans HH0.out)
  clear b1
  have hlt1 := heap_lt HH1.out
  have y0 := cell_blk (i := 0) HX1.out
  have y1 := cell_blk (i := 1) HX1.out
  have y2 := cell_blk (i := 2) HX1.out
  have y3 := cell_blk (i := 3) HX1.out
  have y4 := cell_blk (i := 4) HX1.out
  have y5 := cell_blk (i := 5) HX1.out
  have y6 := cell_blk (i := 6) HX1.out
  have y7 := cell_blk (i := 7) HX1.out
  have y8 := cell_blk (i := 8) HX1.out
  have y9 := cell_blk (i := 9) HX1.out
  simp at y0 y1 y2 y3 y4 y5 y6 y7 y8 y9
  have z0 := cell_blk (i := 0) HH1.out
  have z1 := cell_blk (i := 1) HH1.out
  have f0 := free_blk (i := 0) HH1.out
  have f1 := free_blk (i := 1) HH1.out
  simp at z0 z1
  have cl := cell_later HB1.out HCL.out
  go_wp2_with fail
  (with_reducible refine (HAT.out _ HB1.out).mono ?_)
  rintro e w2 ⟨⟨v, rfl, hv⟩, b2⟩
  have HB2 := Lib.hid (HB1.out.trans (b2.mono HB1.out.size))
  have HH2 := Lib.hid ((b2.block _ (heap_lt HH1.out)).trans HH1.out)
  have HV := Lib.hid (show IntsOwn w2 w1.heap.size v o.2 from hv)
  have hlw := heap_lt HH1.out
  clear b2 hv z0 z1 f0 f1 y0 y1 y2 y3 y4 y5 y6 y7 y8 y9
  have hlt2 := heap_lt HH2.out
  have v0 := cell_blk (i := 0) HH2.out
  have v1 := cell_blk (i := 1) HH2.out
  have g0 := free_blk (i := 0) HH2.out
  have g1 := free_blk (i := 1) HH2.out
  simp at v0 v1
  go_wp2_with fail
  refine bodyPost_ret (results_cell_slot2 rfl _ _ _ (w.heap.size + 1) _ _ _ _ _ rfl (two_set1 _ (two_set0 _ (two_set1 _ (two_set0 _ HH2.out)))) Try.underlying24 (by kernel_rfl)) rfl ?_
  exact ⟨⟨_, rfl, (((((HV.out.far (p := ⟨w.heap.size + 1, 0, none⟩) hlw _).far (p := ⟨w.heap.size + 1, 1, none⟩) hlw _).far (p := ⟨w.heap.size + 1, 0, none⟩) hlw _).far (p := ⟨w.heap.size + 1, 1, none⟩) hlw _).base (by have := HB1.out.size; omega))⟩, ((((HB2.out.setCell (p := ⟨w.heap.size + 1, 0, none⟩) (by simp) _).setCell (p := ⟨w.heap.size + 1, 1, none⟩) (by simp) _).setCell (p := ⟨w.heap.size + 1, 0, none⟩) (by simp) _).setCell (p := ⟨w.heap.size + 1, 1, none⟩) (by simp) _)⟩


end Go.Proofs.Ytfdehhibgdeedaa
