/- clock.Stop, where it does not fall: walked. (Made by gen/mkck.py.) -/
import Derived.Test.YtcemekianoehfaaDoorCkStopA
import Derived.Deep.RegionHeld3
namespace Go.Proofs.YtcemekianoehfaaDoor
open Go.RowKit Go.Lib Go.Sort

section
variable {P : Program} {l : List Oper} {Q : Exit → Act → World → Prop} {md : Region.Mode} {S : World → Prop}
theorem take_at {i : Nat} {oi : Oper} {v : Value} {fuel : Nat} {listed : Array Bool} {a : Act} {w : World} (hi : l[i]? = some oi)
  (hs : Region.noSelect l.toArray = true) (hf : Region.free md l.toArray listed i = true) (hr : (Region.ready md l.toArray listed).contains i = true)
  (hQ : ∀ c a w, Q (.panic c) (a.put oi.dst v) w → Q (.panic c) a w) (hy : YieldsIf P l.toArray S oi v a) (hS : S w)
  (h : wpAnyH P md l.toArray Q S fuel (listed.setIfInBounds i true) (a.put oi.dst v) w) : wpAnyH P md l.toArray Q S (fuel + 1) listed a w :=
wpAnyH_take (by rw [List.getElem?_toArray]; exact hi) hs hf hr hQ hy hS h
theorem cons_at {fuel : Nat} {listed : Array Bool} {a : Act} {w : World} {i : Nat} {o : Oper} {rs : List Nat} (ho : l[i]? = some o)
  (h : ∀ K' : Act → World → Prop, Shut (∀ a w, S w → (S w → wpAnyH P md l.toArray Q S fuel (listed.setIfInBounds i true) a w) → K' a w) → if Region.wanted o (yielded l.toArray a.tmps) = true then Oper.wp P o a w K' Q else K' (a.put o.dst undef) w)
  (hs : AllReadyH P md l.toArray Q S fuel listed a w rs) : AllReadyH P md l.toArray Q S fuel listed a w (i :: rs) :=
AllReadyH.cons (by rw [List.getElem?_toArray]; exact ho) h hs
end

theorem filled_wrap (x m : Int) (hx : -1073741824 ≤ x) (hx' : x ≤ 1073741824) (hm : 0 ≤ m) (hm' : m ≤ 1073741824) (w : World) : Calls Tryd.prog 28 #[.int .i64 (IntKind.i64.wrap x), .int .i64 m] w fun e w' => e = .returned (.int .i64 (fillI x m)) ∧ w' = w := by
  rw [IntWalk.i64_in x (by omega)]
  exact filled_any x m hx hx' hm hm' w
set_option maxHeartbeats 32000000 in
set_option maxRecDepth 100000 in
theorem stop_ok0 (a b m k s n : Int) (hn : askB a b m k 0 true s 2 n = true) (hf : fallB a b k 0 true s n = false) (w : World) : Calls Tryd.prog 13 #[ckV a b m k 0 true s 2, .int .i64 n] w fun e w' => e = .returned (.tuple #[ckV (fillI (a - (n - s)) m) b m k 0 false n 2, .bool true, .int .i64 0]) ∧ Below w.heap.size w w' := by
  have hU := Lib.hid (fun W => used_any a b m k 0 true s 2 n (ask_bd hn).2.2.2.2.2.2.2.2.2.1 (ask_bd hn).2.2.2.2.2.2.2.2.2.2.1 (ask_bd hn).2.2.2.2.2.2.2.2.2.2.2 W)
  have hF := Lib.hid (fun W => filled_wrap (a - (n - s)) m (by have := ask_bd hn; omega) (by have := ask_bd hn; omega) (by have := ask_bd hn; omega) (by have := ask_bd hn; omega) W)
  obtain ⟨ha, hb, ha0, hb0, hm, hk, -, -, -, hs, hsn, hnT⟩ := ask_bd hn
  obtain ⟨w0, hw0⟩ : ∃ w0, w0 = (w.alloc (.cells #[.int .i64 a, .int .i64 b, .int .i64 m, .int .i64 k, .int .u8 0, .bool true, .int .i64 s, .int .u8 2] 24)).alloc (.cells #[.int .i64 0, .int .i64 0, .int .i64 0, .int .i64 0, .int .u8 0, .bool false, .int .i64 0, .int .u8 0] 24) := ⟨_, rfl⟩
  have HX0 : Hid (w0.heap[w.heap.size]? = some (.cells #[.int .i64 a, .int .i64 b, .int .i64 m, .int .i64 k, .int .u8 0, .bool true, .int .i64 s, .int .u8 2] 24 (0, 0))) := Lib.hid (by rw [hw0]; exact heap_older (heap_alloc_new _ _))
  have HZ0 : Hid (w0.heap[w.heap.size + 1]? = some (.cells #[.int .i64 0, .int .i64 0, .int .i64 0, .int .i64 0, .int .u8 0, .bool false, .int .i64 0, .int .u8 0] 24 (0, 0))) := Lib.hid (by rw [hw0]; exact heap_newer _ _ _ (by simp))
  have HB0 : Hid (Below w.heap.size w w0) := Lib.hid (by rw [hw0]; exact (box_below _ _).alloc (by simp) _)
  have HW0 := Lib.hid hw0
  clear hw0
  go_enter Tryd.func13, Tryd.ntmps13
  go_wp2_with fail
  refine (ask_any a b m k 0 true s 2 n _).mono ?_
  rintro e w2 ⟨rfl, hb2⟩
  rw [← HW0.out] at hb2
  have HX2 := Lib.hid ((hb2.block _ (heap_lt HX0.out)).trans HX0.out)
  have HZ2 := Lib.hid ((hb2.block _ (heap_lt HZ0.out)).trans HZ0.out)
  have HB2 := Lib.hid (HB0.out.trans (hb2.mono HB0.out.size))
  clear hb2
  have x0 := cell_blk (i := 0) HX2.out
  have x1 := cell_blk (i := 1) HX2.out
  have x2 := cell_blk (i := 2) HX2.out
  have x3 := cell_blk (i := 3) HX2.out
  have x4 := cell_blk (i := 4) HX2.out
  have x5 := cell_blk (i := 5) HX2.out
  have x6 := cell_blk (i := 6) HX2.out
  have x7 := cell_blk (i := 7) HX2.out
  simp [ckO] at x0 x1 x2 x3 x4 x5 x6 x7
  have xf0 := free_blk (i := 0) HX2.out
  have xf1 := free_blk (i := 1) HX2.out
  have xf2 := free_blk (i := 2) HX2.out
  have xf3 := free_blk (i := 3) HX2.out
  have xf4 := free_blk (i := 4) HX2.out
  have xf5 := free_blk (i := 5) HX2.out
  have xf6 := free_blk (i := 6) HX2.out
  have xf7 := free_blk (i := 7) HX2.out
  have z0 := cell_blk (i := 0) HZ2.out
  have z1 := cell_blk (i := 1) HZ2.out
  have z2 := cell_blk (i := 2) HZ2.out
  have z3 := cell_blk (i := 3) HZ2.out
  have z4 := cell_blk (i := 4) HZ2.out
  have z5 := cell_blk (i := 5) HZ2.out
  have z6 := cell_blk (i := 6) HZ2.out
  have z7 := cell_blk (i := 7) HZ2.out
  simp [ckO] at z0 z1 z2 z3 z4 z5 z6 z7
  have zf0 := free_blk (i := 0) HZ2.out
  have zf1 := free_blk (i := 1) HZ2.out
  have zf2 := free_blk (i := 2) HZ2.out
  have zf3 := free_blk (i := 3) HZ2.out
  have zf4 := free_blk (i := 4) HZ2.out
  have zf5 := free_blk (i := 5) HZ2.out
  have zf6 := free_blk (i := 6) HZ2.out
  have zf7 := free_blk (i := 7) HZ2.out
  go_wp2_with fail
  clear x0 x1 x2 x3 x4 x5 x6 x7 xf0 xf1 xf2 xf3 xf4 xf5 xf6 xf7 z0 z1 z2 z3 z4 z5 z6 z7 zf0 zf1 zf2 zf3 zf4 zf5 zf6 zf7
  refine (falls_on0 a b m k s 2 n hs hsn hnT _).mono ?_
  rintro e w4 ⟨rfl, hb2⟩
  have HX4 := Lib.hid ((hb2.block _ (heap_lt HX2.out)).trans HX2.out)
  have HZ4 := Lib.hid ((hb2.block _ (heap_lt HZ2.out)).trans HZ2.out)
  have HB4 := Lib.hid (HB2.out.trans (hb2.mono HB2.out.size))
  clear hb2
  have x0 := cell_blk (i := 0) HX4.out
  have x1 := cell_blk (i := 1) HX4.out
  have x2 := cell_blk (i := 2) HX4.out
  have x3 := cell_blk (i := 3) HX4.out
  have x4 := cell_blk (i := 4) HX4.out
  have x5 := cell_blk (i := 5) HX4.out
  have x6 := cell_blk (i := 6) HX4.out
  have x7 := cell_blk (i := 7) HX4.out
  simp [ckO] at x0 x1 x2 x3 x4 x5 x6 x7
  have xf0 := free_blk (i := 0) HX4.out
  have xf1 := free_blk (i := 1) HX4.out
  have xf2 := free_blk (i := 2) HX4.out
  have xf3 := free_blk (i := 3) HX4.out
  have xf4 := free_blk (i := 4) HX4.out
  have xf5 := free_blk (i := 5) HX4.out
  have xf6 := free_blk (i := 6) HX4.out
  have xf7 := free_blk (i := 7) HX4.out
  have z0 := cell_blk (i := 0) HZ4.out
  have z1 := cell_blk (i := 1) HZ4.out
  have z2 := cell_blk (i := 2) HZ4.out
  have z3 := cell_blk (i := 3) HZ4.out
  have z4 := cell_blk (i := 4) HZ4.out
  have z5 := cell_blk (i := 5) HZ4.out
  have z6 := cell_blk (i := 6) HZ4.out
  have z7 := cell_blk (i := 7) HZ4.out
  simp [ckO] at z0 z1 z2 z3 z4 z5 z6 z7
  have zf0 := free_blk (i := 0) HZ4.out
  have zf1 := free_blk (i := 1) HZ4.out
  have zf2 := free_blk (i := 2) HZ4.out
  have zf3 := free_blk (i := 3) HZ4.out
  have zf4 := free_blk (i := 4) HZ4.out
  have zf5 := free_blk (i := 5) HZ4.out
  have zf6 := free_blk (i := 6) HZ4.out
  have zf7 := free_blk (i := 7) HZ4.out
  go_wp2
  refine wp_region_held_drew (S := fun w' => w'.cell? ⟨w.heap.size, 4, none⟩ = some (.int .u8 0) ∧ w'.cell? ⟨w.heap.size, 2, none⟩ = some (.int .i64 m)) (by kernel_rfl) ⟨by simpa using x4, by simpa using x2⟩ (fun hHeld => ?_)
  refine take_at (i := 0) (v := ?_) rfl (by kernel_rfl) (by kernel_rfl) (by kernel_rfl) (fun _ _ _ h => h) (Or.inl ⟨by rfl, ?_⟩) hHeld ?_
  rotate_left
  · intro w hSw
    (try dsimp only at hSw)
    go_simp
    try with_reducible rfl
  try simp only [Act.put, List.setIfInBounds_toArray, List.set_cons_zero, List.set_cons_succ]
  try dsimp only
  refine take_at (i := 1) (v := ?_) rfl (by kernel_rfl) (by kernel_rfl) (by kernel_rfl) (fun _ _ _ h => h) (Or.inl ⟨by rfl, ?_⟩) hHeld ?_
  rotate_left
  · intro w hSw
    (try dsimp only at hSw)
    go_simp
    try with_reducible rfl
  try simp only [Act.put, List.setIfInBounds_toArray, List.set_cons_zero, List.set_cons_succ]
  try dsimp only
  refine take_at (i := 2) (v := ?_) rfl (by kernel_rfl) (by kernel_rfl) (by kernel_rfl) (fun _ _ _ h => h) (Or.inl ⟨by rfl, ?_⟩) hHeld ?_
  rotate_left
  · intro w hSw
    (try dsimp only at hSw)
    go_simp
    try with_reducible rfl
  try simp only [Act.put, List.setIfInBounds_toArray, List.set_cons_zero, List.set_cons_succ]
  try dsimp only
  refine take_at (i := 3) (v := ?_) rfl (by kernel_rfl) (by kernel_rfl) (by kernel_rfl) (fun _ _ _ h => h) (Or.inl ⟨by rfl, ?_⟩) hHeld ?_
  rotate_left
  · intro w hSw
    (try dsimp only at hSw)
    go_simp
    try with_reducible rfl
  try simp only [Act.put, List.setIfInBounds_toArray, List.set_cons_zero, List.set_cons_succ]
  try dsimp only
  refine take_at (i := 4) (v := ?_) rfl (by kernel_rfl) (by kernel_rfl) (by kernel_rfl) (fun _ _ _ h => h) (Or.inl ⟨by rfl, ?_⟩) hHeld ?_
  rotate_left
  · intro w hSw
    (try dsimp only at hSw)
    go_simp
    try with_reducible rfl
  try simp only [Act.put, List.setIfInBounds_toArray, List.set_cons_zero, List.set_cons_succ]
  try dsimp only
  refine take_at (i := 5) (v := ?_) rfl (by kernel_rfl) (by kernel_rfl) (by kernel_rfl) (fun _ _ _ h => h) (Or.inl ⟨by rfl, ?_⟩) hHeld ?_
  rotate_left
  · intro w hSw
    (try dsimp only at hSw)
    go_simp
    try with_reducible rfl
  try simp only [Act.put, List.setIfInBounds_toArray, List.set_cons_zero, List.set_cons_succ]
  try dsimp only
  refine take_at (i := 8) (v := ?_) rfl (by kernel_rfl) (by kernel_rfl) (by kernel_rfl) (fun _ _ _ h => h) (Or.inl ⟨by rfl, ?_⟩) hHeld ?_
  rotate_left
  · intro w hSw
    (try dsimp only at hSw)
    go_simp
    try with_reducible rfl
  try simp only [Act.put, List.setIfInBounds_toArray, List.set_cons_zero, List.set_cons_succ]
  try dsimp only
  refine take_at (i := 11) (v := ?_) rfl (by kernel_rfl) (by kernel_rfl) (by kernel_rfl) (fun _ _ _ h => h) (Or.inl ⟨by rfl, ?_⟩) hHeld ?_
  rotate_left
  · intro w hSw
    (try dsimp only at hSw)
    go_simp
    try with_reducible rfl
  try simp only [Act.put, List.setIfInBounds_toArray, List.set_cons_zero, List.set_cons_succ]
  try dsimp only
  refine take_at (i := 12) (v := ?_) rfl (by kernel_rfl) (by kernel_rfl) (by kernel_rfl) (fun _ _ _ h => h) (Or.inl ⟨by rfl, ?_⟩) hHeld ?_
  rotate_left
  · intro w hSw
    (try dsimp only at hSw)
    go_simp
    try with_reducible rfl
  try simp only [Act.put, List.setIfInBounds_toArray, List.set_cons_zero, List.set_cons_succ]
  try dsimp only
  refine take_at (i := 14) (v := ?_) rfl (by kernel_rfl) (by kernel_rfl) (by kernel_rfl) (fun _ _ _ h => h) (Or.inl ⟨by rfl, ?_⟩) hHeld ?_
  rotate_left
  · intro w hSw
    (try dsimp only at hSw)
    go_simp
    try with_reducible rfl
  try simp only [Act.put, List.setIfInBounds_toArray, List.set_cons_zero, List.set_cons_succ]
  try dsimp only
  refine wpAnyH_ready (rs := [6, 7]) (by kernel_rfl) (by simp) ?_
  refine cons_at rfl (fun K hK => ?_) (cons_at rfl (fun K hK => ?_) AllReadyH.nil)
  · go_simp
    refine hK.out _ _ hHeld (fun hHeld => ?_)
    clear hK K
    try simp only [Act.put, List.setIfInBounds_toArray, List.set_cons_zero, List.set_cons_succ]
    try dsimp only
    refine wpAnyH_ready (rs := [7]) (by kernel_rfl) (by simp) ?_
    refine cons_at rfl (fun K hK => ?_) AllReadyH.nil
    go_simp
    refine hK.out _ _ hHeld (fun hHeld => ?_)
    clear hK K
    try simp only [Act.put, List.setIfInBounds_toArray, List.set_cons_zero, List.set_cons_succ]
    try dsimp only
    refine wpAnyH_ready (rs := [9]) (by kernel_rfl) (by simp) ?_
    refine cons_at rfl (fun K hK => ?_) AllReadyH.nil
    go_simp
    refine (hU.out _).mono ?_
    rintro e w5 ⟨rfl, d5⟩
    refine hK.out _ _ ⟨ck_later d5 hHeld.1, ck_later d5 hHeld.2⟩ (fun hHeld => ?_)
    clear hK K
    try simp only [Act.put, List.setIfInBounds_toArray, List.set_cons_zero, List.set_cons_succ]
    try dsimp only
    have HX5 := Lib.hid ((d5.block _ (heap_lt HX4.out)).trans HX4.out)
    have HZ5 := Lib.hid ((d5.block _ (heap_lt HZ4.out)).trans HZ4.out)
    have HB5 := Lib.hid (HB4.out.drew.trans (d5.mono HB4.out.drew.size))
    clear d5
    clear x0 x1 x2 x3 x4 x5 x6 x7 z0 z1 z2 z3 z4 z5 z6 z7 xf0 xf1 xf2 xf3 xf4 xf5 xf6 xf7 zf0 zf1 zf2 zf3 zf4 zf5 zf6 zf7
    have x0 := cell_blk (i := 0) HX5.out
    have x1 := cell_blk (i := 1) HX5.out
    have x2 := cell_blk (i := 2) HX5.out
    have x3 := cell_blk (i := 3) HX5.out
    have x4 := cell_blk (i := 4) HX5.out
    have x5 := cell_blk (i := 5) HX5.out
    have x6 := cell_blk (i := 6) HX5.out
    have x7 := cell_blk (i := 7) HX5.out
    simp [ckO] at x0 x1 x2 x3 x4 x5 x6 x7
    have xf0 := free_blk (i := 0) HX5.out
    have xf1 := free_blk (i := 1) HX5.out
    have xf2 := free_blk (i := 2) HX5.out
    have xf3 := free_blk (i := 3) HX5.out
    have xf4 := free_blk (i := 4) HX5.out
    have xf5 := free_blk (i := 5) HX5.out
    have xf6 := free_blk (i := 6) HX5.out
    have xf7 := free_blk (i := 7) HX5.out
    have z0 := cell_blk (i := 0) HZ5.out
    have z1 := cell_blk (i := 1) HZ5.out
    have z2 := cell_blk (i := 2) HZ5.out
    have z3 := cell_blk (i := 3) HZ5.out
    have z4 := cell_blk (i := 4) HZ5.out
    have z5 := cell_blk (i := 5) HZ5.out
    have z6 := cell_blk (i := 6) HZ5.out
    have z7 := cell_blk (i := 7) HZ5.out
    simp [ckO] at z0 z1 z2 z3 z4 z5 z6 z7
    have zf0 := free_blk (i := 0) HZ5.out
    have zf1 := free_blk (i := 1) HZ5.out
    have zf2 := free_blk (i := 2) HZ5.out
    have zf3 := free_blk (i := 3) HZ5.out
    have zf4 := free_blk (i := 4) HZ5.out
    have zf5 := free_blk (i := 5) HZ5.out
    have zf6 := free_blk (i := 6) HZ5.out
    have zf7 := free_blk (i := 7) HZ5.out
    refine take_at (i := 10) (v := ?_) rfl (by kernel_rfl) (by kernel_rfl) (by kernel_rfl) (fun _ _ _ h => h) (Or.inl ⟨by rfl, ?_⟩) hHeld ?_
    rotate_left
    · intro w hSw
      (try dsimp only at hSw)
      go_simp
      try with_reducible rfl
    try simp only [Act.put, List.setIfInBounds_toArray, List.set_cons_zero, List.set_cons_succ]
    try dsimp only
    refine wpAnyH_ready (rs := [13]) (by kernel_rfl) (by simp) ?_
    refine cons_at rfl (fun K hK => ?_) AllReadyH.nil
    go_simp
    (with_reducible refine (hF.out _).mono ?_)
    rintro e w6 ⟨rfl, rfl⟩
    refine hK.out _ _ hHeld (fun hHeld => ?_)
    clear hK K
    try simp only [Act.put, List.setIfInBounds_toArray, List.set_cons_zero, List.set_cons_succ]
    try dsimp only
    refine take_at (i := 15) (v := ?_) rfl (by kernel_rfl) (by kernel_rfl) (by kernel_rfl) (fun _ _ _ h => h) (Or.inl ⟨by rfl, ?_⟩) hHeld ?_
    rotate_left
    · intro w hSw
      (try dsimp only at hSw)
      go_simp
      try with_reducible rfl
    try simp only [Act.put, List.setIfInBounds_toArray, List.set_cons_zero, List.set_cons_succ]
    try dsimp only
    refine wpAnyH_ready (rs := [16]) (by kernel_rfl) (by simp) ?_
    refine cons_at rfl (fun K hK => ?_) AllReadyH.nil
    go_simp
    refine hK.out _ _ ⟨ck_set (by omega) hHeld.1, ck_set (by omega) hHeld.2⟩ (fun hHeld => ?_)
    clear hK K
    try simp only [Act.put, List.setIfInBounds_toArray, List.set_cons_zero, List.set_cons_succ]
    try dsimp only
    refine wpAnyH_done (by kernel_rfl) ?_ _
    clear hHeld
    go_wp2
    exact bodyPost_ret (v := .tuple #[ckV (fillI (a - (n - s)) m) b m k 0 false n 2, .bool true, .int .i64 0]) (by simp [results, Tryd.results13, go_sem, x0, x1, x2, x3, x4, x5, x6, x7, z0, z1, z2, z3, z4, z5, z6, z7, xf0, xf1, xf2, xf3, xf4, xf5, xf6, xf7, zf0, zf1, zf2, zf3, zf4, zf5, zf6, zf7]) rfl ⟨rfl, (by repeat (first | (with_reducible exact HB5.out) | ((with_reducible refine Below.setCell ?_ ?_ _); rotate_left; focus (simp; done)) | (with_reducible refine below_dr ?_ _) | (with_reducible refine Below.drew ?_)))⟩
  · go_simp
    refine hK.out _ _ hHeld (fun hHeld => ?_)
    clear hK K
    try simp only [Act.put, List.setIfInBounds_toArray, List.set_cons_zero, List.set_cons_succ]
    try dsimp only
    refine wpAnyH_ready (rs := [6, 9]) (by kernel_rfl) (by simp) ?_
    refine cons_at rfl (fun K hK => ?_) (cons_at rfl (fun K hK => ?_) AllReadyH.nil)
    · go_simp
      refine hK.out _ _ hHeld (fun hHeld => ?_)
      clear hK K
      try simp only [Act.put, List.setIfInBounds_toArray, List.set_cons_zero, List.set_cons_succ]
      try dsimp only
      refine wpAnyH_ready (rs := [9]) (by kernel_rfl) (by simp) ?_
      refine cons_at rfl (fun K hK => ?_) AllReadyH.nil
      go_simp
      refine (hU.out _).mono ?_
      rintro e w5 ⟨rfl, d5⟩
      refine hK.out _ _ ⟨ck_later d5 hHeld.1, ck_later d5 hHeld.2⟩ (fun hHeld => ?_)
      clear hK K
      try simp only [Act.put, List.setIfInBounds_toArray, List.set_cons_zero, List.set_cons_succ]
      try dsimp only
      have HX5 := Lib.hid ((d5.block _ (heap_lt HX4.out)).trans HX4.out)
      have HZ5 := Lib.hid ((d5.block _ (heap_lt HZ4.out)).trans HZ4.out)
      have HB5 := Lib.hid (HB4.out.drew.trans (d5.mono HB4.out.drew.size))
      clear d5
      clear x0 x1 x2 x3 x4 x5 x6 x7 z0 z1 z2 z3 z4 z5 z6 z7 xf0 xf1 xf2 xf3 xf4 xf5 xf6 xf7 zf0 zf1 zf2 zf3 zf4 zf5 zf6 zf7
      have x0 := cell_blk (i := 0) HX5.out
      have x1 := cell_blk (i := 1) HX5.out
      have x2 := cell_blk (i := 2) HX5.out
      have x3 := cell_blk (i := 3) HX5.out
      have x4 := cell_blk (i := 4) HX5.out
      have x5 := cell_blk (i := 5) HX5.out
      have x6 := cell_blk (i := 6) HX5.out
      have x7 := cell_blk (i := 7) HX5.out
      simp [ckO] at x0 x1 x2 x3 x4 x5 x6 x7
      have xf0 := free_blk (i := 0) HX5.out
      have xf1 := free_blk (i := 1) HX5.out
      have xf2 := free_blk (i := 2) HX5.out
      have xf3 := free_blk (i := 3) HX5.out
      have xf4 := free_blk (i := 4) HX5.out
      have xf5 := free_blk (i := 5) HX5.out
      have xf6 := free_blk (i := 6) HX5.out
      have xf7 := free_blk (i := 7) HX5.out
      have z0 := cell_blk (i := 0) HZ5.out
      have z1 := cell_blk (i := 1) HZ5.out
      have z2 := cell_blk (i := 2) HZ5.out
      have z3 := cell_blk (i := 3) HZ5.out
      have z4 := cell_blk (i := 4) HZ5.out
      have z5 := cell_blk (i := 5) HZ5.out
      have z6 := cell_blk (i := 6) HZ5.out
      have z7 := cell_blk (i := 7) HZ5.out
      simp [ckO] at z0 z1 z2 z3 z4 z5 z6 z7
      have zf0 := free_blk (i := 0) HZ5.out
      have zf1 := free_blk (i := 1) HZ5.out
      have zf2 := free_blk (i := 2) HZ5.out
      have zf3 := free_blk (i := 3) HZ5.out
      have zf4 := free_blk (i := 4) HZ5.out
      have zf5 := free_blk (i := 5) HZ5.out
      have zf6 := free_blk (i := 6) HZ5.out
      have zf7 := free_blk (i := 7) HZ5.out
      refine take_at (i := 10) (v := ?_) rfl (by kernel_rfl) (by kernel_rfl) (by kernel_rfl) (fun _ _ _ h => h) (Or.inl ⟨by rfl, ?_⟩) hHeld ?_
      rotate_left
      · intro w hSw
        (try dsimp only at hSw)
        go_simp
        try with_reducible rfl
      try simp only [Act.put, List.setIfInBounds_toArray, List.set_cons_zero, List.set_cons_succ]
      try dsimp only
      refine wpAnyH_ready (rs := [13]) (by kernel_rfl) (by simp) ?_
      refine cons_at rfl (fun K hK => ?_) AllReadyH.nil
      go_simp
      (with_reducible refine (hF.out _).mono ?_)
      rintro e w6 ⟨rfl, rfl⟩
      refine hK.out _ _ hHeld (fun hHeld => ?_)
      clear hK K
      try simp only [Act.put, List.setIfInBounds_toArray, List.set_cons_zero, List.set_cons_succ]
      try dsimp only
      refine take_at (i := 15) (v := ?_) rfl (by kernel_rfl) (by kernel_rfl) (by kernel_rfl) (fun _ _ _ h => h) (Or.inl ⟨by rfl, ?_⟩) hHeld ?_
      rotate_left
      · intro w hSw
        (try dsimp only at hSw)
        go_simp
        try with_reducible rfl
      try simp only [Act.put, List.setIfInBounds_toArray, List.set_cons_zero, List.set_cons_succ]
      try dsimp only
      refine wpAnyH_ready (rs := [16]) (by kernel_rfl) (by simp) ?_
      refine cons_at rfl (fun K hK => ?_) AllReadyH.nil
      go_simp
      refine hK.out _ _ ⟨ck_set (by omega) hHeld.1, ck_set (by omega) hHeld.2⟩ (fun hHeld => ?_)
      clear hK K
      try simp only [Act.put, List.setIfInBounds_toArray, List.set_cons_zero, List.set_cons_succ]
      try dsimp only
      refine wpAnyH_done (by kernel_rfl) ?_ _
      clear hHeld
      go_wp2
      exact bodyPost_ret (v := .tuple #[ckV (fillI (a - (n - s)) m) b m k 0 false n 2, .bool true, .int .i64 0]) (by simp [results, Tryd.results13, go_sem, x0, x1, x2, x3, x4, x5, x6, x7, z0, z1, z2, z3, z4, z5, z6, z7, xf0, xf1, xf2, xf3, xf4, xf5, xf6, xf7, zf0, zf1, zf2, zf3, zf4, zf5, zf6, zf7]) rfl ⟨rfl, (by repeat (first | (with_reducible exact HB5.out) | ((with_reducible refine Below.setCell ?_ ?_ _); rotate_left; focus (simp; done)) | (with_reducible refine below_dr ?_ _) | (with_reducible refine Below.drew ?_)))⟩
    · go_simp
      refine (hU.out _).mono ?_
      rintro e w5 ⟨rfl, d5⟩
      refine hK.out _ _ ⟨ck_later d5 hHeld.1, ck_later d5 hHeld.2⟩ (fun hHeld => ?_)
      clear hK K
      try simp only [Act.put, List.setIfInBounds_toArray, List.set_cons_zero, List.set_cons_succ]
      try dsimp only
      have HX5 := Lib.hid ((d5.block _ (heap_lt HX4.out)).trans HX4.out)
      have HZ5 := Lib.hid ((d5.block _ (heap_lt HZ4.out)).trans HZ4.out)
      have HB5 := Lib.hid (HB4.out.drew.trans (d5.mono HB4.out.drew.size))
      clear d5
      clear x0 x1 x2 x3 x4 x5 x6 x7 z0 z1 z2 z3 z4 z5 z6 z7 xf0 xf1 xf2 xf3 xf4 xf5 xf6 xf7 zf0 zf1 zf2 zf3 zf4 zf5 zf6 zf7
      have x0 := cell_blk (i := 0) HX5.out
      have x1 := cell_blk (i := 1) HX5.out
      have x2 := cell_blk (i := 2) HX5.out
      have x3 := cell_blk (i := 3) HX5.out
      have x4 := cell_blk (i := 4) HX5.out
      have x5 := cell_blk (i := 5) HX5.out
      have x6 := cell_blk (i := 6) HX5.out
      have x7 := cell_blk (i := 7) HX5.out
      simp [ckO] at x0 x1 x2 x3 x4 x5 x6 x7
      have xf0 := free_blk (i := 0) HX5.out
      have xf1 := free_blk (i := 1) HX5.out
      have xf2 := free_blk (i := 2) HX5.out
      have xf3 := free_blk (i := 3) HX5.out
      have xf4 := free_blk (i := 4) HX5.out
      have xf5 := free_blk (i := 5) HX5.out
      have xf6 := free_blk (i := 6) HX5.out
      have xf7 := free_blk (i := 7) HX5.out
      have z0 := cell_blk (i := 0) HZ5.out
      have z1 := cell_blk (i := 1) HZ5.out
      have z2 := cell_blk (i := 2) HZ5.out
      have z3 := cell_blk (i := 3) HZ5.out
      have z4 := cell_blk (i := 4) HZ5.out
      have z5 := cell_blk (i := 5) HZ5.out
      have z6 := cell_blk (i := 6) HZ5.out
      have z7 := cell_blk (i := 7) HZ5.out
      simp [ckO] at z0 z1 z2 z3 z4 z5 z6 z7
      have zf0 := free_blk (i := 0) HZ5.out
      have zf1 := free_blk (i := 1) HZ5.out
      have zf2 := free_blk (i := 2) HZ5.out
      have zf3 := free_blk (i := 3) HZ5.out
      have zf4 := free_blk (i := 4) HZ5.out
      have zf5 := free_blk (i := 5) HZ5.out
      have zf6 := free_blk (i := 6) HZ5.out
      have zf7 := free_blk (i := 7) HZ5.out
      refine wpAnyH_ready (rs := [6]) (by kernel_rfl) (by simp) ?_
      refine cons_at rfl (fun K hK => ?_) AllReadyH.nil
      go_simp
      refine hK.out _ _ hHeld (fun hHeld => ?_)
      clear hK K
      try simp only [Act.put, List.setIfInBounds_toArray, List.set_cons_zero, List.set_cons_succ]
      try dsimp only
      refine take_at (i := 10) (v := ?_) rfl (by kernel_rfl) (by kernel_rfl) (by kernel_rfl) (fun _ _ _ h => h) (Or.inl ⟨by rfl, ?_⟩) hHeld ?_
      rotate_left
      · intro w hSw
        (try dsimp only at hSw)
        go_simp
        try with_reducible rfl
      try simp only [Act.put, List.setIfInBounds_toArray, List.set_cons_zero, List.set_cons_succ]
      try dsimp only
      refine wpAnyH_ready (rs := [13]) (by kernel_rfl) (by simp) ?_
      refine cons_at rfl (fun K hK => ?_) AllReadyH.nil
      go_simp
      (with_reducible refine (hF.out _).mono ?_)
      rintro e w6 ⟨rfl, rfl⟩
      refine hK.out _ _ hHeld (fun hHeld => ?_)
      clear hK K
      try simp only [Act.put, List.setIfInBounds_toArray, List.set_cons_zero, List.set_cons_succ]
      try dsimp only
      refine take_at (i := 15) (v := ?_) rfl (by kernel_rfl) (by kernel_rfl) (by kernel_rfl) (fun _ _ _ h => h) (Or.inl ⟨by rfl, ?_⟩) hHeld ?_
      rotate_left
      · intro w hSw
        (try dsimp only at hSw)
        go_simp
        try with_reducible rfl
      try simp only [Act.put, List.setIfInBounds_toArray, List.set_cons_zero, List.set_cons_succ]
      try dsimp only
      refine wpAnyH_ready (rs := [16]) (by kernel_rfl) (by simp) ?_
      refine cons_at rfl (fun K hK => ?_) AllReadyH.nil
      go_simp
      refine hK.out _ _ ⟨ck_set (by omega) hHeld.1, ck_set (by omega) hHeld.2⟩ (fun hHeld => ?_)
      clear hK K
      try simp only [Act.put, List.setIfInBounds_toArray, List.set_cons_zero, List.set_cons_succ]
      try dsimp only
      refine wpAnyH_done (by kernel_rfl) ?_ _
      clear hHeld
      go_wp2
      exact bodyPost_ret (v := .tuple #[ckV (fillI (a - (n - s)) m) b m k 0 false n 2, .bool true, .int .i64 0]) (by simp [results, Tryd.results13, go_sem, x0, x1, x2, x3, x4, x5, x6, x7, z0, z1, z2, z3, z4, z5, z6, z7, xf0, xf1, xf2, xf3, xf4, xf5, xf6, xf7, zf0, zf1, zf2, zf3, zf4, zf5, zf6, zf7]) rfl ⟨rfl, (by repeat (first | (with_reducible exact HB5.out) | ((with_reducible refine Below.setCell ?_ ?_ _); rotate_left; focus (simp; done)) | (with_reducible refine below_dr ?_ _) | (with_reducible refine Below.drew ?_)))⟩

set_option maxHeartbeats 32000000 in
set_option maxRecDepth 100000 in
theorem stop_ok1 (a b m k s n : Int) (hn : askB a b m k 1 true s 2 n = true) (hf : fallB a b k 1 true s n = false) (w : World) : Calls Tryd.prog 13 #[ckV a b m k 1 true s 2, .int .i64 n] w fun e w' => e = .returned (.tuple #[ckV a (fillI (b - (n - s)) m) m k 1 false n 2, .bool true, .int .i64 0]) ∧ Below w.heap.size w w' := by
  have hU := Lib.hid (fun W => used_any a b m k 1 true s 2 n (ask_bd hn).2.2.2.2.2.2.2.2.2.1 (ask_bd hn).2.2.2.2.2.2.2.2.2.2.1 (ask_bd hn).2.2.2.2.2.2.2.2.2.2.2 W)
  have hF := Lib.hid (fun W => filled_wrap (b - (n - s)) m (by have := ask_bd hn; omega) (by have := ask_bd hn; omega) (by have := ask_bd hn; omega) (by have := ask_bd hn; omega) W)
  obtain ⟨ha, hb, ha0, hb0, hm, hk, -, -, -, hs, hsn, hnT⟩ := ask_bd hn
  obtain ⟨w0, hw0⟩ : ∃ w0, w0 = (w.alloc (.cells #[.int .i64 a, .int .i64 b, .int .i64 m, .int .i64 k, .int .u8 1, .bool true, .int .i64 s, .int .u8 2] 24)).alloc (.cells #[.int .i64 0, .int .i64 0, .int .i64 0, .int .i64 0, .int .u8 0, .bool false, .int .i64 0, .int .u8 0] 24) := ⟨_, rfl⟩
  have HX0 : Hid (w0.heap[w.heap.size]? = some (.cells #[.int .i64 a, .int .i64 b, .int .i64 m, .int .i64 k, .int .u8 1, .bool true, .int .i64 s, .int .u8 2] 24 (0, 0))) := Lib.hid (by rw [hw0]; exact heap_older (heap_alloc_new _ _))
  have HZ0 : Hid (w0.heap[w.heap.size + 1]? = some (.cells #[.int .i64 0, .int .i64 0, .int .i64 0, .int .i64 0, .int .u8 0, .bool false, .int .i64 0, .int .u8 0] 24 (0, 0))) := Lib.hid (by rw [hw0]; exact heap_newer _ _ _ (by simp))
  have HB0 : Hid (Below w.heap.size w w0) := Lib.hid (by rw [hw0]; exact (box_below _ _).alloc (by simp) _)
  have HW0 := Lib.hid hw0
  clear hw0
  go_enter Tryd.func13, Tryd.ntmps13
  go_wp2_with fail
  refine (ask_any a b m k 1 true s 2 n _).mono ?_
  rintro e w2 ⟨rfl, hb2⟩
  rw [← HW0.out] at hb2
  have HX2 := Lib.hid ((hb2.block _ (heap_lt HX0.out)).trans HX0.out)
  have HZ2 := Lib.hid ((hb2.block _ (heap_lt HZ0.out)).trans HZ0.out)
  have HB2 := Lib.hid (HB0.out.trans (hb2.mono HB0.out.size))
  clear hb2
  have x0 := cell_blk (i := 0) HX2.out
  have x1 := cell_blk (i := 1) HX2.out
  have x2 := cell_blk (i := 2) HX2.out
  have x3 := cell_blk (i := 3) HX2.out
  have x4 := cell_blk (i := 4) HX2.out
  have x5 := cell_blk (i := 5) HX2.out
  have x6 := cell_blk (i := 6) HX2.out
  have x7 := cell_blk (i := 7) HX2.out
  simp [ckO] at x0 x1 x2 x3 x4 x5 x6 x7
  have xf0 := free_blk (i := 0) HX2.out
  have xf1 := free_blk (i := 1) HX2.out
  have xf2 := free_blk (i := 2) HX2.out
  have xf3 := free_blk (i := 3) HX2.out
  have xf4 := free_blk (i := 4) HX2.out
  have xf5 := free_blk (i := 5) HX2.out
  have xf6 := free_blk (i := 6) HX2.out
  have xf7 := free_blk (i := 7) HX2.out
  have z0 := cell_blk (i := 0) HZ2.out
  have z1 := cell_blk (i := 1) HZ2.out
  have z2 := cell_blk (i := 2) HZ2.out
  have z3 := cell_blk (i := 3) HZ2.out
  have z4 := cell_blk (i := 4) HZ2.out
  have z5 := cell_blk (i := 5) HZ2.out
  have z6 := cell_blk (i := 6) HZ2.out
  have z7 := cell_blk (i := 7) HZ2.out
  simp [ckO] at z0 z1 z2 z3 z4 z5 z6 z7
  have zf0 := free_blk (i := 0) HZ2.out
  have zf1 := free_blk (i := 1) HZ2.out
  have zf2 := free_blk (i := 2) HZ2.out
  have zf3 := free_blk (i := 3) HZ2.out
  have zf4 := free_blk (i := 4) HZ2.out
  have zf5 := free_blk (i := 5) HZ2.out
  have zf6 := free_blk (i := 6) HZ2.out
  have zf7 := free_blk (i := 7) HZ2.out
  go_wp2_with fail
  clear x0 x1 x2 x3 x4 x5 x6 x7 xf0 xf1 xf2 xf3 xf4 xf5 xf6 xf7 z0 z1 z2 z3 z4 z5 z6 z7 zf0 zf1 zf2 zf3 zf4 zf5 zf6 zf7
  refine (falls_on1 a b m k s 2 n hs hsn hnT _).mono ?_
  rintro e w4 ⟨rfl, hb2⟩
  have HX4 := Lib.hid ((hb2.block _ (heap_lt HX2.out)).trans HX2.out)
  have HZ4 := Lib.hid ((hb2.block _ (heap_lt HZ2.out)).trans HZ2.out)
  have HB4 := Lib.hid (HB2.out.trans (hb2.mono HB2.out.size))
  clear hb2
  have x0 := cell_blk (i := 0) HX4.out
  have x1 := cell_blk (i := 1) HX4.out
  have x2 := cell_blk (i := 2) HX4.out
  have x3 := cell_blk (i := 3) HX4.out
  have x4 := cell_blk (i := 4) HX4.out
  have x5 := cell_blk (i := 5) HX4.out
  have x6 := cell_blk (i := 6) HX4.out
  have x7 := cell_blk (i := 7) HX4.out
  simp [ckO] at x0 x1 x2 x3 x4 x5 x6 x7
  have xf0 := free_blk (i := 0) HX4.out
  have xf1 := free_blk (i := 1) HX4.out
  have xf2 := free_blk (i := 2) HX4.out
  have xf3 := free_blk (i := 3) HX4.out
  have xf4 := free_blk (i := 4) HX4.out
  have xf5 := free_blk (i := 5) HX4.out
  have xf6 := free_blk (i := 6) HX4.out
  have xf7 := free_blk (i := 7) HX4.out
  have z0 := cell_blk (i := 0) HZ4.out
  have z1 := cell_blk (i := 1) HZ4.out
  have z2 := cell_blk (i := 2) HZ4.out
  have z3 := cell_blk (i := 3) HZ4.out
  have z4 := cell_blk (i := 4) HZ4.out
  have z5 := cell_blk (i := 5) HZ4.out
  have z6 := cell_blk (i := 6) HZ4.out
  have z7 := cell_blk (i := 7) HZ4.out
  simp [ckO] at z0 z1 z2 z3 z4 z5 z6 z7
  have zf0 := free_blk (i := 0) HZ4.out
  have zf1 := free_blk (i := 1) HZ4.out
  have zf2 := free_blk (i := 2) HZ4.out
  have zf3 := free_blk (i := 3) HZ4.out
  have zf4 := free_blk (i := 4) HZ4.out
  have zf5 := free_blk (i := 5) HZ4.out
  have zf6 := free_blk (i := 6) HZ4.out
  have zf7 := free_blk (i := 7) HZ4.out
  go_wp2
  refine wp_region_held_drew (S := fun w' => w'.cell? ⟨w.heap.size, 4, none⟩ = some (.int .u8 1) ∧ w'.cell? ⟨w.heap.size, 2, none⟩ = some (.int .i64 m)) (by kernel_rfl) ⟨by simpa using x4, by simpa using x2⟩ (fun hHeld => ?_)
  refine take_at (i := 0) (v := ?_) rfl (by kernel_rfl) (by kernel_rfl) (by kernel_rfl) (fun _ _ _ h => h) (Or.inl ⟨by rfl, ?_⟩) hHeld ?_
  rotate_left
  · intro w hSw
    (try dsimp only at hSw)
    go_simp
    try with_reducible rfl
  try simp only [Act.put, List.setIfInBounds_toArray, List.set_cons_zero, List.set_cons_succ]
  try dsimp only
  refine take_at (i := 1) (v := ?_) rfl (by kernel_rfl) (by kernel_rfl) (by kernel_rfl) (fun _ _ _ h => h) (Or.inl ⟨by rfl, ?_⟩) hHeld ?_
  rotate_left
  · intro w hSw
    (try dsimp only at hSw)
    go_simp
    try with_reducible rfl
  try simp only [Act.put, List.setIfInBounds_toArray, List.set_cons_zero, List.set_cons_succ]
  try dsimp only
  refine take_at (i := 2) (v := ?_) rfl (by kernel_rfl) (by kernel_rfl) (by kernel_rfl) (fun _ _ _ h => h) (Or.inl ⟨by rfl, ?_⟩) hHeld ?_
  rotate_left
  · intro w hSw
    (try dsimp only at hSw)
    go_simp
    try with_reducible rfl
  try simp only [Act.put, List.setIfInBounds_toArray, List.set_cons_zero, List.set_cons_succ]
  try dsimp only
  refine take_at (i := 3) (v := ?_) rfl (by kernel_rfl) (by kernel_rfl) (by kernel_rfl) (fun _ _ _ h => h) (Or.inl ⟨by rfl, ?_⟩) hHeld ?_
  rotate_left
  · intro w hSw
    (try dsimp only at hSw)
    go_simp
    try with_reducible rfl
  try simp only [Act.put, List.setIfInBounds_toArray, List.set_cons_zero, List.set_cons_succ]
  try dsimp only
  refine take_at (i := 4) (v := ?_) rfl (by kernel_rfl) (by kernel_rfl) (by kernel_rfl) (fun _ _ _ h => h) (Or.inl ⟨by rfl, ?_⟩) hHeld ?_
  rotate_left
  · intro w hSw
    (try dsimp only at hSw)
    go_simp
    try with_reducible rfl
  try simp only [Act.put, List.setIfInBounds_toArray, List.set_cons_zero, List.set_cons_succ]
  try dsimp only
  refine take_at (i := 5) (v := ?_) rfl (by kernel_rfl) (by kernel_rfl) (by kernel_rfl) (fun _ _ _ h => h) (Or.inl ⟨by rfl, ?_⟩) hHeld ?_
  rotate_left
  · intro w hSw
    (try dsimp only at hSw)
    go_simp
    try with_reducible rfl
  try simp only [Act.put, List.setIfInBounds_toArray, List.set_cons_zero, List.set_cons_succ]
  try dsimp only
  refine take_at (i := 8) (v := ?_) rfl (by kernel_rfl) (by kernel_rfl) (by kernel_rfl) (fun _ _ _ h => h) (Or.inl ⟨by rfl, ?_⟩) hHeld ?_
  rotate_left
  · intro w hSw
    (try dsimp only at hSw)
    go_simp
    try with_reducible rfl
  try simp only [Act.put, List.setIfInBounds_toArray, List.set_cons_zero, List.set_cons_succ]
  try dsimp only
  refine take_at (i := 11) (v := ?_) rfl (by kernel_rfl) (by kernel_rfl) (by kernel_rfl) (fun _ _ _ h => h) (Or.inl ⟨by rfl, ?_⟩) hHeld ?_
  rotate_left
  · intro w hSw
    (try dsimp only at hSw)
    go_simp
    try with_reducible rfl
  try simp only [Act.put, List.setIfInBounds_toArray, List.set_cons_zero, List.set_cons_succ]
  try dsimp only
  refine take_at (i := 12) (v := ?_) rfl (by kernel_rfl) (by kernel_rfl) (by kernel_rfl) (fun _ _ _ h => h) (Or.inl ⟨by rfl, ?_⟩) hHeld ?_
  rotate_left
  · intro w hSw
    (try dsimp only at hSw)
    go_simp
    try with_reducible rfl
  try simp only [Act.put, List.setIfInBounds_toArray, List.set_cons_zero, List.set_cons_succ]
  try dsimp only
  refine take_at (i := 14) (v := ?_) rfl (by kernel_rfl) (by kernel_rfl) (by kernel_rfl) (fun _ _ _ h => h) (Or.inl ⟨by rfl, ?_⟩) hHeld ?_
  rotate_left
  · intro w hSw
    (try dsimp only at hSw)
    go_simp
    try with_reducible rfl
  try simp only [Act.put, List.setIfInBounds_toArray, List.set_cons_zero, List.set_cons_succ]
  try dsimp only
  refine wpAnyH_ready (rs := [6, 7]) (by kernel_rfl) (by simp) ?_
  refine cons_at rfl (fun K hK => ?_) (cons_at rfl (fun K hK => ?_) AllReadyH.nil)
  · go_simp
    refine hK.out _ _ hHeld (fun hHeld => ?_)
    clear hK K
    try simp only [Act.put, List.setIfInBounds_toArray, List.set_cons_zero, List.set_cons_succ]
    try dsimp only
    refine wpAnyH_ready (rs := [7]) (by kernel_rfl) (by simp) ?_
    refine cons_at rfl (fun K hK => ?_) AllReadyH.nil
    go_simp
    refine hK.out _ _ hHeld (fun hHeld => ?_)
    clear hK K
    try simp only [Act.put, List.setIfInBounds_toArray, List.set_cons_zero, List.set_cons_succ]
    try dsimp only
    refine wpAnyH_ready (rs := [9]) (by kernel_rfl) (by simp) ?_
    refine cons_at rfl (fun K hK => ?_) AllReadyH.nil
    go_simp
    refine (hU.out _).mono ?_
    rintro e w5 ⟨rfl, d5⟩
    refine hK.out _ _ ⟨ck_later d5 hHeld.1, ck_later d5 hHeld.2⟩ (fun hHeld => ?_)
    clear hK K
    try simp only [Act.put, List.setIfInBounds_toArray, List.set_cons_zero, List.set_cons_succ]
    try dsimp only
    have HX5 := Lib.hid ((d5.block _ (heap_lt HX4.out)).trans HX4.out)
    have HZ5 := Lib.hid ((d5.block _ (heap_lt HZ4.out)).trans HZ4.out)
    have HB5 := Lib.hid (HB4.out.drew.trans (d5.mono HB4.out.drew.size))
    clear d5
    clear x0 x1 x2 x3 x4 x5 x6 x7 z0 z1 z2 z3 z4 z5 z6 z7 xf0 xf1 xf2 xf3 xf4 xf5 xf6 xf7 zf0 zf1 zf2 zf3 zf4 zf5 zf6 zf7
    have x0 := cell_blk (i := 0) HX5.out
    have x1 := cell_blk (i := 1) HX5.out
    have x2 := cell_blk (i := 2) HX5.out
    have x3 := cell_blk (i := 3) HX5.out
    have x4 := cell_blk (i := 4) HX5.out
    have x5 := cell_blk (i := 5) HX5.out
    have x6 := cell_blk (i := 6) HX5.out
    have x7 := cell_blk (i := 7) HX5.out
    simp [ckO] at x0 x1 x2 x3 x4 x5 x6 x7
    have xf0 := free_blk (i := 0) HX5.out
    have xf1 := free_blk (i := 1) HX5.out
    have xf2 := free_blk (i := 2) HX5.out
    have xf3 := free_blk (i := 3) HX5.out
    have xf4 := free_blk (i := 4) HX5.out
    have xf5 := free_blk (i := 5) HX5.out
    have xf6 := free_blk (i := 6) HX5.out
    have xf7 := free_blk (i := 7) HX5.out
    have z0 := cell_blk (i := 0) HZ5.out
    have z1 := cell_blk (i := 1) HZ5.out
    have z2 := cell_blk (i := 2) HZ5.out
    have z3 := cell_blk (i := 3) HZ5.out
    have z4 := cell_blk (i := 4) HZ5.out
    have z5 := cell_blk (i := 5) HZ5.out
    have z6 := cell_blk (i := 6) HZ5.out
    have z7 := cell_blk (i := 7) HZ5.out
    simp [ckO] at z0 z1 z2 z3 z4 z5 z6 z7
    have zf0 := free_blk (i := 0) HZ5.out
    have zf1 := free_blk (i := 1) HZ5.out
    have zf2 := free_blk (i := 2) HZ5.out
    have zf3 := free_blk (i := 3) HZ5.out
    have zf4 := free_blk (i := 4) HZ5.out
    have zf5 := free_blk (i := 5) HZ5.out
    have zf6 := free_blk (i := 6) HZ5.out
    have zf7 := free_blk (i := 7) HZ5.out
    refine take_at (i := 10) (v := ?_) rfl (by kernel_rfl) (by kernel_rfl) (by kernel_rfl) (fun _ _ _ h => h) (Or.inl ⟨by rfl, ?_⟩) hHeld ?_
    rotate_left
    · intro w hSw
      (try dsimp only at hSw)
      go_simp
      try with_reducible rfl
    try simp only [Act.put, List.setIfInBounds_toArray, List.set_cons_zero, List.set_cons_succ]
    try dsimp only
    refine wpAnyH_ready (rs := [13]) (by kernel_rfl) (by simp) ?_
    refine cons_at rfl (fun K hK => ?_) AllReadyH.nil
    go_simp
    (with_reducible refine (hF.out _).mono ?_)
    rintro e w6 ⟨rfl, rfl⟩
    refine hK.out _ _ hHeld (fun hHeld => ?_)
    clear hK K
    try simp only [Act.put, List.setIfInBounds_toArray, List.set_cons_zero, List.set_cons_succ]
    try dsimp only
    refine take_at (i := 15) (v := ?_) rfl (by kernel_rfl) (by kernel_rfl) (by kernel_rfl) (fun _ _ _ h => h) (Or.inl ⟨by rfl, ?_⟩) hHeld ?_
    rotate_left
    · intro w hSw
      (try dsimp only at hSw)
      go_simp
      try with_reducible rfl
    try simp only [Act.put, List.setIfInBounds_toArray, List.set_cons_zero, List.set_cons_succ]
    try dsimp only
    refine wpAnyH_ready (rs := [16]) (by kernel_rfl) (by simp) ?_
    refine cons_at rfl (fun K hK => ?_) AllReadyH.nil
    go_simp
    refine hK.out _ _ ⟨ck_set (by omega) hHeld.1, ck_set (by omega) hHeld.2⟩ (fun hHeld => ?_)
    clear hK K
    try simp only [Act.put, List.setIfInBounds_toArray, List.set_cons_zero, List.set_cons_succ]
    try dsimp only
    refine wpAnyH_done (by kernel_rfl) ?_ _
    clear hHeld
    go_wp2
    exact bodyPost_ret (v := .tuple #[ckV a (fillI (b - (n - s)) m) m k 1 false n 2, .bool true, .int .i64 0]) (by simp [results, Tryd.results13, go_sem, x0, x1, x2, x3, x4, x5, x6, x7, z0, z1, z2, z3, z4, z5, z6, z7, xf0, xf1, xf2, xf3, xf4, xf5, xf6, xf7, zf0, zf1, zf2, zf3, zf4, zf5, zf6, zf7]) rfl ⟨rfl, (by repeat (first | (with_reducible exact HB5.out) | ((with_reducible refine Below.setCell ?_ ?_ _); rotate_left; focus (simp; done)) | (with_reducible refine below_dr ?_ _) | (with_reducible refine Below.drew ?_)))⟩
  · go_simp
    refine hK.out _ _ hHeld (fun hHeld => ?_)
    clear hK K
    try simp only [Act.put, List.setIfInBounds_toArray, List.set_cons_zero, List.set_cons_succ]
    try dsimp only
    refine wpAnyH_ready (rs := [6, 9]) (by kernel_rfl) (by simp) ?_
    refine cons_at rfl (fun K hK => ?_) (cons_at rfl (fun K hK => ?_) AllReadyH.nil)
    · go_simp
      refine hK.out _ _ hHeld (fun hHeld => ?_)
      clear hK K
      try simp only [Act.put, List.setIfInBounds_toArray, List.set_cons_zero, List.set_cons_succ]
      try dsimp only
      refine wpAnyH_ready (rs := [9]) (by kernel_rfl) (by simp) ?_
      refine cons_at rfl (fun K hK => ?_) AllReadyH.nil
      go_simp
      refine (hU.out _).mono ?_
      rintro e w5 ⟨rfl, d5⟩
      refine hK.out _ _ ⟨ck_later d5 hHeld.1, ck_later d5 hHeld.2⟩ (fun hHeld => ?_)
      clear hK K
      try simp only [Act.put, List.setIfInBounds_toArray, List.set_cons_zero, List.set_cons_succ]
      try dsimp only
      have HX5 := Lib.hid ((d5.block _ (heap_lt HX4.out)).trans HX4.out)
      have HZ5 := Lib.hid ((d5.block _ (heap_lt HZ4.out)).trans HZ4.out)
      have HB5 := Lib.hid (HB4.out.drew.trans (d5.mono HB4.out.drew.size))
      clear d5
      clear x0 x1 x2 x3 x4 x5 x6 x7 z0 z1 z2 z3 z4 z5 z6 z7 xf0 xf1 xf2 xf3 xf4 xf5 xf6 xf7 zf0 zf1 zf2 zf3 zf4 zf5 zf6 zf7
      have x0 := cell_blk (i := 0) HX5.out
      have x1 := cell_blk (i := 1) HX5.out
      have x2 := cell_blk (i := 2) HX5.out
      have x3 := cell_blk (i := 3) HX5.out
      have x4 := cell_blk (i := 4) HX5.out
      have x5 := cell_blk (i := 5) HX5.out
      have x6 := cell_blk (i := 6) HX5.out
      have x7 := cell_blk (i := 7) HX5.out
      simp [ckO] at x0 x1 x2 x3 x4 x5 x6 x7
      have xf0 := free_blk (i := 0) HX5.out
      have xf1 := free_blk (i := 1) HX5.out
      have xf2 := free_blk (i := 2) HX5.out
      have xf3 := free_blk (i := 3) HX5.out
      have xf4 := free_blk (i := 4) HX5.out
      have xf5 := free_blk (i := 5) HX5.out
      have xf6 := free_blk (i := 6) HX5.out
      have xf7 := free_blk (i := 7) HX5.out
      have z0 := cell_blk (i := 0) HZ5.out
      have z1 := cell_blk (i := 1) HZ5.out
      have z2 := cell_blk (i := 2) HZ5.out
      have z3 := cell_blk (i := 3) HZ5.out
      have z4 := cell_blk (i := 4) HZ5.out
      have z5 := cell_blk (i := 5) HZ5.out
      have z6 := cell_blk (i := 6) HZ5.out
      have z7 := cell_blk (i := 7) HZ5.out
      simp [ckO] at z0 z1 z2 z3 z4 z5 z6 z7
      have zf0 := free_blk (i := 0) HZ5.out
      have zf1 := free_blk (i := 1) HZ5.out
      have zf2 := free_blk (i := 2) HZ5.out
      have zf3 := free_blk (i := 3) HZ5.out
      have zf4 := free_blk (i := 4) HZ5.out
      have zf5 := free_blk (i := 5) HZ5.out
      have zf6 := free_blk (i := 6) HZ5.out
      have zf7 := free_blk (i := 7) HZ5.out
      refine take_at (i := 10) (v := ?_) rfl (by kernel_rfl) (by kernel_rfl) (by kernel_rfl) (fun _ _ _ h => h) (Or.inl ⟨by rfl, ?_⟩) hHeld ?_
      rotate_left
      · intro w hSw
        (try dsimp only at hSw)
        go_simp
        try with_reducible rfl
      try simp only [Act.put, List.setIfInBounds_toArray, List.set_cons_zero, List.set_cons_succ]
      try dsimp only
      refine wpAnyH_ready (rs := [13]) (by kernel_rfl) (by simp) ?_
      refine cons_at rfl (fun K hK => ?_) AllReadyH.nil
      go_simp
      (with_reducible refine (hF.out _).mono ?_)
      rintro e w6 ⟨rfl, rfl⟩
      refine hK.out _ _ hHeld (fun hHeld => ?_)
      clear hK K
      try simp only [Act.put, List.setIfInBounds_toArray, List.set_cons_zero, List.set_cons_succ]
      try dsimp only
      refine take_at (i := 15) (v := ?_) rfl (by kernel_rfl) (by kernel_rfl) (by kernel_rfl) (fun _ _ _ h => h) (Or.inl ⟨by rfl, ?_⟩) hHeld ?_
      rotate_left
      · intro w hSw
        (try dsimp only at hSw)
        go_simp
        try with_reducible rfl
      try simp only [Act.put, List.setIfInBounds_toArray, List.set_cons_zero, List.set_cons_succ]
      try dsimp only
      refine wpAnyH_ready (rs := [16]) (by kernel_rfl) (by simp) ?_
      refine cons_at rfl (fun K hK => ?_) AllReadyH.nil
      go_simp
      refine hK.out _ _ ⟨ck_set (by omega) hHeld.1, ck_set (by omega) hHeld.2⟩ (fun hHeld => ?_)
      clear hK K
      try simp only [Act.put, List.setIfInBounds_toArray, List.set_cons_zero, List.set_cons_succ]
      try dsimp only
      refine wpAnyH_done (by kernel_rfl) ?_ _
      clear hHeld
      go_wp2
      exact bodyPost_ret (v := .tuple #[ckV a (fillI (b - (n - s)) m) m k 1 false n 2, .bool true, .int .i64 0]) (by simp [results, Tryd.results13, go_sem, x0, x1, x2, x3, x4, x5, x6, x7, z0, z1, z2, z3, z4, z5, z6, z7, xf0, xf1, xf2, xf3, xf4, xf5, xf6, xf7, zf0, zf1, zf2, zf3, zf4, zf5, zf6, zf7]) rfl ⟨rfl, (by repeat (first | (with_reducible exact HB5.out) | ((with_reducible refine Below.setCell ?_ ?_ _); rotate_left; focus (simp; done)) | (with_reducible refine below_dr ?_ _) | (with_reducible refine Below.drew ?_)))⟩
    · go_simp
      refine (hU.out _).mono ?_
      rintro e w5 ⟨rfl, d5⟩
      refine hK.out _ _ ⟨ck_later d5 hHeld.1, ck_later d5 hHeld.2⟩ (fun hHeld => ?_)
      clear hK K
      try simp only [Act.put, List.setIfInBounds_toArray, List.set_cons_zero, List.set_cons_succ]
      try dsimp only
      have HX5 := Lib.hid ((d5.block _ (heap_lt HX4.out)).trans HX4.out)
      have HZ5 := Lib.hid ((d5.block _ (heap_lt HZ4.out)).trans HZ4.out)
      have HB5 := Lib.hid (HB4.out.drew.trans (d5.mono HB4.out.drew.size))
      clear d5
      clear x0 x1 x2 x3 x4 x5 x6 x7 z0 z1 z2 z3 z4 z5 z6 z7 xf0 xf1 xf2 xf3 xf4 xf5 xf6 xf7 zf0 zf1 zf2 zf3 zf4 zf5 zf6 zf7
      have x0 := cell_blk (i := 0) HX5.out
      have x1 := cell_blk (i := 1) HX5.out
      have x2 := cell_blk (i := 2) HX5.out
      have x3 := cell_blk (i := 3) HX5.out
      have x4 := cell_blk (i := 4) HX5.out
      have x5 := cell_blk (i := 5) HX5.out
      have x6 := cell_blk (i := 6) HX5.out
      have x7 := cell_blk (i := 7) HX5.out
      simp [ckO] at x0 x1 x2 x3 x4 x5 x6 x7
      have xf0 := free_blk (i := 0) HX5.out
      have xf1 := free_blk (i := 1) HX5.out
      have xf2 := free_blk (i := 2) HX5.out
      have xf3 := free_blk (i := 3) HX5.out
      have xf4 := free_blk (i := 4) HX5.out
      have xf5 := free_blk (i := 5) HX5.out
      have xf6 := free_blk (i := 6) HX5.out
      have xf7 := free_blk (i := 7) HX5.out
      have z0 := cell_blk (i := 0) HZ5.out
      have z1 := cell_blk (i := 1) HZ5.out
      have z2 := cell_blk (i := 2) HZ5.out
      have z3 := cell_blk (i := 3) HZ5.out
      have z4 := cell_blk (i := 4) HZ5.out
      have z5 := cell_blk (i := 5) HZ5.out
      have z6 := cell_blk (i := 6) HZ5.out
      have z7 := cell_blk (i := 7) HZ5.out
      simp [ckO] at z0 z1 z2 z3 z4 z5 z6 z7
      have zf0 := free_blk (i := 0) HZ5.out
      have zf1 := free_blk (i := 1) HZ5.out
      have zf2 := free_blk (i := 2) HZ5.out
      have zf3 := free_blk (i := 3) HZ5.out
      have zf4 := free_blk (i := 4) HZ5.out
      have zf5 := free_blk (i := 5) HZ5.out
      have zf6 := free_blk (i := 6) HZ5.out
      have zf7 := free_blk (i := 7) HZ5.out
      refine wpAnyH_ready (rs := [6]) (by kernel_rfl) (by simp) ?_
      refine cons_at rfl (fun K hK => ?_) AllReadyH.nil
      go_simp
      refine hK.out _ _ hHeld (fun hHeld => ?_)
      clear hK K
      try simp only [Act.put, List.setIfInBounds_toArray, List.set_cons_zero, List.set_cons_succ]
      try dsimp only
      refine take_at (i := 10) (v := ?_) rfl (by kernel_rfl) (by kernel_rfl) (by kernel_rfl) (fun _ _ _ h => h) (Or.inl ⟨by rfl, ?_⟩) hHeld ?_
      rotate_left
      · intro w hSw
        (try dsimp only at hSw)
        go_simp
        try with_reducible rfl
      try simp only [Act.put, List.setIfInBounds_toArray, List.set_cons_zero, List.set_cons_succ]
      try dsimp only
      refine wpAnyH_ready (rs := [13]) (by kernel_rfl) (by simp) ?_
      refine cons_at rfl (fun K hK => ?_) AllReadyH.nil
      go_simp
      (with_reducible refine (hF.out _).mono ?_)
      rintro e w6 ⟨rfl, rfl⟩
      refine hK.out _ _ hHeld (fun hHeld => ?_)
      clear hK K
      try simp only [Act.put, List.setIfInBounds_toArray, List.set_cons_zero, List.set_cons_succ]
      try dsimp only
      refine take_at (i := 15) (v := ?_) rfl (by kernel_rfl) (by kernel_rfl) (by kernel_rfl) (fun _ _ _ h => h) (Or.inl ⟨by rfl, ?_⟩) hHeld ?_
      rotate_left
      · intro w hSw
        (try dsimp only at hSw)
        go_simp
        try with_reducible rfl
      try simp only [Act.put, List.setIfInBounds_toArray, List.set_cons_zero, List.set_cons_succ]
      try dsimp only
      refine wpAnyH_ready (rs := [16]) (by kernel_rfl) (by simp) ?_
      refine cons_at rfl (fun K hK => ?_) AllReadyH.nil
      go_simp
      refine hK.out _ _ ⟨ck_set (by omega) hHeld.1, ck_set (by omega) hHeld.2⟩ (fun hHeld => ?_)
      clear hK K
      try simp only [Act.put, List.setIfInBounds_toArray, List.set_cons_zero, List.set_cons_succ]
      try dsimp only
      refine wpAnyH_done (by kernel_rfl) ?_ _
      clear hHeld
      go_wp2
      exact bodyPost_ret (v := .tuple #[ckV a (fillI (b - (n - s)) m) m k 1 false n 2, .bool true, .int .i64 0]) (by simp [results, Tryd.results13, go_sem, x0, x1, x2, x3, x4, x5, x6, x7, z0, z1, z2, z3, z4, z5, z6, z7, xf0, xf1, xf2, xf3, xf4, xf5, xf6, xf7, zf0, zf1, zf2, zf3, zf4, zf5, zf6, zf7]) rfl ⟨rfl, (by repeat (first | (with_reducible exact HB5.out) | ((with_reducible refine Below.setCell ?_ ?_ _); rotate_left; focus (simp; done)) | (with_reducible refine below_dr ?_ _) | (with_reducible refine Below.drew ?_)))⟩

end Go.Proofs.YtcemekianoehfaaDoor
