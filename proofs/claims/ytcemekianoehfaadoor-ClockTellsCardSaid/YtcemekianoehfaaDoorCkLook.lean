/- Look of a clock that stands, and whole: walked. (Made by gen/mkck.py.) -/
import Derived.Test.YtcemekianoehfaaDoorCkLookB
import Derived.Test.YtcemekianoehfaaDoorCkRLook
namespace Go.Proofs.YtcemekianoehfaaDoor
open Go.RowKit Go.Lib Go.Sort

set_option maxHeartbeats 16000000 in
set_option maxRecDepth 100000 in
theorem look_off (a b m k : Int) (h : Nat) (s : Int) (f : Nat) (n : Int) (hn : askB a b m k h false s f n = true) (w : World) : Calls Tryd.prog 15 #[ckV a b m k h false s f, .int .i64 n] w fun e w' => e = .returned (.tuple #[twoV a b, .bool (fallB a b k h false s n), .int .i64 0]) ∧ Below w.heap.size w w' := by
  obtain ⟨hA, hB, -, -, hM, hK0, -, -, -, hS0, hS1, hN⟩ := ask_bd hn
  have hFL := Lib.hid (fun W => falls_off a b m k h s f n W)
  clear hA hB hM hK0 hS0 hS1 hN
  obtain ⟨w0, hw0⟩ : ∃ w0, w0 = (w.alloc (.cells #[.int .i64 a, .int .i64 b, .int .i64 m, .int .i64 k, .int .u8 h, .bool false, .int .i64 s, .int .u8 f] 24)).alloc (.cells #[.int .i64 0, .int .i64 0] 22) := ⟨_, rfl⟩
  have HX0 : Hid (w0.heap[w.heap.size]? = some (.cells #[.int .i64 a, .int .i64 b, .int .i64 m, .int .i64 k, .int .u8 h, .bool false, .int .i64 s, .int .u8 f] 24 (0, 0))) := Lib.hid (by rw [hw0]; exact heap_older (heap_alloc_new _ _))
  have HZ0 : Hid (w0.heap[w.heap.size + 1]? = some (.cells #[.int .i64 0, .int .i64 0] 22 (0, 0))) := Lib.hid (by rw [hw0]; exact heap_newer _ _ _ (by simp))
  have HB0 : Hid (Below w.heap.size w w0) := Lib.hid (by rw [hw0]; exact (box_below _ _).alloc (by simp) _)
  have HW0 := Lib.hid hw0
  clear hw0
  go_enter Tryd.func15, Tryd.ntmps15
  go_wp2_with fail
  refine (ask_any a b m k h false s f n _).mono ?_
  rintro e w2 ⟨rfl, hb2⟩
  rw [← HW0.out] at hb2
  have HX2 := Lib.hid ((hb2.block _ (heap_lt HX0.out)).trans HX0.out)
  have HZ2 := Lib.hid ((hb2.block _ (heap_lt HZ0.out)).trans HZ0.out)
  have HB2 := Lib.hid (HB0.out.trans (hb2.mono HB0.out.size))
  clear hb2
  have hl0 := heap_lt HX2.out
  have hl1 := heap_lt HZ2.out
  have x0 := cell_blk (i := 0) HX2.out
  have x1 := cell_blk (i := 1) HX2.out
  have x2 := cell_blk (i := 2) HX2.out
  have x3 := cell_blk (i := 3) HX2.out
  have x4 := cell_blk (i := 4) HX2.out
  have x5 := cell_blk (i := 5) HX2.out
  have x6 := cell_blk (i := 6) HX2.out
  have x7 := cell_blk (i := 7) HX2.out
  simp [ckO] at x0 x1 x2 x3 x4 x5 x6 x7
  have z0 := cell_blk (i := 0) HZ2.out
  have z1 := cell_blk (i := 1) HZ2.out
  simp [ckO] at z0 z1
  have zf0 := free_blk (i := 0) HZ2.out
  have zf1 := free_blk (i := 1) HZ2.out
  go_wp2
  obtain ⟨w6, hw6⟩ : ∃ w6, w6 = w2.alloc (.cells #[.int .i64 a, .int .i64 b] 22) := ⟨_, rfl⟩
  rw [← hw6]
  have HX6 := Lib.hid (show w6.heap[w.heap.size]? = some (.cells #[.int .i64 a, .int .i64 b, .int .i64 m, .int .i64 k, .int .u8 h, .bool false, .int .i64 s, .int .u8 f] 24 (0, 0)) by rw [hw6]; exact heap_older HX2.out)
  have HZ6 := Lib.hid (show w6.heap[w.heap.size + 1]? = some (.cells #[.int .i64 0, .int .i64 0] 22 (0, 0)) by rw [hw6]; exact heap_older HZ2.out)
  have HL6 := Lib.hid (show w6.heap[w2.heap.size]? = some (.cells #[.int .i64 a, .int .i64 b] 22 (0, 0)) by rw [hw6]; exact heap_alloc_new _ _)
  have HB6 := Lib.hid (show Below w.heap.size w w6 by rw [hw6]; exact HB2.out.alloc (by have := HB2.out.size; exact this) _)
  clear hw6
  clear x0 x1 x2 x3 x4 x5 x6 x7
  clear z0 z1 zf0 zf1
  have x0 := cell_blk (i := 0) HX6.out
  have x1 := cell_blk (i := 1) HX6.out
  have x2 := cell_blk (i := 2) HX6.out
  have x3 := cell_blk (i := 3) HX6.out
  have x4 := cell_blk (i := 4) HX6.out
  have x5 := cell_blk (i := 5) HX6.out
  have x6 := cell_blk (i := 6) HX6.out
  have x7 := cell_blk (i := 7) HX6.out
  simp [ckO] at x0 x1 x2 x3 x4 x5 x6 x7
  have l0 := cell_blk (i := 0) HL6.out
  have l1 := cell_blk (i := 1) HL6.out
  simp [ckO] at l0 l1
  refine wp_region_held_drew (S := fun w' => w'.cell? ⟨w.heap.size, 0, none⟩ = some (.int .i64 a) ∧ w'.cell? ⟨w.heap.size, 1, none⟩ = some (.int .i64 b) ∧ w'.cell? ⟨w.heap.size, 2, none⟩ = some (.int .i64 m) ∧ w'.cell? ⟨w.heap.size, 3, none⟩ = some (.int .i64 k) ∧ w'.cell? ⟨w.heap.size, 4, none⟩ = some (.int .u8 h) ∧ w'.cell? ⟨w.heap.size, 5, none⟩ = some (.bool false) ∧ w'.cell? ⟨w.heap.size, 6, none⟩ = some (.int .i64 s) ∧ w'.cell? ⟨w.heap.size, 7, none⟩ = some (.int .u8 f) ∧ w'.cell? ⟨w2.heap.size, 0, none⟩ = some (.int .i64 a) ∧ w'.cell? ⟨w2.heap.size, 1, none⟩ = some (.int .i64 b)) (by kernel_rfl) ⟨by simpa using x0, by simpa using x1, by simpa using x2, by simpa using x3, by simpa using x4, by simpa using x5, by simpa using x6, by simpa using x7, by simpa using l0, by simpa using l1⟩ (fun hHeld => ?_)
  clear l0 l1 x0 x1 x2 x3 x4 x5 x6 x7
  refine take_at (i := 0) (v := ?_) rfl (by kernel_rfl) (by kernel_rfl) (by kernel_rfl) (fun _ _ _ h => h) (Or.inl ⟨by rfl, ?_⟩) hHeld ?_
  rotate_left
  · intro w hSw
    (try dsimp only at hSw)
    go_simp
    try with_reducible rfl
  try simp only [Act.put, List.setIfInBounds_toArray, List.set_cons_zero, List.set_cons_succ]
  try dsimp only
  refine take_at (i := 1) (v := ?_) rfl (by kernel_rfl) (by kernel_rfl) (by kernel_rfl) (fun _ _ _ h => h) (Or.inl ⟨by rfl, ?_⟩) hHeld ?_
  rotate_left
  · intro w hSw
    (try dsimp only at hSw)
    go_simp
    try with_reducible rfl
  try simp only [Act.put, List.setIfInBounds_toArray, List.set_cons_zero, List.set_cons_succ]
  try dsimp only
  refine take_at (i := 2) (v := ?_) rfl (by kernel_rfl) (by kernel_rfl) (by kernel_rfl) (fun _ _ _ h => h) (Or.inl ⟨by rfl, ?_⟩) hHeld ?_
  rotate_left
  · intro w hSw
    (try dsimp only at hSw)
    go_simp
    try with_reducible rfl
  try simp only [Act.put, List.setIfInBounds_toArray, List.set_cons_zero, List.set_cons_succ]
  try dsimp only
  refine wpAnyH_ready (rs := [3]) (by kernel_rfl) (by simp) ?_
  refine cons_at rfl (fun K hK => ?_) AllReadyH.nil
  go_simp
  refine (hFL.out _).mono ?_
  rintro e w7 ⟨rfl, d7⟩
  refine hK.out _ _ ⟨ck_later d7 hHeld.1, ck_later d7 hHeld.2.1, ck_later d7 hHeld.2.2.1, ck_later d7 hHeld.2.2.2.1, ck_later d7 hHeld.2.2.2.2.1, ck_later d7 hHeld.2.2.2.2.2.1, ck_later d7 hHeld.2.2.2.2.2.2.1, ck_later d7 hHeld.2.2.2.2.2.2.2.1, ck_later d7 hHeld.2.2.2.2.2.2.2.2.1, ck_later d7 hHeld.2.2.2.2.2.2.2.2.2⟩ (fun hHeld => ?_)
  clear hK K
  try simp only [Act.put, List.setIfInBounds_toArray, List.set_cons_zero, List.set_cons_succ]
  try dsimp only
  have HZ7 := Lib.hid ((d7.block _ (heap_lt HZ6.out)).trans HZ6.out)
  have HB7 := Lib.hid (HB6.out.drew.trans (d7.mono HB6.out.drew.size))
  clear d7
  have z0 := cell_blk (i := 0) HZ7.out
  have z1 := cell_blk (i := 1) HZ7.out
  simp [ckO] at z0 z1
  have zf0 := free_blk (i := 0) HZ7.out
  have zf1 := free_blk (i := 1) HZ7.out
  refine wpAnyH_ready (rs := [4]) (by kernel_rfl) (by simp) ?_
  refine cons_at rfl (fun K hK => ?_) AllReadyH.nil
  go_simp
  refine hK.out _ _ ⟨(by exact ck_farr (by show _ ≠ _; dsimp only; omega) <| ck_farr (by show _ ≠ _; dsimp only; omega) <| hHeld.1), (by exact ck_farr (by show _ ≠ _; dsimp only; omega) <| ck_farr (by show _ ≠ _; dsimp only; omega) <| hHeld.2.1), (by exact ck_farr (by show _ ≠ _; dsimp only; omega) <| ck_farr (by show _ ≠ _; dsimp only; omega) <| hHeld.2.2.1), (by exact ck_farr (by show _ ≠ _; dsimp only; omega) <| ck_farr (by show _ ≠ _; dsimp only; omega) <| hHeld.2.2.2.1), (by exact ck_farr (by show _ ≠ _; dsimp only; omega) <| ck_farr (by show _ ≠ _; dsimp only; omega) <| hHeld.2.2.2.2.1), (by exact ck_farr (by show _ ≠ _; dsimp only; omega) <| ck_farr (by show _ ≠ _; dsimp only; omega) <| hHeld.2.2.2.2.2.1), (by exact ck_farr (by show _ ≠ _; dsimp only; omega) <| ck_farr (by show _ ≠ _; dsimp only; omega) <| hHeld.2.2.2.2.2.2.1), (by exact ck_farr (by show _ ≠ _; dsimp only; omega) <| ck_farr (by show _ ≠ _; dsimp only; omega) <| hHeld.2.2.2.2.2.2.2.1), (by exact ck_farr (by show _ ≠ _; dsimp only; omega) <| ck_farr (by show _ ≠ _; dsimp only; omega) <| hHeld.2.2.2.2.2.2.2.2.1), (by exact ck_farr (by show _ ≠ _; dsimp only; omega) <| ck_farr (by show _ ≠ _; dsimp only; omega) <| hHeld.2.2.2.2.2.2.2.2.2)⟩ (fun hHeld => ?_)
  clear hK K
  try simp only [Act.put, List.setIfInBounds_toArray, List.set_cons_zero, List.set_cons_succ]
  try dsimp only
  refine take_at (i := 5) (v := ?_) rfl (by kernel_rfl) (by kernel_rfl) (by kernel_rfl) (fun _ _ _ h => h) (Or.inl ⟨by rfl, ?_⟩) hHeld ?_
  rotate_left
  · intro w hSw
    (try dsimp only at hSw)
    go_simp
    try with_reducible rfl
  try simp only [Act.put, List.setIfInBounds_toArray, List.set_cons_zero, List.set_cons_succ]
  try dsimp only
  refine take_at (i := 6) (v := ?_) rfl (by kernel_rfl) (by kernel_rfl) (by kernel_rfl) (fun _ _ _ h => h) (Or.inl ⟨by rfl, ?_⟩) hHeld ?_
  rotate_left
  · intro w hSw
    (try dsimp only at hSw)
    go_simp
    try with_reducible rfl
  try simp only [Act.put, List.setIfInBounds_toArray, List.set_cons_zero, List.set_cons_succ]
  try dsimp only
  refine wpAnyH_done (by kernel_rfl) ?_ _
  clear hHeld
  go_wp2
  exact bodyPost_ret (v := .tuple #[twoV a b, .bool (fallB a b k h false s n), .int .i64 0]) (by simp [results, Tryd.results15, go_sem, z0, z1, zf0, zf1]) rfl ⟨rfl, (by repeat (first | (with_reducible exact HB7.out) | ((with_reducible refine Below.setCell ?_ ?_ _); rotate_left; focus (simp; done)) | (with_reducible refine below_dr ?_ _) | (with_reducible refine Below.drew ?_)))⟩

theorem look_any (a b m k : Int) (h : Nat) (on : Bool) (s : Int) (f : Nat) (n : Int) (w : World) : Calls Tryd.prog 15 #[ckV a b m k h on s f, .int .i64 n] w fun e w' => e = .returned (.tuple #[twoV (lookC a b m k h on s f n).1 (lookC a b m k h on s f n).2.1, .bool (lookC a b m k h on s f n).2.2.1, .int .i64 (lookC a b m k h on s f n).2.2.2]) ∧ Below w.heap.size w w' := by
  unfold lookC
  cases hn : askB a b m k h on s f n
  · rw [if_neg (by simp)]
    exact look_no a b m k h on s f n hn w
  rw [if_pos rfl]
  cases on
  · rw [if_neg (by simp)]
    exact look_off a b m k h s f n hn w
  rw [if_pos rfl]
  obtain ⟨-, -, -, -, -, -, hh, -, hf2, -, -, -⟩ := ask_bd hn
  obtain rfl : f = 2 := by
    rcases hf2 with e | e
    · exact e
    · cases e
  obtain rfl | rfl : h = 0 ∨ h = 1 := by omega
  · exact look_on0 a b m k s n hn w
  · exact look_on1 a b m k s n hn w

set_option maxHeartbeats 16000000 in
set_option maxRecDepth 100000 in
theorem rlook_off (a b m k : Int) (h : Nat) (s : Int) (f : Nat) (hg : f < 256) (n : Int) (hn : askB a b m k h false s f n = true) (w : World) : Calls Tryd.prog 16 #[ckV a b m k h false s f, .int .i64 n] w fun e w' => e = .returned (.tuple #[twoV a b, .bool (fallB a b k h false s n), .int .i64 0]) ∧ Below w.heap.size w w' := by
  obtain ⟨hA, hB, -, -, hM, hK0, -, -, -, hS0, hS1, hN⟩ := ask_bd hn
  have hFL := Lib.hid (fun W => rfalls_off a b m k h s f n hS0 hS1 hN W)
  clear hA hB hM hK0 hS0 hS1 hN
  obtain ⟨w0, hw0⟩ : ∃ w0, w0 = (w.alloc (.cells #[.int .i64 a, .int .i64 b, .int .i64 m, .int .i64 k, .int .u8 h, .bool false, .int .i64 s, .int .u8 f] 24)).alloc (.cells #[.int .i64 0, .int .i64 0] 22) := ⟨_, rfl⟩
  have HX0 : Hid (w0.heap[w.heap.size]? = some (.cells #[.int .i64 a, .int .i64 b, .int .i64 m, .int .i64 k, .int .u8 h, .bool false, .int .i64 s, .int .u8 f] 24 (0, 0))) := Lib.hid (by rw [hw0]; exact heap_older (heap_alloc_new _ _))
  have HZ0 : Hid (w0.heap[w.heap.size + 1]? = some (.cells #[.int .i64 0, .int .i64 0] 22 (0, 0))) := Lib.hid (by rw [hw0]; exact heap_newer _ _ _ (by simp))
  have HB0 : Hid (Below w.heap.size w w0) := Lib.hid (by rw [hw0]; exact (box_below _ _).alloc (by simp) _)
  have HW0 := Lib.hid hw0
  clear hw0
  go_enter Tryd.func16, Tryd.ntmps16
  go_wp2_with fail
  refine (rask_any a b m k h false s f hg n _).mono ?_
  rintro e w2 ⟨rfl, hb2⟩
  rw [← HW0.out] at hb2
  have HX2 := Lib.hid ((hb2.block _ (heap_lt HX0.out)).trans HX0.out)
  have HZ2 := Lib.hid ((hb2.block _ (heap_lt HZ0.out)).trans HZ0.out)
  have HB2 := Lib.hid (HB0.out.trans (hb2.mono HB0.out.size))
  clear hb2
  have hl0 := heap_lt HX2.out
  have hl1 := heap_lt HZ2.out
  have x0 := cell_blk (i := 0) HX2.out
  have x1 := cell_blk (i := 1) HX2.out
  have x2 := cell_blk (i := 2) HX2.out
  have x3 := cell_blk (i := 3) HX2.out
  have x4 := cell_blk (i := 4) HX2.out
  have x5 := cell_blk (i := 5) HX2.out
  have x6 := cell_blk (i := 6) HX2.out
  have x7 := cell_blk (i := 7) HX2.out
  simp [ckO] at x0 x1 x2 x3 x4 x5 x6 x7
  have z0 := cell_blk (i := 0) HZ2.out
  have z1 := cell_blk (i := 1) HZ2.out
  simp [ckO] at z0 z1
  have zf0 := free_blk (i := 0) HZ2.out
  have zf1 := free_blk (i := 1) HZ2.out
  go_wp2
  obtain ⟨w6, hw6⟩ : ∃ w6, w6 = w2.alloc (.cells #[.int .i64 a, .int .i64 b] 22) := ⟨_, rfl⟩
  rw [← hw6]
  have HX6 := Lib.hid (show w6.heap[w.heap.size]? = some (.cells #[.int .i64 a, .int .i64 b, .int .i64 m, .int .i64 k, .int .u8 h, .bool false, .int .i64 s, .int .u8 f] 24 (0, 0)) by rw [hw6]; exact heap_older HX2.out)
  have HZ6 := Lib.hid (show w6.heap[w.heap.size + 1]? = some (.cells #[.int .i64 0, .int .i64 0] 22 (0, 0)) by rw [hw6]; exact heap_older HZ2.out)
  have HL6 := Lib.hid (show w6.heap[w2.heap.size]? = some (.cells #[.int .i64 a, .int .i64 b] 22 (0, 0)) by rw [hw6]; exact heap_alloc_new _ _)
  have HB6 := Lib.hid (show Below w.heap.size w w6 by rw [hw6]; exact HB2.out.alloc (by have := HB2.out.size; exact this) _)
  clear hw6
  clear x0 x1 x2 x3 x4 x5 x6 x7
  clear z0 z1 zf0 zf1
  have x0 := cell_blk (i := 0) HX6.out
  have x1 := cell_blk (i := 1) HX6.out
  have x2 := cell_blk (i := 2) HX6.out
  have x3 := cell_blk (i := 3) HX6.out
  have x4 := cell_blk (i := 4) HX6.out
  have x5 := cell_blk (i := 5) HX6.out
  have x6 := cell_blk (i := 6) HX6.out
  have x7 := cell_blk (i := 7) HX6.out
  simp [ckO] at x0 x1 x2 x3 x4 x5 x6 x7
  have l0 := cell_blk (i := 0) HL6.out
  have l1 := cell_blk (i := 1) HL6.out
  simp [ckO] at l0 l1
  refine wp_region_held_drew (S := fun w' => w'.cell? ⟨w.heap.size, 0, none⟩ = some (.int .i64 a) ∧ w'.cell? ⟨w.heap.size, 1, none⟩ = some (.int .i64 b) ∧ w'.cell? ⟨w.heap.size, 2, none⟩ = some (.int .i64 m) ∧ w'.cell? ⟨w.heap.size, 3, none⟩ = some (.int .i64 k) ∧ w'.cell? ⟨w.heap.size, 4, none⟩ = some (.int .u8 h) ∧ w'.cell? ⟨w.heap.size, 5, none⟩ = some (.bool false) ∧ w'.cell? ⟨w.heap.size, 6, none⟩ = some (.int .i64 s) ∧ w'.cell? ⟨w.heap.size, 7, none⟩ = some (.int .u8 f) ∧ w'.cell? ⟨w2.heap.size, 0, none⟩ = some (.int .i64 a) ∧ w'.cell? ⟨w2.heap.size, 1, none⟩ = some (.int .i64 b)) (by kernel_rfl) ⟨by simpa using x0, by simpa using x1, by simpa using x2, by simpa using x3, by simpa using x4, by simpa using x5, by simpa using x6, by simpa using x7, by simpa using l0, by simpa using l1⟩ (fun hHeld => ?_)
  clear l0 l1 x0 x1 x2 x3 x4 x5 x6 x7
  refine take_at (i := 0) (v := ?_) rfl (by kernel_rfl) (by kernel_rfl) (by kernel_rfl) (fun _ _ _ h => h) (Or.inl ⟨by rfl, ?_⟩) hHeld ?_
  rotate_left
  · intro w hSw
    (try dsimp only at hSw)
    go_simp
    try with_reducible rfl
  try simp only [Act.put, List.setIfInBounds_toArray, List.set_cons_zero, List.set_cons_succ]
  try dsimp only
  refine take_at (i := 1) (v := ?_) rfl (by kernel_rfl) (by kernel_rfl) (by kernel_rfl) (fun _ _ _ h => h) (Or.inl ⟨by rfl, ?_⟩) hHeld ?_
  rotate_left
  · intro w hSw
    (try dsimp only at hSw)
    go_simp
    try with_reducible rfl
  try simp only [Act.put, List.setIfInBounds_toArray, List.set_cons_zero, List.set_cons_succ]
  try dsimp only
  refine take_at (i := 2) (v := ?_) rfl (by kernel_rfl) (by kernel_rfl) (by kernel_rfl) (fun _ _ _ h => h) (Or.inl ⟨by rfl, ?_⟩) hHeld ?_
  rotate_left
  · intro w hSw
    (try dsimp only at hSw)
    go_simp
    try with_reducible rfl
  try simp only [Act.put, List.setIfInBounds_toArray, List.set_cons_zero, List.set_cons_succ]
  try dsimp only
  refine wpAnyH_ready (rs := [3]) (by kernel_rfl) (by simp) ?_
  refine cons_at rfl (fun K hK => ?_) AllReadyH.nil
  go_simp
  refine (hFL.out _).mono ?_
  rintro e w7 ⟨rfl, d7⟩
  refine hK.out _ _ ⟨ck_later d7 hHeld.1, ck_later d7 hHeld.2.1, ck_later d7 hHeld.2.2.1, ck_later d7 hHeld.2.2.2.1, ck_later d7 hHeld.2.2.2.2.1, ck_later d7 hHeld.2.2.2.2.2.1, ck_later d7 hHeld.2.2.2.2.2.2.1, ck_later d7 hHeld.2.2.2.2.2.2.2.1, ck_later d7 hHeld.2.2.2.2.2.2.2.2.1, ck_later d7 hHeld.2.2.2.2.2.2.2.2.2⟩ (fun hHeld => ?_)
  clear hK K
  try simp only [Act.put, List.setIfInBounds_toArray, List.set_cons_zero, List.set_cons_succ]
  try dsimp only
  have HZ7 := Lib.hid ((d7.block _ (heap_lt HZ6.out)).trans HZ6.out)
  have HB7 := Lib.hid (HB6.out.drew.trans (d7.mono HB6.out.drew.size))
  clear d7
  have z0 := cell_blk (i := 0) HZ7.out
  have z1 := cell_blk (i := 1) HZ7.out
  simp [ckO] at z0 z1
  have zf0 := free_blk (i := 0) HZ7.out
  have zf1 := free_blk (i := 1) HZ7.out
  refine wpAnyH_ready (rs := [4]) (by kernel_rfl) (by simp) ?_
  refine cons_at rfl (fun K hK => ?_) AllReadyH.nil
  go_simp
  refine hK.out _ _ ⟨(by exact ck_farr (by show _ ≠ _; dsimp only; omega) <| ck_farr (by show _ ≠ _; dsimp only; omega) <| hHeld.1), (by exact ck_farr (by show _ ≠ _; dsimp only; omega) <| ck_farr (by show _ ≠ _; dsimp only; omega) <| hHeld.2.1), (by exact ck_farr (by show _ ≠ _; dsimp only; omega) <| ck_farr (by show _ ≠ _; dsimp only; omega) <| hHeld.2.2.1), (by exact ck_farr (by show _ ≠ _; dsimp only; omega) <| ck_farr (by show _ ≠ _; dsimp only; omega) <| hHeld.2.2.2.1), (by exact ck_farr (by show _ ≠ _; dsimp only; omega) <| ck_farr (by show _ ≠ _; dsimp only; omega) <| hHeld.2.2.2.2.1), (by exact ck_farr (by show _ ≠ _; dsimp only; omega) <| ck_farr (by show _ ≠ _; dsimp only; omega) <| hHeld.2.2.2.2.2.1), (by exact ck_farr (by show _ ≠ _; dsimp only; omega) <| ck_farr (by show _ ≠ _; dsimp only; omega) <| hHeld.2.2.2.2.2.2.1), (by exact ck_farr (by show _ ≠ _; dsimp only; omega) <| ck_farr (by show _ ≠ _; dsimp only; omega) <| hHeld.2.2.2.2.2.2.2.1), (by exact ck_farr (by show _ ≠ _; dsimp only; omega) <| ck_farr (by show _ ≠ _; dsimp only; omega) <| hHeld.2.2.2.2.2.2.2.2.1), (by exact ck_farr (by show _ ≠ _; dsimp only; omega) <| ck_farr (by show _ ≠ _; dsimp only; omega) <| hHeld.2.2.2.2.2.2.2.2.2)⟩ (fun hHeld => ?_)
  clear hK K
  try simp only [Act.put, List.setIfInBounds_toArray, List.set_cons_zero, List.set_cons_succ]
  try dsimp only
  refine take_at (i := 5) (v := ?_) rfl (by kernel_rfl) (by kernel_rfl) (by kernel_rfl) (fun _ _ _ h => h) (Or.inl ⟨by rfl, ?_⟩) hHeld ?_
  rotate_left
  · intro w hSw
    (try dsimp only at hSw)
    go_simp
    try with_reducible rfl
  try simp only [Act.put, List.setIfInBounds_toArray, List.set_cons_zero, List.set_cons_succ]
  try dsimp only
  refine take_at (i := 6) (v := ?_) rfl (by kernel_rfl) (by kernel_rfl) (by kernel_rfl) (fun _ _ _ h => h) (Or.inl ⟨by rfl, ?_⟩) hHeld ?_
  rotate_left
  · intro w hSw
    (try dsimp only at hSw)
    go_simp
    try with_reducible rfl
  try simp only [Act.put, List.setIfInBounds_toArray, List.set_cons_zero, List.set_cons_succ]
  try dsimp only
  refine wpAnyH_done (by kernel_rfl) ?_ _
  clear hHeld
  go_wp2
  exact bodyPost_ret (v := .tuple #[twoV a b, .bool (fallB a b k h false s n), .int .i64 0]) (by simp [results, Tryd.results16, go_sem, z0, z1, zf0, zf1]) rfl ⟨rfl, (by repeat (first | (with_reducible exact HB7.out) | ((with_reducible refine Below.setCell ?_ ?_ _); rotate_left; focus (simp; done)) | (with_reducible refine below_dr ?_ _) | (with_reducible refine Below.drew ?_)))⟩

theorem rlook_any (a b m k : Int) (h : Nat) (on : Bool) (s : Int) (f : Nat) (hg : f < 256) (n : Int) (w : World) : Calls Tryd.prog 16 #[ckV a b m k h on s f, .int .i64 n] w fun e w' => e = .returned (.tuple #[twoV (lookC a b m k h on s f n).1 (lookC a b m k h on s f n).2.1, .bool (lookC a b m k h on s f n).2.2.1, .int .i64 (lookC a b m k h on s f n).2.2.2]) ∧ Below w.heap.size w w' := by
  unfold lookC
  cases hn : askB a b m k h on s f n
  · rw [if_neg (by simp)]
    exact rlook_no a b m k h on s f hg n hn w
  rw [if_pos rfl]
  cases on
  · rw [if_neg (by simp)]
    exact rlook_off a b m k h s f hg n hn w
  rw [if_pos rfl]
  obtain ⟨-, -, -, -, -, -, hh, -, hf2, -, -, -⟩ := ask_bd hn
  obtain rfl : f = 2 := by
    rcases hf2 with e | e
    · exact e
    · cases e
  obtain rfl | rfl : h = 0 ∨ h = 1 := by omega
  · exact rlook_on0 a b m k s n hn w
  · exact rlook_on1 a b m k s n hn w

end Go.Proofs.YtcemekianoehfaaDoor
