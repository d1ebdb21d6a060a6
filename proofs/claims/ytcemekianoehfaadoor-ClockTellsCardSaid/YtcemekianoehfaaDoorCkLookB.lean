/- clock.Look of a clock that is On: walked. (Made by gen/mkck.py.) -/
import Derived.Test.YtcemekianoehfaaDoorCkLookA
import Derived.Test.YtcemekianoehfaaDoorCkRFalls
import Derived.Deep.RegionHeld3
namespace Go.Proofs.YtcemekianoehfaaDoor
open Go.RowKit Go.Lib Go.Sort

section
variable {P : Program} {l : List Oper} {Q : Exit → Act → World → Prop} {md : Region.Mode} {S : World → Prop}
theorem take_at {i : Nat} {oi : Oper} {v : Value} {fuel : Nat} {listed : Array Bool} {a : Act} {w : World} (hi : l[i]? = some oi)
  (hs : Region.noSelect l.toArray = true) (hf : Region.free md l.toArray listed i = true) (hr : (Region.ready md l.toArray listed).contains i = true)
  (hQ : ∀ c a w, Q (.panic c) (a.put oi.dst v) w → Q (.panic c) a w) (hy : YieldsIf P l.toArray S oi v a) (hS : S w)
  (h : wpAnyH P md l.toArray Q S fuel (listed.setIfInBounds i true) (a.put oi.dst v) w) : wpAnyH P md l.toArray Q S (fuel + 1) listed a w :=
wpAnyH_take (by rw [List.getElem?_toArray]; exact hi) hs hf hr hQ hy hS h
theorem cons_at {fuel : Nat} {listed : Array Bool} {a : Act} {w : World} {i : Nat} {o : Oper} {rs : List Nat} (ho : l[i]? = some o)
  (h : ∀ K' : Act → World → Prop, Shut (∀ a w, S w → (S w → wpAnyH P md l.toArray Q S fuel (listed.setIfInBounds i true) a w) → K' a w) → if Region.wanted o (yielded l.toArray a.tmps) = true then Oper.wp P o a w K' Q else K' (a.put o.dst undef) w)
  (hs : AllReadyH P md l.toArray Q S fuel listed a w rs) : AllReadyH P md l.toArray Q S fuel listed a w (i :: rs) :=
AllReadyH.cons (by rw [List.getElem?_toArray]; exact ho) h hs
end

theorem ck_farr {w : World} {a p : Addr} {u v : Value} (hne : a.block ≠ p.block) (h : w.cell? a = some v) : (w.setCell p u).cell? a = some v := by
  rw [World.cell?_of_block (w := w) (heap_set_far hne u)]; exact h
theorem max_walk (x : Int) (hx : -1073741824 ≤ x) (hx' : x ≤ 1073741824) : (if IntKind.i64.wrap x < 0 then 0 else IntKind.i64.wrap x) = max x 0 := by
  rw [IntWalk.i64_in x (by omega)]
  by_cases h : x < 0
  · rw [if_pos h]; omega
  · rw [if_neg h]; omega
theorem max_walk2 (a u : Int) (hu : 0 ≤ u) (hu' : u ≤ 1073741824) (hx : 0 ≤ a) (hx' : a ≤ 1073741824) : (if IntKind.i64.wrap (a - IntKind.i64.wrap u) < 0 then 0 else IntKind.i64.wrap (a - IntKind.i64.wrap u)) = max (a - u) 0 := by
  rw [IntWalk.i64_in u (by omega)]; exact max_walk _ (by omega) (by omega)
set_option maxHeartbeats 16000000 in
set_option maxRecDepth 100000 in
theorem look_on0 (a b m k s n : Int) (hn : askB a b m k 0 true s 2 n = true) (w : World) : Calls Tryd.prog 15 #[ckV a b m k 0 true s 2, .int .i64 n] w fun e w' => e = .returned (.tuple #[twoV (max (a - (n - s)) 0) b, .bool (fallB a b k 0 true s n), .int .i64 0]) ∧ Below w.heap.size w w' := by
  obtain ⟨hA, hB, -, -, hM, hK0, -, -, -, hS0, hS1, hN⟩ := ask_bd hn
  have MX := Lib.hid (max_walk (a - (n - s)) (by omega) (by omega))
  have hFL := Lib.hid (fun W => falls_on0 a b m k s 2 n hS0 hS1 hN W)
  clear hA hB hM hK0 hS0 hS1 hN
  have hU := Lib.hid (fun W => used_any a b m k 0 true s 2 n (ask_bd hn).2.2.2.2.2.2.2.2.2.1 (ask_bd hn).2.2.2.2.2.2.2.2.2.2.1 (ask_bd hn).2.2.2.2.2.2.2.2.2.2.2 W)
  obtain ⟨w0, hw0⟩ : ∃ w0, w0 = (w.alloc (.cells #[.int .i64 a, .int .i64 b, .int .i64 m, .int .i64 k, .int .u8 0, .bool true, .int .i64 s, .int .u8 2] 24)).alloc (.cells #[.int .i64 0, .int .i64 0] 22) := ⟨_, rfl⟩
  have HX0 : Hid (w0.heap[w.heap.size]? = some (.cells #[.int .i64 a, .int .i64 b, .int .i64 m, .int .i64 k, .int .u8 0, .bool true, .int .i64 s, .int .u8 2] 24 (0, 0))) := Lib.hid (by rw [hw0]; exact heap_older (heap_alloc_new _ _))
  have HZ0 : Hid (w0.heap[w.heap.size + 1]? = some (.cells #[.int .i64 0, .int .i64 0] 22 (0, 0))) := Lib.hid (by rw [hw0]; exact heap_newer _ _ _ (by simp))
  have HB0 : Hid (Below w.heap.size w w0) := Lib.hid (by rw [hw0]; exact (box_below _ _).alloc (by simp) _)
  have HW0 := Lib.hid hw0
  clear hw0
  go_enter Tryd.func15, Tryd.ntmps15
  go_wp2_with fail
  refine (ask_any a b m k 0 true s 2 n _).mono ?_
  rintro e w2 ⟨rfl, hb2⟩
  rw [← HW0.out] at hb2
  have HX2 := Lib.hid ((hb2.block _ (heap_lt HX0.out)).trans HX0.out)
  have HZ2 := Lib.hid ((hb2.block _ (heap_lt HZ0.out)).trans HZ0.out)
  have HB2 := Lib.hid (HB0.out.trans (hb2.mono HB0.out.size))
  clear hb2
  have hl0 := heap_lt HX2.out
  have hl1 := heap_lt HZ2.out
  have x0 := cell_blk (i := 0) HX2.out
  have x1 := cell_blk (i := 1) HX2.out
  have x2 := cell_blk (i := 2) HX2.out
  have x3 := cell_blk (i := 3) HX2.out
  have x4 := cell_blk (i := 4) HX2.out
  have x5 := cell_blk (i := 5) HX2.out
  have x6 := cell_blk (i := 6) HX2.out
  have x7 := cell_blk (i := 7) HX2.out
  simp [ckO] at x0 x1 x2 x3 x4 x5 x6 x7
  have z0 := cell_blk (i := 0) HZ2.out
  have z1 := cell_blk (i := 1) HZ2.out
  simp [ckO] at z0 z1
  have zf0 := free_blk (i := 0) HZ2.out
  have zf1 := free_blk (i := 1) HZ2.out
  go_wp2
  obtain ⟨w3, hw3⟩ : ∃ w3, w3 = w2.alloc (.cells #[.int .i64 a, .int .i64 b] 22) := ⟨_, rfl⟩
  rw [← hw3]
  have HX3 := Lib.hid (show w3.heap[w.heap.size]? = some (.cells #[.int .i64 a, .int .i64 b, .int .i64 m, .int .i64 k, .int .u8 0, .bool true, .int .i64 s, .int .u8 2] 24 (0, 0)) by rw [hw3]; exact heap_older HX2.out)
  have HZ3 := Lib.hid (show w3.heap[w.heap.size + 1]? = some (.cells #[.int .i64 0, .int .i64 0] 22 (0, 0)) by rw [hw3]; exact heap_older HZ2.out)
  have HL3 := Lib.hid (show w3.heap[w2.heap.size]? = some (.cells #[.int .i64 a, .int .i64 b] 22 (0, 0)) by rw [hw3]; exact heap_alloc_new _ _)
  have HB3 := Lib.hid (show Below w.heap.size w w3 by rw [hw3]; exact HB2.out.alloc (by have := HB2.out.size; exact this) _)
  clear hw3
  clear x0 x1 x2 x3 x4 x5 x6 x7
  clear z0 z1 zf0 zf1
  have x0 := cell_blk (i := 0) HX3.out
  have x1 := cell_blk (i := 1) HX3.out
  have x2 := cell_blk (i := 2) HX3.out
  have x3 := cell_blk (i := 3) HX3.out
  have x4 := cell_blk (i := 4) HX3.out
  have x5 := cell_blk (i := 5) HX3.out
  have x6 := cell_blk (i := 6) HX3.out
  have x7 := cell_blk (i := 7) HX3.out
  simp [ckO] at x0 x1 x2 x3 x4 x5 x6 x7
  have l0 := cell_blk (i := 0) HL3.out
  have l1 := cell_blk (i := 1) HL3.out
  simp [ckO] at l0 l1
  have lf0 := free_blk (i := 0) HL3.out
  have lf1 := free_blk (i := 1) HL3.out
  refine wp_region_held_drew (S := fun w' => w'.cell? ⟨w.heap.size, 0, none⟩ = some (.int .i64 a) ∧ w'.cell? ⟨w.heap.size, 1, none⟩ = some (.int .i64 b) ∧ w'.cell? ⟨w.heap.size, 2, none⟩ = some (.int .i64 m) ∧ w'.cell? ⟨w.heap.size, 3, none⟩ = some (.int .i64 k) ∧ w'.cell? ⟨w.heap.size, 4, none⟩ = some (.int .u8 0) ∧ w'.cell? ⟨w.heap.size, 5, none⟩ = some (.bool true) ∧ w'.cell? ⟨w.heap.size, 6, none⟩ = some (.int .i64 s) ∧ w'.cell? ⟨w.heap.size, 7, none⟩ = some (.int .u8 2)) (by kernel_rfl) ⟨by simpa using x0, by simpa using x1, by simpa using x2, by simpa using x3, by simpa using x4, by simpa using x5, by simpa using x6, by simpa using x7⟩ (fun hHeld => ?_)
  refine take_at (i := 0) (v := ?_) rfl (by kernel_rfl) (by kernel_rfl) (by kernel_rfl) (fun _ _ _ h => h) (Or.inl ⟨by rfl, ?_⟩) hHeld ?_
  rotate_left
  · intro w hSw
    (try dsimp only at hSw)
    go_simp
    try with_reducible rfl
  try simp only [Act.put, List.setIfInBounds_toArray, List.set_cons_zero, List.set_cons_succ]
  try dsimp only
  refine take_at (i := 1) (v := ?_) rfl (by kernel_rfl) (by kernel_rfl) (by kernel_rfl) (fun _ _ _ h => h) (Or.inl ⟨by rfl, ?_⟩) hHeld ?_
  rotate_left
  · intro w hSw
    (try dsimp only at hSw)
    go_simp
    try with_reducible rfl
  try simp only [Act.put, List.setIfInBounds_toArray, List.set_cons_zero, List.set_cons_succ]
  try dsimp only
  refine take_at (i := 2) (v := ?_) rfl (by kernel_rfl) (by kernel_rfl) (by kernel_rfl) (fun _ _ _ h => h) (Or.inl ⟨by rfl, ?_⟩) hHeld ?_
  rotate_left
  · intro w hSw
    (try dsimp only at hSw)
    go_simp
    try with_reducible rfl
  try simp only [Act.put, List.setIfInBounds_toArray, List.set_cons_zero, List.set_cons_succ]
  try dsimp only
  refine take_at (i := 3) (v := ?_) rfl (by kernel_rfl) (by kernel_rfl) (by kernel_rfl) (fun _ _ _ h => h) (Or.inl ⟨by rfl, ?_⟩) hHeld ?_
  rotate_left
  · intro w hSw
    (try dsimp only at hSw)
    go_simp
    try with_reducible rfl
  try simp only [Act.put, List.setIfInBounds_toArray, List.set_cons_zero, List.set_cons_succ]
  try dsimp only
  refine take_at (i := 4) (v := ?_) rfl (by kernel_rfl) (by kernel_rfl) (by kernel_rfl) (fun _ _ _ h => h) (Or.inl ⟨by rfl, ?_⟩) hHeld ?_
  rotate_left
  · intro w hSw
    (try dsimp only at hSw)
    go_simp
    try with_reducible rfl
  try simp only [Act.put, List.setIfInBounds_toArray, List.set_cons_zero, List.set_cons_succ]
  try dsimp only
  refine take_at (i := 6) (v := ?_) rfl (by kernel_rfl) (by kernel_rfl) (by kernel_rfl) (fun _ _ _ h => h) (Or.inl ⟨by rfl, ?_⟩) hHeld ?_
  rotate_left
  · intro w hSw
    (try dsimp only at hSw)
    go_simp
    try with_reducible rfl
  try simp only [Act.put, List.setIfInBounds_toArray, List.set_cons_zero, List.set_cons_succ]
  try dsimp only
  refine take_at (i := 7) (v := ?_) rfl (by kernel_rfl) (by kernel_rfl) (by kernel_rfl) (fun _ _ _ h => h) (Or.inl ⟨by rfl, ?_⟩) hHeld ?_
  rotate_left
  · intro w hSw
    (try dsimp only at hSw)
    go_simp
    try with_reducible rfl
  try simp only [Act.put, List.setIfInBounds_toArray, List.set_cons_zero, List.set_cons_succ]
  try dsimp only
  refine wpAnyH_ready (rs := [5, 8]) (by kernel_rfl) (by simp) ?_
  refine cons_at rfl (fun K hK => ?_) (cons_at rfl (fun K hK => ?_) AllReadyH.nil)
  · go_simp
    refine hK.out _ _ hHeld (fun hHeld => ?_)
    clear hK K
    try simp only [Act.put, List.setIfInBounds_toArray, List.set_cons_zero, List.set_cons_succ]
    try dsimp only
    refine wpAnyH_ready (rs := [8]) (by kernel_rfl) (by simp) ?_
    refine cons_at rfl (fun K hK => ?_) AllReadyH.nil
    go_simp
    refine (hU.out _).mono ?_
    rintro e w5 ⟨rfl, d5⟩
    refine hK.out _ _ ⟨ck_later d5 hHeld.1, ck_later d5 hHeld.2.1, ck_later d5 hHeld.2.2.1, ck_later d5 hHeld.2.2.2.1, ck_later d5 hHeld.2.2.2.2.1, ck_later d5 hHeld.2.2.2.2.2.1, ck_later d5 hHeld.2.2.2.2.2.2.1, ck_later d5 hHeld.2.2.2.2.2.2.2⟩ (fun hHeld => ?_)
    clear hK K
    try simp only [Act.put, List.setIfInBounds_toArray, List.set_cons_zero, List.set_cons_succ]
    try dsimp only
    have HX5 := Lib.hid ((d5.block _ (heap_lt HX3.out)).trans HX3.out)
    have HZ5 := Lib.hid ((d5.block _ (heap_lt HZ3.out)).trans HZ3.out)
    have HL5 := Lib.hid ((d5.block _ (heap_lt HL3.out)).trans HL3.out)
    have HB5 := Lib.hid (HB3.out.drew.trans (d5.mono HB3.out.drew.size))
    clear d5
    clear l0 l1 lf0 lf1
    have l0 := cell_blk (i := 0) HL5.out
    have l1 := cell_blk (i := 1) HL5.out
    simp [ckO] at l0 l1
    have lf0 := free_blk (i := 0) HL5.out
    have lf1 := free_blk (i := 1) HL5.out
    refine take_at (i := 9) (v := ?_) rfl (by kernel_rfl) (by kernel_rfl) (by kernel_rfl) (fun _ _ _ h => h) (Or.inl ⟨by rfl, ?_⟩) hHeld ?_
    rotate_left
    · intro w hSw
      (try dsimp only at hSw)
      go_simp
      try with_reducible rfl
    try simp only [Act.put, List.setIfInBounds_toArray, List.set_cons_zero, List.set_cons_succ]
    try dsimp only
    refine wpAnyH_ready (rs := [10]) (by kernel_rfl) (by simp) ?_
    refine cons_at rfl (fun K hK => ?_) AllReadyH.nil
    go_simp
    refine hK.out _ _ hHeld (fun hHeld => ?_)
    clear hK K
    try simp only [Act.put, List.setIfInBounds_toArray, List.set_cons_zero, List.set_cons_succ]
    try dsimp only
    rw [MX.out]
    refine take_at (i := 11) (v := ?_) rfl (by kernel_rfl) (by kernel_rfl) (by kernel_rfl) (fun _ _ _ h => h) (Or.inl ⟨by rfl, ?_⟩) hHeld ?_
    rotate_left
    · intro w hSw
      (try dsimp only at hSw)
      go_simp
      try with_reducible rfl
    try simp only [Act.put, List.setIfInBounds_toArray, List.set_cons_zero, List.set_cons_succ]
    try dsimp only
    refine wpAnyH_ready (rs := [12]) (by kernel_rfl) (by simp) ?_
    refine cons_at rfl (fun K hK => ?_) AllReadyH.nil
    go_simp
    refine hK.out _ _ ⟨(by exact ck_farr (by show _ ≠ _; dsimp only; omega) hHeld.1), (by exact ck_farr (by show _ ≠ _; dsimp only; omega) hHeld.2.1), (by exact ck_farr (by show _ ≠ _; dsimp only; omega) hHeld.2.2.1), (by exact ck_farr (by show _ ≠ _; dsimp only; omega) hHeld.2.2.2.1), (by exact ck_farr (by show _ ≠ _; dsimp only; omega) hHeld.2.2.2.2.1), (by exact ck_farr (by show _ ≠ _; dsimp only; omega) hHeld.2.2.2.2.2.1), (by exact ck_farr (by show _ ≠ _; dsimp only; omega) hHeld.2.2.2.2.2.2.1), (by exact ck_farr (by show _ ≠ _; dsimp only; omega) hHeld.2.2.2.2.2.2.2)⟩ (fun hHeld => ?_)
    clear hK K
    try simp only [Act.put, List.setIfInBounds_toArray, List.set_cons_zero, List.set_cons_succ]
    try dsimp only
    refine wpAnyH_done (by kernel_rfl) ?_ _
    clear hHeld l0 l1 lf0 lf1
    clear x0 x1 x2 x3 x4 x5 x6 x7
    go_wp2
    obtain ⟨w6, hw6⟩ : ∃ w6, w6 = w5.setCell ⟨w2.heap.size, 0, none⟩ (.int .i64 (max (a - (n - s)) 0)) := ⟨_, rfl⟩
    rw [← hw6]
    have HX6 := Lib.hid (show w6.heap[w.heap.size]? = some (.cells #[.int .i64 a, .int .i64 b, .int .i64 m, .int .i64 k, .int .u8 0, .bool true, .int .i64 s, .int .u8 2] 24 (0, 0)) by rw [hw6]; show (w5.setCell ⟨w2.heap.size, 0, none⟩ (.int .i64 (max (a - (n - s)) 0))).heap[_]? = _; rw [heap_set_far (by show _ ≠ _; dsimp only; omega)]; exact HX5.out)
    have HZ6 := Lib.hid (show w6.heap[w.heap.size + 1]? = some (.cells #[.int .i64 0, .int .i64 0] 22 (0, 0)) by rw [hw6]; show (w5.setCell ⟨w2.heap.size, 0, none⟩ (.int .i64 (max (a - (n - s)) 0))).heap[_]? = _; rw [heap_set_far (by show _ ≠ _; dsimp only; omega)]; exact HZ5.out)
    have HL6 := Lib.hid (show w6.heap[w2.heap.size]? = some (.cells #[.int .i64 (max (a - (n - s)) 0), .int .i64 b] 22 (0, 0)) by rw [hw6]; show (w5.setCell ⟨w2.heap.size, 0, none⟩ (.int .i64 (max (a - (n - s)) 0))).heap[_]? = _; rw [heap_set (i := 0) HL5.out]; rfl)
    have HB6 := Lib.hid (show Below w.heap.size w w6 by rw [hw6]; exact (HB5.out.setCell (by show _ ≤ _; dsimp only; omega) _))
    clear hw6
    have x0 := cell_blk (i := 0) HX6.out
    have x1 := cell_blk (i := 1) HX6.out
    have x2 := cell_blk (i := 2) HX6.out
    have x3 := cell_blk (i := 3) HX6.out
    have x4 := cell_blk (i := 4) HX6.out
    have x5 := cell_blk (i := 5) HX6.out
    have x6 := cell_blk (i := 6) HX6.out
    have x7 := cell_blk (i := 7) HX6.out
    simp [ckO] at x0 x1 x2 x3 x4 x5 x6 x7
    have l0 := cell_blk (i := 0) HL6.out
    have l1 := cell_blk (i := 1) HL6.out
    simp [ckO] at l0 l1
    refine wp_region_held_drew (S := fun w' => w'.cell? ⟨w.heap.size, 0, none⟩ = some (.int .i64 a) ∧ w'.cell? ⟨w.heap.size, 1, none⟩ = some (.int .i64 b) ∧ w'.cell? ⟨w.heap.size, 2, none⟩ = some (.int .i64 m) ∧ w'.cell? ⟨w.heap.size, 3, none⟩ = some (.int .i64 k) ∧ w'.cell? ⟨w.heap.size, 4, none⟩ = some (.int .u8 0) ∧ w'.cell? ⟨w.heap.size, 5, none⟩ = some (.bool true) ∧ w'.cell? ⟨w.heap.size, 6, none⟩ = some (.int .i64 s) ∧ w'.cell? ⟨w.heap.size, 7, none⟩ = some (.int .u8 2) ∧ w'.cell? ⟨w2.heap.size, 0, none⟩ = some (.int .i64 (max (a - (n - s)) 0)) ∧ w'.cell? ⟨w2.heap.size, 1, none⟩ = some (.int .i64 b)) (by kernel_rfl) ⟨by simpa using x0, by simpa using x1, by simpa using x2, by simpa using x3, by simpa using x4, by simpa using x5, by simpa using x6, by simpa using x7, by simpa using l0, by simpa using l1⟩ (fun hHeld => ?_)
    clear l0 l1 x0 x1 x2 x3 x4 x5 x6 x7
    refine take_at (i := 0) (v := ?_) rfl (by kernel_rfl) (by kernel_rfl) (by kernel_rfl) (fun _ _ _ h => h) (Or.inl ⟨by rfl, ?_⟩) hHeld ?_
    rotate_left
    · intro w hSw
      (try dsimp only at hSw)
      go_simp
      try with_reducible rfl
    try simp only [Act.put, List.setIfInBounds_toArray, List.set_cons_zero, List.set_cons_succ]
    try dsimp only
    refine take_at (i := 1) (v := ?_) rfl (by kernel_rfl) (by kernel_rfl) (by kernel_rfl) (fun _ _ _ h => h) (Or.inl ⟨by rfl, ?_⟩) hHeld ?_
    rotate_left
    · intro w hSw
      (try dsimp only at hSw)
      go_simp
      try with_reducible rfl
    try simp only [Act.put, List.setIfInBounds_toArray, List.set_cons_zero, List.set_cons_succ]
    try dsimp only
    refine take_at (i := 2) (v := ?_) rfl (by kernel_rfl) (by kernel_rfl) (by kernel_rfl) (fun _ _ _ h => h) (Or.inl ⟨by rfl, ?_⟩) hHeld ?_
    rotate_left
    · intro w hSw
      (try dsimp only at hSw)
      go_simp
      try with_reducible rfl
    try simp only [Act.put, List.setIfInBounds_toArray, List.set_cons_zero, List.set_cons_succ]
    try dsimp only
    refine wpAnyH_ready (rs := [3]) (by kernel_rfl) (by simp) ?_
    refine cons_at rfl (fun K hK => ?_) AllReadyH.nil
    go_simp
    refine (hFL.out _).mono ?_
    rintro e w7 ⟨rfl, d7⟩
    refine hK.out _ _ ⟨ck_later d7 hHeld.1, ck_later d7 hHeld.2.1, ck_later d7 hHeld.2.2.1, ck_later d7 hHeld.2.2.2.1, ck_later d7 hHeld.2.2.2.2.1, ck_later d7 hHeld.2.2.2.2.2.1, ck_later d7 hHeld.2.2.2.2.2.2.1, ck_later d7 hHeld.2.2.2.2.2.2.2.1, ck_later d7 hHeld.2.2.2.2.2.2.2.2.1, ck_later d7 hHeld.2.2.2.2.2.2.2.2.2⟩ (fun hHeld => ?_)
    clear hK K
    try simp only [Act.put, List.setIfInBounds_toArray, List.set_cons_zero, List.set_cons_succ]
    try dsimp only
    have HZ7 := Lib.hid ((d7.block _ (heap_lt HZ6.out)).trans HZ6.out)
    have HB7 := Lib.hid (HB6.out.drew.trans (d7.mono HB6.out.drew.size))
    clear d7
    have z0 := cell_blk (i := 0) HZ7.out
    have z1 := cell_blk (i := 1) HZ7.out
    simp [ckO] at z0 z1
    have zf0 := free_blk (i := 0) HZ7.out
    have zf1 := free_blk (i := 1) HZ7.out
    refine wpAnyH_ready (rs := [4]) (by kernel_rfl) (by simp) ?_
    refine cons_at rfl (fun K hK => ?_) AllReadyH.nil
    go_simp
    refine hK.out _ _ ⟨(by exact ck_farr (by show _ ≠ _; dsimp only; omega) <| ck_farr (by show _ ≠ _; dsimp only; omega) <| hHeld.1), (by exact ck_farr (by show _ ≠ _; dsimp only; omega) <| ck_farr (by show _ ≠ _; dsimp only; omega) <| hHeld.2.1), (by exact ck_farr (by show _ ≠ _; dsimp only; omega) <| ck_farr (by show _ ≠ _; dsimp only; omega) <| hHeld.2.2.1), (by exact ck_farr (by show _ ≠ _; dsimp only; omega) <| ck_farr (by show _ ≠ _; dsimp only; omega) <| hHeld.2.2.2.1), (by exact ck_farr (by show _ ≠ _; dsimp only; omega) <| ck_farr (by show _ ≠ _; dsimp only; omega) <| hHeld.2.2.2.2.1), (by exact ck_farr (by show _ ≠ _; dsimp only; omega) <| ck_farr (by show _ ≠ _; dsimp only; omega) <| hHeld.2.2.2.2.2.1), (by exact ck_farr (by show _ ≠ _; dsimp only; omega) <| ck_farr (by show _ ≠ _; dsimp only; omega) <| hHeld.2.2.2.2.2.2.1), (by exact ck_farr (by show _ ≠ _; dsimp only; omega) <| ck_farr (by show _ ≠ _; dsimp only; omega) <| hHeld.2.2.2.2.2.2.2.1), (by exact ck_farr (by show _ ≠ _; dsimp only; omega) <| ck_farr (by show _ ≠ _; dsimp only; omega) <| hHeld.2.2.2.2.2.2.2.2.1), (by exact ck_farr (by show _ ≠ _; dsimp only; omega) <| ck_farr (by show _ ≠ _; dsimp only; omega) <| hHeld.2.2.2.2.2.2.2.2.2)⟩ (fun hHeld => ?_)
    clear hK K
    try simp only [Act.put, List.setIfInBounds_toArray, List.set_cons_zero, List.set_cons_succ]
    try dsimp only
    refine take_at (i := 5) (v := ?_) rfl (by kernel_rfl) (by kernel_rfl) (by kernel_rfl) (fun _ _ _ h => h) (Or.inl ⟨by rfl, ?_⟩) hHeld ?_
    rotate_left
    · intro w hSw
      (try dsimp only at hSw)
      go_simp
      try with_reducible rfl
    try simp only [Act.put, List.setIfInBounds_toArray, List.set_cons_zero, List.set_cons_succ]
    try dsimp only
    refine take_at (i := 6) (v := ?_) rfl (by kernel_rfl) (by kernel_rfl) (by kernel_rfl) (fun _ _ _ h => h) (Or.inl ⟨by rfl, ?_⟩) hHeld ?_
    rotate_left
    · intro w hSw
      (try dsimp only at hSw)
      go_simp
      try with_reducible rfl
    try simp only [Act.put, List.setIfInBounds_toArray, List.set_cons_zero, List.set_cons_succ]
    try dsimp only
    refine wpAnyH_done (by kernel_rfl) ?_ _
    clear hHeld
    go_wp2
    exact bodyPost_ret (v := .tuple #[twoV (max (a - (n - s)) 0) b, .bool (fallB a b k 0 true s n), .int .i64 0]) (by simp [results, Tryd.results15, go_sem, z0, z1, zf0, zf1]) rfl ⟨rfl, (by repeat (first | (with_reducible exact HB7.out) | ((with_reducible refine Below.setCell ?_ ?_ _); rotate_left; focus (simp; done)) | (with_reducible refine below_dr ?_ _) | (with_reducible refine Below.drew ?_)))⟩
  · go_simp
    refine (hU.out _).mono ?_
    rintro e w5 ⟨rfl, d5⟩
    refine hK.out _ _ ⟨ck_later d5 hHeld.1, ck_later d5 hHeld.2.1, ck_later d5 hHeld.2.2.1, ck_later d5 hHeld.2.2.2.1, ck_later d5 hHeld.2.2.2.2.1, ck_later d5 hHeld.2.2.2.2.2.1, ck_later d5 hHeld.2.2.2.2.2.2.1, ck_later d5 hHeld.2.2.2.2.2.2.2⟩ (fun hHeld => ?_)
    clear hK K
    try simp only [Act.put, List.setIfInBounds_toArray, List.set_cons_zero, List.set_cons_succ]
    try dsimp only
    have HX5 := Lib.hid ((d5.block _ (heap_lt HX3.out)).trans HX3.out)
    have HZ5 := Lib.hid ((d5.block _ (heap_lt HZ3.out)).trans HZ3.out)
    have HL5 := Lib.hid ((d5.block _ (heap_lt HL3.out)).trans HL3.out)
    have HB5 := Lib.hid (HB3.out.drew.trans (d5.mono HB3.out.drew.size))
    clear d5
    clear l0 l1 lf0 lf1
    have l0 := cell_blk (i := 0) HL5.out
    have l1 := cell_blk (i := 1) HL5.out
    simp [ckO] at l0 l1
    have lf0 := free_blk (i := 0) HL5.out
    have lf1 := free_blk (i := 1) HL5.out
    refine wpAnyH_ready (rs := [5]) (by kernel_rfl) (by simp) ?_
    refine cons_at rfl (fun K hK => ?_) AllReadyH.nil
    go_simp
    refine hK.out _ _ hHeld (fun hHeld => ?_)
    clear hK K
    try simp only [Act.put, List.setIfInBounds_toArray, List.set_cons_zero, List.set_cons_succ]
    try dsimp only
    refine take_at (i := 9) (v := ?_) rfl (by kernel_rfl) (by kernel_rfl) (by kernel_rfl) (fun _ _ _ h => h) (Or.inl ⟨by rfl, ?_⟩) hHeld ?_
    rotate_left
    · intro w hSw
      (try dsimp only at hSw)
      go_simp
      try with_reducible rfl
    try simp only [Act.put, List.setIfInBounds_toArray, List.set_cons_zero, List.set_cons_succ]
    try dsimp only
    refine wpAnyH_ready (rs := [10]) (by kernel_rfl) (by simp) ?_
    refine cons_at rfl (fun K hK => ?_) AllReadyH.nil
    go_simp
    refine hK.out _ _ hHeld (fun hHeld => ?_)
    clear hK K
    try simp only [Act.put, List.setIfInBounds_toArray, List.set_cons_zero, List.set_cons_succ]
    try dsimp only
    rw [MX.out]
    refine take_at (i := 11) (v := ?_) rfl (by kernel_rfl) (by kernel_rfl) (by kernel_rfl) (fun _ _ _ h => h) (Or.inl ⟨by rfl, ?_⟩) hHeld ?_
    rotate_left
    · intro w hSw
      (try dsimp only at hSw)
      go_simp
      try with_reducible rfl
    try simp only [Act.put, List.setIfInBounds_toArray, List.set_cons_zero, List.set_cons_succ]
    try dsimp only
    refine wpAnyH_ready (rs := [12]) (by kernel_rfl) (by simp) ?_
    refine cons_at rfl (fun K hK => ?_) AllReadyH.nil
    go_simp
    refine hK.out _ _ ⟨(by exact ck_farr (by show _ ≠ _; dsimp only; omega) hHeld.1), (by exact ck_farr (by show _ ≠ _; dsimp only; omega) hHeld.2.1), (by exact ck_farr (by show _ ≠ _; dsimp only; omega) hHeld.2.2.1), (by exact ck_farr (by show _ ≠ _; dsimp only; omega) hHeld.2.2.2.1), (by exact ck_farr (by show _ ≠ _; dsimp only; omega) hHeld.2.2.2.2.1), (by exact ck_farr (by show _ ≠ _; dsimp only; omega) hHeld.2.2.2.2.2.1), (by exact ck_farr (by show _ ≠ _; dsimp only; omega) hHeld.2.2.2.2.2.2.1), (by exact ck_farr (by show _ ≠ _; dsimp only; omega) hHeld.2.2.2.2.2.2.2)⟩ (fun hHeld => ?_)
    clear hK K
    try simp only [Act.put, List.setIfInBounds_toArray, List.set_cons_zero, List.set_cons_succ]
    try dsimp only
    refine wpAnyH_done (by kernel_rfl) ?_ _
    clear hHeld l0 l1 lf0 lf1
    clear x0 x1 x2 x3 x4 x5 x6 x7
    go_wp2
    obtain ⟨w6, hw6⟩ : ∃ w6, w6 = w5.setCell ⟨w2.heap.size, 0, none⟩ (.int .i64 (max (a - (n - s)) 0)) := ⟨_, rfl⟩
    rw [← hw6]
    have HX6 := Lib.hid (show w6.heap[w.heap.size]? = some (.cells #[.int .i64 a, .int .i64 b, .int .i64 m, .int .i64 k, .int .u8 0, .bool true, .int .i64 s, .int .u8 2] 24 (0, 0)) by rw [hw6]; show (w5.setCell ⟨w2.heap.size, 0, none⟩ (.int .i64 (max (a - (n - s)) 0))).heap[_]? = _; rw [heap_set_far (by show _ ≠ _; dsimp only; omega)]; exact HX5.out)
    have HZ6 := Lib.hid (show w6.heap[w.heap.size + 1]? = some (.cells #[.int .i64 0, .int .i64 0] 22 (0, 0)) by rw [hw6]; show (w5.setCell ⟨w2.heap.size, 0, none⟩ (.int .i64 (max (a - (n - s)) 0))).heap[_]? = _; rw [heap_set_far (by show _ ≠ _; dsimp only; omega)]; exact HZ5.out)
    have HL6 := Lib.hid (show w6.heap[w2.heap.size]? = some (.cells #[.int .i64 (max (a - (n - s)) 0), .int .i64 b] 22 (0, 0)) by rw [hw6]; show (w5.setCell ⟨w2.heap.size, 0, none⟩ (.int .i64 (max (a - (n - s)) 0))).heap[_]? = _; rw [heap_set (i := 0) HL5.out]; rfl)
    have HB6 := Lib.hid (show Below w.heap.size w w6 by rw [hw6]; exact (HB5.out.setCell (by show _ ≤ _; dsimp only; omega) _))
    clear hw6
    have x0 := cell_blk (i := 0) HX6.out
    have x1 := cell_blk (i := 1) HX6.out
    have x2 := cell_blk (i := 2) HX6.out
    have x3 := cell_blk (i := 3) HX6.out
    have x4 := cell_blk (i := 4) HX6.out
    have x5 := cell_blk (i := 5) HX6.out
    have x6 := cell_blk (i := 6) HX6.out
    have x7 := cell_blk (i := 7) HX6.out
    simp [ckO] at x0 x1 x2 x3 x4 x5 x6 x7
    have l0 := cell_blk (i := 0) HL6.out
    have l1 := cell_blk (i := 1) HL6.out
    simp [ckO] at l0 l1
    refine wp_region_held_drew (S := fun w' => w'.cell? ⟨w.heap.size, 0, none⟩ = some (.int .i64 a) ∧ w'.cell? ⟨w.heap.size, 1, none⟩ = some (.int .i64 b) ∧ w'.cell? ⟨w.heap.size, 2, none⟩ = some (.int .i64 m) ∧ w'.cell? ⟨w.heap.size, 3, none⟩ = some (.int .i64 k) ∧ w'.cell? ⟨w.heap.size, 4, none⟩ = some (.int .u8 0) ∧ w'.cell? ⟨w.heap.size, 5, none⟩ = some (.bool true) ∧ w'.cell? ⟨w.heap.size, 6, none⟩ = some (.int .i64 s) ∧ w'.cell? ⟨w.heap.size, 7, none⟩ = some (.int .u8 2) ∧ w'.cell? ⟨w2.heap.size, 0, none⟩ = some (.int .i64 (max (a - (n - s)) 0)) ∧ w'.cell? ⟨w2.heap.size, 1, none⟩ = some (.int .i64 b)) (by kernel_rfl) ⟨by simpa using x0, by simpa using x1, by simpa using x2, by simpa using x3, by simpa using x4, by simpa using x5, by simpa using x6, by simpa using x7, by simpa using l0, by simpa using l1⟩ (fun hHeld => ?_)
    clear l0 l1 x0 x1 x2 x3 x4 x5 x6 x7
    refine take_at (i := 0) (v := ?_) rfl (by kernel_rfl) (by kernel_rfl) (by kernel_rfl) (fun _ _ _ h => h) (Or.inl ⟨by rfl, ?_⟩) hHeld ?_
    rotate_left
    · intro w hSw
      (try dsimp only at hSw)
      go_simp
      try with_reducible rfl
    try simp only [Act.put, List.setIfInBounds_toArray, List.set_cons_zero, List.set_cons_succ]
    try dsimp only
    refine take_at (i := 1) (v := ?_) rfl (by kernel_rfl) (by kernel_rfl) (by kernel_rfl) (fun _ _ _ h => h) (Or.inl ⟨by rfl, ?_⟩) hHeld ?_
    rotate_left
    · intro w hSw
      (try dsimp only at hSw)
      go_simp
      try with_reducible rfl
    try simp only [Act.put, List.setIfInBounds_toArray, List.set_cons_zero, List.set_cons_succ]
    try dsimp only
    refine take_at (i := 2) (v := ?_) rfl (by kernel_rfl) (by kernel_rfl) (by kernel_rfl) (fun _ _ _ h => h) (Or.inl ⟨by rfl, ?_⟩) hHeld ?_
    rotate_left
    · intro w hSw
      (try dsimp only at hSw)
      go_simp
      try with_reducible rfl
    try simp only [Act.put, List.setIfInBounds_toArray, List.set_cons_zero, List.set_cons_succ]
    try dsimp only
    refine wpAnyH_ready (rs := [3]) (by kernel_rfl) (by simp) ?_
    refine cons_at rfl (fun K hK => ?_) AllReadyH.nil
    go_simp
    refine (hFL.out _).mono ?_
    rintro e w7 ⟨rfl, d7⟩
    refine hK.out _ _ ⟨ck_later d7 hHeld.1, ck_later d7 hHeld.2.1, ck_later d7 hHeld.2.2.1, ck_later d7 hHeld.2.2.2.1, ck_later d7 hHeld.2.2.2.2.1, ck_later d7 hHeld.2.2.2.2.2.1, ck_later d7 hHeld.2.2.2.2.2.2.1, ck_later d7 hHeld.2.2.2.2.2.2.2.1, ck_later d7 hHeld.2.2.2.2.2.2.2.2.1, ck_later d7 hHeld.2.2.2.2.2.2.2.2.2⟩ (fun hHeld => ?_)
    clear hK K
    try simp only [Act.put, List.setIfInBounds_toArray, List.set_cons_zero, List.set_cons_succ]
    try dsimp only
    have HZ7 := Lib.hid ((d7.block _ (heap_lt HZ6.out)).trans HZ6.out)
    have HB7 := Lib.hid (HB6.out.drew.trans (d7.mono HB6.out.drew.size))
    clear d7
    have z0 := cell_blk (i := 0) HZ7.out
    have z1 := cell_blk (i := 1) HZ7.out
    simp [ckO] at z0 z1
    have zf0 := free_blk (i := 0) HZ7.out
    have zf1 := free_blk (i := 1) HZ7.out
    refine wpAnyH_ready (rs := [4]) (by kernel_rfl) (by simp) ?_
    refine cons_at rfl (fun K hK => ?_) AllReadyH.nil
    go_simp
    refine hK.out _ _ ⟨(by exact ck_farr (by show _ ≠ _; dsimp only; omega) <| ck_farr (by show _ ≠ _; dsimp only; omega) <| hHeld.1), (by exact ck_farr (by show _ ≠ _; dsimp only; omega) <| ck_farr (by show _ ≠ _; dsimp only; omega) <| hHeld.2.1), (by exact ck_farr (by show _ ≠ _; dsimp only; omega) <| ck_farr (by show _ ≠ _; dsimp only; omega) <| hHeld.2.2.1), (by exact ck_farr (by show _ ≠ _; dsimp only; omega) <| ck_farr (by show _ ≠ _; dsimp only; omega) <| hHeld.2.2.2.1), (by exact ck_farr (by show _ ≠ _; dsimp only; omega) <| ck_farr (by show _ ≠ _; dsimp only; omega) <| hHeld.2.2.2.2.1), (by exact ck_farr (by show _ ≠ _; dsimp only; omega) <| ck_farr (by show _ ≠ _; dsimp only; omega) <| hHeld.2.2.2.2.2.1), (by exact ck_farr (by show _ ≠ _; dsimp only; omega) <| ck_farr (by show _ ≠ _; dsimp only; omega) <| hHeld.2.2.2.2.2.2.1), (by exact ck_farr (by show _ ≠ _; dsimp only; omega) <| ck_farr (by show _ ≠ _; dsimp only; omega) <| hHeld.2.2.2.2.2.2.2.1), (by exact ck_farr (by show _ ≠ _; dsimp only; omega) <| ck_farr (by show _ ≠ _; dsimp only; omega) <| hHeld.2.2.2.2.2.2.2.2.1), (by exact ck_farr (by show _ ≠ _; dsimp only; omega) <| ck_farr (by show _ ≠ _; dsimp only; omega) <| hHeld.2.2.2.2.2.2.2.2.2)⟩ (fun hHeld => ?_)
    clear hK K
    try simp only [Act.put, List.setIfInBounds_toArray, List.set_cons_zero, List.set_cons_succ]
    try dsimp only
    refine take_at (i := 5) (v := ?_) rfl (by kernel_rfl) (by kernel_rfl) (by kernel_rfl) (fun _ _ _ h => h) (Or.inl ⟨by rfl, ?_⟩) hHeld ?_
    rotate_left
    · intro w hSw
      (try dsimp only at hSw)
      go_simp
      try with_reducible rfl
    try simp only [Act.put, List.setIfInBounds_toArray, List.set_cons_zero, List.set_cons_succ]
    try dsimp only
    refine take_at (i := 6) (v := ?_) rfl (by kernel_rfl) (by kernel_rfl) (by kernel_rfl) (fun _ _ _ h => h) (Or.inl ⟨by rfl, ?_⟩) hHeld ?_
    rotate_left
    · intro w hSw
      (try dsimp only at hSw)
      go_simp
      try with_reducible rfl
    try simp only [Act.put, List.setIfInBounds_toArray, List.set_cons_zero, List.set_cons_succ]
    try dsimp only
    refine wpAnyH_done (by kernel_rfl) ?_ _
    clear hHeld
    go_wp2
    exact bodyPost_ret (v := .tuple #[twoV (max (a - (n - s)) 0) b, .bool (fallB a b k 0 true s n), .int .i64 0]) (by simp [results, Tryd.results15, go_sem, z0, z1, zf0, zf1]) rfl ⟨rfl, (by repeat (first | (with_reducible exact HB7.out) | ((with_reducible refine Below.setCell ?_ ?_ _); rotate_left; focus (simp; done)) | (with_reducible refine below_dr ?_ _) | (with_reducible refine Below.drew ?_)))⟩

set_option maxHeartbeats 16000000 in
set_option maxRecDepth 100000 in
theorem look_on1 (a b m k s n : Int) (hn : askB a b m k 1 true s 2 n = true) (w : World) : Calls Tryd.prog 15 #[ckV a b m k 1 true s 2, .int .i64 n] w fun e w' => e = .returned (.tuple #[twoV a (max (b - (n - s)) 0), .bool (fallB a b k 1 true s n), .int .i64 0]) ∧ Below w.heap.size w w' := by
  obtain ⟨hA, hB, -, -, hM, hK0, -, -, -, hS0, hS1, hN⟩ := ask_bd hn
  have MX := Lib.hid (max_walk (b - (n - s)) (by omega) (by omega))
  have hFL := Lib.hid (fun W => falls_on1 a b m k s 2 n hS0 hS1 hN W)
  clear hA hB hM hK0 hS0 hS1 hN
  have hU := Lib.hid (fun W => used_any a b m k 1 true s 2 n (ask_bd hn).2.2.2.2.2.2.2.2.2.1 (ask_bd hn).2.2.2.2.2.2.2.2.2.2.1 (ask_bd hn).2.2.2.2.2.2.2.2.2.2.2 W)
  obtain ⟨w0, hw0⟩ : ∃ w0, w0 = (w.alloc (.cells #[.int .i64 a, .int .i64 b, .int .i64 m, .int .i64 k, .int .u8 1, .bool true, .int .i64 s, .int .u8 2] 24)).alloc (.cells #[.int .i64 0, .int .i64 0] 22) := ⟨_, rfl⟩
  have HX0 : Hid (w0.heap[w.heap.size]? = some (.cells #[.int .i64 a, .int .i64 b, .int .i64 m, .int .i64 k, .int .u8 1, .bool true, .int .i64 s, .int .u8 2] 24 (0, 0))) := Lib.hid (by rw [hw0]; exact heap_older (heap_alloc_new _ _))
  have HZ0 : Hid (w0.heap[w.heap.size + 1]? = some (.cells #[.int .i64 0, .int .i64 0] 22 (0, 0))) := Lib.hid (by rw [hw0]; exact heap_newer _ _ _ (by simp))
  have HB0 : Hid (Below w.heap.size w w0) := Lib.hid (by rw [hw0]; exact (box_below _ _).alloc (by simp) _)
  have HW0 := Lib.hid hw0
  clear hw0
  go_enter Tryd.func15, Tryd.ntmps15
  go_wp2_with fail
  refine (ask_any a b m k 1 true s 2 n _).mono ?_
  rintro e w2 ⟨rfl, hb2⟩
  rw [← HW0.out] at hb2
  have HX2 := Lib.hid ((hb2.block _ (heap_lt HX0.out)).trans HX0.out)
  have HZ2 := Lib.hid ((hb2.block _ (heap_lt HZ0.out)).trans HZ0.out)
  have HB2 := Lib.hid (HB0.out.trans (hb2.mono HB0.out.size))
  clear hb2
  have hl0 := heap_lt HX2.out
  have hl1 := heap_lt HZ2.out
  have x0 := cell_blk (i := 0) HX2.out
  have x1 := cell_blk (i := 1) HX2.out
  have x2 := cell_blk (i := 2) HX2.out
  have x3 := cell_blk (i := 3) HX2.out
  have x4 := cell_blk (i := 4) HX2.out
  have x5 := cell_blk (i := 5) HX2.out
  have x6 := cell_blk (i := 6) HX2.out
  have x7 := cell_blk (i := 7) HX2.out
  simp [ckO] at x0 x1 x2 x3 x4 x5 x6 x7
  have z0 := cell_blk (i := 0) HZ2.out
  have z1 := cell_blk (i := 1) HZ2.out
  simp [ckO] at z0 z1
  have zf0 := free_blk (i := 0) HZ2.out
  have zf1 := free_blk (i := 1) HZ2.out
  go_wp2
  obtain ⟨w3, hw3⟩ : ∃ w3, w3 = w2.alloc (.cells #[.int .i64 a, .int .i64 b] 22) := ⟨_, rfl⟩
  rw [← hw3]
  have HX3 := Lib.hid (show w3.heap[w.heap.size]? = some (.cells #[.int .i64 a, .int .i64 b, .int .i64 m, .int .i64 k, .int .u8 1, .bool true, .int .i64 s, .int .u8 2] 24 (0, 0)) by rw [hw3]; exact heap_older HX2.out)
  have HZ3 := Lib.hid (show w3.heap[w.heap.size + 1]? = some (.cells #[.int .i64 0, .int .i64 0] 22 (0, 0)) by rw [hw3]; exact heap_older HZ2.out)
  have HL3 := Lib.hid (show w3.heap[w2.heap.size]? = some (.cells #[.int .i64 a, .int .i64 b] 22 (0, 0)) by rw [hw3]; exact heap_alloc_new _ _)
  have HB3 := Lib.hid (show Below w.heap.size w w3 by rw [hw3]; exact HB2.out.alloc (by have := HB2.out.size; exact this) _)
  clear hw3
  clear x0 x1 x2 x3 x4 x5 x6 x7
  clear z0 z1 zf0 zf1
  have x0 := cell_blk (i := 0) HX3.out
  have x1 := cell_blk (i := 1) HX3.out
  have x2 := cell_blk (i := 2) HX3.out
  have x3 := cell_blk (i := 3) HX3.out
  have x4 := cell_blk (i := 4) HX3.out
  have x5 := cell_blk (i := 5) HX3.out
  have x6 := cell_blk (i := 6) HX3.out
  have x7 := cell_blk (i := 7) HX3.out
  simp [ckO] at x0 x1 x2 x3 x4 x5 x6 x7
  have l0 := cell_blk (i := 0) HL3.out
  have l1 := cell_blk (i := 1) HL3.out
  simp [ckO] at l0 l1
  have lf0 := free_blk (i := 0) HL3.out
  have lf1 := free_blk (i := 1) HL3.out
  refine wp_region_held_drew (S := fun w' => w'.cell? ⟨w.heap.size, 0, none⟩ = some (.int .i64 a) ∧ w'.cell? ⟨w.heap.size, 1, none⟩ = some (.int .i64 b) ∧ w'.cell? ⟨w.heap.size, 2, none⟩ = some (.int .i64 m) ∧ w'.cell? ⟨w.heap.size, 3, none⟩ = some (.int .i64 k) ∧ w'.cell? ⟨w.heap.size, 4, none⟩ = some (.int .u8 1) ∧ w'.cell? ⟨w.heap.size, 5, none⟩ = some (.bool true) ∧ w'.cell? ⟨w.heap.size, 6, none⟩ = some (.int .i64 s) ∧ w'.cell? ⟨w.heap.size, 7, none⟩ = some (.int .u8 2)) (by kernel_rfl) ⟨by simpa using x0, by simpa using x1, by simpa using x2, by simpa using x3, by simpa using x4, by simpa using x5, by simpa using x6, by simpa using x7⟩ (fun hHeld => ?_)
  refine take_at (i := 0) (v := ?_) rfl (by kernel_rfl) (by kernel_rfl) (by kernel_rfl) (fun _ _ _ h => h) (Or.inl ⟨by rfl, ?_⟩) hHeld ?_
  rotate_left
  · intro w hSw
    (try dsimp only at hSw)
    go_simp
    try with_reducible rfl
  try simp only [Act.put, List.setIfInBounds_toArray, List.set_cons_zero, List.set_cons_succ]
  try dsimp only
  refine take_at (i := 1) (v := ?_) rfl (by kernel_rfl) (by kernel_rfl) (by kernel_rfl) (fun _ _ _ h => h) (Or.inl ⟨by rfl, ?_⟩) hHeld ?_
  rotate_left
  · intro w hSw
    (try dsimp only at hSw)
    go_simp
    try with_reducible rfl
  try simp only [Act.put, List.setIfInBounds_toArray, List.set_cons_zero, List.set_cons_succ]
  try dsimp only
  refine take_at (i := 2) (v := ?_) rfl (by kernel_rfl) (by kernel_rfl) (by kernel_rfl) (fun _ _ _ h => h) (Or.inl ⟨by rfl, ?_⟩) hHeld ?_
  rotate_left
  · intro w hSw
    (try dsimp only at hSw)
    go_simp
    try with_reducible rfl
  try simp only [Act.put, List.setIfInBounds_toArray, List.set_cons_zero, List.set_cons_succ]
  try dsimp only
  refine take_at (i := 3) (v := ?_) rfl (by kernel_rfl) (by kernel_rfl) (by kernel_rfl) (fun _ _ _ h => h) (Or.inl ⟨by rfl, ?_⟩) hHeld ?_
  rotate_left
  · intro w hSw
    (try dsimp only at hSw)
    go_simp
    try with_reducible rfl
  try simp only [Act.put, List.setIfInBounds_toArray, List.set_cons_zero, List.set_cons_succ]
  try dsimp only
  refine take_at (i := 4) (v := ?_) rfl (by kernel_rfl) (by kernel_rfl) (by kernel_rfl) (fun _ _ _ h => h) (Or.inl ⟨by rfl, ?_⟩) hHeld ?_
  rotate_left
  · intro w hSw
    (try dsimp only at hSw)
    go_simp
    try with_reducible rfl
  try simp only [Act.put, List.setIfInBounds_toArray, List.set_cons_zero, List.set_cons_succ]
  try dsimp only
  refine take_at (i := 6) (v := ?_) rfl (by kernel_rfl) (by kernel_rfl) (by kernel_rfl) (fun _ _ _ h => h) (Or.inl ⟨by rfl, ?_⟩) hHeld ?_
  rotate_left
  · intro w hSw
    (try dsimp only at hSw)
    go_simp
    try with_reducible rfl
  try simp only [Act.put, List.setIfInBounds_toArray, List.set_cons_zero, List.set_cons_succ]
  try dsimp only
  refine take_at (i := 7) (v := ?_) rfl (by kernel_rfl) (by kernel_rfl) (by kernel_rfl) (fun _ _ _ h => h) (Or.inl ⟨by rfl, ?_⟩) hHeld ?_
  rotate_left
  · intro w hSw
    (try dsimp only at hSw)
    go_simp
    try with_reducible rfl
  try simp only [Act.put, List.setIfInBounds_toArray, List.set_cons_zero, List.set_cons_succ]
  try dsimp only
  refine wpAnyH_ready (rs := [5, 8]) (by kernel_rfl) (by simp) ?_
  refine cons_at rfl (fun K hK => ?_) (cons_at rfl (fun K hK => ?_) AllReadyH.nil)
  · go_simp
    refine hK.out _ _ hHeld (fun hHeld => ?_)
    clear hK K
    try simp only [Act.put, List.setIfInBounds_toArray, List.set_cons_zero, List.set_cons_succ]
    try dsimp only
    refine wpAnyH_ready (rs := [8]) (by kernel_rfl) (by simp) ?_
    refine cons_at rfl (fun K hK => ?_) AllReadyH.nil
    go_simp
    refine (hU.out _).mono ?_
    rintro e w5 ⟨rfl, d5⟩
    refine hK.out _ _ ⟨ck_later d5 hHeld.1, ck_later d5 hHeld.2.1, ck_later d5 hHeld.2.2.1, ck_later d5 hHeld.2.2.2.1, ck_later d5 hHeld.2.2.2.2.1, ck_later d5 hHeld.2.2.2.2.2.1, ck_later d5 hHeld.2.2.2.2.2.2.1, ck_later d5 hHeld.2.2.2.2.2.2.2⟩ (fun hHeld => ?_)
    clear hK K
    try simp only [Act.put, List.setIfInBounds_toArray, List.set_cons_zero, List.set_cons_succ]
    try dsimp only
    have HX5 := Lib.hid ((d5.block _ (heap_lt HX3.out)).trans HX3.out)
    have HZ5 := Lib.hid ((d5.block _ (heap_lt HZ3.out)).trans HZ3.out)
    have HL5 := Lib.hid ((d5.block _ (heap_lt HL3.out)).trans HL3.out)
    have HB5 := Lib.hid (HB3.out.drew.trans (d5.mono HB3.out.drew.size))
    clear d5
    clear l0 l1 lf0 lf1
    have l0 := cell_blk (i := 0) HL5.out
    have l1 := cell_blk (i := 1) HL5.out
    simp [ckO] at l0 l1
    have lf0 := free_blk (i := 0) HL5.out
    have lf1 := free_blk (i := 1) HL5.out
    refine take_at (i := 9) (v := ?_) rfl (by kernel_rfl) (by kernel_rfl) (by kernel_rfl) (fun _ _ _ h => h) (Or.inl ⟨by rfl, ?_⟩) hHeld ?_
    rotate_left
    · intro w hSw
      (try dsimp only at hSw)
      go_simp
      try with_reducible rfl
    try simp only [Act.put, List.setIfInBounds_toArray, List.set_cons_zero, List.set_cons_succ]
    try dsimp only
    refine wpAnyH_ready (rs := [10]) (by kernel_rfl) (by simp) ?_
    refine cons_at rfl (fun K hK => ?_) AllReadyH.nil
    go_simp
    refine hK.out _ _ hHeld (fun hHeld => ?_)
    clear hK K
    try simp only [Act.put, List.setIfInBounds_toArray, List.set_cons_zero, List.set_cons_succ]
    try dsimp only
    rw [MX.out]
    refine take_at (i := 11) (v := ?_) rfl (by kernel_rfl) (by kernel_rfl) (by kernel_rfl) (fun _ _ _ h => h) (Or.inl ⟨by rfl, ?_⟩) hHeld ?_
    rotate_left
    · intro w hSw
      (try dsimp only at hSw)
      go_simp
      try with_reducible rfl
    try simp only [Act.put, List.setIfInBounds_toArray, List.set_cons_zero, List.set_cons_succ]
    try dsimp only
    refine wpAnyH_ready (rs := [12]) (by kernel_rfl) (by simp) ?_
    refine cons_at rfl (fun K hK => ?_) AllReadyH.nil
    go_simp
    refine hK.out _ _ ⟨(by exact ck_farr (by show _ ≠ _; dsimp only; omega) hHeld.1), (by exact ck_farr (by show _ ≠ _; dsimp only; omega) hHeld.2.1), (by exact ck_farr (by show _ ≠ _; dsimp only; omega) hHeld.2.2.1), (by exact ck_farr (by show _ ≠ _; dsimp only; omega) hHeld.2.2.2.1), (by exact ck_farr (by show _ ≠ _; dsimp only; omega) hHeld.2.2.2.2.1), (by exact ck_farr (by show _ ≠ _; dsimp only; omega) hHeld.2.2.2.2.2.1), (by exact ck_farr (by show _ ≠ _; dsimp only; omega) hHeld.2.2.2.2.2.2.1), (by exact ck_farr (by show _ ≠ _; dsimp only; omega) hHeld.2.2.2.2.2.2.2)⟩ (fun hHeld => ?_)
    clear hK K
    try simp only [Act.put, List.setIfInBounds_toArray, List.set_cons_zero, List.set_cons_succ]
    try dsimp only
    refine wpAnyH_done (by kernel_rfl) ?_ _
    clear hHeld l0 l1 lf0 lf1
    clear x0 x1 x2 x3 x4 x5 x6 x7
    go_wp2
    obtain ⟨w6, hw6⟩ : ∃ w6, w6 = w5.setCell ⟨w2.heap.size, 1, none⟩ (.int .i64 (max (b - (n - s)) 0)) := ⟨_, rfl⟩
    rw [← hw6]
    have HX6 := Lib.hid (show w6.heap[w.heap.size]? = some (.cells #[.int .i64 a, .int .i64 b, .int .i64 m, .int .i64 k, .int .u8 1, .bool true, .int .i64 s, .int .u8 2] 24 (0, 0)) by rw [hw6]; show (w5.setCell ⟨w2.heap.size, 1, none⟩ (.int .i64 (max (b - (n - s)) 0))).heap[_]? = _; rw [heap_set_far (by show _ ≠ _; dsimp only; omega)]; exact HX5.out)
    have HZ6 := Lib.hid (show w6.heap[w.heap.size + 1]? = some (.cells #[.int .i64 0, .int .i64 0] 22 (0, 0)) by rw [hw6]; show (w5.setCell ⟨w2.heap.size, 1, none⟩ (.int .i64 (max (b - (n - s)) 0))).heap[_]? = _; rw [heap_set_far (by show _ ≠ _; dsimp only; omega)]; exact HZ5.out)
    have HL6 := Lib.hid (show w6.heap[w2.heap.size]? = some (.cells #[.int .i64 a, .int .i64 (max (b - (n - s)) 0)] 22 (0, 0)) by rw [hw6]; show (w5.setCell ⟨w2.heap.size, 1, none⟩ (.int .i64 (max (b - (n - s)) 0))).heap[_]? = _; rw [heap_set (i := 1) HL5.out]; rfl)
    have HB6 := Lib.hid (show Below w.heap.size w w6 by rw [hw6]; exact (HB5.out.setCell (by show _ ≤ _; dsimp only; omega) _))
    clear hw6
    have x0 := cell_blk (i := 0) HX6.out
    have x1 := cell_blk (i := 1) HX6.out
    have x2 := cell_blk (i := 2) HX6.out
    have x3 := cell_blk (i := 3) HX6.out
    have x4 := cell_blk (i := 4) HX6.out
    have x5 := cell_blk (i := 5) HX6.out
    have x6 := cell_blk (i := 6) HX6.out
    have x7 := cell_blk (i := 7) HX6.out
    simp [ckO] at x0 x1 x2 x3 x4 x5 x6 x7
    have l0 := cell_blk (i := 0) HL6.out
    have l1 := cell_blk (i := 1) HL6.out
    simp [ckO] at l0 l1
    refine wp_region_held_drew (S := fun w' => w'.cell? ⟨w.heap.size, 0, none⟩ = some (.int .i64 a) ∧ w'.cell? ⟨w.heap.size, 1, none⟩ = some (.int .i64 b) ∧ w'.cell? ⟨w.heap.size, 2, none⟩ = some (.int .i64 m) ∧ w'.cell? ⟨w.heap.size, 3, none⟩ = some (.int .i64 k) ∧ w'.cell? ⟨w.heap.size, 4, none⟩ = some (.int .u8 1) ∧ w'.cell? ⟨w.heap.size, 5, none⟩ = some (.bool true) ∧ w'.cell? ⟨w.heap.size, 6, none⟩ = some (.int .i64 s) ∧ w'.cell? ⟨w.heap.size, 7, none⟩ = some (.int .u8 2) ∧ w'.cell? ⟨w2.heap.size, 0, none⟩ = some (.int .i64 a) ∧ w'.cell? ⟨w2.heap.size, 1, none⟩ = some (.int .i64 (max (b - (n - s)) 0))) (by kernel_rfl) ⟨by simpa using x0, by simpa using x1, by simpa using x2, by simpa using x3, by simpa using x4, by simpa using x5, by simpa using x6, by simpa using x7, by simpa using l0, by simpa using l1⟩ (fun hHeld => ?_)
    clear l0 l1 x0 x1 x2 x3 x4 x5 x6 x7
    refine take_at (i := 0) (v := ?_) rfl (by kernel_rfl) (by kernel_rfl) (by kernel_rfl) (fun _ _ _ h => h) (Or.inl ⟨by rfl, ?_⟩) hHeld ?_
    rotate_left
    · intro w hSw
      (try dsimp only at hSw)
      go_simp
      try with_reducible rfl
    try simp only [Act.put, List.setIfInBounds_toArray, List.set_cons_zero, List.set_cons_succ]
    try dsimp only
    refine take_at (i := 1) (v := ?_) rfl (by kernel_rfl) (by kernel_rfl) (by kernel_rfl) (fun _ _ _ h => h) (Or.inl ⟨by rfl, ?_⟩) hHeld ?_
    rotate_left
    · intro w hSw
      (try dsimp only at hSw)
      go_simp
      try with_reducible rfl
    try simp only [Act.put, List.setIfInBounds_toArray, List.set_cons_zero, List.set_cons_succ]
    try dsimp only
    refine take_at (i := 2) (v := ?_) rfl (by kernel_rfl) (by kernel_rfl) (by kernel_rfl) (fun _ _ _ h => h) (Or.inl ⟨by rfl, ?_⟩) hHeld ?_
    rotate_left
    · intro w hSw
      (try dsimp only at hSw)
      go_simp
      try with_reducible rfl
    try simp only [Act.put, List.setIfInBounds_toArray, List.set_cons_zero, List.set_cons_succ]
    try dsimp only
    refine wpAnyH_ready (rs := [3]) (by kernel_rfl) (by simp) ?_
    refine cons_at rfl (fun K hK => ?_) AllReadyH.nil
    go_simp
    refine (hFL.out _).mono ?_
    rintro e w7 ⟨rfl, d7⟩
    refine hK.out _ _ ⟨ck_later d7 hHeld.1, ck_later d7 hHeld.2.1, ck_later d7 hHeld.2.2.1, ck_later d7 hHeld.2.2.2.1, ck_later d7 hHeld.2.2.2.2.1, ck_later d7 hHeld.2.2.2.2.2.1, ck_later d7 hHeld.2.2.2.2.2.2.1, ck_later d7 hHeld.2.2.2.2.2.2.2.1, ck_later d7 hHeld.2.2.2.2.2.2.2.2.1, ck_later d7 hHeld.2.2.2.2.2.2.2.2.2⟩ (fun hHeld => ?_)
    clear hK K
    try simp only [Act.put, List.setIfInBounds_toArray, List.set_cons_zero, List.set_cons_succ]
    try dsimp only
    have HZ7 := Lib.hid ((d7.block _ (heap_lt HZ6.out)).trans HZ6.out)
    have HB7 := Lib.hid (HB6.out.drew.trans (d7.mono HB6.out.drew.size))
    clear d7
    have z0 := cell_blk (i := 0) HZ7.out
    have z1 := cell_blk (i := 1) HZ7.out
    simp [ckO] at z0 z1
    have zf0 := free_blk (i := 0) HZ7.out
    have zf1 := free_blk (i := 1) HZ7.out
    refine wpAnyH_ready (rs := [4]) (by kernel_rfl) (by simp) ?_
    refine cons_at rfl (fun K hK => ?_) AllReadyH.nil
    go_simp
    refine hK.out _ _ ⟨(by exact ck_farr (by show _ ≠ _; dsimp only; omega) <| ck_farr (by show _ ≠ _; dsimp only; omega) <| hHeld.1), (by exact ck_farr (by show _ ≠ _; dsimp only; omega) <| ck_farr (by show _ ≠ _; dsimp only; omega) <| hHeld.2.1), (by exact ck_farr (by show _ ≠ _; dsimp only; omega) <| ck_farr (by show _ ≠ _; dsimp only; omega) <| hHeld.2.2.1), (by exact ck_farr (by show _ ≠ _; dsimp only; omega) <| ck_farr (by show _ ≠ _; dsimp only; omega) <| hHeld.2.2.2.1), (by exact ck_farr (by show _ ≠ _; dsimp only; omega) <| ck_farr (by show _ ≠ _; dsimp only; omega) <| hHeld.2.2.2.2.1), (by exact ck_farr (by show _ ≠ _; dsimp only; omega) <| ck_farr (by show _ ≠ _; dsimp only; omega) <| hHeld.2.2.2.2.2.1), (by exact ck_farr (by show _ ≠ _; dsimp only; omega) <| ck_farr (by show _ ≠ _; dsimp only; omega) <| hHeld.2.2.2.2.2.2.1), (by exact ck_farr (by show _ ≠ _; dsimp only; omega) <| ck_farr (by show _ ≠ _; dsimp only; omega) <| hHeld.2.2.2.2.2.2.2.1), (by exact ck_farr (by show _ ≠ _; dsimp only; omega) <| ck_farr (by show _ ≠ _; dsimp only; omega) <| hHeld.2.2.2.2.2.2.2.2.1), (by exact ck_farr (by show _ ≠ _; dsimp only; omega) <| ck_farr (by show _ ≠ _; dsimp only; omega) <| hHeld.2.2.2.2.2.2.2.2.2)⟩ (fun hHeld => ?_)
    clear hK K
    try simp only [Act.put, List.setIfInBounds_toArray, List.set_cons_zero, List.set_cons_succ]
    try dsimp only
    refine take_at (i := 5) (v := ?_) rfl (by kernel_rfl) (by kernel_rfl) (by kernel_rfl) (fun _ _ _ h => h) (Or.inl ⟨by rfl, ?_⟩) hHeld ?_
    rotate_left
    · intro w hSw
      (try dsimp only at hSw)
      go_simp
      try with_reducible rfl
    try simp only [Act.put, List.setIfInBounds_toArray, List.set_cons_zero, List.set_cons_succ]
    try dsimp only
    refine take_at (i := 6) (v := ?_) rfl (by kernel_rfl) (by kernel_rfl) (by kernel_rfl) (fun _ _ _ h => h) (Or.inl ⟨by rfl, ?_⟩) hHeld ?_
    rotate_left
    · intro w hSw
      (try dsimp only at hSw)
      go_simp
      try with_reducible rfl
    try simp only [Act.put, List.setIfInBounds_toArray, List.set_cons_zero, List.set_cons_succ]
    try dsimp only
    refine wpAnyH_done (by kernel_rfl) ?_ _
    clear hHeld
    go_wp2
    exact bodyPost_ret (v := .tuple #[twoV a (max (b - (n - s)) 0), .bool (fallB a b k 1 true s n), .int .i64 0]) (by simp [results, Tryd.results15, go_sem, z0, z1, zf0, zf1]) rfl ⟨rfl, (by repeat (first | (with_reducible exact HB7.out) | ((with_reducible refine Below.setCell ?_ ?_ _); rotate_left; focus (simp; done)) | (with_reducible refine below_dr ?_ _) | (with_reducible refine Below.drew ?_)))⟩
  · go_simp
    refine (hU.out _).mono ?_
    rintro e w5 ⟨rfl, d5⟩
    refine hK.out _ _ ⟨ck_later d5 hHeld.1, ck_later d5 hHeld.2.1, ck_later d5 hHeld.2.2.1, ck_later d5 hHeld.2.2.2.1, ck_later d5 hHeld.2.2.2.2.1, ck_later d5 hHeld.2.2.2.2.2.1, ck_later d5 hHeld.2.2.2.2.2.2.1, ck_later d5 hHeld.2.2.2.2.2.2.2⟩ (fun hHeld => ?_)
    clear hK K
    try simp only [Act.put, List.setIfInBounds_toArray, List.set_cons_zero, List.set_cons_succ]
    try dsimp only
    have HX5 := Lib.hid ((d5.block _ (heap_lt HX3.out)).trans HX3.out)
    have HZ5 := Lib.hid ((d5.block _ (heap_lt HZ3.out)).trans HZ3.out)
    have HL5 := Lib.hid ((d5.block _ (heap_lt HL3.out)).trans HL3.out)
    have HB5 := Lib.hid (HB3.out.drew.trans (d5.mono HB3.out.drew.size))
    clear d5
    clear l0 l1 lf0 lf1
    have l0 := cell_blk (i := 0) HL5.out
    have l1 := cell_blk (i := 1) HL5.out
    simp [ckO] at l0 l1
    have lf0 := free_blk (i := 0) HL5.out
    have lf1 := free_blk (i := 1) HL5.out
    refine wpAnyH_ready (rs := [5]) (by kernel_rfl) (by simp) ?_
    refine cons_at rfl (fun K hK => ?_) AllReadyH.nil
    go_simp
    refine hK.out _ _ hHeld (fun hHeld => ?_)
    clear hK K
    try simp only [Act.put, List.setIfInBounds_toArray, List.set_cons_zero, List.set_cons_succ]
    try dsimp only
    refine take_at (i := 9) (v := ?_) rfl (by kernel_rfl) (by kernel_rfl) (by kernel_rfl) (fun _ _ _ h => h) (Or.inl ⟨by rfl, ?_⟩) hHeld ?_
    rotate_left
    · intro w hSw
      (try dsimp only at hSw)
      go_simp
      try with_reducible rfl
    try simp only [Act.put, List.setIfInBounds_toArray, List.set_cons_zero, List.set_cons_succ]
    try dsimp only
    refine wpAnyH_ready (rs := [10]) (by kernel_rfl) (by simp) ?_
    refine cons_at rfl (fun K hK => ?_) AllReadyH.nil
    go_simp
    refine hK.out _ _ hHeld (fun hHeld => ?_)
    clear hK K
    try simp only [Act.put, List.setIfInBounds_toArray, List.set_cons_zero, List.set_cons_succ]
    try dsimp only
    rw [MX.out]
    refine take_at (i := 11) (v := ?_) rfl (by kernel_rfl) (by kernel_rfl) (by kernel_rfl) (fun _ _ _ h => h) (Or.inl ⟨by rfl, ?_⟩) hHeld ?_
    rotate_left
    · intro w hSw
      (try dsimp only at hSw)
      go_simp
      try with_reducible rfl
    try simp only [Act.put, List.setIfInBounds_toArray, List.set_cons_zero, List.set_cons_succ]
    try dsimp only
    refine wpAnyH_ready (rs := [12]) (by kernel_rfl) (by simp) ?_
    refine cons_at rfl (fun K hK => ?_) AllReadyH.nil
    go_simp
    refine hK.out _ _ ⟨(by exact ck_farr (by show _ ≠ _; dsimp only; omega) hHeld.1), (by exact ck_farr (by show _ ≠ _; dsimp only; omega) hHeld.2.1), (by exact ck_farr (by show _ ≠ _; dsimp only; omega) hHeld.2.2.1), (by exact ck_farr (by show _ ≠ _; dsimp only; omega) hHeld.2.2.2.1), (by exact ck_farr (by show _ ≠ _; dsimp only; omega) hHeld.2.2.2.2.1), (by exact ck_farr (by show _ ≠ _; dsimp only; omega) hHeld.2.2.2.2.2.1), (by exact ck_farr (by show _ ≠ _; dsimp only; omega) hHeld.2.2.2.2.2.2.1), (by exact ck_farr (by show _ ≠ _; dsimp only; omega) hHeld.2.2.2.2.2.2.2)⟩ (fun hHeld => ?_)
    clear hK K
    try simp only [Act.put, List.setIfInBounds_toArray, List.set_cons_zero, List.set_cons_succ]
    try dsimp only
    refine wpAnyH_done (by kernel_rfl) ?_ _
    clear hHeld l0 l1 lf0 lf1
    clear x0 x1 x2 x3 x4 x5 x6 x7
    go_wp2
    obtain ⟨w6, hw6⟩ : ∃ w6, w6 = w5.setCell ⟨w2.heap.size, 1, none⟩ (.int .i64 (max (b - (n - s)) 0)) := ⟨_, rfl⟩
    rw [← hw6]
    have HX6 := Lib.hid (show w6.heap[w.heap.size]? = some (.cells #[.int .i64 a, .int .i64 b, .int .i64 m, .int .i64 k, .int .u8 1, .bool true, .int .i64 s, .int .u8 2] 24 (0, 0)) by rw [hw6]; show (w5.setCell ⟨w2.heap.size, 1, none⟩ (.int .i64 (max (b - (n - s)) 0))).heap[_]? = _; rw [heap_set_far (by show _ ≠ _; dsimp only; omega)]; exact HX5.out)
    have HZ6 := Lib.hid (show w6.heap[w.heap.size + 1]? = some (.cells #[.int .i64 0, .int .i64 0] 22 (0, 0)) by rw [hw6]; show (w5.setCell ⟨w2.heap.size, 1, none⟩ (.int .i64 (max (b - (n - s)) 0))).heap[_]? = _; rw [heap_set_far (by show _ ≠ _; dsimp only; omega)]; exact HZ5.out)
    have HL6 := Lib.hid (show w6.heap[w2.heap.size]? = some (.cells #[.int .i64 a, .int .i64 (max (b - (n - s)) 0)] 22 (0, 0)) by rw [hw6]; show (w5.setCell ⟨w2.heap.size, 1, none⟩ (.int .i64 (max (b - (n - s)) 0))).heap[_]? = _; rw [heap_set (i := 1) HL5.out]; rfl)
    have HB6 := Lib.hid (show Below w.heap.size w w6 by rw [hw6]; exact (HB5.out.setCell (by show _ ≤ _; dsimp only; omega) _))
    clear hw6
    have x0 := cell_blk (i := 0) HX6.out
    have x1 := cell_blk (i := 1) HX6.out
    have x2 := cell_blk (i := 2) HX6.out
    have x3 := cell_blk (i := 3) HX6.out
    have x4 := cell_blk (i := 4) HX6.out
    have x5 := cell_blk (i := 5) HX6.out
    have x6 := cell_blk (i := 6) HX6.out
    have x7 := cell_blk (i := 7) HX6.out
    simp [ckO] at x0 x1 x2 x3 x4 x5 x6 x7
    have l0 := cell_blk (i := 0) HL6.out
    have l1 := cell_blk (i := 1) HL6.out
    simp [ckO] at l0 l1
    refine wp_region_held_drew (S := fun w' => w'.cell? ⟨w.heap.size, 0, none⟩ = some (.int .i64 a) ∧ w'.cell? ⟨w.heap.size, 1, none⟩ = some (.int .i64 b) ∧ w'.cell? ⟨w.heap.size, 2, none⟩ = some (.int .i64 m) ∧ w'.cell? ⟨w.heap.size, 3, none⟩ = some (.int .i64 k) ∧ w'.cell? ⟨w.heap.size, 4, none⟩ = some (.int .u8 1) ∧ w'.cell? ⟨w.heap.size, 5, none⟩ = some (.bool true) ∧ w'.cell? ⟨w.heap.size, 6, none⟩ = some (.int .i64 s) ∧ w'.cell? ⟨w.heap.size, 7, none⟩ = some (.int .u8 2) ∧ w'.cell? ⟨w2.heap.size, 0, none⟩ = some (.int .i64 a) ∧ w'.cell? ⟨w2.heap.size, 1, none⟩ = some (.int .i64 (max (b - (n - s)) 0))) (by kernel_rfl) ⟨by simpa using x0, by simpa using x1, by simpa using x2, by simpa using x3, by simpa using x4, by simpa using x5, by simpa using x6, by simpa using x7, by simpa using l0, by simpa using l1⟩ (fun hHeld => ?_)
    clear l0 l1 x0 x1 x2 x3 x4 x5 x6 x7
    refine take_at (i := 0) (v := ?_) rfl (by kernel_rfl) (by kernel_rfl) (by kernel_rfl) (fun _ _ _ h => h) (Or.inl ⟨by rfl, ?_⟩) hHeld ?_
    rotate_left
    · intro w hSw
      (try dsimp only at hSw)
      go_simp
      try with_reducible rfl
    try simp only [Act.put, List.setIfInBounds_toArray, List.set_cons_zero, List.set_cons_succ]
    try dsimp only
    refine take_at (i := 1) (v := ?_) rfl (by kernel_rfl) (by kernel_rfl) (by kernel_rfl) (fun _ _ _ h => h) (Or.inl ⟨by rfl, ?_⟩) hHeld ?_
    rotate_left
    · intro w hSw
      (try dsimp only at hSw)
      go_simp
      try with_reducible rfl
    try simp only [Act.put, List.setIfInBounds_toArray, List.set_cons_zero, List.set_cons_succ]
    try dsimp only
    refine take_at (i := 2) (v := ?_) rfl (by kernel_rfl) (by kernel_rfl) (by kernel_rfl) (fun _ _ _ h => h) (Or.inl ⟨by rfl, ?_⟩) hHeld ?_
    rotate_left
    · intro w hSw
      (try dsimp only at hSw)
      go_simp
      try with_reducible rfl
    try simp only [Act.put, List.setIfInBounds_toArray, List.set_cons_zero, List.set_cons_succ]
    try dsimp only
    refine wpAnyH_ready (rs := [3]) (by kernel_rfl) (by simp) ?_
    refine cons_at rfl (fun K hK => ?_) AllReadyH.nil
    go_simp
    refine (hFL.out _).mono ?_
    rintro e w7 ⟨rfl, d7⟩
    refine hK.out _ _ ⟨ck_later d7 hHeld.1, ck_later d7 hHeld.2.1, ck_later d7 hHeld.2.2.1, ck_later d7 hHeld.2.2.2.1, ck_later d7 hHeld.2.2.2.2.1, ck_later d7 hHeld.2.2.2.2.2.1, ck_later d7 hHeld.2.2.2.2.2.2.1, ck_later d7 hHeld.2.2.2.2.2.2.2.1, ck_later d7 hHeld.2.2.2.2.2.2.2.2.1, ck_later d7 hHeld.2.2.2.2.2.2.2.2.2⟩ (fun hHeld => ?_)
    clear hK K
    try simp only [Act.put, List.setIfInBounds_toArray, List.set_cons_zero, List.set_cons_succ]
    try dsimp only
    have HZ7 := Lib.hid ((d7.block _ (heap_lt HZ6.out)).trans HZ6.out)
    have HB7 := Lib.hid (HB6.out.drew.trans (d7.mono HB6.out.drew.size))
    clear d7
    have z0 := cell_blk (i := 0) HZ7.out
    have z1 := cell_blk (i := 1) HZ7.out
    simp [ckO] at z0 z1
    have zf0 := free_blk (i := 0) HZ7.out
    have zf1 := free_blk (i := 1) HZ7.out
    refine wpAnyH_ready (rs := [4]) (by kernel_rfl) (by simp) ?_
    refine cons_at rfl (fun K hK => ?_) AllReadyH.nil
    go_simp
    refine hK.out _ _ ⟨(by exact ck_farr (by show _ ≠ _; dsimp only; omega) <| ck_farr (by show _ ≠ _; dsimp only; omega) <| hHeld.1), (by exact ck_farr (by show _ ≠ _; dsimp only; omega) <| ck_farr (by show _ ≠ _; dsimp only; omega) <| hHeld.2.1), (by exact ck_farr (by show _ ≠ _; dsimp only; omega) <| ck_farr (by show _ ≠ _; dsimp only; omega) <| hHeld.2.2.1), (by exact ck_farr (by show _ ≠ _; dsimp only; omega) <| ck_farr (by show _ ≠ _; dsimp only; omega) <| hHeld.2.2.2.1), (by exact ck_farr (by show _ ≠ _; dsimp only; omega) <| ck_farr (by show _ ≠ _; dsimp only; omega) <| hHeld.2.2.2.2.1), (by exact ck_farr (by show _ ≠ _; dsimp only; omega) <| ck_farr (by show _ ≠ _; dsimp only; omega) <| hHeld.2.2.2.2.2.1), (by exact ck_farr (by show _ ≠ _; dsimp only; omega) <| ck_farr (by show _ ≠ _; dsimp only; omega) <| hHeld.2.2.2.2.2.2.1), (by exact ck_farr (by show _ ≠ _; dsimp only; omega) <| ck_farr (by show _ ≠ _; dsimp only; omega) <| hHeld.2.2.2.2.2.2.2.1), (by exact ck_farr (by show _ ≠ _; dsimp only; omega) <| ck_farr (by show _ ≠ _; dsimp only; omega) <| hHeld.2.2.2.2.2.2.2.2.1), (by exact ck_farr (by show _ ≠ _; dsimp only; omega) <| ck_farr (by show _ ≠ _; dsimp only; omega) <| hHeld.2.2.2.2.2.2.2.2.2)⟩ (fun hHeld => ?_)
    clear hK K
    try simp only [Act.put, List.setIfInBounds_toArray, List.set_cons_zero, List.set_cons_succ]
    try dsimp only
    refine take_at (i := 5) (v := ?_) rfl (by kernel_rfl) (by kernel_rfl) (by kernel_rfl) (fun _ _ _ h => h) (Or.inl ⟨by rfl, ?_⟩) hHeld ?_
    rotate_left
    · intro w hSw
      (try dsimp only at hSw)
      go_simp
      try with_reducible rfl
    try simp only [Act.put, List.setIfInBounds_toArray, List.set_cons_zero, List.set_cons_succ]
    try dsimp only
    refine take_at (i := 6) (v := ?_) rfl (by kernel_rfl) (by kernel_rfl) (by kernel_rfl) (fun _ _ _ h => h) (Or.inl ⟨by rfl, ?_⟩) hHeld ?_
    rotate_left
    · intro w hSw
      (try dsimp only at hSw)
      go_simp
      try with_reducible rfl
    try simp only [Act.put, List.setIfInBounds_toArray, List.set_cons_zero, List.set_cons_succ]
    try dsimp only
    refine wpAnyH_done (by kernel_rfl) ?_ _
    clear hHeld
    go_wp2
    exact bodyPost_ret (v := .tuple #[twoV a (max (b - (n - s)) 0), .bool (fallB a b k 1 true s n), .int .i64 0]) (by simp [results, Tryd.results15, go_sem, z0, z1, zf0, zf1]) rfl ⟨rfl, (by repeat (first | (with_reducible exact HB7.out) | ((with_reducible refine Below.setCell ?_ ?_ _); rotate_left; focus (simp; done)) | (with_reducible refine below_dr ?_ _) | (with_reducible refine Below.drew ?_)))⟩

end Go.Proofs.YtcemekianoehfaaDoor
