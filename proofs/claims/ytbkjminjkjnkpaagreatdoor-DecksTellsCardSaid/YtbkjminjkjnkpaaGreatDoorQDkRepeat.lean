import Derived.Test.YtbkjminjkjnkpaaGreatDoorQDkInts
import Derived.Laws.CopyOwn
import Derived.Laws.MakeOwn
import Derived.OwnWalk
import Derived.RegionTactic
import Derived.ChangeAlike
import Derived.BigRegion
/- Layer 5 (decks): slices.Repeat of one number, once to three times. -/
namespace Go.Proofs.YtbkjminjkjnkpaaGreatDoor
open Go.RowKit Go.Lib

def MulSays : Prop := ∀ (x y : Nat) (w : World), x < 18446744073709551616 → y < 18446744073709551616 → Calls Tryz.prog 78 #[.int .u64 x, .int .u64 y] w fun e w' => e = .returned (.tuple #[.int .u64 ((x * y / 18446744073709551616 : Nat) : Int), .int .u64 ((x * y % 18446744073709551616 : Nat) : Int)]) ∧ w' = w

/-- A row of one number, so often. -/
def RepAt (w : World) (x : Int) (n : Nat) (e : Ending) (w' : World) : Prop := ∃ g, e = .returned (.slice (some ⟨g, 0, none⟩) n n) ∧ w.heap.size ≤ g ∧ w'.heap[g]? = some (.cells (Array.replicate n (.int .i64 x)) 3 (0, 0)) ∧ Below w.heap.size w w'

theorem int_info : (Tryz.prog.info? 3).map (fun i => (i.zero, i.size, i.bytes)) = some (some (.int .i64 0), 1, 8) := by kernel_rfl
theorem made_rep (n : Nat) (h : n < 4) : madeCells #[.int .i64 0] n = Array.replicate n (.int .i64 0) := by
  apply Array.ext
  · simp [madeCells]
  · intro i h1 h2
    simp [madeCells, Nat.mod_one]
theorem mk_row (n : Nat) (h : n < 4) (W : World) : (Instr.makeSlice 22 (.int .i64 (n : Int)) (.int .i64 (n : Int))).run Tryz.prog W = .ok (.slice (some ⟨W.heap.size, 0, none⟩) n n) (W.alloc (.cells (Array.replicate n (.int .i64 0)) 3)) := by
  obtain ⟨i0, hi0, hz0, hz1, hz2⟩ := info_parts int_info
  have := run_make (P := Tryz.prog) W 22 3 i0 (.int .i64 0) Tryz.underlying22 hi0 hz0 .i64 .i64 (n : Int) (n : Int) (by omega) (by omega) (by rw [hz2]; omega) (by omega)
  rw [hz1, Int.toNat_natCast, Nat.mul_one] at this
  rw [this, show (Value.int IntKind.i64 0).cells = #[.int .i64 0] from rfl, made_rep n h]
/-- One copy into a row that is known whole. -/
theorem copy_is (W : World) (g off dl dc b so sl sc : Nat) (cur : Array Value) (cs : List Value) (hg : W.heap[g]? = some (.cells cur 3 (0, 0))) (hn : cs.length = Nat.min sl dl) (hsrc : ∀ j v, cs[j]? = some v → W.cell? ⟨b, so + j, none⟩ = some v) (hfit : off + cs.length ≤ cur.size) (h1 : ∀ v ∈ cs, v.oneCell' = true) :
    ∃ W', (∀ ty, (Builtin.copy_ #[22, 22] ty #[.slice (some ⟨g, off, none⟩) dl dc, .slice (some ⟨b, so, none⟩) sl sc]).run Tryz.prog W = .ok (.int .i64 cs.length) W') ∧ W'.heap[g]? = some (.cells (cur.toList.take off ++ cs ++ cur.toList.drop (off + cs.length)).toArray 3 (0, 0)) ∧ (∀ B, B ≤ g → Below B W W') := by
  have hr := fun ty => run_copy_row (P := Tryz.prog) W 22 22 ty 3 g off dl dc ⟨b, so, none⟩ sl sc cur 3 cs Tryz.underlying22 (by kernel_rfl) hg hn (fun j v h => by rw [Addr.add_lit]; exact hsrc j v h) hfit h1
  exact ⟨_, hr, setRow_heap W g _ _ 3 _ hg, fun B hB => below_setRow (Below.refl _ _) hB _⟩

set_option maxHeartbeats 2000000 in
set_option maxRecDepth 100000 in
theorem repeat_one (hM : MulSays) (w : World) (b : Nat) (x : Int) (hb : w.heap[b]? = some (.cells #[.int .i64 x] 3 (0, 0))) :
    Calls Tryz.prog 63 #[.slice (some ⟨b, 0, none⟩) 1 1, .int .i64 1] w (RepAt w x 1) := by
  have c0 : w.cell? ⟨b, 0, none⟩ = some (.int .i64 x) := by simp [World.cell?, hb]
  have hlt := World.block_lt_of_cell? _ _ c0
  simp only at hlt
  have HMM := Lib.hid hM
  clear hM
  obtain ⟨W1, hW1⟩ : ∃ W1, W1 = w.alloc (.cells #[.int .i64 0] 3) := ⟨_, rfl⟩
  have hmk : (Instr.makeSlice 22 (.int .i64 1) (.int .i64 1)).run Tryz.prog w = .ok (.slice (some ⟨w.heap.size, 0, none⟩) 1 1) W1 := by rw [hW1]; exact mk_row 1 (by omega) w
  have g1 : W1.heap[w.heap.size]? = some (.cells #[.int .i64 0] 3 (0, 0)) := by rw [hW1]; exact heap_alloc_new _ _
  have b1 : Below w.heap.size w W1 := by rw [hW1]; exact (Below.refl _ _).alloc (Nat.le_refl _) _
  obtain ⟨W2, hc2, g2, b2⟩ := copy_is W1 w.heap.size 0 1 1 b 0 1 1 _ [.int .i64 x] g1 (by rfl) (fun j v h => by
    cases j with
    | zero => cases h; exact (b1.cell hlt).trans c0
    | succ j => simp at h) (by simp) (by simp [Value.oneCell'])
  have hc2' : ∀ ty, (Builtin.copy_ #[22, 22] ty #[.slice (some ⟨w.heap.size, 0, none⟩) 1 1, .slice (some ⟨b, 0, none⟩) 1 1]).run Tryz.prog W1 = .ok (.int .i64 1) W2 := hc2
  have B2 := Lib.hid (b1.trans (b2 _ (Nat.le_refl _)))
  have G2 := Lib.hid g2
  clear hb g1 g2 b1 b2 hW1 c0 hc2
  go_enter Tryz.func63, Tryz.ntmps63
  go_wp2_with fail
  refine (HMM.out 1 1 w (by omega) (by omega)).mono ?_
  rintro e w1 ⟨rfl, rfl⟩
  go_wp2
  refine wp_loop_rounds 1 ?_
  rw [rounds_succ]
  go_wp2
  go_ret
  exact ⟨_, rfl, Nat.le_refl _, G2.out, B2.out⟩

set_option maxHeartbeats 4000000 in
set_option maxRecDepth 100000 in
theorem repeat_two (hM : MulSays) (w : World) (b : Nat) (x : Int) (hb : w.heap[b]? = some (.cells #[.int .i64 x] 3 (0, 0))) :
    Calls Tryz.prog 63 #[.slice (some ⟨b, 0, none⟩) 1 1, .int .i64 2] w (RepAt w x 2) := by
  have c0 : w.cell? ⟨b, 0, none⟩ = some (.int .i64 x) := by simp [World.cell?, hb]
  have hlt := World.block_lt_of_cell? _ _ c0
  simp only at hlt
  have HMM := Lib.hid hM
  clear hM
  obtain ⟨W1, hW1⟩ : ∃ W1, W1 = w.alloc (.cells #[.int .i64 0, .int .i64 0] 3) := ⟨_, rfl⟩
  have hmk : (Instr.makeSlice 22 (.int .i64 2) (.int .i64 2)).run Tryz.prog w = .ok (.slice (some ⟨w.heap.size, 0, none⟩) 2 2) W1 := by rw [hW1]; exact mk_row 2 (by omega) w
  have g1 : W1.heap[w.heap.size]? = some (.cells #[.int .i64 0, .int .i64 0] 3 (0, 0)) := by rw [hW1]; exact heap_alloc_new _ _
  have b1 : Below w.heap.size w W1 := by rw [hW1]; exact (Below.refl _ _).alloc (Nat.le_refl _) _
  obtain ⟨W2, hc2, g2, b2⟩ := copy_is W1 w.heap.size 0 2 2 b 0 1 1 _ [.int .i64 x] g1 (by rfl) (fun j v h => by
    cases j with
    | zero => cases h; exact (b1.cell hlt).trans c0
    | succ j => simp at h) (by simp) (by simp [Value.oneCell'])
  have hc2' : ∀ ty, (Builtin.copy_ #[22, 22] ty #[.slice (some ⟨w.heap.size, 0, none⟩) 2 2, .slice (some ⟨b, 0, none⟩) 1 1]).run Tryz.prog W1 = .ok (.int .i64 1) W2 := hc2
  have g2e : W2.drew.heap[w.heap.size]? = some (.cells #[.int .i64 x, .int .i64 0] 3 (0, 0)) := g2
  obtain ⟨W3, hc3, g3, b3⟩ := copy_is W2.drew w.heap.size 1 1 1 w.heap.size 0 1 2 _ [.int .i64 x] g2e (by rfl) (fun j v h => by
    cases j with
    | zero => cases h; simp [World.cell?, g2e]
    | succ j => simp at h) (by simp) (by simp [Value.oneCell'])
  have hc3' : ∀ ty, (Builtin.copy_ #[22, 22] ty #[.slice (some ⟨w.heap.size, 1, none⟩) 1 1, .slice (some ⟨w.heap.size, 0, none⟩) 1 2]).run Tryz.prog W2.drew = .ok (.int .i64 1) W3 := hc3
  have B2 := Lib.hid ((b1.trans (b2 _ (Nat.le_refl _))).drew.trans (b3 _ (Nat.le_refl _)))
  have G2 := Lib.hid g3
  clear hb g1 g2 g2e b1 b2 hW1 c0 hc2 hc3 b3 g3
  go_enter Tryz.func63, Tryz.ntmps63
  go_wp2_with fail
  refine (HMM.out 1 2 w (by omega) (by omega)).mono ?_
  rintro e w1 ⟨rfl, rfl⟩
  go_wp2
  refine wp_loop_rounds 2 ?_
  rw [rounds_succ]
  go_wp2
  go_region
  go_wp2
  rw [rounds_succ]
  go_wp2
  go_ret
  exact ⟨_, rfl, Nat.le_refl _, G2.out, B2.out⟩
set_option maxHeartbeats 4000000 in
set_option maxRecDepth 100000 in
theorem repeat_three (hM : MulSays) (w : World) (b : Nat) (x : Int) (hb : w.heap[b]? = some (.cells #[.int .i64 x] 3 (0, 0))) :
    Calls Tryz.prog 63 #[.slice (some ⟨b, 0, none⟩) 1 1, .int .i64 3] w (RepAt w x 3) := by
  have c0 : w.cell? ⟨b, 0, none⟩ = some (.int .i64 x) := by simp [World.cell?, hb]
  have hlt := World.block_lt_of_cell? _ _ c0
  simp only at hlt
  have HMM := Lib.hid hM
  clear hM
  obtain ⟨W1, hW1⟩ : ∃ W1, W1 = w.alloc (.cells #[.int .i64 0, .int .i64 0, .int .i64 0] 3) := ⟨_, rfl⟩
  have hmk : (Instr.makeSlice 22 (.int .i64 3) (.int .i64 3)).run Tryz.prog w = .ok (.slice (some ⟨w.heap.size, 0, none⟩) 3 3) W1 := by rw [hW1]; exact mk_row 3 (by omega) w
  have g1 : W1.heap[w.heap.size]? = some (.cells #[.int .i64 0, .int .i64 0, .int .i64 0] 3 (0, 0)) := by rw [hW1]; exact heap_alloc_new _ _
  have b1 : Below w.heap.size w W1 := by rw [hW1]; exact (Below.refl _ _).alloc (Nat.le_refl _) _
  obtain ⟨W2, hc2, g2, b2⟩ := copy_is W1 w.heap.size 0 3 3 b 0 1 1 _ [.int .i64 x] g1 (by rfl) (fun j v h => by
    cases j with
    | zero => cases h; exact (b1.cell hlt).trans c0
    | succ j => simp at h) (by simp) (by simp [Value.oneCell'])
  have hc2' : ∀ ty, (Builtin.copy_ #[22, 22] ty #[.slice (some ⟨w.heap.size, 0, none⟩) 3 3, .slice (some ⟨b, 0, none⟩) 1 1]).run Tryz.prog W1 = .ok (.int .i64 1) W2 := hc2
  have g2e : W2.drew.heap[w.heap.size]? = some (.cells #[.int .i64 x, .int .i64 0, .int .i64 0] 3 (0, 0)) := g2
  obtain ⟨W3, hc3, g3, b3⟩ := copy_is W2.drew w.heap.size 1 2 2 w.heap.size 0 1 3 _ [.int .i64 x] g2e (by rfl) (fun j v h => by
    cases j with
    | zero => cases h; simp [World.cell?, g2e]
    | succ j => simp at h) (by simp) (by simp [Value.oneCell'])
  have hc3' : ∀ ty, (Builtin.copy_ #[22, 22] ty #[.slice (some ⟨w.heap.size, 1, none⟩) 2 2, .slice (some ⟨w.heap.size, 0, none⟩) 1 3]).run Tryz.prog W2.drew = .ok (.int .i64 1) W3 := hc3
  have g3e : W3.drew.heap[w.heap.size]? = some (.cells #[.int .i64 x, .int .i64 x, .int .i64 0] 3 (0, 0)) := g3
  obtain ⟨W4, hc4, g4, b4⟩ := copy_is W3.drew w.heap.size 2 1 1 w.heap.size 0 2 3 _ [.int .i64 x] g3e (by rfl) (fun j v h => by
    cases j with
    | zero => cases h; simp [World.cell?, g3e]
    | succ j => simp at h) (by simp) (by simp [Value.oneCell'])
  have hc4' : ∀ ty, (Builtin.copy_ #[22, 22] ty #[.slice (some ⟨w.heap.size, 2, none⟩) 1 1, .slice (some ⟨w.heap.size, 0, none⟩) 2 3]).run Tryz.prog W3.drew = .ok (.int .i64 1) W4 := hc4
  have B2 := Lib.hid ((b1.trans (b2 _ (Nat.le_refl _))).drew.trans (b3 _ (Nat.le_refl _))|>.drew.trans (b4 _ (Nat.le_refl _)))
  have G2 := Lib.hid g4
  clear hb g1 g2 g2e b1 b2 hW1 c0 hc2 hc3 b3 g3 g3e b4 g4 hc4
  go_enter Tryz.func63, Tryz.ntmps63
  go_wp2_with fail
  refine (HMM.out 1 3 w (by omega) (by omega)).mono ?_
  rintro e w1 ⟨rfl, rfl⟩
  go_wp2
  refine wp_loop_rounds 3 ?_
  rw [rounds_succ]
  go_wp2
  go_region
  go_wp2
  rw [rounds_succ]
  go_wp2
  go_region
  go_wp2
  rw [rounds_succ]
  go_wp2
  go_ret
  exact ⟨_, rfl, Nat.le_refl _, G2.out, B2.out⟩
end Go.Proofs.YtbkjminjkjnkpaaGreatDoor
