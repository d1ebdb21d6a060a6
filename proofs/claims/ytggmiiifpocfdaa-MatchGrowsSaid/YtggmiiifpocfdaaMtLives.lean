/- The document's own Link; the events that the document tells of. -/
import Derived.Test.YtggmiiifpocfdaaMtRoff
import Derived.Test.YtggmiiifpocfdaaMtLink
namespace Go.Proofs.Ytggmiiifpocfdaa
open Go.RowKit Go.Lib Go.Shelf

set_option maxHeartbeats 2000000 in
theorem rlink_any (q : Option Addr) (n c : Nat) (who side : Int) (last : Nat) (w : World) (h : ChainAt w q n last) (hw : 0 ≤ who ∧ who ≤ 255) :
    Calls Try.prog 11 #[.int .u8 who, .int .u8 side, .slice q n c] w fun e w' => e = .returned (.bool (linkB n who side last)) ∧ w' = w := by
  obtain ⟨hm, hl, hc⟩ := h
  have w0 := hw.1
  have w1 := hw.2
  unfold maxLen at hm
  clear hw
  by_cases h0 : n = 0
  · subst h0
    clear hc
    go_enter Try.func11, Try.ntmps11
    go_wp2
    go_ret
    exact ⟨rfl, rfl⟩
  · obtain ⟨b, o, rfl, hcl⟩ := hc h0
    clear hc
    have e1 : ((n : Int) == 0) = false := by simpa using h0
    by_cases h1 : 1 < who
    · have e : linkB n who side last = false := by simp [linkB, askB, h1]
      rw [e]
      clear e hcl h0
      go_enter Try.func11, Try.ntmps11
      go_wp2
      go_ret
      exact ⟨rfl, rfl⟩
    · have n1 : IntKind.i64.wrap ((n : Int) - 1) = (n : Int) - 1 := IntWalk.i64_in _ (by omega)
      have n2 : (0 : Int) ≤ (n : Int) - 1 := by omega
      have n5 : (1 : Int) ≤ (n : Int) := by omega
      have n3 : (n : Int) - 1 < (n : Int) := by omega
      have n4 : ((n : Int) - 1).toNat = n - 1 := by omega
      have hn : decide (0 < n) = true := by simp; omega
      have h1' : who ≤ 1 := by omega
      have h1b : ¬ (1 : Int) < who := h1
      have hle : linkB n who side last = (side != 3 && askB who (-1) side last (-1)) := by unfold linkB; rw [hn]; rfl
      rw [hle]
      clear hle h0 hn h1
      have ec : side = 0 ∨ side = 1 ∨ side = 2 ∨ (side ≠ 0 ∧ side ≠ 1 ∧ side ≠ 2) := by omega
      rcases ec with rfl | rfl | rfl | ⟨m0, m1, m2⟩
      · go_enter Try.func11, Try.ntmps11
        go_wp2_with fail
        all_goals go_ret
        all_goals exact ⟨ret_bool (by simp [askB, h1b]), rfl⟩

      · go_enter Try.func11, Try.ntmps11
        go_wp2_with fail
        all_goals go_ret
        all_goals exact ⟨ret_bool (by simp [askB, h1b]), rfl⟩

      · go_enter Try.func11, Try.ntmps11
        go_wp2_with fail
        all_goals go_ret
        all_goals exact ⟨ret_bool (by simp [askB, h1b]), rfl⟩
      · have e : (side != 3 && askB who (-1) side last (-1)) = false := by
          by_cases h3 : side = 3
          · simp [h3]
          · simp [askB, h1b, m0, m1, m2, h3]
        rw [e]
        have f0 : (side == 0) = false := by simpa using m0
        have f1 : (side == 1) = false := by simpa using m1
        have f2 : (side == 2) = false := by simpa using m2
        clear e m0 m1 m2
        go_enter Try.func11, Try.ntmps11
        go_wp2_with fail
        go_ret
        exact ⟨rfl, rfl⟩

def liveE : List Ev := [(2, 5, 3, 0), (5, 6, -1, 1)]
def liveT : Tb := ⟨none, 0, 0, none, 0, 0, 0, 0, 0, 0, 6, none, 0, 0, false, false⟩
def liveF (mode ev side : Int) : Fx := ⟨mode, ev, side, none, 0, 0, 0, 0, false, 0, 0, 0, 0, none, 0, 0⟩
theorem live_row {w : World} {g : Nat} {ty : TypeId} (hb : w.heap[g]? = some (.cells #[.int .u8 2, .int .i64 5, .int .i64 3, .int .u8 0, .int .u8 5, .int .i64 6, .int .i64 (-1), .int .u8 1] ty (0, 0))) : RowIn w 4 32 EvIn (.slice (some ⟨g, 0, none⟩) liveE.length 2) liveE :=
  evs_block (tail := #[]) (es := liveE) hb (by decide) (by decide)
theorem la : offB liveT.mo 0 3 (liveF 3 2 3) liveE = false := by decide
theorem lb : offB liveT.mo 0 3 (liveF 4 2 0) liveE = true := by decide
theorem lc : offB liveT.mo 1 2 (liveF 3 5 0) liveE = true := by decide
theorem ld : offB liveT.mo 1 2 (liveF 5 2 0) liveE = false := by decide
set_option maxHeartbeats 4000000 in
set_option maxRecDepth 100000 in
theorem lives_any (w : World) : Calls Try.prog 5 #[] w fun e w' => e = .returned (.bool true) ∧ Below w.heap.size w w' := by
  obtain ⟨w1, hw1⟩ : ∃ w1, w1 = (w.alloc (.cells liveT.row 28)).alloc (.cells #[.int .u8 2, .int .i64 5, .int .i64 3, .int .u8 0, .int .u8 5, .int .i64 6, .int .i64 (-1), .int .u8 1] 39) := ⟨_, rfl⟩
  have hb1 : Below w.heap.size w w1 := by rw [hw1]; exact ((Below.refl _ _).alloc (Nat.le_refl _) _).alloc (by simp) _
  have hx1 : w1.heap[w.heap.size]? = some (.cells liveT.row 28 (0, 0)) := by rw [hw1]; exact heap_older (heap_alloc_new _ _)
  have hy1 : w1.heap[w.heap.size + 1]? = some (.cells #[.int .u8 2, .int .i64 5, .int .i64 3, .int .u8 0, .int .u8 5, .int .i64 6, .int .i64 (-1), .int .u8 1] 39 (0, 0)) := by rw [hw1]; exact heap_newer _ _ _ (by simp)
  have hoff := Lib.hid fun (W : World) (mode ev side who id : Int) (hb : Below w1.heap.size w1 W) (hw : 0 ≤ who ∧ who ≤ 255) (hs : 0 ≤ side ∧ side ≤ 255) => off_any liveT (liveF mode ev side) who id _ 2 liveE W ((live_row hy1).below EvIn.stays hb) (by decide) hw hs
  have ha := Lib.hid fun (W : World) (hb : Below w1.heap.size w1 W) => hoff.out W 3 2 3 0 3 hb (by decide) (by decide)
  have hb := Lib.hid fun (W : World) (hb : Below w1.heap.size w1 W) => hoff.out W 4 2 0 0 3 hb (by decide) (by decide)
  have hc := Lib.hid fun (W : World) (hb : Below w1.heap.size w1 W) => hoff.out W 3 5 0 1 2 hb (by decide) (by decide)
  have hd := Lib.hid fun (W : World) (hb : Below w1.heap.size w1 W) => hoff.out W 5 2 0 1 2 hb (by decide) (by decide)
  rw [la] at ha
  rw [lb] at hb
  rw [lc] at hc
  rw [ld] at hd
  have HB1 := Lib.hid hb1
  have HX1 := Lib.hid hx1
  have HW1 := Lib.hid hw1
  have B1 := Lib.hid (Below.refl w1.heap.size w1)
  clear hb1 hx1 hw1 hy1 hoff
  simp only [liveT, liveF, Tb.row, Fx.row, Int.natCast_zero, show liveE.length = 2 from rfl] at *
  go_enter Try.func5, Try.ntmps5
  go_wp2_with fail
  rw [← HW1.out]
  refine (ha.out _ B1.out).mono ?_
  rintro e w2 ⟨rfl, b2⟩
  have B2 := Lib.hid (B1.out.trans (b2.mono B1.out.size))
  have HX2 := Lib.hid ((b2.block _ (heap_lt HX1.out)).trans HX1.out)
  clear b2
  have y0 := cell_blk (i := 0) HX2.out
  have y1 := cell_blk (i := 1) HX2.out
  have y2 := cell_blk (i := 2) HX2.out
  have y3 := cell_blk (i := 3) HX2.out
  have y4 := cell_blk (i := 4) HX2.out
  have y5 := cell_blk (i := 5) HX2.out
  have y6 := cell_blk (i := 6) HX2.out
  have y7 := cell_blk (i := 7) HX2.out
  have y8 := cell_blk (i := 8) HX2.out
  have y9 := cell_blk (i := 9) HX2.out
  simp at y0 y1 y2 y3 y4 y5 y6 y7 y8 y9
  go_wp2_with fail
  refine (hb.out _ B2.out).mono ?_
  rintro e w3 ⟨rfl, b3⟩
  have B3 := Lib.hid (B2.out.trans (b3.mono B2.out.size))
  have HX3 := Lib.hid ((b3.block _ (heap_lt HX2.out)).trans HX2.out)
  clear b3
  clear y0 y1 y2 y3 y4 y5 y6 y7 y8 y9

  have y0 := cell_blk (i := 0) HX3.out
  have y1 := cell_blk (i := 1) HX3.out
  have y2 := cell_blk (i := 2) HX3.out
  have y3 := cell_blk (i := 3) HX3.out
  have y4 := cell_blk (i := 4) HX3.out
  have y5 := cell_blk (i := 5) HX3.out
  have y6 := cell_blk (i := 6) HX3.out
  have y7 := cell_blk (i := 7) HX3.out
  have y8 := cell_blk (i := 8) HX3.out
  have y9 := cell_blk (i := 9) HX3.out
  simp at y0 y1 y2 y3 y4 y5 y6 y7 y8 y9
  go_wp2_with fail
  refine (hc.out _ B3.out).mono ?_
  rintro e w4 ⟨rfl, b4⟩
  have B4 := Lib.hid (B3.out.trans (b4.mono B3.out.size))
  have HX4 := Lib.hid ((b4.block _ (heap_lt HX3.out)).trans HX3.out)
  clear b4
  clear y0 y1 y2 y3 y4 y5 y6 y7 y8 y9

  have y0 := cell_blk (i := 0) HX4.out
  have y1 := cell_blk (i := 1) HX4.out
  have y2 := cell_blk (i := 2) HX4.out
  have y3 := cell_blk (i := 3) HX4.out
  have y4 := cell_blk (i := 4) HX4.out
  have y5 := cell_blk (i := 5) HX4.out
  have y6 := cell_blk (i := 6) HX4.out
  have y7 := cell_blk (i := 7) HX4.out
  have y8 := cell_blk (i := 8) HX4.out
  have y9 := cell_blk (i := 9) HX4.out
  simp at y0 y1 y2 y3 y4 y5 y6 y7 y8 y9
  go_wp2_with fail
  refine (hd.out _ B4.out).mono ?_
  rintro e w5 ⟨rfl, b5⟩
  have B5 := Lib.hid (B4.out.trans (b5.mono B4.out.size))
  have HX5 := Lib.hid ((b5.block _ (heap_lt HX4.out)).trans HX4.out)
  clear b5
  clear y0 y1 y2 y3 y4 y5 y6 y7 y8 y9
  go_wp2_with fail
  go_ret
  exact ⟨rfl, HB1.out.trans (B5.out.mono HB1.out.size)⟩
end Go.Proofs.Ytggmiiifpocfdaa
