/- Which events fit: match.fitting, Fits; the library's ContainsFunc; match.Off. -/
import Derived.Test.YtggmiiifpocfdaaMtFns
namespace Go.Proofs.Ytggmiiifpocfdaa
open Go.RowKit Go.Lib Go.Shelf

set_option maxHeartbeats 2000000 in
theorem fit1_any (b1 b2 : Nat) (ev : Int) (v : Value) (p : Int → Int → Bool) (x : Ev) (w : World) (h1 : w.cell? ⟨b1, 0, none⟩ = some (.int .u8 ev)) (h2 : w.cell? ⟨b2, 0, none⟩ = some v) (ha : AskF w v p) (hx : x.2.2.2 ≤ 255) :
    Calls Try.prog 16 #[.agg (evV x).toArray, .pointer (some ⟨b1, 0, none⟩), .pointer (some ⟨b2, 0, none⟩)] w fun e w' => e = .returned (.bool (ev != 0 && ((x.1 : Int) == ev && p x.2.2.2 x.2.2.1))) ∧ Below w.heap.size w w' := by
  obtain ⟨xe, xm, xp, xw⟩ := x
  obtain ⟨g, lb, rfl, eg, hf⟩ := ha
  dsimp only at hx
  have hF := Lib.hid fun (W : World) (hb : Below w.heap.size w W) => hf W hb xw xp hx
  have l1 := World.block_lt_of_cell? _ _ h1
  have l2 := World.block_lt_of_cell? _ _ h2
  clear hf
  simp only [evV]
  by_cases e0 : ev = 0
  · subst e0
    go_enter Try.func16, Try.ntmps16
    go_wp2
    go_ret
    exact ⟨rfl, (Below.refl _ _).alloc (Nat.le_refl _) _⟩
  · have e1 : (ev != 0) = true := by simpa using e0
    have e1' : (ev == 0) = false := by simpa using e0
    by_cases e2 : (xe : Int) = ev
    · subst e2
      rw [e1]
      clear e0
      go_enter Try.func16, Try.ntmps16
      go_wp2_with (go_at_fn g; refine (hF.out _ ((Below.refl _ _).alloc (Nat.le_refl _) _)).mono ?_; rintro e w' ⟨rfl, rfl⟩)
      go_ret
      exact ⟨by simp, (Below.refl _ _).alloc (Nat.le_refl _) _⟩
    · have e3 : ((xe : Int) == ev) = false := by simpa using e2
      rw [e1, e3]
      clear e0
      go_enter Try.func16, Try.ntmps16
      go_wp2
      go_ret
      exact ⟨rfl, (Below.refl _ _).alloc (Nat.le_refl _) _⟩
theorem entersF : ∀ args W, (callFunc 16 args).run Try.prog W = .ok (.enter 16 args) W := enters_of Try.func16 (by kernel_rfl) rfl

def FitEnds (who id ev side : Int) (w : World) (e : Ending) (w' : World) : Prop := (∃ v, e = .returned v ∧ FitF w' v (fitB who id ev side)) ∧ Below w.heap.size w w'
set_option maxHeartbeats 2000000 in
theorem fitting_any (who id ev side : Int) (w : World) (hw : 0 ≤ who ∧ who ≤ 255) (hs : 0 ≤ side ∧ side ≤ 255) :
    Calls Try.prog 12 #[.int .u8 who, .int .i64 id, .int .u8 ev, .int .u8 side] w (FitEnds who id ev side w) := by
  go_enter Try.func12, Try.ntmps12
  go_wp2_with (go_at_call 15; refine (asking_any who id side _ hw hs).mono ?_; rintro e w2 ⟨⟨v, rfl, ha⟩, b2⟩; have HA := Lib.hid ha; obtain ⟨g, lb, rfl, -, -⟩ := ha)
  go_ret
  have hz := b2.size
  simp at hz
  have hb : Below w.heap.size w w2 := ((Below.refl _ _).alloc (Nat.le_refl _) _).trans (b2.mono (by simp))
  have c1 : w2.cell? ⟨w.heap.size, 0, none⟩ = some (.int .u8 ev) := cell_blk ((b2.block _ (by simp)).trans (heap_alloc_new _ _))
  refine ⟨⟨_, rfl, _, _, rfl, entersF, fun W hW x hx => ?_⟩, hb.alloc hb.size _⟩
  have hW2 : Below w2.heap.size w2 W := ((Below.refl _ _).alloc (Nat.le_refl _) _).trans (hW.mono (by simp))
  exact fit1_any w.heap.size w2.heap.size ev _ (askB who id side) x W (cell_later hW2 c1) ((hW.cell (p := ⟨w2.heap.size, 0, none⟩) (by simp)).trans (cell_blk (heap_alloc_new _ _))) (HA.out.later hW2) hx

set_option maxHeartbeats 2000000 in
theorem fits_any (who id ev side : Int) (x : Ev) (w : World) (hw : 0 ≤ who ∧ who ≤ 255) (hs : 0 ≤ side ∧ side ≤ 255) (hx : x.2.2.2 ≤ 255) :
    Calls Try.prog 6 #[.int .u8 who, .int .i64 id, .int .u8 ev, .int .u8 side, .agg (evV x).toArray] w fun e w' => e = .returned (.bool (fitB who id ev side x)) ∧ Below w.heap.size w w' := by
  obtain ⟨xe, xm, xp, xw⟩ := x
  dsimp only at hx
  simp only [evV]
  go_enter Try.func6, Try.ntmps6
  go_wp2_with fail
  obtain ⟨W, hW⟩ : ∃ W, W = w.alloc (.cells #[.int .u8 xe, .int .i64 xm, .int .i64 xp, .int .u8 xw] 39) := ⟨_, rfl⟩
  rw [← hW]
  have hb : Below w.heap.size w W := by rw [hW]; exact (Below.refl _ _).alloc (Nat.le_refl _) _
  have hx0 : W.heap[w.heap.size]? = some (.cells #[.int .u8 xe, .int .i64 xm, .int .i64 xp, .int .u8 xw] 39 (0, 0)) := by rw [hW]; exact heap_alloc_new _ _
  have y0 := cell_blk (i := 0) hx0
  have y1 := cell_blk (i := 1) hx0
  have y2 := cell_blk (i := 2) hx0
  have y3 := cell_blk (i := 3) hx0
  simp at y0 y1 y2 y3
  have LZ := Lib.hid fun (W' : World) (b : Below W.heap.size W W') => (⟨cell_later b y0, cell_later b y1, cell_later b y2, cell_later b y3⟩ : W'.cell? ⟨w.heap.size, 0, none⟩ = some (.int .u8 xe) ∧ W'.cell? ⟨w.heap.size, 1, none⟩ = some (.int .i64 xm) ∧ W'.cell? ⟨w.heap.size, 2, none⟩ = some (.int .i64 xp) ∧ W'.cell? ⟨w.heap.size, 3, none⟩ = some (.int .u8 xw))
  have HB := Lib.hid hb
  clear hb hx0 hW
  go_region_held3 (fun w' => w'.cell? ⟨w.heap.size, 0, none⟩ = some (.int .u8 xe) ∧ w'.cell? ⟨w.heap.size, 1, none⟩ = some (.int .i64 xm) ∧ w'.cell? ⟨w.heap.size, 2, none⟩ = some (.int .i64 xp) ∧ w'.cell? ⟨w.heap.size, 3, none⟩ = some (.int .u8 xw))
    (first | go_keep | (with_reducible exact q1) | (with_reducible exact q2))
    (first
      | (go_at_call 12; refine (fitting_any who id ev side _ hw hs).mono ?_; rintro e w1 ⟨⟨v, rfl, ha⟩, b1⟩;
         have hb1 : Below W.heap.size W w1 := (Below.refl _ _).drew.trans (b1.mono (by simp)); have q1 := LZ.out w1 hb1; have HB1 := Lib.hid hb1;
         obtain ⟨g, lb, rfl, eg, hf⟩ := ha; have HF := Lib.hid hf; clear hf)
      | (go_at_fn g; refine (HF.out _ (by first | exact Below.refl _ _ | exact (Below.refl _ _).drew) (xe, xm, xp, xw) hx).mono ?_; rintro e w2 ⟨rfl, b2⟩; have hb2 : Below W.heap.size W w2 := HB1.out.trans (b2.mono HB1.out.size); have q2 := LZ.out w2 hb2; have HB2 := Lib.hid hb2))
  go_wp2
  go_ret
  exact ⟨rfl, HB.out.trans (HB2.out.mono HB.out.size)⟩

/-- The document's own answer is the same. -/
theorem rfits_any (who id ev side : Int) (x : Ev) (w : World) (hw : 0 ≤ who ∧ who ≤ 255) (hx : x.2.2.2 ≤ 255) :
    Calls Try.prog 7 #[.int .u8 who, .int .i64 id, .int .u8 ev, .int .u8 side, .agg (evV x).toArray] w fun e w' => e = .returned (.bool (fitB who id ev side x)) ∧ Below w.heap.size w w' := by
  obtain ⟨xe, xm, xp, xw⟩ := x
  have w0 := hw.1
  have w1 := hw.2
  dsimp only at hx
  simp only [evV]
  have hcase : fitB who id ev side (xe, xm, xp, xw) = (ev != 0 && ((xe : Int) == ev && askB who id side xw xp)) := rfl
  rw [hcase]
  clear hcase
  by_cases a1 : 1 < who
  · have e : (ev != 0 && ((xe : Int) == ev && askB who id side xw xp)) = false := by simp [askB, a1]
    rw [e]
    clear e
    go_enter Try.func7, Try.ntmps7
    go_wp2
    go_ret
    exact ⟨rfl, (Below.refl _ _).alloc (Nat.le_refl _) _⟩
  · by_cases a2 : ev = 0
    · subst a2
      go_enter Try.func7, Try.ntmps7
      go_wp2
      go_ret
      exact ⟨rfl, (Below.refl _ _).alloc (Nat.le_refl _) _⟩
    · have a3 : (ev != 0) = true := by simpa using a2
      have a4 : (ev == 0) = false := by simpa using a2
      clear a2
      by_cases a5 : (xe : Int) = ev
      · subst a5
        rw [a3]
        clear a3
        have a6 : who ≤ 1 := by omega
        have ec : side = 0 ∨ side = 1 ∨ side = 3 ∨ (side ≠ 0 ∧ side ≠ 1 ∧ side ≠ 3) := by omega
        rcases ec with rfl | rfl | rfl | ⟨n0, n1, n3⟩
        · go_enter Try.func7, Try.ntmps7
          go_wp2
          go_ret
          exact ⟨ret_bool (by simp [askB, a1]), (Below.refl _ _).alloc (Nat.le_refl _) _⟩

        · go_enter Try.func7, Try.ntmps7
          go_wp2
          go_ret
          exact ⟨ret_bool (by simp [askB, a1]), (Below.refl _ _).alloc (Nat.le_refl _) _⟩

        · go_enter Try.func7, Try.ntmps7
          go_wp2
          go_ret
          exact ⟨ret_bool (by simp [askB, a1]), (Below.refl _ _).alloc (Nat.le_refl _) _⟩
        · have m0 : (side == 0) = false := by simpa using n0
          have m1 : (side == 1) = false := by simpa using n1
          have m3 : (side == 3) = false := by simpa using n3
          have e : (true && ((xe : Int) == xe && askB who id side xw xp)) = (side == 2) := by simp [askB, a1, n0, n1, n3]; rfl
          rw [e]
          clear e n0 n1 n3
          go_enter Try.func7, Try.ntmps7
          go_wp2
          go_ret
          exact ⟨rfl, (Below.refl _ _).alloc (Nat.le_refl _) _⟩
      · have a6 : ((xe : Int) == ev) = false := by simpa using a5
        have a7 : (ev != (xe : Int)) = true := by simpa using fun h => a5 h.symm
        have e : (ev != 0 && ((xe : Int) == ev && askB who id side xw xp)) = false := by rw [a6]; simp
        rw [e]
        clear e a5
        go_enter Try.func7, Try.ntmps7
        go_wp2
        go_ret
        exact ⟨rfl, (Below.refl _ _).alloc (Nat.le_refl _) _⟩
end Go.Proofs.Ytggmiiifpocfdaa
