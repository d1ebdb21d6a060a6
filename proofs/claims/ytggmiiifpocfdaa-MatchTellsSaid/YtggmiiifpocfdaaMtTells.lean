/- MatchTells of any table, effect, events, links. -/
import Derived.Test.YtggmiiifpocfdaaMtLives
namespace Go.Proofs.Ytggmiiifpocfdaa
open Go.RowKit Go.Lib Go.Shelf

theorem below_drn {B : Nat} {a w : World} (h : Below B a w) (q : Nat) : Below B a (w.drewN q) := ⟨h.os, h.tape, h.output, h.size, h.block⟩
set_option maxHeartbeats 8000000 in
set_option maxRecDepth 100000 in
theorem mtells_any (t : Tb) (f : Fx) (who id : Int) (q : Option Addr) (c : Nat) (es : List Ev) (ql : Option Addr) (nl cl last : Nat) (w : World) (h : RowIn w 4 32 EvIn (.slice q es.length c) es) (hw : ∀ x ∈ es, x.2.2.2 ≤ 255)
    (hl : ChainAt w ql nl last) (hwho : 0 ≤ who ∧ who ≤ 255) (hs : 0 ≤ f.side ∧ f.side ≤ 255) :
    Calls Try.prog 3 #[.agg t.row, .int .u8 who, .int .i64 id, .agg f.row, .slice q es.length c, .slice ql nl cl] w fun e w' => e = .returned (.bool true) ∧ Below w.heap.size w w' := by
  have hoff := Lib.hid fun (W : World) (hb : Below w.heap.size w W) (q' : Option Addr) (c' : Nat) (h' : RowIn W 4 32 EvIn (.slice q' es.length c') es) => off_any t f who id q' c' es W h' hw hwho hs
  have hroff := Lib.hid fun (W : World) (hb : Below w.heap.size w W) => roff_any t f who id q c es W (h.below EvIn.stays hb) hw hwho hs
  have hlink := Lib.hid fun (W : World) (hb : Below w.heap.size w W) => link_any ql nl cl who f.side last W (hl.below hb) hwho hs
  have hrlink := Lib.hid fun (W : World) (hb : Below w.heap.size w W) => rlink_any ql nl cl who f.side last W (hl.below hb) hwho
  have hfits := Lib.hid fun (x : Ev) (hx : x.2.2.2 ≤ 255) (W : World) => fits_any who id f.ev f.side x W hwho hs hx
  have hrfits := Lib.hid fun (x : Ev) (hx : x.2.2.2 ≤ 255) (W : World) => rfits_any who id f.ev f.side x W hwho hx
  have hlm := hl.1
  unfold maxLen at hlm
  obtain ⟨mode, ev, side, qc, nc, cc, pay, disc, trib, pick, ss, sz, sk, qs, ns, cs⟩ := f
  obtain ⟨qk, nk, ck, qp, np, cp, tl0, tl1, tn, py, mo, qe, ne, ce, b0, b1⟩ := t
  generalize offB _ who id _ es = OB at hoff hroff
  dsimp only at hoff hroff hlink hrlink hfits hrfits
  generalize linkB nl who side last = LB at hlink hrlink
  have HH := Lib.hid h
  have HW := Lib.hid hw
  have hm := h.choose_spec.choose_spec.2.1
  unfold maxLen at hm
  obtain ⟨w0, hw0⟩ : ∃ w0, w0 = (w.alloc (.cells #[.slice qk nk ck, .slice qp np cp, .int .i64 tl0, .int .i64 tl1, .int .i64 tn, .int .u8 py, .int .i64 mo, .slice qe ne ce, .bool b0, .bool b1] 28)).alloc (.cells #[.int .u8 mode, .int .u8 ev, .int .u8 side, .slice qc nc cc, .int .i64 pay, .int .i64 disc, .bool trib, .int .i64 pick, .int .u8 ss, .int .u8 sz, .int .u8 sk, .slice qs ns cs] 34) := ⟨_, rfl⟩
  have hb0 : Below w.heap.size w w0 := by rw [hw0]; exact ((Below.refl _ _).alloc (Nat.le_refl _) _).alloc (by simp) _
  have hx0 : w0.heap[w.heap.size]? = some (.cells #[.slice qk nk ck, .slice qp np cp, .int .i64 tl0, .int .i64 tl1, .int .i64 tn, .int .u8 py, .int .i64 mo, .slice qe ne ce, .bool b0, .bool b1] 28 (0, 0)) := by rw [hw0]; exact heap_older (heap_alloc_new _ _)
  have hf0 : w0.heap[w.heap.size + 1]? = some (.cells #[.int .u8 mode, .int .u8 ev, .int .u8 side, .slice qc nc cc, .int .i64 pay, .int .i64 disc, .bool trib, .int .i64 pick, .int .u8 ss, .int .u8 sz, .int .u8 sk, .slice qs ns cs] 34 (0, 0)) := by rw [hw0]; exact heap_newer _ _ _ (by simp)
  obtain ⟨q1, c1, w1, hrun, b1', hrow⟩ := evs_append (h.below EvIn.stays hb0)
  have hb1 := hb0.trans (b1'.mono hb0.size)
  have hx1 := (b1'.block _ (heap_lt hx0)).trans hx0
  have hf1 := (b1'.block _ (heap_lt hf0)).trans hf0
  have HB0 := Lib.hid hb0
  have HB1 := Lib.hid hb1
  have HX1 := Lib.hid hx1
  have HF1 := Lib.hid hf1
  have HW0 := Lib.hid hw0
  obtain ⟨n, hn⟩ : ∃ n, es.length = n := ⟨_, rfl⟩
  rw [hn] at hm hrun hroff hrow ⊢
  simp only [hn] at hoff
  have HRUN := Lib.hid hrun
  have HROW := Lib.hid hrow
  have HN := Lib.hid hn
  clear h hw hwho hs hb0 hx0 hf0 b1' hb1 hx1 hf1 hw0 hrow hn hl hrun
  simp only [Tb.row, Fx.row] at *
  by_cases g1 : (1000 : Int) < (n : Int)
  · go_enter Try.func3, Try.ntmps3
    go_wp2_with (go_at_call 5; refine (lives_any _).mono ?_; rintro e w2 ⟨rfl, b2⟩)
    go_ret
    rw [← HW0.out] at b2
    exact ⟨rfl, HB0.out.trans (b2.mono HB0.out.size)⟩
  · by_cases g2 : (1000 : Int) < (nl : Int)
    · go_enter Try.func3, Try.ntmps3
      go_wp2_with (go_at_call 5; refine (lives_any _).mono ?_; rintro e w2 ⟨rfl, b2⟩)
      go_ret
      rw [← HW0.out] at b2
      exact ⟨rfl, HB0.out.trans (b2.mono HB0.out.size)⟩
    · go_enter Try.func3, Try.ntmps3
      go_wp2_with (at_builtin; rw [← HW0.out]; refine wpList_append_ran rfl (.tmp 25) (.tmp 26) 25 rfl rfl rfl HRUN.out ?_)
      go_loopw [14, 30] (fun _ vi wr => ∃ k : Nat, vi = .int .i64 k ∧ k ≤ n ∧ Below w1.heap.size w1 wr) (fun _ vi _ => n - (RowKit.intOf vi).toNat)
      case atStart => exact ⟨0, by rfl, by omega, Below.refl _ _⟩
      case round =>
        obtain ⟨k, rfl, hk, hb⟩ := hrel
        rename World => wr
        have HBR := Lib.hid (HB1.out.trans (hb.mono HB1.out.size))
        by_cases hlt : k < n
        · obtain ⟨x, hxk⟩ : ∃ x, es[k]? = some x := ⟨es[k]'(by have := HN.out; omega), List.getElem?_eq_getElem _⟩
          obtain ⟨q', c', hq, -, -, HX⟩ := HH.out
          simp only [Value.slice.injEq] at hq
          obtain ⟨rfl, -, rfl⟩ := hq
          obtain ⟨b, o, rfl, cs, -, hcs, hc⟩ := HX k x hxk
          clear HX
          have hxw := HW.out x (List.mem_of_getElem? hxk)
          obtain rfl : cs = evV x := hcs
          clear hxk
          obtain ⟨xe, xm, xp, xw⟩ := x
          have hf := hfits.out (xe, xm, xp, xw) hxw
          have hrf := hrfits.out (xe, xm, xp, xw) hxw
          generalize fitB who id ev side (xe, xm, xp, xw) = FB at hf hrf
          have HF := Lib.hid hf
          have HRF := Lib.hid hrf
          clear hf hrf
          simp only [evV] at HF HRF
          have c0 := hc 0 _ rfl
          have c1 := hc 1 _ rfl
          have c2 := hc 2 _ rfl
          have c3 := hc 3 _ rfl
          have hlb := World.block_lt_of_cell? _ _ c0
          have d0 := below_cell' HBR.out c0 hlb
          have d1 := below_cell' HBR.out c1 hlb
          have d2 := below_cell' HBR.out c2 hlb
          have d3 := below_cell' HBR.out c3 hlb
          simp only [Nat.add_zero] at d0
          have y1 := cell_later hb (cell_blk (i := 1) HF1.out)
          have y2 := cell_later hb (cell_blk (i := 2) HF1.out)
          clear hc c0 c1 c2 c3 hlb
          have LZ := Lib.hid fun (W' : World) (b' : Below wr.heap.size wr W') => (⟨⟨cell_later b' d0, cell_later b' d1, cell_later b' d2, cell_later b' d3⟩, cell_later b' y1, cell_later b' y2⟩ : (W'.cell? ⟨b, o + k * 4, none⟩ = some (.int .u8 xe) ∧ W'.cell? ⟨b, o + k * 4 + 1, none⟩ = some (.int .i64 xm) ∧ W'.cell? ⟨b, o + k * 4 + 2, none⟩ = some (.int .i64 xp) ∧ W'.cell? ⟨b, o + k * 4 + 3, none⟩ = some (.int .u8 xw)) ∧ (W'.cell? ⟨w.heap.size + 1, 1, none⟩ = some (.int .u8 ev) ∧ W'.cell? ⟨w.heap.size + 1, 2, none⟩ = some (.int .u8 side)))
          simp at y1 y2
          have i0 : (0 : Int) ≤ (k : Int) := by omega
          have i1 : (k : Int) < (n : Int) := by omega
          have HB := Lib.hid hb
          clear hb
          go_wp2_with fail
          go_region_held3 (fun w' => (w'.cell? ⟨b, o + k * 4, none⟩ = some (.int .u8 xe) ∧ w'.cell? ⟨b, o + k * 4 + 1, none⟩ = some (.int .i64 xm) ∧ w'.cell? ⟨b, o + k * 4 + 2, none⟩ = some (.int .i64 xp) ∧ w'.cell? ⟨b, o + k * 4 + 3, none⟩ = some (.int .u8 xw)) ∧ (w'.cell? ⟨w.heap.size + 1, 1, none⟩ = some (.int .u8 ev) ∧ w'.cell? ⟨w.heap.size + 1, 2, none⟩ = some (.int .u8 side)))
            (first | go_keep | (with_reducible exact q5) | (with_reducible exact q6))
            (first
              | (go_at_call 6; refine (HF.out _).mono ?_; rintro e w5 ⟨rfl, b5⟩; have hb5 : Below wr.heap.size wr w5 := (Below.refl _ _).drew.trans (b5.mono (by simp)); have q5 := LZ.out w5 hb5; have HB5 := Lib.hid hb5)
              | (go_at_call 7; refine (HRF.out _).mono ?_; rintro e w6 ⟨rfl, b6⟩; have hb6 : Below wr.heap.size wr w6 := HB5.out.trans (b6.mono HB5.out.size); have q6 := LZ.out w6 hb6; have HB6 := Lib.hid hb6))
          go_wp2_with fail
          go_roundw
          case rel => exact ⟨k + 1, by go_num, by omega, HB.out.trans (HB6.out.mono HB.out.size)⟩
          case measure => simp [RowKit.intOf]; omega
        · obtain rfl : n = k := by omega
          clear hlt
          have XROW := Lib.hid (HROW.out.below EvIn.stays hb)
          have x0 := cell_later hb (cell_blk (i := 0) HX1.out)
          have x1 := cell_later hb (cell_blk (i := 1) HX1.out)
          have x2 := cell_later hb (cell_blk (i := 2) HX1.out)
          have x3 := cell_later hb (cell_blk (i := 3) HX1.out)
          have x4 := cell_later hb (cell_blk (i := 4) HX1.out)
          have x5 := cell_later hb (cell_blk (i := 5) HX1.out)
          have x6 := cell_later hb (cell_blk (i := 6) HX1.out)
          have x7 := cell_later hb (cell_blk (i := 7) HX1.out)
          have x8 := cell_later hb (cell_blk (i := 8) HX1.out)
          have x9 := cell_later hb (cell_blk (i := 9) HX1.out)
          have f0 := cell_later hb (cell_blk (i := 0) HF1.out)
          have f1 := cell_later hb (cell_blk (i := 1) HF1.out)
          have f2 := cell_later hb (cell_blk (i := 2) HF1.out)
          have f3 := cell_later hb (cell_blk (i := 3) HF1.out)
          have f4 := cell_later hb (cell_blk (i := 4) HF1.out)
          have f5 := cell_later hb (cell_blk (i := 5) HF1.out)
          have f6 := cell_later hb (cell_blk (i := 6) HF1.out)
          have f7 := cell_later hb (cell_blk (i := 7) HF1.out)
          have f8 := cell_later hb (cell_blk (i := 8) HF1.out)
          have f9 := cell_later hb (cell_blk (i := 9) HF1.out)
          have f10 := cell_later hb (cell_blk (i := 10) HF1.out)
          have f11 := cell_later hb (cell_blk (i := 11) HF1.out)
          have LZ := Lib.hid fun (W' : World) (b' : Below wr.heap.size wr W') => (⟨cell_later b' x0, cell_later b' x1, cell_later b' x2, cell_later b' x3, cell_later b' x4, cell_later b' x5, cell_later b' x6, cell_later b' x7, cell_later b' x8, cell_later b' x9, cell_later b' f0, cell_later b' f1, cell_later b' f2, cell_later b' f3, cell_later b' f4, cell_later b' f5, cell_later b' f6, cell_later b' f7, cell_later b' f8, cell_later b' f9, cell_later b' f10, cell_later b' f11⟩ : W'.cell? ⟨w.heap.size, 0, none⟩ = some (.slice qk nk ck) ∧ W'.cell? ⟨w.heap.size, 1, none⟩ = some (.slice qp np cp) ∧ W'.cell? ⟨w.heap.size, 2, none⟩ = some (.int .i64 tl0) ∧ W'.cell? ⟨w.heap.size, 3, none⟩ = some (.int .i64 tl1) ∧ W'.cell? ⟨w.heap.size, 4, none⟩ = some (.int .i64 tn) ∧ W'.cell? ⟨w.heap.size, 5, none⟩ = some (.int .u8 py) ∧ W'.cell? ⟨w.heap.size, 6, none⟩ = some (.int .i64 mo) ∧ W'.cell? ⟨w.heap.size, 7, none⟩ = some (.slice qe ne ce) ∧ W'.cell? ⟨w.heap.size, 8, none⟩ = some (.bool b0) ∧ W'.cell? ⟨w.heap.size, 9, none⟩ = some (.bool b1) ∧ W'.cell? ⟨w.heap.size + 1, 0, none⟩ = some (.int .u8 mode) ∧ W'.cell? ⟨w.heap.size + 1, 1, none⟩ = some (.int .u8 ev) ∧ W'.cell? ⟨w.heap.size + 1, 2, none⟩ = some (.int .u8 side) ∧ W'.cell? ⟨w.heap.size + 1, 3, none⟩ = some (.slice qc nc cc) ∧ W'.cell? ⟨w.heap.size + 1, 4, none⟩ = some (.int .i64 pay) ∧ W'.cell? ⟨w.heap.size + 1, 5, none⟩ = some (.int .i64 disc) ∧ W'.cell? ⟨w.heap.size + 1, 6, none⟩ = some (.bool trib) ∧ W'.cell? ⟨w.heap.size + 1, 7, none⟩ = some (.int .i64 pick) ∧ W'.cell? ⟨w.heap.size + 1, 8, none⟩ = some (.int .u8 ss) ∧ W'.cell? ⟨w.heap.size + 1, 9, none⟩ = some (.int .u8 sz) ∧ W'.cell? ⟨w.heap.size + 1, 10, none⟩ = some (.int .u8 sk) ∧ W'.cell? ⟨w.heap.size + 1, 11, none⟩ = some (.slice qs ns cs))
          simp at x0 x1 x2 x3 x4 x5 x6 x7 x8 x9 f0 f1 f2 f3 f4 f5 f6 f7 f8 f9 f10 f11
          have HB := Lib.hid hb
          clear hb
          go_wp2_with fail
          go_region_held3 (fun w' => w'.cell? ⟨w.heap.size, 0, none⟩ = some (.slice qk nk ck) ∧ w'.cell? ⟨w.heap.size, 1, none⟩ = some (.slice qp np cp) ∧ w'.cell? ⟨w.heap.size, 2, none⟩ = some (.int .i64 tl0) ∧ w'.cell? ⟨w.heap.size, 3, none⟩ = some (.int .i64 tl1) ∧ w'.cell? ⟨w.heap.size, 4, none⟩ = some (.int .i64 tn) ∧ w'.cell? ⟨w.heap.size, 5, none⟩ = some (.int .u8 py) ∧ w'.cell? ⟨w.heap.size, 6, none⟩ = some (.int .i64 mo) ∧ w'.cell? ⟨w.heap.size, 7, none⟩ = some (.slice qe ne ce) ∧ w'.cell? ⟨w.heap.size, 8, none⟩ = some (.bool b0) ∧ w'.cell? ⟨w.heap.size, 9, none⟩ = some (.bool b1) ∧ w'.cell? ⟨w.heap.size + 1, 0, none⟩ = some (.int .u8 mode) ∧ w'.cell? ⟨w.heap.size + 1, 1, none⟩ = some (.int .u8 ev) ∧ w'.cell? ⟨w.heap.size + 1, 2, none⟩ = some (.int .u8 side) ∧ w'.cell? ⟨w.heap.size + 1, 3, none⟩ = some (.slice qc nc cc) ∧ w'.cell? ⟨w.heap.size + 1, 4, none⟩ = some (.int .i64 pay) ∧ w'.cell? ⟨w.heap.size + 1, 5, none⟩ = some (.int .i64 disc) ∧ w'.cell? ⟨w.heap.size + 1, 6, none⟩ = some (.bool trib) ∧ w'.cell? ⟨w.heap.size + 1, 7, none⟩ = some (.int .i64 pick) ∧ w'.cell? ⟨w.heap.size + 1, 8, none⟩ = some (.int .u8 ss) ∧ w'.cell? ⟨w.heap.size + 1, 9, none⟩ = some (.int .u8 sz) ∧ w'.cell? ⟨w.heap.size + 1, 10, none⟩ = some (.int .u8 sk) ∧ w'.cell? ⟨w.heap.size + 1, 11, none⟩ = some (.slice qs ns cs))
            (first | go_keep | (with_reducible exact q5) | (with_reducible exact q6) | (with_reducible exact q7))
            (first
              | (go_at_call 8; refine (hoff.out wr.drew HBR.out.drew q1 c1 (XROW.out.below EvIn.stays (Below.refl _ _).drew)).mono ?_; rintro e w5 ⟨rfl, b5⟩; have hb5 : Below wr.heap.size wr w5 := (Below.refl _ _).drew.trans (b5.mono (by simp)); have q5 := LZ.out w5 hb5; have HB5 := Lib.hid hb5)
              | (go_at_call 9; refine (hroff.out w5 (HBR.out.trans (HB5.out.mono HBR.out.size))).mono ?_; rintro e w6 ⟨rfl, b6⟩; have hb6 : Below wr.heap.size wr w6 := HB5.out.trans (b6.mono HB5.out.size); have q6 := LZ.out w6 hb6; have HB6 := Lib.hid hb6)
              | (go_at_call 10; refine (hlink.out w6 (HBR.out.trans (HB6.out.mono HBR.out.size))).mono ?_; rintro e w7 ⟨rfl, b7⟩; have hb7 : Below wr.heap.size wr w7 := HB6.out.trans (b7.mono HB6.out.size); have q7 := LZ.out w7 hb7; have HB7 := Lib.hid hb7)
              | (go_at_call 11; refine (hrlink.out w7 (HBR.out.trans (HB7.out.mono HBR.out.size))).mono ?_; rintro e w8 ⟨rfl, rfl⟩))
          rename World => w7
          have HBR7 := Lib.hid (HBR.out.trans (HB7.out.mono HBR.out.size))
          have HR7 := Lib.hid (XROW.out.below EvIn.stays HB7.out)
          go_wp2_with fail
          go_loopw [15, 85] (fun _ vi wr => ∃ k : Nat, vi = .int .i64 k ∧ k ≤ n ∧ Below w7.heap.size w7 wr) (fun _ vi _ => n - (RowKit.intOf vi).toNat)
          case atStart => exact ⟨0, by rfl, by omega, Below.refl _ _⟩
          case round =>
            obtain ⟨j, rfl, hj, hb⟩ := hrel
            rename World => wr
            have HBW := Lib.hid (HBR7.out.trans (hb.mono HBR7.out.size))
            by_cases hlt : j < n
            · obtain ⟨x, hxk⟩ : ∃ x, es[j]? = some x := ⟨es[j]'(by have := HN.out; omega), List.getElem?_eq_getElem _⟩
              obtain ⟨q', c', hq, -, -, HX⟩ := HH.out
              simp only [Value.slice.injEq] at hq
              obtain ⟨rfl, -, rfl⟩ := hq
              obtain ⟨b, o, rfl, cs, -, hcs, hc⟩ := HX j x hxk
              clear HX
              obtain rfl : cs = evV x := hcs
              obtain ⟨q', c', hq, -, -, HX⟩ := HR7.out
              simp only [Value.slice.injEq] at hq
              obtain ⟨rfl, -, rfl⟩ := hq
              obtain ⟨b2, o2, rfl, cs, -, hcs, hc2⟩ := HX j x hxk
              clear HX
              obtain rfl : cs = evV x := hcs
              clear hxk
              obtain ⟨xe, xm, xp, xw⟩ := x
              have c0 := hc 0 _ rfl
              have c1' := hc 1 _ rfl
              have c2' := hc 2 _ rfl
              have c3' := hc 3 _ rfl
              have hlb := World.block_lt_of_cell? _ _ c0
              have d0 := below_cell' HBW.out c0 hlb
              have d1 := below_cell' HBW.out c1' hlb
              have d2 := below_cell' HBW.out c2' hlb
              have d3 := below_cell' HBW.out c3' hlb
              have g0 := cell_later hb (hc2 0 _ rfl)
              have g1 := cell_later hb (hc2 1 _ rfl)
              have g2 := cell_later hb (hc2 2 _ rfl)
              have g3 := cell_later hb (hc2 3 _ rfl)
              simp only [Nat.add_zero] at d0 g0
              clear hc hc2 c0 c1' c2' c3' hlb
              have i0 : (0 : Int) ≤ (j : Int) := by omega
              have i1 : (j : Int) < (n : Int) := by omega
              have HB := Lib.hid hb
              clear hb
              go_wp2_with fail
              go_quiet (fail)
              go_wp2_with fail
              go_roundw
              case rel => exact ⟨j + 1, by go_num, by omega, below_drn HB.out _⟩
              case measure => simp [RowKit.intOf]; omega
            · obtain rfl : n = j := by omega
              clear hlt
              go_wp2_with (go_at_call 5; refine (lives_any _).mono ?_; rintro e w9 ⟨rfl, b9⟩)
              go_ret
              exact ⟨rfl, HBW.out.trans (b9.mono HBW.out.size)⟩
end Go.Proofs.Ytggmiiifpocfdaa
