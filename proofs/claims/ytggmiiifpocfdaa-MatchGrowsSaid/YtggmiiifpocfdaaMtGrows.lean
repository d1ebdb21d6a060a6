/- MatchGrows of any table, effect, events. -/
import Derived.Test.YtggmiiifpocfdaaMtGrowM
import Derived.RegionTactic
import Derived.Deep.DeepCutAuto
namespace Go.Proofs.Ytggmiiifpocfdaa
open Go.RowKit Go.Lib Go.Shelf

theorem set_other' {w : World} {b i k : Nat} {v : Value} (h : k ≠ b) : (w.setCell ⟨b, i, none⟩ v).heap[k]? = w.heap[k]? := heap_set_far (by exact h) v
theorem set_same' {w : World} {b i : Nat} {cs : Array Value} {t : TypeId} {v : Value} (h : w.heap[b]? = some (.cells cs t (0, 0))) : (w.setCell ⟨b, i, none⟩ v).heap[b]? = some (.cells (cs.setIfInBounds i v) t (0, 0)) := heap_set h v
theorem below_put {a w : World} {g i : Nat} {v : Value} (h : Below g a w) : Below g a (w.setCell ⟨g, i, none⟩ v).drew := (h.setCell (Nat.le_refl _) _).drew
theorem put_heap {w : World} {b i : Nat} {cs : Array Value} {t : TypeId} {v : Value} (h : w.heap[b]? = some (.cells cs t (0, 0))) : (w.setCell ⟨b, i, none⟩ v).drew.heap[b]? = some (.cells (cs.setIfInBounds i v) t (0, 0)) := heap_set h v
theorem mem_take_succ {es : List Ev} {k : Nat} {x y : Ev} (h : es[k]? = some x) (hy : y ∈ es.take (k + 1)) : y ∈ es.take k ∨ y = x := by
  rw [List.take_add_one, h] at hy
  rcases List.mem_append.1 hy with hy | hy
  · exact .inl hy
  · exact .inr (by simpa using hy)
theorem below_drn2 {B : Nat} {a w : World} (h : Below B a w) (q : Nat) : Below B a (w.drewN q) := ⟨h.os, h.tape, h.output, h.size, h.block⟩
set_option maxHeartbeats 16000000 in
set_option maxRecDepth 100000 in
theorem mgrows_any (t : Tb) (f : Fx) (who id : Int) (q : Option Addr) (c : Nat) (es : List Ev) (qm : Option Addr) (cm : Nat) (ms : List Ev) (w : World) (h : RowIn w 4 32 EvIn (.slice q es.length c) es) (hw : ∀ x ∈ es, x.2.2.2 ≤ 255 ∧ -9223372036854775808 ≤ x.2.1)
    (hm : RowIn w 4 32 EvIn (.slice qm ms.length cm) ms) (hmw : ∀ x ∈ ms, x.2.2.2 ≤ 255) (hwho : 0 ≤ who ∧ who ≤ 255) (hs : 0 ≤ f.side ∧ f.side ≤ 255) :
    Calls Try.prog 4 #[.agg t.row, .int .u8 who, .int .i64 id, .agg f.row, .slice q es.length c, .slice qm ms.length cm] w fun e w' => e = .returned (.bool true) ∧ Below w.heap.size w w' := by
  have hoff := Lib.hid fun (W : World) (hb : Below w.heap.size w W) (t : Tb) (mode : Int) => off_any t { f with mode := mode } who id q c es W (h.below EvIn.stays hb) (fun x hx => (hw x hx).1) hwho hs
  have hall := Lib.hid fun (W : World) (qa : Option Addr) (ca : Nat) (h' : RowIn W 4 32 EvIn (.slice qa (es ++ ms).length ca) (es ++ ms)) => off_any t f who id qa ca (es ++ ms) W h' (fun x hx => by rcases List.mem_append.1 hx with hx | hx; exact (hw x hx).1; exact hmw x hx) hwho hs
  have hnil := Lib.hid fun (W : World) => off_any t f who id none 0 [] W (RowIn.nil _ _ _ _ _ _) (fun x hx => by simp at hx) hwho hs
  obtain ⟨mode, ev, side, qc, nc, cc, pay, disc, trib, pick, ss, sz, sk, qs, ns, cs⟩ := f
  obtain ⟨qk, nk, ck, qp, np, cp, tl0, tl1, tn, py, mo, qe, ne, ce, b0, b1⟩ := t
  have hmono := Lib.hid fun h => off_mono mo who id ⟨mode, ev, side, qc, nc, cc, pay, disc, trib, pick, ss, sz, sk, qs, ns, cs⟩ es ms h
  have hwi := Lib.hid fun h => off_when_if mo who id ⟨mode, ev, side, qc, nc, cc, pay, disc, trib, pick, ss, sz, sk, qs, ns, cs⟩ es h
  have hlate := Lib.hid fun M h => off_late M who id ⟨mode, ev, side, qc, nc, cc, pay, disc, trib, pick, ss, sz, sk, qs, ns, cs⟩ es h
  rw [off_nil] at hnil
  simp only [List.length_nil] at hnil
  obtain ⟨OB, hOB⟩ : ∃ OB : Int → Int → Bool, OB = fun mo mode => offB mo who id ⟨mode, ev, side, qc, nc, cc, pay, disc, trib, pick, ss, sz, sk, qs, ns, cs⟩ es := ⟨_, rfl⟩
  obtain ⟨OA, hOA⟩ : ∃ OA, OA = offB mo who id ⟨mode, ev, side, qc, nc, cc, pay, disc, trib, pick, ss, sz, sk, qs, ns, cs⟩ (es ++ ms) := ⟨_, rfl⟩
  have e1 : ∀ mo mode, offB mo who id ⟨mode, ev, side, qc, nc, cc, pay, disc, trib, pick, ss, sz, sk, qs, ns, cs⟩ es = OB mo mode := fun mo mode => by rw [hOB]
  dsimp only at hoff hall hnil hmono hwi hlate
  rw [← hOA] at hall hmono
  simp only [e1] at hoff hmono hwi hlate
  have HH := Lib.hid h
  have HM := Lib.hid hm
  have HW := Lib.hid hw
  have HMW := Lib.hid hmw
  have hnb := h.choose_spec.choose_spec.2.1
  have hmb := hm.choose_spec.choose_spec.2.1
  unfold maxLen at hnb hmb
  obtain ⟨n, hn⟩ : ∃ n, es.length = n := ⟨_, rfl⟩
  obtain ⟨m, hm'⟩ : ∃ m, ms.length = m := ⟨_, rfl⟩
  rw [hn] at hnb ⊢
  rw [hm'] at hmb ⊢
  simp only [hn] at hoff
  have HN := Lib.hid hn
  have HMN := Lib.hid hm'
  clear h hm hw hmw hn hm' hwho hs e1 hOB hOA
  obtain ⟨w0, hw0⟩ : ∃ w0, w0 = (w.alloc (.cells #[.slice qk nk ck, .slice qp np cp, .int .i64 tl0, .int .i64 tl1, .int .i64 tn, .int .u8 py, .int .i64 mo, .slice qe ne ce, .bool b0, .bool b1] 28)).alloc (.cells #[.int .u8 mode, .int .u8 ev, .int .u8 side, .slice qc nc cc, .int .i64 pay, .int .i64 disc, .bool trib, .int .i64 pick, .int .u8 ss, .int .u8 sz, .int .u8 sk, .slice qs ns cs] 34) := ⟨_, rfl⟩
  have hb0 : Below w.heap.size w w0 := by rw [hw0]; exact ((Below.refl _ _).alloc (Nat.le_refl _) _).alloc (by simp) _
  have hx0 : w0.heap[w.heap.size]? = some (.cells #[.slice qk nk ck, .slice qp np cp, .int .i64 tl0, .int .i64 tl1, .int .i64 tn, .int .u8 py, .int .i64 mo, .slice qe ne ce, .bool b0, .bool b1] 28 (0, 0)) := by rw [hw0]; exact heap_older (heap_alloc_new _ _)
  have hf0 : w0.heap[w.heap.size + 1]? = some (.cells #[.int .u8 mode, .int .u8 ev, .int .u8 side, .slice qc nc cc, .int .i64 pay, .int .i64 disc, .bool trib, .int .i64 pick, .int .u8 ss, .int .u8 sz, .int .u8 sk, .slice qs ns cs] 34 (0, 0)) := by rw [hw0]; exact heap_newer _ _ _ (by simp)
  have HB0 := Lib.hid hb0
  have HX0 := Lib.hid hx0
  have HF0 := Lib.hid hf0
  have HW0 := Lib.hid hw0
  clear hb0 hx0 hf0 hw0
  simp only [Tb.row, Fx.row] at *
  by_cases g1 : (1000 : Int) < (n : Int)
  · go_enter Try.func4, Try.ntmps4
    go_wp2_with (go_at_call 5; refine (lives_any _).mono ?_; rintro e w2 ⟨rfl, b2⟩)
    go_ret
    rw [← HW0.out] at b2
    exact ⟨rfl, HB0.out.trans (b2.mono HB0.out.size)⟩
  · by_cases g2 : (1000 : Int) < (m : Int)
    · go_enter Try.func4, Try.ntmps4
      go_wp2_with (go_at_call 5; refine (lives_any _).mono ?_; rintro e w2 ⟨rfl, b2⟩)
      go_ret
      rw [← HW0.out] at b2
      exact ⟨rfl, HB0.out.trans (b2.mono HB0.out.size)⟩
    · obtain ⟨v1, w1, hr1, ho1, b1'⟩ := evs_own (w := w0) (B := w0.heap.size) (ds := []) (World.ownsRow_nil _ _ _ _) (HH.out.below EvIn.stays HB0.out) (by have := HN.out; simp; omega) (Nat.le_refl _)
      obtain ⟨qa, ca, rfl, -⟩ := own_row ho1 (by have := HN.out; simp; omega)
      have hb1 := HB0.out.trans (b1'.mono HB0.out.size)
      obtain ⟨v2, w2, hr2, ho2, b2'⟩ := evs_own (w := w1) (B := w0.heap.size) ho1 (HM.out.below EvIn.stays hb1) (by have := HN.out; have := HMN.out; simp; omega) b1'.size
      obtain ⟨qb, cb, rfl, hrow⟩ := own_row ho2 (by have := HN.out; have := HMN.out; simp; omega)
      have b02 := b1'.trans b2'
      have HB2 := Lib.hid (HB0.out.trans (b02.mono HB0.out.size))
      have HX2 := Lib.hid ((b02.block _ (heap_lt HX0.out)).trans HX0.out)
      have HF2 := Lib.hid ((b02.block _ (heap_lt HF0.out)).trans HF0.out)
      simp only [List.nil_append, HN.out, HMN.out] at hr1 hr2
      have HR1 := Lib.hid hr1
      have HR2 := Lib.hid hr2
      have HROW := Lib.hid hrow
      clear hr1 hr2 ho1 ho2 b1' b2' b02 hb1 hrow
      simp only [List.nil_append, List.length_append] at *
      simp only [HN.out, HMN.out] at HROW HR1 HR2
      simp only [HN.out, HMN.out] at hall
      have x0 := cell_blk (i := 0) HX2.out
      have x1 := cell_blk (i := 1) HX2.out
      have x2 := cell_blk (i := 2) HX2.out
      have x3 := cell_blk (i := 3) HX2.out
      have x4 := cell_blk (i := 4) HX2.out
      have x5 := cell_blk (i := 5) HX2.out
      have x6 := cell_blk (i := 6) HX2.out
      have x7 := cell_blk (i := 7) HX2.out
      have x8 := cell_blk (i := 8) HX2.out
      have x9 := cell_blk (i := 9) HX2.out
      simp at x0 x1 x2 x3 x4 x5 x6 x7 x8 x9
      have f0 := cell_blk (i := 0) HF2.out
      have f1 := cell_blk (i := 1) HF2.out
      have f2 := cell_blk (i := 2) HF2.out
      have f3 := cell_blk (i := 3) HF2.out
      have f4 := cell_blk (i := 4) HF2.out
      have f5 := cell_blk (i := 5) HF2.out
      have f6 := cell_blk (i := 6) HF2.out
      have f7 := cell_blk (i := 7) HF2.out
      have f8 := cell_blk (i := 8) HF2.out
      have f9 := cell_blk (i := 9) HF2.out
      have f10 := cell_blk (i := 10) HF2.out
      have f11 := cell_blk (i := 11) HF2.out
      simp at f0 f1 f2 f3 f4 f5 f6 f7 f8 f9 f10 f11
      go_enter Try.func4, Try.ntmps4
      go_upto_region 5 with (at_builtin; first | (rw [← HW0.out]; refine wpList_append_ran rfl (.tmp 28) (.tmp 29) 25 rfl rfl rfl HR1.out ?_) | (refine wpList_append_ran rfl (.tmp 30) (.tmp 31) 25 rfl rfl rfl HR2.out ?_))
      go_cut [47] (fun s47 wx => s47 = .bool false ∧ Below w2.heap.size w2 wx)
      case first =>
        have ho := hoff.out w2 HB2.out ⟨qk, nk, ck, qp, np, cp, tl0, tl1, tn, py, mo, qe, ne, ce, b0, b1⟩ mode
        dsimp only at ho
        cases ha : OB mo mode with
        | false =>
          rw [ha] at ho
          have HO := Lib.hid ho
          clear ho ha
          go_wp2_with fail
          (with_reducible refine HO.out.mono ?_)
          rintro e w3 ⟨rfl, b3⟩
          go_wp2_with fail
          go_meet
          exact ⟨rfl, b3⟩
        | true =>
          have ha2 := hmono.out ha
          rw [ha] at ho
          rw [ha2] at hall
          have HO := Lib.hid ho
          clear ho ha ha2
          go_wp2_with fail
          (with_reducible refine HO.out.mono ?_)
          rintro e w3 ⟨rfl, b3⟩
          have HX3 := Lib.hid ((b3.block _ (heap_lt HX2.out)).trans HX2.out)
          have HF3 := Lib.hid ((b3.block _ (heap_lt HF2.out)).trans HF2.out)
          have HO2 := Lib.hid (hall.out w3 qb cb (HROW.out.below EvIn.stays b3))
          have B3 := Lib.hid b3
          clear b3
          clear x0 x1 x2 x3 x4 x5 x6 x7 x8 x9
          clear f0 f1 f2 f3 f4 f5 f6 f7 f8 f9 f10 f11
          have x0 := cell_blk (i := 0) HX3.out
          have x1 := cell_blk (i := 1) HX3.out
          have x2 := cell_blk (i := 2) HX3.out
          have x3 := cell_blk (i := 3) HX3.out
          have x4 := cell_blk (i := 4) HX3.out
          have x5 := cell_blk (i := 5) HX3.out
          have x6 := cell_blk (i := 6) HX3.out
          have x7 := cell_blk (i := 7) HX3.out
          have x8 := cell_blk (i := 8) HX3.out
          have x9 := cell_blk (i := 9) HX3.out
          simp at x0 x1 x2 x3 x4 x5 x6 x7 x8 x9
          have f0 := cell_blk (i := 0) HF3.out
          have f1 := cell_blk (i := 1) HF3.out
          have f2 := cell_blk (i := 2) HF3.out
          have f3 := cell_blk (i := 3) HF3.out
          have f4 := cell_blk (i := 4) HF3.out
          have f5 := cell_blk (i := 5) HF3.out
          have f6 := cell_blk (i := 6) HF3.out
          have f7 := cell_blk (i := 7) HF3.out
          have f8 := cell_blk (i := 8) HF3.out
          have f9 := cell_blk (i := 9) HF3.out
          have f10 := cell_blk (i := 10) HF3.out
          have f11 := cell_blk (i := 11) HF3.out
          simp at f0 f1 f2 f3 f4 f5 f6 f7 f8 f9 f10 f11
          go_wp2_with fail
          (with_reducible refine HO2.out.mono ?_)
          rintro e w4 ⟨rfl, b4⟩
          go_wp2_with fail
          go_meet
          exact ⟨rfl, B3.out.trans (b4.mono B3.out.size)⟩
      case rest =>
        obtain ⟨rfl, hb3⟩ := hcut
        rename World => w3
        have HB3 := Lib.hid (HB2.out.trans (hb3.mono HB2.out.size))
        have HX3 := Lib.hid ((hb3.block _ (heap_lt HX2.out)).trans HX2.out)
        have HF3 := Lib.hid ((hb3.block _ (heap_lt HF2.out)).trans HF2.out)
        have l3 := heap_lt HF3.out
        have l3' := heap_lt HX3.out
        clear hb3
        clear x0 x1 x2 x3 x4 x5 x6 x7 x8 x9
        clear f0 f1 f2 f3 f4 f5 f6 f7 f8 f9 f10 f11
        have x0 := cell_blk (i := 0) HX3.out
        have x1 := cell_blk (i := 1) HX3.out
        have x2 := cell_blk (i := 2) HX3.out
        have x3 := cell_blk (i := 3) HX3.out
        have x4 := cell_blk (i := 4) HX3.out
        have x5 := cell_blk (i := 5) HX3.out
        have x6 := cell_blk (i := 6) HX3.out
        have x7 := cell_blk (i := 7) HX3.out
        have x8 := cell_blk (i := 8) HX3.out
        have x9 := cell_blk (i := 9) HX3.out
        simp at x0 x1 x2 x3 x4 x5 x6 x7 x8 x9
        have f0 := cell_blk (i := 0) HF3.out
        have f1 := cell_blk (i := 1) HF3.out
        have f2 := cell_blk (i := 2) HF3.out
        have f3 := cell_blk (i := 3) HF3.out
        have f4 := cell_blk (i := 4) HF3.out
        have f5 := cell_blk (i := 5) HF3.out
        have f6 := cell_blk (i := 6) HF3.out
        have f7 := cell_blk (i := 7) HF3.out
        have f8 := cell_blk (i := 8) HF3.out
        have f9 := cell_blk (i := 9) HF3.out
        have f10 := cell_blk (i := 10) HF3.out
        have f11 := cell_blk (i := 11) HF3.out
        simp at f0 f1 f2 f3 f4 f5 f6 f7 f8 f9 f10 f11
        go_upto_region 7 with fail
        go_cut [14, 15] (fun s14 s15 wx => ∃ a b : Nat, s14 = .pointer (some ⟨a, 0, none⟩) ∧ s15 = .pointer (some ⟨b, 0, none⟩) ∧ a ≠ b ∧ w3.heap.size ≤ a ∧ w3.heap.size ≤ b ∧ Below w3.heap.size w3 wx ∧ Hid (wx.heap[a]? = some (.cells #[.int .u8 mode, .int .u8 ev, .int .u8 side, .slice qc nc cc, .int .i64 pay, .int .i64 disc, .bool trib, .int .i64 pick, .int .u8 ss, .int .u8 sz, .int .u8 sk, .slice qs ns cs] 34 (0, 0)) ∧ wx.heap[b]? = some (.cells #[.int .u8 mode, .int .u8 ev, .int .u8 side, .slice qc nc cc, .int .i64 pay, .int .i64 disc, .bool trib, .int .i64 pick, .int .u8 ss, .int .u8 sz, .int .u8 sk, .slice qs ns cs] 34 (0, 0))))
        case first =>
          go_region
          all_goals (go_wp2_with fail; go_meet)
          · exact ⟨w3.heap.size, w3.heap.size + 1, rfl, rfl, by omega, by omega, by omega, (((Below.refl _ _).alloc (Nat.le_refl _) _).alloc (by simp) _).drew, Lib.hid ⟨heap_older (heap_alloc_new _ _), heap_newer _ _ _ (by simp)⟩⟩
          · exact ⟨w3.heap.size + 1, w3.heap.size, rfl, rfl, by omega, by omega, by omega, (((Below.refl _ _).alloc (Nat.le_refl _) _).alloc (by simp) _).drew, Lib.hid ⟨heap_newer _ _ _ (by simp), heap_older (heap_alloc_new _ _)⟩⟩
        case rest =>
          obtain ⟨a, b, rfl, rfl, hab, ha, hb, hb4, hh⟩ := hcut
          rename World => w4
          obtain ⟨hfa, hfb⟩ := hh.out
          have la := heap_lt hfa
          have lb := heap_lt hfb
          have za := free_blk (i := 0) hfa
          have zb := free_blk (i := 0) hfb
          have ka := cell_blk (i := 0) hfa
          have kb := cell_blk (i := 0) hfb
          simp at ka kb
          obtain ⟨w5, hw5⟩ : ∃ w5, w5 = (w4.setCell ⟨a, 0, none⟩ (.int .u8 3)).setCell ⟨b, 0, none⟩ (.int .u8 4) := ⟨_, rfl⟩
          have HA5 := Lib.hid (show w5.heap[a]? = some (.cells #[.int .u8 3, .int .u8 ev, .int .u8 side, .slice qc nc cc, .int .i64 pay, .int .i64 disc, .bool trib, .int .i64 pick, .int .u8 ss, .int .u8 sz, .int .u8 sk, .slice qs ns cs] 34 (0, 0)) by rw [hw5]; exact (set_other' hab).trans (set_same' hfa))
          have HE5 := Lib.hid (show w5.heap[b]? = some (.cells #[.int .u8 4, .int .u8 ev, .int .u8 side, .slice qc nc cc, .int .i64 pay, .int .i64 disc, .bool trib, .int .i64 pick, .int .u8 ss, .int .u8 sz, .int .u8 sk, .slice qs ns cs] 34 (0, 0)) by rw [hw5]; exact set_same' ((set_other' (Ne.symm hab)).trans hfb))
          have b35 : Below w3.heap.size w3 w5 := by rw [hw5]; exact (hb4.setCell (by show w3.heap.size ≤ a; exact ha) _).setCell (by show w3.heap.size ≤ b; exact hb) _
          have HB5 := Lib.hid (HB3.out.trans (b35.mono HB3.out.size))
          have HX5 := Lib.hid ((b35.block _ (heap_lt HX3.out)).trans HX3.out)
          have HF5 := Lib.hid ((b35.block _ (heap_lt HF3.out)).trans HF3.out)
          have HW5 := Lib.hid hw5
          have ho3 := hoff.out w5 HB5.out ⟨qk, nk, ck, qp, np, cp, tl0, tl1, tn, py, mo, qe, ne, ce, b0, b1⟩ 3
          dsimp only at ho3
          clear hfa hfb hw5 b35 hb4 hh
          clear x0 x1 x2 x3 x4 x5 x6 x7 x8 x9 f0 f1 f2 f3 f4 f5 f6 f7 f8 f9 f10 f11
          go_upto_region 9 with fail
          rw [← HW5.out]
          go_cut [73] (fun s73 wx => s73 = .bool false ∧ Below w5.heap.size w5 wx)
          case first =>
            have x0 := cell_blk (i := 0) HX5.out
            have x1 := cell_blk (i := 1) HX5.out
            have x2 := cell_blk (i := 2) HX5.out
            have x3 := cell_blk (i := 3) HX5.out
            have x4 := cell_blk (i := 4) HX5.out
            have x5 := cell_blk (i := 5) HX5.out
            have x6 := cell_blk (i := 6) HX5.out
            have x7 := cell_blk (i := 7) HX5.out
            have x8 := cell_blk (i := 8) HX5.out
            have x9 := cell_blk (i := 9) HX5.out
            simp at x0 x1 x2 x3 x4 x5 x6 x7 x8 x9
            have f0 := cell_blk (i := 0) HF5.out
            have f1 := cell_blk (i := 1) HF5.out
            have f2 := cell_blk (i := 2) HF5.out
            have f3 := cell_blk (i := 3) HF5.out
            have f4 := cell_blk (i := 4) HF5.out
            have f5 := cell_blk (i := 5) HF5.out
            have f6 := cell_blk (i := 6) HF5.out
            have f7 := cell_blk (i := 7) HF5.out
            have f8 := cell_blk (i := 8) HF5.out
            have f9 := cell_blk (i := 9) HF5.out
            have f10 := cell_blk (i := 10) HF5.out
            have f11 := cell_blk (i := 11) HF5.out
            simp at f0 f1 f2 f3 f4 f5 f6 f7 f8 f9 f10 f11
            have a0 := cell_blk (i := 0) HA5.out
            have a1 := cell_blk (i := 1) HA5.out
            have a2 := cell_blk (i := 2) HA5.out
            have a3 := cell_blk (i := 3) HA5.out
            have a4 := cell_blk (i := 4) HA5.out
            have a5 := cell_blk (i := 5) HA5.out
            have a6 := cell_blk (i := 6) HA5.out
            have a7 := cell_blk (i := 7) HA5.out
            have a8 := cell_blk (i := 8) HA5.out
            have a9 := cell_blk (i := 9) HA5.out
            have a10 := cell_blk (i := 10) HA5.out
            have a11 := cell_blk (i := 11) HA5.out
            simp at a0 a1 a2 a3 a4 a5 a6 a7 a8 a9 a10 a11
            cases hc : OB mo 3 with
            | false =>
              rw [hc] at ho3
              have HO := Lib.hid ho3
              clear ho3 hc
              go_wp2_with fail
              (with_reducible refine HO.out.mono ?_)
              rintro e w6 ⟨rfl, b6⟩
              have HX6 := Lib.hid ((b6.block _ (heap_lt HX5.out)).trans HX5.out)
              have HF6 := Lib.hid ((b6.block _ (heap_lt HF5.out)).trans HF5.out)
              have B6 := Lib.hid b6
              have HO2 := Lib.hid (hnil.out w6)
              clear b6
              clear x0 x1 x2 x3 x4 x5 x6 x7 x8 x9
              clear f0 f1 f2 f3 f4 f5 f6 f7 f8 f9 f10 f11
              have x0 := cell_blk (i := 0) HX6.out
              have x1 := cell_blk (i := 1) HX6.out
              have x2 := cell_blk (i := 2) HX6.out
              have x3 := cell_blk (i := 3) HX6.out
              have x4 := cell_blk (i := 4) HX6.out
              have x5 := cell_blk (i := 5) HX6.out
              have x6 := cell_blk (i := 6) HX6.out
              have x7 := cell_blk (i := 7) HX6.out
              have x8 := cell_blk (i := 8) HX6.out
              have x9 := cell_blk (i := 9) HX6.out
              simp at x0 x1 x2 x3 x4 x5 x6 x7 x8 x9
              have f0 := cell_blk (i := 0) HF6.out
              have f1 := cell_blk (i := 1) HF6.out
              have f2 := cell_blk (i := 2) HF6.out
              have f3 := cell_blk (i := 3) HF6.out
              have f4 := cell_blk (i := 4) HF6.out
              have f5 := cell_blk (i := 5) HF6.out
              have f6 := cell_blk (i := 6) HF6.out
              have f7 := cell_blk (i := 7) HF6.out
              have f8 := cell_blk (i := 8) HF6.out
              have f9 := cell_blk (i := 9) HF6.out
              have f10 := cell_blk (i := 10) HF6.out
              have f11 := cell_blk (i := 11) HF6.out
              simp at f0 f1 f2 f3 f4 f5 f6 f7 f8 f9 f10 f11
              go_wp2_with fail
              (with_reducible refine HO2.out.mono ?_)
              rintro e w7 ⟨rfl, b7⟩
              go_wp2_with fail
              go_meet
              exact ⟨rfl, B6.out.trans (b7.mono B6.out.size)⟩
            | true =>
              have hc4 := hwi.out hc
              rw [hc] at ho3
              have HO := Lib.hid ho3
              clear ho3 hc
              go_wp2_with fail
              (with_reducible refine HO.out.mono ?_)
              rintro e w6 ⟨rfl, b6⟩
              have HX6 := Lib.hid ((b6.block _ (heap_lt HX5.out)).trans HX5.out)
              have HF6 := Lib.hid ((b6.block _ (heap_lt HF5.out)).trans HF5.out)
              have HE6 := Lib.hid ((b6.block _ (heap_lt HE5.out)).trans HE5.out)
              have B6 := Lib.hid b6
              have ho4 := hoff.out w6 (HB5.out.trans (b6.mono HB5.out.size)) ⟨qk, nk, ck, qp, np, cp, tl0, tl1, tn, py, mo, qe, ne, ce, b0, b1⟩ 4
              dsimp only at ho4
              rw [hc4] at ho4
              have HO4 := Lib.hid ho4
              clear b6 ho4 hc4
              clear x0 x1 x2 x3 x4 x5 x6 x7 x8 x9
              clear f0 f1 f2 f3 f4 f5 f6 f7 f8 f9 f10 f11
              have x0 := cell_blk (i := 0) HX6.out
              have x1 := cell_blk (i := 1) HX6.out
              have x2 := cell_blk (i := 2) HX6.out
              have x3 := cell_blk (i := 3) HX6.out
              have x4 := cell_blk (i := 4) HX6.out
              have x5 := cell_blk (i := 5) HX6.out
              have x6 := cell_blk (i := 6) HX6.out
              have x7 := cell_blk (i := 7) HX6.out
              have x8 := cell_blk (i := 8) HX6.out
              have x9 := cell_blk (i := 9) HX6.out
              simp at x0 x1 x2 x3 x4 x5 x6 x7 x8 x9
              have f0 := cell_blk (i := 0) HF6.out
              have f1 := cell_blk (i := 1) HF6.out
              have f2 := cell_blk (i := 2) HF6.out
              have f3 := cell_blk (i := 3) HF6.out
              have f4 := cell_blk (i := 4) HF6.out
              have f5 := cell_blk (i := 5) HF6.out
              have f6 := cell_blk (i := 6) HF6.out
              have f7 := cell_blk (i := 7) HF6.out
              have f8 := cell_blk (i := 8) HF6.out
              have f9 := cell_blk (i := 9) HF6.out
              have f10 := cell_blk (i := 10) HF6.out
              have f11 := cell_blk (i := 11) HF6.out
              simp at f0 f1 f2 f3 f4 f5 f6 f7 f8 f9 f10 f11
              have e0 := cell_blk (i := 0) HE6.out
              have e1 := cell_blk (i := 1) HE6.out
              have e2 := cell_blk (i := 2) HE6.out
              have e3 := cell_blk (i := 3) HE6.out
              have e4 := cell_blk (i := 4) HE6.out
              have e5 := cell_blk (i := 5) HE6.out
              have e6 := cell_blk (i := 6) HE6.out
              have e7 := cell_blk (i := 7) HE6.out
              have e8 := cell_blk (i := 8) HE6.out
              have e9 := cell_blk (i := 9) HE6.out
              have e10 := cell_blk (i := 10) HE6.out
              have e11 := cell_blk (i := 11) HE6.out
              simp at e0 e1 e2 e3 e4 e5 e6 e7 e8 e9 e10 e11
              go_wp2_with fail
              (with_reducible refine HO4.out.mono ?_)
              rintro e w7 ⟨rfl, b7⟩
              have HX7 := Lib.hid ((b7.block _ (heap_lt HX6.out)).trans HX6.out)
              have HF7 := Lib.hid ((b7.block _ (heap_lt HF6.out)).trans HF6.out)
              have B7 := Lib.hid (B6.out.trans (b7.mono B6.out.size))
              have HO2 := Lib.hid (hnil.out w7)
              clear b7
              clear x0 x1 x2 x3 x4 x5 x6 x7 x8 x9
              clear f0 f1 f2 f3 f4 f5 f6 f7 f8 f9 f10 f11
              clear e0 e1 e2 e3 e4 e5 e6 e7 e8 e9 e10 e11
              have x0 := cell_blk (i := 0) HX7.out
              have x1 := cell_blk (i := 1) HX7.out
              have x2 := cell_blk (i := 2) HX7.out
              have x3 := cell_blk (i := 3) HX7.out
              have x4 := cell_blk (i := 4) HX7.out
              have x5 := cell_blk (i := 5) HX7.out
              have x6 := cell_blk (i := 6) HX7.out
              have x7 := cell_blk (i := 7) HX7.out
              have x8 := cell_blk (i := 8) HX7.out
              have x9 := cell_blk (i := 9) HX7.out
              simp at x0 x1 x2 x3 x4 x5 x6 x7 x8 x9
              have f0 := cell_blk (i := 0) HF7.out
              have f1 := cell_blk (i := 1) HF7.out
              have f2 := cell_blk (i := 2) HF7.out
              have f3 := cell_blk (i := 3) HF7.out
              have f4 := cell_blk (i := 4) HF7.out
              have f5 := cell_blk (i := 5) HF7.out
              have f6 := cell_blk (i := 6) HF7.out
              have f7 := cell_blk (i := 7) HF7.out
              have f8 := cell_blk (i := 8) HF7.out
              have f9 := cell_blk (i := 9) HF7.out
              have f10 := cell_blk (i := 10) HF7.out
              have f11 := cell_blk (i := 11) HF7.out
              simp at f0 f1 f2 f3 f4 f5 f6 f7 f8 f9 f10 f11
              go_wp2_with fail
              (with_reducible refine HO2.out.mono ?_)
              rintro e w8 ⟨rfl, b8⟩
              go_wp2_with fail
              go_meet
              exact ⟨rfl, B7.out.trans (b8.mono B7.out.size)⟩
          case rest =>
            obtain ⟨rfl, hb6⟩ := hcut
            rename World => w6
            have HX6 := Lib.hid ((hb6.block _ (heap_lt HX5.out)).trans HX5.out)
            have HA6 := Lib.hid ((hb6.block _ (heap_lt HA5.out)).trans HA5.out)
            have HB6 := Lib.hid (HB5.out.trans (hb6.mono HB5.out.size))
            have l6 := heap_lt HA6.out
            clear ho3 hb6 HE5 HA5 HX5 HF5
            obtain ⟨w7, hw7⟩ : ∃ w7, w7 = w6.alloc (.cells #[.slice qk nk ck, .slice qp np cp, .int .i64 tl0, .int .i64 tl1, .int .i64 tn, .int .u8 py, .int .i64 0, .slice qe ne ce, .bool b0, .bool b1] 28) := ⟨_, rfl⟩
            have b7 : Below w6.heap.size w6 w7 := by rw [hw7]; exact (Below.refl _ _).alloc (Nat.le_refl _) _
            have HL7 := Lib.hid (show w7.heap[w6.heap.size]? = some (.cells #[.slice qk nk ck, .slice qp np cp, .int .i64 tl0, .int .i64 tl1, .int .i64 tn, .int .u8 py, .int .i64 0, .slice qe ne ce, .bool b0, .bool b1] 28 (0, 0)) by rw [hw7]; exact heap_alloc_new _ _)
            have HB7 := Lib.hid (HB6.out.trans (b7.mono HB6.out.size))
            have HA7 := Lib.hid ((b7.block _ l6).trans HA6.out)
            have HW7 := Lib.hid hw7
            clear hw7 b7
            have x0 := cell_blk (i := 0) HX6.out
            have x1 := cell_blk (i := 1) HX6.out
            have x2 := cell_blk (i := 2) HX6.out
            have x3 := cell_blk (i := 3) HX6.out
            have x4 := cell_blk (i := 4) HX6.out
            have x5 := cell_blk (i := 5) HX6.out
            have x6 := cell_blk (i := 6) HX6.out
            have x7 := cell_blk (i := 7) HX6.out
            have x8 := cell_blk (i := 8) HX6.out
            have x9 := cell_blk (i := 9) HX6.out
            simp at x0 x1 x2 x3 x4 x5 x6 x7 x8 x9
            go_wp2_with fail
            rw [← HW7.out]
            go_loopw [17, 78] (fun _ vi wr => ∃ (k : Nat) (M : Int), vi = .int .i64 k ∧ k ≤ n ∧ Below w6.heap.size w6 wr ∧ Hid (wr.heap[w6.heap.size]? = some (.cells #[.slice qk nk ck, .slice qp np cp, .int .i64 tl0, .int .i64 tl1, .int .i64 tn, .int .u8 py, .int .i64 M, .slice qe ne ce, .bool b0, .bool b1] 28 (0, 0))) ∧ 0 ≤ M ∧ M ≤ 1152921504606846977 ∧ Hid (∀ x ∈ es.take k, x.2.1 ≤ 1152921504606846976 → x.2.1 < M)) (fun _ vi _ => n - (RowKit.intOf vi).toNat)
            case atStart => exact ⟨0, 0, by rfl, by omega, by rw [HW7.out]; exact (Below.refl _ _).alloc (Nat.le_refl _) _, HL7, by omega, by omega, Lib.hid (fun x hx => by simp at hx)⟩
            case round =>
              obtain ⟨k, M, rfl, hk, hbr, HLR, M0, M1, HMX⟩ := hrel
              rename World => wr
              have HBR := Lib.hid hbr
              have HBW := Lib.hid (HB6.out.trans (hbr.mono HB6.out.size))
              clear hbr
              clear x0 x1 x2 x3 x4 x5 x6 x7 x8 x9
              by_cases hlt : k < n
              · obtain ⟨x, hxk⟩ : ∃ x, es[k]? = some x := ⟨es[k]'(by have := HN.out; omega), List.getElem?_eq_getElem _⟩
                obtain ⟨q', c', hq, -, -, HX⟩ := HH.out
                simp only [Value.slice.injEq] at hq
                obtain ⟨rfl, -, rfl⟩ := hq
                obtain ⟨gb, go, rfl, cs, -, hcs, hc⟩ := HX k x hxk
                clear HX
                have hxw := (HW.out x (List.mem_of_getElem? hxk)).2
                obtain rfl : cs = evV x := hcs
                have HXK := Lib.hid hxk
                clear hxk
                obtain ⟨xe, xm, xp, xw⟩ := x
                dsimp only at hxw
                have c1 := hc 1 _ rfl
                have d1 := below_cell' HBW.out c1 (World.block_lt_of_cell? _ _ c1)
                have ld := World.block_lt_of_cell? _ _ d1
                clear hc c1
                have lr := heap_lt HLR.out
                have y6 := cell_blk (i := 6) HLR.out
                simp at y6
                have z6 : wr.frozen? ⟨w6.heap.size, 6, none⟩ = false := free_blk HLR.out
                have i0 : (0 : Int) ≤ (k : Int) := by omega
                have i1 : (k : Int) < (n : Int) := by omega
                by_cases t1 : (1152921504606846976 : Int) < xm
                · by_cases t2 : M < (1152921504606846977 : Int)
                  · go_wp2_with fail
                    go_region
                    go_wp2_with fail
                    go_roundw
                    case rel => exact ⟨k + 1, 1152921504606846977, by go_num, by omega, below_put HBR.out, Lib.hid (put_heap HLR.out), by omega, by omega, Lib.hid (fun y hy hyT => by
                      rcases mem_take_succ HXK.out hy with hy | rfl
                      · have := HMX.out y hy hyT
                        omega
                      · dsimp only at hyT ⊢
                        omega)⟩
                    case measure => simp [RowKit.intOf]; omega
                  · obtain rfl : M = 1152921504606846977 := by omega
                    clear t2
                    go_wp2_with fail
                    go_region
                    go_wp2_with fail
                    go_roundw
                    case rel => exact ⟨k + 1, 1152921504606846977, by go_num, by omega, below_put HBR.out, Lib.hid (put_heap HLR.out), by omega, by omega, Lib.hid (fun y hy hyT => by
                      rcases mem_take_succ HXK.out hy with hy | rfl
                      · have := HMX.out y hy hyT
                        omega
                      · dsimp only at hyT ⊢
                        omega)⟩
                    case measure => simp [RowKit.intOf]; omega
                · have t3 : xm ≤ 1152921504606846976 := by omega
                  clear t1
                  by_cases t2 : M < xm + 1
                  · go_wp2_with fail
                    go_region
                    go_wp2_with fail
                    go_roundw
                    case rel => exact ⟨k + 1, xm + 1, by go_num, by omega, below_put HBR.out, Lib.hid (put_heap HLR.out), by omega, by omega, Lib.hid (fun y hy hyT => by
                      rcases mem_take_succ HXK.out hy with hy | rfl
                      · have := HMX.out y hy hyT
                        omega
                      · dsimp only at hyT ⊢
                        omega)⟩
                    case measure => simp [RowKit.intOf]; omega
                  · have t4 : xm + 1 ≤ M := by omega
                    clear t2
                    go_wp2_with fail
                    go_region
                    go_wp2_with fail
                    go_roundw
                    case rel => exact ⟨k + 1, M, by go_num, by omega, below_put HBR.out, Lib.hid (put_heap HLR.out), by omega, by omega, Lib.hid (fun y hy hyT => by
                      rcases mem_take_succ HXK.out hy with hy | rfl
                      · have := HMX.out y hy hyT
                        omega
                      · dsimp only at hyT ⊢
                        omega)⟩
                    case measure => simp [RowKit.intOf]; omega
              · obtain rfl : n = k := by omega
                clear hlt
                have hmx : Hid (∀ x ∈ es, x.2.1 ≤ 1152921504606846976 → x.2.1 < M) := Lib.hid (by have := HMX.out; rw [List.take_of_length_le (by rw [HN.out]; exact Nat.le_refl _)] at this; exact this)
                have lr := heap_lt HLR.out
                go_wp2_with fail
                go_loopw [18, 95] (fun _ vi wv => ∃ k : Nat, vi = .int .i64 k ∧ k ≤ n ∧ wv = wr ∧ Hid (∀ x ∈ es.take k, x.2.1 ≤ 1152921504606846976)) (fun _ vi _ => n - (RowKit.intOf vi).toNat)
                case atStart => exact ⟨0, by rfl, by omega, by first | trivial | rfl, Lib.hid (fun x hx => by simp at hx)⟩
                case round =>
                  obtain ⟨k, rfl, hk, rfl, HTX⟩ := hrel
                  rename World => wr
                  by_cases hlt : k < n
                  · obtain ⟨x, hxk⟩ : ∃ x, es[k]? = some x := ⟨es[k]'(by have := HN.out; omega), List.getElem?_eq_getElem _⟩
                    obtain ⟨q', c', hq, -, -, HX⟩ := HH.out
                    simp only [Value.slice.injEq] at hq
                    obtain ⟨rfl, -, rfl⟩ := hq
                    obtain ⟨gb, go, rfl, cs, -, hcs, hc⟩ := HX k x hxk
                    clear HX
                    obtain rfl : cs = evV x := hcs
                    have HXK := Lib.hid hxk
                    clear hxk
                    obtain ⟨xe, xm, xp, xw⟩ := x
                    have c1 := hc 1 _ rfl
                    have d1 := below_cell' HBW.out c1 (World.block_lt_of_cell? _ _ c1)
                    clear hc c1
                    have i0 : (0 : Int) ≤ (k : Int) := by omega
                    have i1 : (k : Int) < (n : Int) := by omega
                    by_cases t1 : (1152921504606846976 : Int) < xm
                    · go_wp2_with (go_at_call 5; refine (lives_any _).mono ?_; rintro e w9 ⟨rfl, b9⟩)
                      go_ret
                      exact ⟨rfl, HBW.out.trans (b9.mono HBW.out.size)⟩
                    · go_wp2_with fail
                      go_roundw
                      case rel => exact ⟨k + 1, by go_num, by omega, by first | trivial | rfl, Lib.hid (fun y hy => by
                        rcases mem_take_succ HXK.out hy with hy | rfl
                        · exact HTX.out y hy
                        · dsimp only
                          omega)⟩
                      case measure => simp [RowKit.intOf]; omega
                  · obtain rfl : n = k := by omega
                    clear hlt
                    have hall2 : ∀ x ∈ es, x.2.1 < M := fun x hx => hmx.out x hx (HTX.out x (by rw [List.take_of_length_le (by rw [HN.out]; exact Nat.le_refl _)]; exact hx))
                    have ho := hoff.out wr HBW.out ⟨qk, nk, ck, qp, np, cp, tl0, tl1, tn, py, M, qe, ne, ce, b0, b1⟩ 3
                    dsimp only at ho
                    rw [hlate.out M hall2] at ho
                    have HO := Lib.hid ho
                    have HAR := Lib.hid ((HBR.out.block _ l6).trans HA6.out)
                    clear ho hall2
                    have a0 := cell_blk (i := 0) HAR.out
                    have a1 := cell_blk (i := 1) HAR.out
                    have a2 := cell_blk (i := 2) HAR.out
                    have a3 := cell_blk (i := 3) HAR.out
                    have a4 := cell_blk (i := 4) HAR.out
                    have a5 := cell_blk (i := 5) HAR.out
                    have a6 := cell_blk (i := 6) HAR.out
                    have a7 := cell_blk (i := 7) HAR.out
                    have a8 := cell_blk (i := 8) HAR.out
                    have a9 := cell_blk (i := 9) HAR.out
                    have a10 := cell_blk (i := 10) HAR.out
                    have a11 := cell_blk (i := 11) HAR.out
                    simp at a0 a1 a2 a3 a4 a5 a6 a7 a8 a9 a10 a11
                    have y0 := cell_blk (i := 0) HLR.out
                    have y1 := cell_blk (i := 1) HLR.out
                    have y2 := cell_blk (i := 2) HLR.out
                    have y3 := cell_blk (i := 3) HLR.out
                    have y4 := cell_blk (i := 4) HLR.out
                    have y5 := cell_blk (i := 5) HLR.out
                    have y6 := cell_blk (i := 6) HLR.out
                    have y7 := cell_blk (i := 7) HLR.out
                    have y8 := cell_blk (i := 8) HLR.out
                    have y9 := cell_blk (i := 9) HLR.out
                    simp at y0 y1 y2 y3 y4 y5 y6 y7 y8 y9
                    go_wp2_with fail
                    (with_reducible refine HO.out.mono ?_)
                    rintro e w8 ⟨rfl, b8⟩
                    go_wp2_with (go_at_call 5; refine (lives_any _).mono ?_; rintro e w9 ⟨rfl, b9⟩)
                    go_ret
                    exact ⟨rfl, HBW.out.trans ((b8.trans (b9.mono b8.size)).mono HBW.out.size)⟩
end Go.Proofs.Ytggmiiifpocfdaa
