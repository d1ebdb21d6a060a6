/- joustref00.Copied: cards of whatever depth are copied. -/
import Derived.Test.YtomhlgamdmcneaaTbCopy
namespace Go.Proofs.Ytomhlgamdmcneaa
open Go.RowKit Go.Lib

/-- One more of a row, appended. -/
theorem row_more {α : Type} {P : World → (Nat → Prop) → List Value → α → Prop} (hP : Frames P) {wr w3 : World} {B : Nat} {ty : TypeId} {size : Nat} {a : Option Addr} {i cc : Nat} {pre : List α} {css : List (List Value)}
    (hrow : RowOf wr (From B) ty size P (.slice a i cc) pre css) (hli : pre.length = i) (hB : B ≤ wr.heap.size) (hold : ∀ j, j < wr.heap.size → w3.heap[j]? = wr.heap[j]?) (hw : wr.heap.size ≤ w3.heap.size) {c : List Value} {x : α} (hc : c.length = size) (h1 : ∀ u ∈ c, u.oneCell' = true) (hex : P w3 (From wr.heap.size) c x) :
    w3.ownsRow 0 ty size (.slice a i cc) i css.flatten ∧ (∀ k, (Value.slice a i cc).ownBlock = some k → B ≤ k) ∧
      ∀ g cap w4, w4.ownsRow 0 ty size (.slice (some ⟨g, 0, none⟩) (i + 1) cap) (i + 1) (css.flatten ++ c) → w3.grownBy w4 (Value.slice a i cc).ownBlock → ((Value.slice a i cc).ownBlock = some g ∨ g = w3.heap.size) → RowAt w4 (From B) ty size P (.slice (some ⟨g, 0, none⟩) (i + 1) cap) (pre ++ [x]) := by
  have hrow3 := hrow.frame (w' := w3) (S' := From B) hP (fun j hj hl => ⟨hj, hold j hl⟩)
  have hblk : ∀ j, (Value.slice a i cc).ownBlock = some j → B ≤ j ∧ j < wr.heap.size := fun j hj => ⟨hrow.blk j hj, (hrow.own.lt j hj).2⟩
  refine ⟨by have := hrow3.own; rwa [hli] at this, fun k hk => (hblk k hk).1, fun g cap w4 ho hg hat => ?_⟩
  have := RowOf.snoc hP (w := w3) (w' := w4) (S := From B) (Sx := From wr.heap.size) (x := x) (c := c) (H := w3.heap.size) (b := 0) (g := g) (cap := cap) hrow3 hc h1 hex (fun j hj _ => ⟨by unfold From at *; omega, fun e => by have := (hblk j e).2; unfold From at hj; omega⟩) rfl (by unfold From; omega) (by rw [hli]; exact ho) hg hat
  rw [hli] at this
  exact ⟨_, this⟩
/-- A block is new, something is made behind it, a cell of it is turned, another block is new: what was there has stayed, and what was made. -/
theorem two_new {wr w2 w3 : World} {o o' : Obj} {n : Nat} {u : Value} (b2 : Below (wr.heap.size + 1) (wr.alloc o) w2) (hw3 : w3 = (w2.setCell ⟨wr.heap.size, n, none⟩ u).alloc o') :
    w3.heap.size = w2.heap.size + 1 ∧ wr.heap.size + 1 ≤ w2.heap.size ∧ (∀ j, j < wr.heap.size → w3.heap[j]? = wr.heap[j]?) ∧ (∀ j, wr.heap.size + 1 ≤ j → j < w2.heap.size → w3.heap[j]? = w2.heap[j]?) ∧ w3.heap[w2.heap.size]? = some o' ∧ Below wr.heap.size wr w3 := by
  have hz : wr.heap.size + 1 ≤ w2.heap.size := by have := b2.size; simpa using this
  have hA : Below wr.heap.size wr w2 := ((Below.refl _ wr).alloc (Nat.le_refl _) o).trans (b2.mono (by omega))
  subst hw3
  refine ⟨by simp, hz, fun j hj => ?_, fun j hj hl => ?_, ?_, (hA.setCell (p := ⟨wr.heap.size, n, none⟩) (Nat.le_refl _) u).alloc (by simp; omega) o'⟩
  · rw [heap_alloc_old _ _ (by simp; omega), heap_setCell_other _ _ _ _ (by show j ≠ wr.heap.size; omega), b2.block j (by omega), heap_alloc_old _ _ hj]
  · rw [heap_alloc_old _ _ (by simp; omega), heap_setCell_other _ _ _ _ (by show j ≠ wr.heap.size; omega)]
  · have := heap_alloc_new (w2.setCell ⟨wr.heap.size, n, none⟩ u) o'
    rwa [show (w2.setCell ⟨wr.heap.size, n, none⟩ u).heap.size = w2.heap.size by simp] at this


set_option maxHeartbeats 8000000 in
set_option maxRecDepth 100000 in
theorem copied_any (d : Nat) (w : World) (v : Value) (xs : List Cd) (h : RowIn w 6 72 (CdIn 1 d) v xs) : Calls Try.prog 19 #[v] w (CopyEnds 38 6 (CdD d) xs w) := by
  obtain ⟨q, c, rfl, hl, hm, hx⟩ := h
  unfold maxLen at hl
  have HX := Lib.hid hx
  obtain ⟨i0, hi0, hz0, hz1, hz2⟩ := info_parts cd_info
  obtain ⟨i1, hi1, hy0, hy1, hy2⟩ := info_parts ef_info
  obtain ⟨i2, hi2, ht0, ht1, ht2⟩ := info_parts st_info
  obtain ⟨N, hN⟩ : ∃ N, N = xs.length := ⟨_, rfl⟩
  rw [← hN] at hl hm ⊢
  have HN := Lib.hid hN
  clear hx hN
  go_enter Try.func19, Try.ntmps19
  go_wp2
  go_loopw [3, 4] (fun vo vi wr => ∃ (i : Nat) (a : Option Addr) (cc : Nat), vi = .int .i64 i ∧ i ≤ N ∧ vo = .slice a i cc ∧ RowAt wr (From w.heap.size) 38 6 (CdD d) (.slice a i cc) (xs.take i) ∧ Below w.heap.size w wr) (fun _ vi _ => N - (RowKit.intOf vi).toNat)
  case atStart => exact ⟨0, none, 0, by rfl, by omega, rfl, by rw [List.take_zero]; exact RowAt.nil _ _ _ _ _, Below.refl _ _⟩
  case round =>
  obtain ⟨i, a, cc, rfl, hi, rfl, hrow, hbw⟩ := hrel
  rename World => wA
  have HR := Lib.hid hrow
  have HB := Lib.hid hbw
  clear hrow hbw
  by_cases hlt : i < N
  · obtain ⟨x, hxi⟩ : ∃ x, xs[i]? = some x := ⟨xs[i]'(by have := HN.out; omega), List.getElem?_eq_getElem _⟩
    obtain ⟨g, o, rfl, cs, hcs, ⟨va, rfl, hnm, hra⟩, hc⟩ := HX.out i x hxi
    obtain ⟨nm, kd, lv, at_, gd, efs⟩ := x
    obtain ⟨qe, ce, hva, hel, hem, hex⟩ := hra
    subst hva
    simp only [] at hnm hel hem hex hc
    have HBx := HB.out
    have a0 := cell_later HBx (hc 0 _ rfl)
    have a1 := cell_later HBx (hc 1 _ rfl)
    have a2 := cell_later HBx (hc 2 _ rfl)
    have a3 := cell_later HBx (hc 3 _ rfl)
    have a4 := cell_later HBx (hc 4 _ rfl)
    have a5 := cell_later HBx (hc 5 _ rfl)
    simp only [Nat.add_zero] at a0
    have HXI := Lib.hid hxi
    have HNM := Lib.hid hnm
    have HEX := Lib.hid hex
    obtain ⟨M, hM⟩ : ∃ M, M = efs.length := ⟨_, rfl⟩
    rw [← hM] at hel hem a5
    have HMM := Lib.hid hM
    unfold maxLen at hel
    have j1 : (i : Int) < (N : Int) := by omega
    have j0 : (0 : Int) ≤ (i : Int) := by omega
    obtain ⟨wm, hwm⟩ : ∃ wm, wm = wA.alloc (.cells #[.string nm, .int .u8 kd, .int .i64 lv, .int .i64 at_, .int .i64 gd, .slice qe M ce] 38) := ⟨_, rfl⟩
    have hmC : wm.heap[wA.heap.size]? = some (.cells #[.string nm, .int .u8 kd, .int .i64 lv, .int .i64 at_, .int .i64 gd, .slice qe M ce] 38 (0, 0)) := by rw [hwm]; exact heap_alloc_new _ _
    have hmB : Below wA.heap.size wA wm := by rw [hwm]; exact (Below.refl _ _).alloc (Nat.le_refl _) _
    have hmS : wm.heap.size = wA.heap.size + 1 := by rw [hwm]; simp
    have HMC := Lib.hid hmC
    have HMB := Lib.hid hmB
    have HMS := Lib.hid hmS
    have HWM := Lib.hid hwm
    clear hxi hc hcs hnm hex HBx hmC hmB hmS hwm hM
    go_wp2_with fail
    rw [← HWM.out]
    go_loopw [6, 7] (fun vo vi wr => ∃ (k : Nat) (b : Option Addr) (bc : Nat), vi = .int .i64 k ∧ k ≤ M ∧ vo = .slice b k bc ∧ RowAt wr (From wm.heap.size) 44 12 (EfD d) (.slice b k bc) (efs.take k) ∧ Below wm.heap.size wm wr) (fun _ vi _ => M - (RowKit.intOf vi).toNat)
    case atStart => exact ⟨0, none, 0, by rfl, by omega, rfl, by rw [List.take_zero]; exact RowAt.nil _ _ _ _ _, Below.refl _ _⟩
    case round =>
    obtain ⟨k, b, bc, rfl, hk, rfl, hrow2, hbw2⟩ := hrel
    rename World => wB
    have HR2 := Lib.hid hrow2
    have HB2 := Lib.hid hbw2
    have HBw2 : Hid (Below w.heap.size w wB) := Lib.hid (HB.out.trans ((HMB.out.trans (hbw2.mono HMB.out.size)).mono HB.out.size))
    have hCb := (hbw2.block _ (heap_lt HMC.out)).trans HMC.out
    have hltC := heap_lt hCb
    have HCB := Lib.hid hCb
    clear hrow2 hbw2
    have c0 := cell_blk (i := 0) hCb; have c1 := cell_blk (i := 1) hCb; have c2 := cell_blk (i := 2) hCb; have c3 := cell_blk (i := 3) hCb; have c4 := cell_blk (i := 4) hCb; have c5 := cell_blk (i := 5) hCb; have cf0 := free_blk (i := 0) hCb; have cf1 := free_blk (i := 1) hCb; have cf2 := free_blk (i := 2) hCb; have cf3 := free_blk (i := 3) hCb; have cf4 := free_blk (i := 4) hCb; have cf5 := free_blk (i := 5) hCb; simp at c0 c1 c2 c3 c4 c5
    clear hCb
    by_cases hkm : k < M
    · obtain ⟨y, hyk⟩ : ∃ y, efs[k]? = some y := ⟨efs[k]'(by have := HMM.out; omega), List.getElem?_eq_getElem _⟩
      obtain ⟨ge, oe, rfl, cs, hcs, ⟨vc, vs, rfl, hcond, hsteps⟩, hc⟩ := HEX.out k y hyk
      obtain ⟨m, ev, sd, cd, pay, dr, tr, pk, ⟨k1, k2, k3⟩, ss⟩ := y
      obtain ⟨qc, c1, hvc, -⟩ := id hcond
      obtain ⟨qs, c2, hvs, hsl, hsm, hsx⟩ := hsteps
      subst hvc hvs
      simp only [] at hcond hsl hsm hsx hc
      have HBx := HBw2.out
      have b0 := cell_later HBx (hc 0 _ rfl)
      have b1 := cell_later HBx (hc 1 _ rfl)
      have b2 := cell_later HBx (hc 2 _ rfl)
      have b3 := cell_later HBx (hc 3 _ rfl)
      have b4 := cell_later HBx (hc 4 _ rfl)
      have b5 := cell_later HBx (hc 5 _ rfl)
      have b6 := cell_later HBx (hc 6 _ rfl)
      have b7 := cell_later HBx (hc 7 _ rfl)
      have b8 := cell_later HBx (hc 8 _ rfl)
      have b9 := cell_later HBx (hc 9 _ rfl)
      have b10 := cell_later HBx (hc 10 _ rfl)
      have b11 := cell_later HBx (hc 11 _ rfl)
      simp only [Nat.add_zero] at b0
      have HYK := Lib.hid hyk
      have HSX := Lib.hid hsx
      obtain ⟨R, hRR⟩ : ∃ R, R = ss.length := ⟨_, rfl⟩
      rw [← hRR] at hsl hsm b11
      have HRR := Lib.hid hRR
      unfold maxLen at hsl
      have j3 : (k : Int) < (M : Int) := by omega
      have j2 : (0 : Int) ≤ (k : Int) := by omega
      have hcall : Hid (∀ W', Below w.heap.size w W' → Calls Try.prog 31 #[.slice qc cd.length c1] W' (CopyEnds 54 7 (ExAt d) cd W')) := Lib.hid fun W' hb =>
        exprs_copy d W' _ cd (hcond.below (ExIn.stays 1 d) hb)
      clear hyk hc hcs hcond hsx HBx hRR
      go_wp2_with fail
      refine (hcall.out _ (HBw2.out.alloc HBw2.out.size _)).mono ?_
      rintro e w2 ⟨ra, rc, rfl, hr2, b2⟩
      have h2 := (b2.block wB.heap.size (by simp)).trans (heap_alloc_new wB _)
      have hlt2 := heap_lt h2
      obtain ⟨wi, hwi⟩ : ∃ wi, wi = w2.setCell ⟨wB.heap.size, 3, none⟩ (.slice ra cd.length rc) := ⟨_, rfl⟩
      have hiS : wi.heap.size = w2.heap.size := by rw [hwi]; simp
      have hiE : wi.heap[wB.heap.size]? = some (.cells #[.int .u8 m, .int .u8 ev, .int .u8 sd, .slice ra cd.length rc, .int .i64 pay, .int .i64 dr, .bool tr, .int .i64 pk, .int .u8 k1, .int .u8 k2, .int .u8 k3, .slice qs R c2] 44 (0, 0)) := by rw [hwi]; exact heap_setCell_same _ _ 3 _ _ _ h2
      have hiB : Below wB.heap.size wB wi := by rw [hwi]; exact (((Below.refl _ _).alloc (Nat.le_refl _) _).trans (b2.mono (by simp))).setCell (p := ⟨wB.heap.size, 3, none⟩) (Nat.le_refl _) _
      have hiR : RowAt wi (From (wB.heap.size + 1)) 54 7 (ExAt d) (.slice ra cd.length rc) cd := hr2.frame (ExAt.frames d) fun j hj hl => ⟨by unfold From at hj ⊢; simpa using hj, by rw [hwi]; exact heap_setCell_other _ _ _ _ (by unfold From at hj; simp at hj ⊢; omega)⟩
      have hiZ : wB.heap.size + 1 ≤ wi.heap.size := by rw [hiS]; have := b2.size; simpa using this
      have HIE := Lib.hid hiE
      have HIB := Lib.hid hiB
      have HIR := Lib.hid hiR
      have HIS := Lib.hid hiS
      have HIZ := Lib.hid hiZ
      have HWI := Lib.hid hwi
      have y0 := cell_blk (i := 0) h2; have y1 := cell_blk (i := 1) h2; have y2 := cell_blk (i := 2) h2; have y3 := cell_blk (i := 3) h2; have y4 := cell_blk (i := 4) h2; have y5 := cell_blk (i := 5) h2; have y6 := cell_blk (i := 6) h2; have y7 := cell_blk (i := 7) h2; have y8 := cell_blk (i := 8) h2; have y9 := cell_blk (i := 9) h2; have y10 := cell_blk (i := 10) h2; have y11 := cell_blk (i := 11) h2; have yf0 := free_blk (i := 0) h2; have yf1 := free_blk (i := 1) h2; have yf2 := free_blk (i := 2) h2; have yf3 := free_blk (i := 3) h2; have yf4 := free_blk (i := 4) h2; have yf5 := free_blk (i := 5) h2; have yf6 := free_blk (i := 6) h2; have yf7 := free_blk (i := 7) h2; have yf8 := free_blk (i := 8) h2; have yf9 := free_blk (i := 9) h2; have yf10 := free_blk (i := 10) h2; have yf11 := free_blk (i := 11) h2; simp at y0 y1 y2 y3 y4 y5 y6 y7 y8 y9 y10 y11
      clear h2 hiS hiE hiB hiR hiZ hwi b2 hr2
      go_wp2_with fail
      rw [← HWI.out]
      go_loopw [9, 10] (fun vo vi wr => ∃ (n : Nat) (f : Option Addr) (fc : Nat), vi = .int .i64 n ∧ n ≤ R ∧ vo = .slice f n fc ∧ RowAt wr (From wi.heap.size) 56 13 (StD d) (.slice f n fc) (ss.take n) ∧ Below wi.heap.size wi wr) (fun _ vi _ => R - (RowKit.intOf vi).toNat)
      case atStart => exact ⟨0, none, 0, by rfl, by omega, rfl, by rw [List.take_zero]; exact RowAt.nil _ _ _ _ _, Below.refl _ _⟩
      case round =>
      obtain ⟨n, f, fc, rfl, hn, rfl, hrow3, hbw3⟩ := hrel
      rename World => wC
      have HR3 := Lib.hid hrow3
      have HB3 := Lib.hid hbw3
      have HBw3 : Hid (Below w.heap.size w wC) := Lib.hid (HBw2.out.trans ((HIB.out.trans (hbw3.mono HIB.out.size)).mono HBw2.out.size))
      have hEb := (hbw3.block _ (heap_lt HIE.out)).trans HIE.out
      have hltE := heap_lt hEb
      have HEB := Lib.hid hEb
      clear hrow3 hbw3 y0 y1 y2 y3 y4 y5 y6 y7 y8 y9 y10 y11
      have e0 := cell_blk (i := 0) hEb; have e1 := cell_blk (i := 1) hEb; have e2 := cell_blk (i := 2) hEb; have e3 := cell_blk (i := 3) hEb; have e4 := cell_blk (i := 4) hEb; have e5 := cell_blk (i := 5) hEb; have e6 := cell_blk (i := 6) hEb; have e7 := cell_blk (i := 7) hEb; have e8 := cell_blk (i := 8) hEb; have e9 := cell_blk (i := 9) hEb; have e10 := cell_blk (i := 10) hEb; have e11 := cell_blk (i := 11) hEb; have ef0 := free_blk (i := 0) hEb; have ef1 := free_blk (i := 1) hEb; have ef2 := free_blk (i := 2) hEb; have ef3 := free_blk (i := 3) hEb; have ef4 := free_blk (i := 4) hEb; have ef5 := free_blk (i := 5) hEb; have ef6 := free_blk (i := 6) hEb; have ef7 := free_blk (i := 7) hEb; have ef8 := free_blk (i := 8) hEb; have ef9 := free_blk (i := 9) hEb; have ef10 := free_blk (i := 10) hEb; have ef11 := free_blk (i := 11) hEb; simp at e0 e1 e2 e3 e4 e5 e6 e7 e8 e9 e10 e11
      clear hEb
      by_cases hnR : n < R
      · obtain ⟨z, hzn⟩ : ∃ z, ss[n]? = some z := ⟨ss[n]'(by have := HRR.out; omega), List.getElem?_eq_getElem _⟩
        obtain ⟨gs, os, rfl, cs, hcs, ⟨cx, rfl, hexp⟩, hc⟩ := HSX.out n z hzn
        obtain ⟨dk, rfl⟩ : ∃ dk, d = dk + 1 := by
          cases d with
          | zero => exact hexp.elim
          | succ dk => exact ⟨dk, rfl⟩
        obtain ⟨va, rfl, hargs⟩ := hexp
        obtain ⟨zd, zt, ⟨eo, en, es, ⟨s1, s2, s3⟩, el⟩, zb, ⟨l1, l2, l3⟩⟩ := z
        simp only [Ex.args] at hargs
        obtain ⟨qx, c3, hva, -⟩ := id hargs
        subst hva
        have HBx := HBw3.out
        have t0 := cell_later HBx (hc 0 _ rfl)
        have t1 := cell_later HBx (hc 1 _ rfl)
        have t2 := cell_later HBx (hc 2 _ rfl)
        have t3 := cell_later HBx (hc 3 _ rfl)
        have t4 := cell_later HBx (hc 4 _ rfl)
        have t5 := cell_later HBx (hc 5 _ rfl)
        have t6 := cell_later HBx (hc 6 _ rfl)
        have t7 := cell_later HBx (hc 7 _ rfl)
        have t8 := cell_later HBx (hc 8 _ rfl)
        have t9 := cell_later HBx (hc 9 _ rfl)
        have t10 := cell_later HBx (hc 10 _ rfl)
        have t11 := cell_later HBx (hc 11 _ rfl)
        have t12 := cell_later HBx (hc 12 _ rfl)
        simp only [Nat.add_zero] at t0
        simp only [Ex.op, Ex.n, Ex.side, Ex.sel] at t2 t3 t4 t5 t6 t7
        have HZN := Lib.hid hzn
        have j5 : (n : Int) < (R : Int) := by omega
        have j4 : (0 : Int) ≤ (n : Int) := by omega
        have hcall2 : Hid (∀ W', Below w.heap.size w W' → Calls Try.prog 31 #[.slice qx el.length c3] W' (CopyEnds 54 7 (ExAt dk) el W')) := Lib.hid fun W' hb =>
          exprs_copy dk W' _ el (hargs.below (ExIn.stays 1 dk) hb)
        clear hzn hc hcs hargs HBx
        go_wp2_with fail
        refine (hcall2.out _ (HBw3.out.alloc HBw3.out.size _)).mono ?_
        rintro e w5 ⟨rx, rxc, rfl, hr5, b5⟩
        have h5 := (b5.block wC.heap.size (by simp)).trans (heap_alloc_new wC _)
        have hlt5 := heap_lt h5
        obtain ⟨w6, hw6⟩ : ∃ w6, w6 = (w5.setCell ⟨wC.heap.size, 8, none⟩ (.slice rx el.length rxc)).alloc (.cells #[.int .u8 zd, .int .u8 zt, .int .u8 eo, .int .i64 en, .int .u8 es, .int .u8 s1, .int .u8 s2, .int .u8 s3, .slice rx el.length rxc, .bool zb, .int .u8 l1, .int .u8 l2, .int .u8 l3] 56) := ⟨_, rfl⟩
        obtain ⟨hs6, hz6, hold, hnew, hY, hB6⟩ := two_new (by simpa using b5) hw6
        obtain ⟨css, hrowC⟩ := HR3.out
        have hst : StD (dk + 1) w6 (From wC.heap.size) (stV ⟨zd, zt, .mk eo en es ⟨s1, s2, s3⟩ el, zb, ⟨l1, l2, l3⟩⟩ (exV (.mk eo en es ⟨s1, s2, s3⟩ el) (.slice rx el.length rxc))) ⟨zd, zt, .mk eo en es ⟨s1, s2, s3⟩ el, zb, ⟨l1, l2, l3⟩⟩ := ⟨_, rfl, _, rfl, hr5.frame (ExAt.frames dk) fun j hj hl => ⟨by unfold From at hj ⊢; simp at hj; omega, hnew j (by unfold From at hj; simpa using hj) hl⟩⟩
        have hli : (ss.take n).length = n := by rw [List.length_take]; have := HRR.out; omega
        obtain ⟨ho6, hblk6, hfin⟩ := row_more (StD.frames (dk + 1)) hrowC hli HB3.out.size hold (by omega) rfl (by simp [exV, stV, efV, cdV, slV, Value.oneCell']) hst
        have HO6 := Lib.hid ho6
        have HBK6 := Lib.hid hblk6
        have HFIN := Lib.hid hfin
        have HY := Lib.hid hY
        have HW6 := Lib.hid hw6
        have HB6 : Hid (Below wi.heap.size wi w6) := Lib.hid (HB3.out.trans (hB6.mono HB3.out.size))
        have p0 := cell_blk (i := 0) h5; have p1 := cell_blk (i := 1) h5; have p2 := cell_blk (i := 2) h5; have p3 := cell_blk (i := 3) h5; have p4 := cell_blk (i := 4) h5; have p5 := cell_blk (i := 5) h5; have p6 := cell_blk (i := 6) h5; have p7 := cell_blk (i := 7) h5; have p8 := cell_blk (i := 8) h5; have p9 := cell_blk (i := 9) h5; have p10 := cell_blk (i := 10) h5; have p11 := cell_blk (i := 11) h5; have p12 := cell_blk (i := 12) h5; have pf0 := free_blk (i := 0) h5; have pf1 := free_blk (i := 1) h5; have pf2 := free_blk (i := 2) h5; have pf3 := free_blk (i := 3) h5; have pf4 := free_blk (i := 4) h5; have pf5 := free_blk (i := 5) h5; have pf6 := free_blk (i := 6) h5; have pf7 := free_blk (i := 7) h5; have pf8 := free_blk (i := 8) h5; have pf9 := free_blk (i := 9) h5; have pf10 := free_blk (i := 10) h5; have pf11 := free_blk (i := 11) h5; have pf12 := free_blk (i := 12) h5; simp at p0 p1 p2 p3 p4 p5 p6 p7 p8 p9 p10 p11 p12
        clear h5 hs6 hold hnew hY hB6 hrowC hst hli ho6 hblk6 hfin hw6 hr5 b5
        go_wp2_with (at_builtin; rw [← HW6.out]; (refine wpList_append_lies _ rfl (.tmp 56) (.tmp 58) 42 rfl 0 56 i2 _ 13 64 Try.underlying42 hi2 ht0 ht1 ht2 rfl (by omega) _ n css.flatten rfl HO6.out ⟨w5.heap.size, 0, none⟩ 1 1 (stV ⟨zd, zt, .mk eo en es ⟨s1, s2, s3⟩ el, zb, ⟨l1, l2, l3⟩⟩ (exV (.mk eo en es ⟨s1, s2, s3⟩ el) (.slice rx el.length rxc))) rfl rfl (World.news_of_block (cs := (stV ⟨zd, zt, .mk eo en es ⟨s1, s2, s3⟩ el, zb, ⟨l1, l2, l3⟩⟩ (exV (.mk eo en es ⟨s1, s2, s3⟩ el) (.slice rx el.length rxc))).toArray) (t := 56) (fr := (0, 0)) HY.out) (by simp [exV, stV, efV, cdV, slV, Value.oneCell']) (by omega) (by unfold maxLen; omega) (by omega) (Nat.zero_le _) _ rfl ?_; intro g4 cap w7 hown4 hgrow4 hat4 hlt4; have hgr4 : World.grownBy _ w7 (Value.slice f n fc).ownBlock := hgrow4))
        have hrow7 := HFIN.out g4 cap w7 hown4 hgr4 hat4
        rw [← take_next HZN.out] at hrow7
        have hB7 : Below wi.heap.size wi w7 := HB6.out.grown hgr4 HB6.out.size (fun j hj => HBK6.out j hj)
        refine ⟨⟨n + 1, _, cap, by go_num, by omega, rfl, hrow7, hB7⟩, ?_⟩
        simp [RowKit.intOf]; omega
      · obtain rfl : n = R := by omega
        have htk : ss.take n = ss := List.take_of_length_le (by have := HRR.out; omega)
        have hR3 := HR3.out
        rw [htk] at hR3
        have j5 : ¬ ((n : Int) < (n : Int)) := by omega
        obtain ⟨w6, hw6⟩ : ∃ w6, w6 = (wC.setCell ⟨wB.heap.size, 11, none⟩ (.slice f n fc)).alloc (.cells #[.int .u8 m, .int .u8 ev, .int .u8 sd, .slice ra cd.length rc, .int .i64 pay, .int .i64 dr, .bool tr, .int .i64 pk, .int .u8 k1, .int .u8 k2, .int .u8 k3, .slice f n fc] 44) := ⟨_, rfl⟩
        have hCz : wB.heap.size + 1 ≤ wC.heap.size := by have := HB3.out.size; have := HIZ.out; omega
        have hs6 : w6.heap.size = wC.heap.size + 1 := by rw [hw6]; simp
        have hset : ∀ j, j ≠ wB.heap.size → j < wC.heap.size → w6.heap[j]? = wC.heap[j]? := fun j hj hl => by
          rw [hw6, heap_alloc_old _ _ (by simp; omega), heap_setCell_other _ _ _ _ (by show j ≠ wB.heap.size; exact hj)]
        have hold : ∀ j, j < wB.heap.size → w6.heap[j]? = wB.heap[j]? := fun j hj => by
          rw [hset j (by omega) (by omega), HB3.out.block j (by have := HIZ.out; omega), HIB.out.block j hj]
        have hY : w6.heap[wC.heap.size]? = some (.cells #[.int .u8 m, .int .u8 ev, .int .u8 sd, .slice ra cd.length rc, .int .i64 pay, .int .i64 dr, .bool tr, .int .i64 pk, .int .u8 k1, .int .u8 k2, .int .u8 k3, .slice f n fc] 44 (0, 0)) := by
          rw [hw6]; have := heap_alloc_new (wC.setCell ⟨wB.heap.size, 11, none⟩ (.slice f n fc)) (.cells #[.int .u8 m, .int .u8 ev, .int .u8 sd, .slice ra cd.length rc, .int .i64 pay, .int .i64 dr, .bool tr, .int .i64 pk, .int .u8 k1, .int .u8 k2, .int .u8 k3, .slice f n fc] 44)
          rwa [show (wC.setCell ⟨wB.heap.size, 11, none⟩ (.slice f n fc)).heap.size = wC.heap.size by simp] at this
        have hB6 : Below wB.heap.size wB w6 := by
          rw [hw6]; exact ((HIB.out.trans (HB3.out.mono HIB.out.size)).setCell (p := ⟨wB.heap.size, 11, none⟩) (Nat.le_refl _) _).alloc (by simp; omega) _
        obtain ⟨css, hrowC⟩ := HR2.out
        have hef : EfD d w6 (From wB.heap.size) (efV ⟨m, ev, sd, cd, pay, dr, tr, pk, ⟨k1, k2, k3⟩, ss⟩ (.slice ra cd.length rc) (.slice f n fc)) ⟨m, ev, sd, cd, pay, dr, tr, pk, ⟨k1, k2, k3⟩, ss⟩ := by
          refine ⟨_, _, rfl, HIR.out.frame (ExAt.frames d) fun j hj hl => ?_, ?_⟩
          · unfold From at hj ⊢
            exact ⟨by omega, by rw [hset j (by omega) (by have := HB3.out.size; omega), HB3.out.block j hl]⟩
          · have hR3' := hR3
            rw [show n = ss.length from HRR.out] at hR3' ⊢
            exact hR3'.frame (StD.frames d) fun j hj hl => by
              unfold From at hj ⊢
              have := HIZ.out
              exact ⟨by omega, hset j (by omega) hl⟩
        have hli : (efs.take k).length = k := by rw [List.length_take]; have := HMM.out; omega
        obtain ⟨ho6, hblk6, hfin⟩ := row_more (EfD.frames d) hrowC hli HB2.out.size hold (by omega) rfl (by simp [exV, stV, efV, cdV, slV, Value.oneCell']) hef
        have HO6 := Lib.hid ho6
        have HBK6 := Lib.hid hblk6
        have HFIN := Lib.hid hfin
        have HY := Lib.hid hY
        have HW6 := Lib.hid hw6
        have HB6 : Hid (Below wm.heap.size wm w6) := Lib.hid (HB2.out.trans (hB6.mono HB2.out.size))
        clear hs6 hset hold hY hB6 hrowC hef hli ho6 hblk6 hfin hw6 hR3 htk
        go_wp2_with (at_builtin; rw [← HW6.out]; (refine wpList_append_lies _ rfl (.tmp 62) (.tmp 64) 36 rfl 0 44 i1 _ 12 96 Try.underlying36 hi1 hy0 hy1 hy2 rfl (by omega) _ k css.flatten rfl HO6.out ⟨wC.heap.size, 0, none⟩ 1 1 (efV ⟨m, ev, sd, cd, pay, dr, tr, pk, ⟨k1, k2, k3⟩, ss⟩ (.slice ra cd.length rc) (.slice f n fc)) rfl rfl (World.news_of_block (cs := (efV ⟨m, ev, sd, cd, pay, dr, tr, pk, ⟨k1, k2, k3⟩, ss⟩ (.slice ra cd.length rc) (.slice f n fc)).toArray) (t := 44) (fr := (0, 0)) HY.out) (by simp [exV, stV, efV, cdV, slV, Value.oneCell']) (by omega) (by unfold maxLen; omega) (by omega) (Nat.zero_le _) _ rfl ?_; intro g4 cap w7 hown4 hgrow4 hat4 hlt4; have hgr4 : World.grownBy _ w7 (Value.slice b k bc).ownBlock := hgrow4))
        have hrow7 := HFIN.out g4 cap w7 hown4 hgr4 hat4
        rw [← take_next HYK.out] at hrow7
        have hB7 : Below wm.heap.size wm w7 := HB6.out.grown hgr4 HB6.out.size (fun j hj => HBK6.out j hj)
        refine ⟨⟨k + 1, _, cap, by go_num, by omega, rfl, hrow7, hB7⟩, ?_⟩
        simp [RowKit.intOf]; omega
    · obtain rfl : k = M := by omega
      have htk : efs.take k = efs := List.take_of_length_le (by have := HMM.out; omega)
      have hR2 := HR2.out
      rw [htk] at hR2
      have j3 : ¬ ((k : Int) < (k : Int)) := by omega
      obtain ⟨w6, hw6⟩ : ∃ w6, w6 = (wB.setCell ⟨wA.heap.size, 5, none⟩ (.slice b k bc)).alloc (.cells #[.string nm, .int .u8 kd, .int .i64 lv, .int .i64 at_, .int .i64 gd, .slice b k bc] 38) := ⟨_, rfl⟩
      have hBz : wA.heap.size + 1 ≤ wB.heap.size := by have := HB2.out.size; have := HMS.out; omega
      have hs6 : w6.heap.size = wB.heap.size + 1 := by rw [hw6]; simp
      have hset : ∀ j, j ≠ wA.heap.size → j < wB.heap.size → w6.heap[j]? = wB.heap[j]? := fun j hj hl => by
        rw [hw6, heap_alloc_old _ _ (by simp; omega), heap_setCell_other _ _ _ _ (by show j ≠ wA.heap.size; exact hj)]
      have hold : ∀ j, j < wA.heap.size → w6.heap[j]? = wA.heap[j]? := fun j hj => by
        rw [hset j (by omega) (by omega), HB2.out.block j (by have := HMS.out; omega), HMB.out.block j hj]
      have hY : w6.heap[wB.heap.size]? = some (.cells #[.string nm, .int .u8 kd, .int .i64 lv, .int .i64 at_, .int .i64 gd, .slice b k bc] 38 (0, 0)) := by
        rw [hw6]; have := heap_alloc_new (wB.setCell ⟨wA.heap.size, 5, none⟩ (.slice b k bc)) (.cells #[.string nm, .int .u8 kd, .int .i64 lv, .int .i64 at_, .int .i64 gd, .slice b k bc] 38)
        rwa [show (wB.setCell ⟨wA.heap.size, 5, none⟩ (.slice b k bc)).heap.size = wB.heap.size by simp] at this
      have hB6 : Below wA.heap.size wA w6 := by
        rw [hw6]; exact ((HMB.out.trans (HB2.out.mono HMB.out.size)).setCell (p := ⟨wA.heap.size, 5, none⟩) (Nat.le_refl _) _).alloc (by simp; omega) _
      obtain ⟨css, hrowC⟩ := HR.out
      have hcd : CdD d w6 (From wA.heap.size) (cdV ⟨nm, kd, lv, at_, gd, efs⟩ (.slice b k bc)) ⟨nm, kd, lv, at_, gd, efs⟩ := by
        refine ⟨_, rfl, HNM.out, ?_⟩
        rw [show k = efs.length from HMM.out] at hR2 ⊢
        exact hR2.frame (EfD.frames d) fun j hj hl => by
          unfold From at hj ⊢
          have := HMS.out
          exact ⟨by omega, hset j (by omega) hl⟩
      have hli : (xs.take i).length = i := by rw [List.length_take]; have := HN.out; omega
      obtain ⟨ho6, hblk6, hfin⟩ := row_more (CdD.frames d) hrowC hli HB.out.size hold (by omega) rfl (by simp [exV, stV, efV, cdV, slV, Value.oneCell']) hcd
      have HO6 := Lib.hid ho6
      have HBK6 := Lib.hid hblk6
      have HFIN := Lib.hid hfin
      have HY := Lib.hid hY
      have HW6 := Lib.hid hw6
      have HB6 : Hid (Below w.heap.size w w6) := Lib.hid (HB.out.trans (hB6.mono HB.out.size))
      clear hs6 hset hold hY hB6 hrowC hcd hli ho6 hblk6 hfin hw6 hR2 htk
      go_wp2_with (at_builtin; rw [← HW6.out]; (refine wpList_append_lies _ rfl (.tmp 68) (.tmp 70) 22 rfl 0 38 i0 _ 6 72 Try.underlying22 hi0 hz0 hz1 hz2 rfl (by omega) _ i css.flatten rfl HO6.out ⟨wB.heap.size, 0, none⟩ 1 1 (cdV ⟨nm, kd, lv, at_, gd, efs⟩ (.slice b k bc)) rfl rfl (World.news_of_block (cs := (cdV ⟨nm, kd, lv, at_, gd, efs⟩ (.slice b k bc)).toArray) (t := 38) (fr := (0, 0)) HY.out) (by simp [exV, stV, efV, cdV, slV, Value.oneCell']) (by omega) (by unfold maxLen; omega) (by omega) (Nat.zero_le _) _ rfl ?_; intro g4 cap w7 hown4 hgrow4 hat4 hlt4; have hgr4 : World.grownBy _ w7 (Value.slice a i cc).ownBlock := hgrow4))
      have hrow7 := HFIN.out g4 cap w7 hown4 hgr4 hat4
      rw [← take_next HXI.out] at hrow7
      have hB7 : Below w.heap.size w w7 := HB6.out.grown hgr4 HB6.out.size (fun j hj => HBK6.out j hj)
      refine ⟨⟨i + 1, _, cap, by go_num, by omega, rfl, hrow7, hB7⟩, ?_⟩
      simp [RowKit.intOf]; omega
  · obtain rfl : i = N := by omega
    have ht : xs.take i = xs := List.take_of_length_le (by have := HN.out; omega)
    have hR := HR.out
    rw [ht] at hR
    have HR2 := Lib.hid hR
    clear ht hR
    go_wp2
    go_ret
    exact ⟨a, cc, congrArg (fun n => Ending.returned (.slice a n cc)) HN.out, by rw [← HN.out]; exact HR2.out, HB.out⟩
end Go.Proofs.Ytomhlgamdmcneaa
