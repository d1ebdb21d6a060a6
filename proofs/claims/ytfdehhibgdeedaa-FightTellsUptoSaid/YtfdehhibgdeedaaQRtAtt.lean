import Derived.Test.YtfdehhibgdeedaaQRtF
import Derived.Test.YtfdehhibgdeedaaQRtOut
import Derived.Test.YtfdehhibgdeedaaQFtAtt
/- joustref15.Attacks of a table that may be. -/
namespace Go.Proofs.Ytfdehhibgdeedaa
open Go.RowKit Go.Lib

theorem inL_nodup {xs : List Cd} {ps : List Pc} (hG : GoodB xs ps) {h : Nat} : (inL ps h 2).Nodup := (inL_sorted hG h).imp fun hlt e => by subst e; omega
def RAttEnds (l : List Op3) (w : World) (e : Ending) (w' : World) : Prop := (∃ v, e = .returned v ∧ OptsAt w' w.heap.size v l) ∧ Below w.heap.size w w'
set_option maxHeartbeats 16000000 in
set_option maxRecDepth 100000 in
theorem rattacks_any (t : Tb) (xs : List Cd) (ps : List Pc) (h : Nat) (w : World) (hT : TabIn w t xs ps) (hL : LifeOk t) (hG : GoodB xs ps) (hh : h ≤ 1) : Calls Try.prog 14 #[.agg t.row, .int .u8 h] w (RAttEnds (optsOf ps (inL ps h 2) (tarL (inL ps (1 - h) 2)) ++ [(9, -1, -1)]) w) := by
  obtain ⟨i0, hi0, hz0, hz1, hz2⟩ := info_parts opt_info
  have hmay := Lib.hid fun (W : World) (hb : Below w.heap.size w W) => rmay_yes t xs ps W (hT.below hb) hL hG
  have hin := Lib.hid fun (W : World) (hb : Below w.heap.size w W) => rin_any t xs ps h 2 W (hT.below hb) hL hG
  have hin2 := Lib.hid fun (W : World) (hb : Below w.heap.size w W) => rin_any t xs ps (1 - h) 2 W (hT.below hb) hL hG
  simp only [Int.cast_ofNat_Int] at hin hin2
  have HT := Lib.hid hT
  have hnw : ¬ (h : Int) > 1 := by omega
  have huw : IntKind.u8.wrap (1 - (h : Int)) = ((1 - h : Nat) : Int) := by
    rcases (show h = 0 ∨ h = 1 by omega) with rfl | rfl <;> kernel_rfl
  have HMEM : Hid (∀ i ∈ inL ps h 2, ∃ p, ps[i]? = some p) := Lib.hid fun i hi => by
    obtain ⟨p, hp, -⟩ := idsIn_mem.1 ((inL_mem hG).1 hi)
    exact ⟨p, hp⟩
  obtain ⟨own, hown0⟩ : ∃ own, inL ps h 2 = own := ⟨_, rfl⟩
  obtain ⟨oth, hoth0⟩ : ∃ oth, inL ps (1 - h) 2 = oth := ⟨_, rfl⟩
  have hl1 : own.length ≤ 5 := by
    rw [← hown0, ((List.perm_ext_iff_of_nodup (inL_nodup hG) idsIn_nodup).2 fun a => inL_mem hG).length_eq, idsIn_len]
    exact row_few hG h
  have hl2 : oth.length ≤ 5 := by
    rw [← hoth0, ((List.perm_ext_iff_of_nodup (inL_nodup hG) idsIn_nodup).2 fun a => inL_mem hG).length_eq, idsIn_len]
    exact row_few hG (1 - h)
  rw [hown0] at hin HMEM ⊢
  rw [hoth0] at hin2 ⊢
  obtain ⟨oh, hoh⟩ : ∃ oh, 1 - h = oh := ⟨_, rfl⟩
  rw [hoh] at hin2 huw
  clear hT hL hG hh hown0 hoth0 hoh
  obtain ⟨w0, hw0⟩ : ∃ w0, w0 = w.alloc (.cells t.row 28) := ⟨_, rfl⟩
  have hb0 : Below w.heap.size w w0 := by rw [hw0]; exact (Below.refl _ _).alloc (Nat.le_refl _) _
  have hx0 : w0.heap[w.heap.size]? = some (.cells t.row 28 (0, 0)) := by rw [hw0]; exact heap_alloc_new _ _
  have HB0 := Lib.hid hb0
  have HX0 := Lib.hid hx0
  have HW0 := Lib.hid hw0
  clear hb0 hx0 hw0
  simp only [Tb.row] at *
  go_enter Try.func14, Try.ntmps14
  go_wp2_with fail
  rw [← HW0.out]
  (with_reducible refine (hmay.out _ HB0.out).mono ?_)
  rintro e w1 ⟨rfl, b1⟩
  have HB1 := Lib.hid (HB0.out.trans (b1.mono HB0.out.size))
  have HX1 := Lib.hid ((b1.block _ (heap_lt HX0.out)).trans HX0.out)
  clear b1
  have hlt1 := heap_lt HX1.out
  have y0 := cell_blk (i := 0) HX1.out
  have y1 := cell_blk (i := 1) HX1.out
  have y2 := cell_blk (i := 2) HX1.out
  have y3 := cell_blk (i := 3) HX1.out
  have y4 := cell_blk (i := 4) HX1.out
  have y5 := cell_blk (i := 5) HX1.out
  have y6 := cell_blk (i := 6) HX1.out
  have y7 := cell_blk (i := 7) HX1.out
  have y8 := cell_blk (i := 8) HX1.out
  have y9 := cell_blk (i := 9) HX1.out
  simp at y0 y1 y2 y3 y4 y5 y6 y7 y8 y9
  go_wp2_with fail
  refine wp_region_held_drew (S := fun w' => w'.cell? ⟨w.heap.size, 0, none⟩ = some (.slice t.qk t.nk t.ck) ∧ w'.cell? ⟨w.heap.size, 1, none⟩ = some (.slice t.qp t.np t.cp) ∧ w'.cell? ⟨w.heap.size, 2, none⟩ = some (.int .i64 t.l0) ∧ w'.cell? ⟨w.heap.size, 3, none⟩ = some (.int .i64 t.l1) ∧ w'.cell? ⟨w.heap.size, 4, none⟩ = some (.int .i64 t.tn) ∧ w'.cell? ⟨w.heap.size, 5, none⟩ = some (.int .u8 t.py) ∧ w'.cell? ⟨w.heap.size, 6, none⟩ = some (.int .i64 t.mo) ∧ w'.cell? ⟨w.heap.size, 7, none⟩ = some (.slice t.qe t.ne t.ce) ∧ w'.cell? ⟨w.heap.size, 8, none⟩ = some (.bool t.b0) ∧ w'.cell? ⟨w.heap.size, 9, none⟩ = some (.bool t.b1)) (by kernel_rfl) (by (repeat' apply And.intro) <;> go_keep) (fun hHeld => ?_)
  refine take_at (i := 0) (v := ?_) rfl (by kernel_rfl) (by kernel_rfl) (by kernel_rfl) (fun _ _ _ h => h) (Or.inl ⟨by rfl, ?_⟩) hHeld ?_
  rotate_left
  · intro w hSw
    (try dsimp only at hSw)
    go_simp
    try with_reducible rfl
  try simp only [Act.put, List.setIfInBounds_toArray, List.set_cons_zero, List.set_cons_succ]
  try dsimp only
  refine take_at (i := 1) (v := ?_) rfl (by kernel_rfl) (by kernel_rfl) (by kernel_rfl) (fun _ _ _ h => h) (Or.inl ⟨by rfl, ?_⟩) hHeld ?_
  rotate_left
  · intro w hSw
    (try dsimp only at hSw)
    go_simp
    try with_reducible rfl
  try simp only [Act.put, List.setIfInBounds_toArray, List.set_cons_zero, List.set_cons_succ]
  try dsimp only
  refine take_at (i := 3) (v := ?_) rfl (by kernel_rfl) (by kernel_rfl) (by kernel_rfl) (fun _ _ _ h => h) (Or.inl ⟨by rfl, ?_⟩) hHeld ?_
  rotate_left
  · intro w hSw
    (try dsimp only at hSw)
    go_simp
    try with_reducible rfl
  try simp only [Act.put, List.setIfInBounds_toArray, List.set_cons_zero, List.set_cons_succ]
  try dsimp only
  refine take_at (i := 4) (v := ?_) rfl (by kernel_rfl) (by kernel_rfl) (by kernel_rfl) (fun _ _ _ h => h) (Or.inl ⟨by rfl, ?_⟩) hHeld ?_
  rotate_left
  · intro w hSw
    (try dsimp only at hSw)
    go_simp
    try with_reducible rfl
  try simp only [Act.put, List.setIfInBounds_toArray, List.set_cons_zero, List.set_cons_succ]
  try dsimp only
  refine take_at (i := 5) (v := ?_) rfl (by kernel_rfl) (by kernel_rfl) (by kernel_rfl) (fun _ _ _ h => h) (Or.inl ⟨by rfl, ?_⟩) hHeld ?_
  rotate_left
  · intro w hSw
    (try dsimp only at hSw)
    go_simp
    try with_reducible rfl
  try simp only [Act.put, List.setIfInBounds_toArray, List.set_cons_zero, List.set_cons_succ]
  try dsimp only
  refine wpAnyH_ready (rs := [2]) (by kernel_rfl) (by simp) ?_
  refine cons_at rfl (fun K hK => ?_) AllReadyH.nil
  go_simp
  (with_reducible refine (hin.out _ ((by repeat (first | (with_reducible exact HB1.out) | (with_reducible refine Below.drew ?_))) : Below w.heap.size w _)).mono ?_)
  rintro e w2 ⟨⟨v2, rfl, hown⟩, b2⟩
  obtain ⟨⟨oa, oc, rfl⟩, -⟩ := hown.cell
  have B2 : Below w.heap.size w w2 := Below.trans ((by repeat (first | (with_reducible exact HB1.out) | (with_reducible refine Below.drew ?_))) : Below w.heap.size w _) (b2.mono (by have := HB1.out.size; first | exact this | (simp; omega)))
  refine hK.out _ _ ⟨cell_later b2 hHeld.1, cell_later b2 hHeld.2.1, cell_later b2 hHeld.2.2.1, cell_later b2 hHeld.2.2.2.1, cell_later b2 hHeld.2.2.2.2.1, cell_later b2 hHeld.2.2.2.2.2.1, cell_later b2 hHeld.2.2.2.2.2.2.1, cell_later b2 hHeld.2.2.2.2.2.2.2.1, cell_later b2 hHeld.2.2.2.2.2.2.2.2.1, cell_later b2 hHeld.2.2.2.2.2.2.2.2.2⟩ (fun hHeld => ?_)
  clear hK K
  try simp only [Act.put, List.setIfInBounds_toArray, List.set_cons_zero, List.set_cons_succ]
  try dsimp only
  refine wpAnyH_ready (rs := [6]) (by kernel_rfl) (by simp) ?_
  refine cons_at rfl (fun K hK => ?_) AllReadyH.nil
  go_simp
  (with_reducible refine (hin2.out _ ((by repeat (first | (with_reducible exact HB1.out) | (with_reducible exact B2) | (with_reducible refine Below.drew ?_))) : Below w.heap.size w _)).mono ?_)
  rintro e w3 ⟨⟨v3, rfl, hoth⟩, b3⟩
  obtain ⟨⟨ga, gc, rfl⟩, -⟩ := hoth.cell
  have B3 : Below w.heap.size w w3 := Below.trans ((by repeat (first | (with_reducible exact HB1.out) | (with_reducible exact B2) | (with_reducible refine Below.drew ?_))) : Below w.heap.size w _) (b3.mono (by have := HB1.out.size; have := Below.size B2; first | exact this | (simp; omega) | omega))
  have hown3 := hown.below b3
  refine hK.out _ _ ⟨cell_later b3 hHeld.1, cell_later b3 hHeld.2.1, cell_later b3 hHeld.2.2.1, cell_later b3 hHeld.2.2.2.1, cell_later b3 hHeld.2.2.2.2.1, cell_later b3 hHeld.2.2.2.2.2.1, cell_later b3 hHeld.2.2.2.2.2.2.1, cell_later b3 hHeld.2.2.2.2.2.2.2.1, cell_later b3 hHeld.2.2.2.2.2.2.2.2.1, cell_later b3 hHeld.2.2.2.2.2.2.2.2.2⟩ (fun hHeld => ?_)
  clear hK K
  try simp only [Act.put, List.setIfInBounds_toArray, List.set_cons_zero, List.set_cons_succ]
  try dsimp only
  refine take_at (i := 7) (v := ?_) rfl (by kernel_rfl) (by kernel_rfl) (by kernel_rfl) (fun _ _ _ h => h) (Or.inl ⟨by rfl, ?_⟩) hHeld ?_
  rotate_left
  · intro w hSw
    (try dsimp only at hSw)
    go_simp
    try with_reducible rfl
  try simp only [Act.put, List.setIfInBounds_toArray, List.set_cons_zero, List.set_cons_succ]
  try dsimp only
  refine take_at (i := 8) (v := ?_) rfl (by kernel_rfl) (by kernel_rfl) (by kernel_rfl) (fun _ _ _ h => h) (Or.inl ⟨by rfl, ?_⟩) hHeld ?_
  rotate_left
  · intro w hSw
    (try dsimp only at hSw)
    go_simp
    try with_reducible rfl
  try simp only [Act.put, List.setIfInBounds_toArray, List.set_cons_zero, List.set_cons_succ]
  try dsimp only
  refine wpAnyH_done (by kernel_rfl) ?_ _
  have HX2 := Lib.hid ((b2.block _ (heap_lt HX1.out)).trans HX1.out)
  have HX3 := Lib.hid ((b3.block _ (heap_lt HX2.out)).trans HX2.out)
  have HB3 := Lib.hid B3
  have HOW := Lib.hid hown3
  have HOT := Lib.hid hoth
  obtain ⟨on, hon⟩ : ∃ on, own.length = on := ⟨_, rfl⟩
  obtain ⟨gn, hgn⟩ : ∃ gn, oth.length = gn := ⟨_, rfl⟩
  rw [hon] at HOW hl1 ⊢
  rw [hgn] at HOT hl2 ⊢
  have HON := Lib.hid hon
  have HGN := Lib.hid hgn
  obtain ⟨ag, hag⟩ : ∃ ag, tarL oth = ag := ⟨_, rfl⟩
  have HAG := Lib.hid hag
  have hag5 : ag.length ≤ 5 := by rw [← hag]; exact tarL_len (by rw [hgn]; exact hl2)
  rw [hag]
  clear hown hown3 hoth hon hgn hag b2 b3 B2 B3 hHeld y0 y1 y2 y3 y4 y5 y6 y7 y8 y9 hlt1
  go_wp2_with fail
  go_loopw [5, 8] (fun vl vi wr => ∃ (k : Nat) (a : Option Addr) (m c : Nat), vi = .int .i64 k ∧ k ≤ on ∧ vl = .slice a m c ∧ m = (optsOf ps (own.take k) ag).length ∧ OptsAt wr w3.heap.size (.slice a m c) (optsOf ps (own.take k) ag) ∧ Below w3.heap.size w3 wr) (fun _ vi _ => on - (RowKit.intOf vi).toNat)
  case atStart => exact ⟨0, none, 0, 0, by rfl, by omega, rfl, by simp [optsOf], World.ownsRow_nil _ _ _ _, Below.refl _ _⟩
  case round =>
    obtain ⟨k, a, m, c, rfl, hk, rfl, hm, hopt, hbw⟩ := hrel
    rename World => wA
    have HBW := Lib.hid hbw
    have HBw : Hid (Below w.heap.size w wA) := Lib.hid (HB3.out.trans (hbw.mono HB3.out.size))
    have HXA := Lib.hid ((hbw.block _ (heap_lt HX3.out)).trans HX3.out)
    have HOWA := Lib.hid (HOW.out.below hbw)
    have HOTA := Lib.hid (HOT.out.below hbw)
    have HO := Lib.hid hopt
    have HML := Lib.hid hm
    have hm25 : m ≤ 25 := by
      rw [hm]
      have h1 := optsOf_len ps ag (own.take k)
      have h2 : (own.take k).length ≤ 5 := by rw [List.length_take, HON.out]; omega
      have := Nat.mul_le_mul h2 hag5
      omega
    clear hm hopt hbw
    by_cases hlt : k < on
    · obtain ⟨x, hx⟩ : ∃ x, own[k]? = some x := ⟨own[k]'(by rw [HON.out]; exact hlt), List.getElem?_eq_getElem _⟩
      obtain ⟨gw, -, -, hgl, ⟨cw, hcw⟩, hcx⟩ := HOWA.out.cell.2 k x hx
      simp only [Value.slice.injEq] at hcw
      obtain ⟨rfl, -, rfl⟩ := hcw
      obtain ⟨p, hp⟩ := HMEM.out x (List.mem_of_getElem? hx)
      obtain ⟨g, o, hq, hg, hc⟩ := HT.out.piece hp
      have hil : x < t.np := by rw [HT.out.np.1]; exact (List.getElem?_eq_some_iff.1 hp).1
      have c0 : wA.cell? ⟨g, o + x * 14, none⟩ = some (.int .i64 p.df) := cell_later HBw.out (hc 0 _ rfl)
      have c1 : wA.cell? ⟨g, o + x * 14 + 1, none⟩ = some (.int .i64 p.ak) := cell_later HBw.out (hc 1 _ rfl)
      have c2 : wA.cell? ⟨g, o + x * 14 + 2, none⟩ = some (.int .i64 p.gd) := cell_later HBw.out (hc 2 _ rfl)
      have c3 : wA.cell? ⟨g, o + x * 14 + 3, none⟩ = some (.int .u8 p.ow) := cell_later HBw.out (hc 3 _ rfl)
      have c4 : wA.cell? ⟨g, o + x * 14 + 4, none⟩ = some (.int .u8 p.hs) := cell_later HBw.out (hc 4 _ rfl)
      have c5 : wA.cell? ⟨g, o + x * 14 + 5, none⟩ = some (.int .u8 p.zn) := cell_later HBw.out (hc 5 _ rfl)
      have c6 : wA.cell? ⟨g, o + x * 14 + 6, none⟩ = some (.int .i64 p.pl) := cell_later HBw.out (hc 6 _ rfl)
      have c7 : wA.cell? ⟨g, o + x * 14 + 7, none⟩ = some (.bool p.up) := cell_later HBw.out (hc 7 _ rfl)
      have c8 : wA.cell? ⟨g, o + x * 14 + 8, none⟩ = some (.bool p.lw) := cell_later HBw.out (hc 8 _ rfl)
      have c9 : wA.cell? ⟨g, o + x * 14 + 9, none⟩ = some (.int .i64 p.sc) := cell_later HBw.out (hc 9 _ rfl)
      have c10 : wA.cell? ⟨g, o + x * 14 + 10, none⟩ = some (.int .u8 p.us) := cell_later HBw.out (hc 10 _ rfl)
      have c11 : wA.cell? ⟨g, o + x * 14 + 11, none⟩ = some (.bool p.sk) := cell_later HBw.out (hc 11 _ rfl)
      have c12 : wA.cell? ⟨g, o + x * 14 + 12, none⟩ = some (.bool p.tu) := cell_later HBw.out (hc 12 _ rfl)
      have c13 : wA.cell? ⟨g, o + x * 14 + 13, none⟩ = some (.int .i64 p.bo) := cell_later HBw.out (hc 13 _ rfl)
      have hrd := Lib.hid fun W => rready_any p W
      have NX := Lib.hid (optsOf_next (ps := ps) (ag := ag) hx)
      have hcan : canAt ps x = (attB p && !p.sk) := by unfold canAt; rw [hp]
      have HCN := Lib.hid hcan
      have i1 : (0 : Int) ≤ (k : Int) := by omega
      have i2 : (k : Int) < (on : Int) := by omega
      have i3 : (0 : Int) ≤ (x : Int) := by omega
      have i4 : (x : Int) < (t.np : Int) := by omega
      have hgA : g < wA.heap.size := Nat.lt_of_lt_of_le hg HBw.out.size
      have hltA := heap_lt HXA.out
      have y1 := cell_blk (i := 1) HXA.out
      simp at y1
      have HXK := Lib.hid hx
      clear hc hp hx hcan
      simp only [pcV] at hrd
      rw [hq] at y1 HXA ⊢
      go_wp2_with fail
      go_region
      obtain ⟨w4, hw4⟩ : ∃ w4, w4 = (wA.alloc (.cells #[.int .i64 p.df, .int .i64 p.ak, .int .i64 p.gd, .int .u8 p.ow, .int .u8 p.hs, .int .u8 p.zn, .int .i64 p.pl, .bool p.up, .bool p.lw, .int .i64 p.sc, .int .u8 p.us, .bool p.sk, .bool p.tu, .int .i64 p.bo] 45)).drew := ⟨_, rfl⟩
      have bA4 : Below wA.heap.size wA w4 := by rw [hw4]; exact ((Below.refl _ wA).alloc (Nat.le_refl _) _).drew
      have HP4 : Hid (w4.heap[wA.heap.size]? = some (.cells #[.int .i64 p.df, .int .i64 p.ak, .int .i64 p.gd, .int .u8 p.ow, .int .u8 p.hs, .int .u8 p.zn, .int .i64 p.pl, .bool p.up, .bool p.lw, .int .i64 p.sc, .int .u8 p.us, .bool p.sk, .bool p.tu, .int .i64 p.bo] 45 (0, 0))) := Lib.hid (by rw [hw4]; exact heap_alloc_new wA _)
      have HB4 := Lib.hid (HBW.out.trans (bA4.mono HBW.out.size))
      have HX4 := Lib.hid ((bA4.block _ (heap_lt HXA.out)).trans HXA.out)
      have HO4 := Lib.hid (HO.out.below bA4)
      have HW4 := Lib.hid hw4
      clear hw4 bA4 c0 c1 c2 c3 c4 c5 c6 c7 c8 c9 c10 c11 c12 c13 y1 hltA hcx
      rw [← HW4.out]
      have hlp4 := heap_lt HP4.out
      have p0 := cell_blk (i := 0) HP4.out
      have p1 := cell_blk (i := 1) HP4.out
      have p2 := cell_blk (i := 2) HP4.out
      have p3 := cell_blk (i := 3) HP4.out
      have p4 := cell_blk (i := 4) HP4.out
      have p5 := cell_blk (i := 5) HP4.out
      have p6 := cell_blk (i := 6) HP4.out
      have p7 := cell_blk (i := 7) HP4.out
      have p8 := cell_blk (i := 8) HP4.out
      have p9 := cell_blk (i := 9) HP4.out
      have p10 := cell_blk (i := 10) HP4.out
      have p11 := cell_blk (i := 11) HP4.out
      have p12 := cell_blk (i := 12) HP4.out
      have p13 := cell_blk (i := 13) HP4.out
      simp at p0 p1 p2 p3 p4 p5 p6 p7 p8 p9 p10 p11 p12 p13
      go_wp2_with fail
      (with_reducible refine (hrd.out _).mono ?_)
      rintro e w5 ⟨rfl, b5⟩
      have HB5 := Lib.hid (HB4.out.trans (b5.mono HB4.out.size))
      have HP5 := Lib.hid ((b5.block _ (heap_lt HP4.out)).trans HP4.out)
      have HO5 := Lib.hid (HO4.out.below b5)
      have HOW5 := Lib.hid (HOW.out.below HB5.out)
      have HOT5 := Lib.hid (HOT.out.below HB5.out)
      clear b5 p0 p1 p2 p3 p4 p5 p6 p7 p8 p9 p10 p11 p12 p13
      have hlp5 := heap_lt HP5.out
      have p11 := cell_blk (i := 11) HP5.out
      simp at p11
      cases hab : attB p with
      | false =>
        have HNO : Hid (optsOf ps (own.take (k + 1)) ag = optsOf ps (own.take k) ag) := Lib.hid (by rw [NX.out, HCN.out, hab]; simp)
        clear hab
        go_wp2_with fail
        go_roundw
        case rel => exact ⟨k + 1, a, m, c, by go_num, by omega, rfl, by rw [HNO.out]; exact HML.out, by rw [HNO.out]; exact HO5.out, HB5.out⟩
        case measure => simp [RowKit.intOf]; omega
      | true =>
        cases hsk : p.sk with
        | true =>
          have HNO : Hid (optsOf ps (own.take (k + 1)) ag = optsOf ps (own.take k) ag) := Lib.hid (by rw [NX.out, HCN.out, hab, hsk]; simp)
          rw [hsk] at p11
          clear hab hsk
          go_wp2_with fail
          go_roundw
          case rel => exact ⟨k + 1, a, m, c, by go_num, by omega, rfl, by rw [HNO.out]; exact HML.out, by rw [HNO.out]; exact HO5.out, HB5.out⟩
          case measure => simp [RowKit.intOf]; omega
        | false =>
          have HYES : Hid (optsOf ps (own.take (k + 1)) ag = optsOf ps (own.take k) ag ++ ag.map fun d => (8, (x : Int), d)) := Lib.hid (by rw [NX.out, HCN.out, hab, hsk]; simp)
          rw [hsk] at p11
          clear hab hsk
          obtain ⟨L, hL⟩ : ∃ L, L = optsOf ps (own.take k) ag := ⟨_, rfl⟩
          rw [← hL] at HO5 HML HYES
          clear hL
          go_wp2_with fail
          go_loopw [5, 10] (fun vl vj wr => ∃ (j : Nat) (a : Option Addr) (n c : Nat), vj = .int .i64 j ∧ j ≤ gn ∧ vl = .slice a n c ∧ n = m + j ∧ OptsAt wr w3.heap.size (.slice a n c) (L ++ (oth.take j).map fun (d : Nat) => ((8, (x : Int), (d : Int)) : Op3)) ∧ Below w3.heap.size w3 wr) (fun _ vj _ => gn - (RowKit.intOf vj).toNat)
          case atStart => exact ⟨0, a, m, c, by rfl, by omega, rfl, rfl, by simpa using HO5.out, HB5.out⟩
          case round =>
            obtain ⟨j, a, n, c, rfl, hj, rfl, hn, hopt, hbw⟩ := hrel
            rename World => wD
            have HBD := Lib.hid hbw
            have HO6 := Lib.hid hopt
            have HNL : Hid ((L ++ (oth.take j).map fun (d : Nat) => ((8, (x : Int), (d : Int)) : Op3)).length = n) := Lib.hid (by rw [List.length_append, List.length_map, List.length_take, HGN.out, hn, HML.out]; omega)
            have hn30 : n ≤ 30 := by omega
            have HN := Lib.hid hn
            have HOWD := Lib.hid (HOW.out.below hbw)
            have HOTD := Lib.hid (HOT.out.below hbw)
            clear hbw hopt hn
            by_cases hltj : j < gn
            · obtain ⟨y, hy⟩ : ∃ y, oth[j]? = some y := ⟨oth[j]'(by rw [HGN.out]; exact hltj), List.getElem?_eq_getElem _⟩
              obtain ⟨gg, -, -, hggl, ⟨cg, hcg⟩, hcy⟩ := HOTD.out.cell.2 j y hy
              simp only [Value.slice.injEq] at hcg
              obtain ⟨rfl, -, rfl⟩ := hcg
              obtain ⟨gw', -, -, hgwl, ⟨cw', hcw'⟩, hcx⟩ := HOWD.out.cell.2 k x HXK.out
              simp only [Value.slice.injEq, Option.some.injEq, Addr.mk.injEq] at hcw'
              obtain ⟨⟨rfl, -⟩, -⟩ := hcw'
              try simp only [idV] at hcx
              try simp only [idV] at hcy
              have NXJ : Hid ((L ++ (oth.take j).map fun (d : Nat) => ((8, (x : Int), (d : Int)) : Op3)) ++ [(8, (x : Int), (y : Int))] = L ++ (oth.take (j + 1)).map fun (d : Nat) => ((8, (x : Int), (d : Int)) : Op3)) := Lib.hid (by rw [List.take_add_one, hy]; simp)
              have j1 : (0 : Int) ≤ (j : Int) := by omega
              have j2 : (j : Int) < (gn : Int) := by omega
              clear hy
              have hal : Below w3.heap.size w3 (wD.alloc (.cells #[.int .u8 8, .int .i64 x, .int .i64 y] 41)) := HBD.out.alloc HBD.out.size _
              have hown3 : (wD.alloc (.cells #[.int .u8 8, .int .i64 x, .int .i64 y] 41)).ownsRow w3.heap.size 41 3 (.slice a n c) n (opsV (L ++ (oth.take j).map fun (d : Nat) => ((8, (x : Int), (d : Int)) : Op3))) := by
                have := HO6.out.below ((Below.refl _ _).alloc (Nat.le_refl _) (.cells #[.int .u8 8, .int .i64 x, .int .i64 y] 41))
                unfold OptsAt at this
                rwa [HNL.out] at this
              have HAL3 := Lib.hid hal
              have HO7 := Lib.hid hown3
              have HBK : Hid (∀ i, (Value.slice a n c).ownBlock = some i → w3.heap.size ≤ i) := Lib.hid fun i hi => (World.ownsRow.lt hown3 i hi).1
              clear hal hown3
              go_wp2_with fail
              go_region_law (refine step_append_lies _ (by rfl) _ _ _ (by rfl) w3.heap.size 41 i0 _ 3 24 Try.underlying36 hi0 hz0 hz1 hz2 rfl (by omega) _ n (opsV (L ++ (oth.take j).map fun (d : Nat) => ((8, (x : Int), (d : Int)) : Op3))) (by rfl) HO7.out ⟨wD.heap.size, 0, none⟩ 1 1 (opV (8, (x : Int), (y : Int))) (by rfl) (by rfl) (World.news_of_block (cs := #[.int .u8 8, .int .i64 x, .int .i64 y]) (t := 41) (fr := (0, 0)) (heap_alloc_new _ _)) (by simp [opV, Value.oneCell']) (by omega) (by unfold maxLen; omega) (by omega) HAL3.out.size _ rfl ?_; intro g4 cap w6 hown6 hgrow6 hat6 hlt6; have hgr6 : World.grownBy _ w6 (Value.slice a n c).ownBlock := hgrow6)
              all_goals
                have hB6 : Below w3.heap.size w3 w6 := by
                  first
                    | exact HAL3.out.drew.grown hgr6 HAL3.out.drew.size (fun i hi => HBK.out i hi)
                    | exact HAL3.out.grown hgr6 HAL3.out.size (fun i hi => HBK.out i hi)
                have ho8 : OptsAt w6 w3.heap.size (.slice (some ⟨g4, 0, none⟩) (n + 1) cap) (L ++ (oth.take (j + 1)).map fun (d : Nat) => ((8, (x : Int), (d : Int)) : Op3)) := by
                  show World.ownsRow _ _ _ _ _ _ _
                  rw [← NXJ.out, List.length_append, HNL.out, ← opsV_snoc]
                  exact hown6
                have HO8 := Lib.hid ho8
                have HB6 := Lib.hid hB6
                clear ho8 hB6 hown6 hgrow6 hgr6 hat6
                go_wp2_with fail
                go_roundw
                case rel => exact ⟨j + 1, _, n + 1, cap, by go_num, by omega, rfl, by have := HN.out; omega, HO8.out, HB6.out⟩
                case measure => simp [RowKit.intOf]; omega
            · obtain rfl : j = gn := by omega
              have HFULL : Hid ((oth.take j).map (fun (d : Nat) => ((8, (x : Int), (d : Int)) : Op3)) = oth.map (fun (d : Nat) => ((8, (x : Int), (d : Int)) : Op3))) := Lib.hid (by rw [List.take_of_length_le (l := oth) (by rw [HGN.out]; exact Nat.le_refl _)])
              by_cases hg0 : j = 0
              · have e0 : ((j : Int) == 0) = true := by simp [hg0]
                have hnil : oth = [] := List.eq_nil_of_length_eq_zero (by rw [HGN.out]; exact hg0)
                have HY : Hid (optsOf ps (own.take (k + 1)) ag = L ++ [(8, (x : Int), -1)]) := Lib.hid (by rw [HYES.out, ← HAG.out, hnil]; rfl)
                have HO6' : Hid (OptsAt wD w3.heap.size (.slice a n c) L) := Lib.hid (by have := HO6.out; rw [HFULL.out, hnil] at this; simpa using this)
                have HNL' : Hid (L.length = n) := Lib.hid (by have := HNL.out; rw [HFULL.out, hnil] at this; simpa using this)
                obtain ⟨gw', -, -, hgwl, ⟨cw', hcw'⟩, hcx⟩ := HOWD.out.cell.2 k x HXK.out
                simp only [Value.slice.injEq, Option.some.injEq, Addr.mk.injEq] at hcw'
                obtain ⟨⟨rfl, -⟩, -⟩ := hcw'
                try simp only [idV] at hcx
                have hal : Below w3.heap.size w3 (wD.alloc (.cells #[.int .u8 8, .int .i64 x, .int .i64 (-1)] 41)) := HBD.out.alloc HBD.out.size _
                have hown3 : (wD.alloc (.cells #[.int .u8 8, .int .i64 x, .int .i64 (-1)] 41)).ownsRow w3.heap.size 41 3 (.slice a n c) n (opsV L) := by
                  have := HO6'.out.below ((Below.refl _ _).alloc (Nat.le_refl _) (.cells #[.int .u8 8, .int .i64 x, .int .i64 (-1)] 41))
                  unfold OptsAt at this
                  rwa [HNL'.out] at this
                have HAL3 := Lib.hid hal
                have HO7 := Lib.hid hown3
                have HBK : Hid (∀ i, (Value.slice a n c).ownBlock = some i → w3.heap.size ≤ i) := Lib.hid fun i hi => (World.ownsRow.lt hown3 i hi).1
                clear hal hown3 hg0 hnil
                go_wp2_with (at_builtin; (refine wpList_append_lies _ rfl (.tmp 67) (.tmp 73) 36 rfl w3.heap.size 41 i0 _ 3 24 Try.underlying36 hi0 hz0 hz1 hz2 rfl (by omega) _ n (opsV (L)) rfl HO7.out ⟨wD.heap.size, 0, none⟩ 1 1 (opV (8, (x : Int), -1)) rfl rfl (World.news_of_block (cs := #[.int .u8 8, .int .i64 x, .int .i64 (-1)]) (t := 41) (fr := (0, 0)) (heap_alloc_new _ _)) (by simp [opV, Value.oneCell']) (by omega) (by unfold maxLen; omega) (by omega) HAL3.out.size _ rfl ?_; intro g4 cap w6 hown6 hgrow6 hat6 hlt6; have hgr6 : World.grownBy _ w6 (Value.slice a n c).ownBlock := hgrow6))
                have hB6 : Below w3.heap.size w3 w6 := HAL3.out.grown hgr6 HAL3.out.size (fun i hi => HBK.out i hi)
                have hl8 : (optsOf ps (own.take (k + 1)) ag).length = n + 1 := by rw [HY.out, List.length_append, HNL'.out]; rfl
                have ho8 : OptsAt w6 w3.heap.size (.slice (some ⟨g4, 0, none⟩) (n + 1) cap) (optsOf ps (own.take (k + 1)) ag) := by
                  show World.ownsRow _ _ _ _ _ _ _
                  rw [hl8, HY.out, ← opsV_snoc]
                  exact hown6
                have HO8 := Lib.hid ho8
                have HB6 := Lib.hid hB6
                have HL8 := Lib.hid hl8
                clear ho8 hB6 hl8 hown6 hgrow6 hgr6 hat6
                go_wp2_with fail
                go_roundw
                case rel => exact ⟨k + 1, _, n + 1, cap, by go_num, by omega, rfl, HL8.out.symm, HO8.out, HB6.out⟩
                case measure => simp [RowKit.intOf]; omega
              · have e0 : ((j : Int) == 0) = false := by (first | (simp; done) | (simp; omega))
                have hne : oth ≠ [] := fun e => hg0 (by rw [← HGN.out, e]; rfl)
                have HY : Hid (optsOf ps (own.take (k + 1)) ag = L ++ (oth.take j).map fun (d : Nat) => ((8, (x : Int), (d : Int)) : Op3)) := Lib.hid (by
                  rw [HYES.out, ← HAG.out, HFULL.out]
                  unfold tarL
                  rw [if_neg hne, List.map_map]
                  rfl)
                clear hg0 hne
                go_wp2_with fail
                go_roundw
                case rel => exact ⟨k + 1, a, n, c, by go_num, by omega, rfl, by rw [HY.out]; exact HNL.out.symm, by rw [HY.out]; exact HO6.out, HBD.out⟩
                case measure => simp [RowKit.intOf]; omega
    · obtain rfl : k = on := by omega
      have HFULL : Hid (optsOf ps (own.take k) ag = optsOf ps own ag) := Lib.hid (by rw [List.take_of_length_le (by rw [HON.out]; exact Nat.le_refl _)])
      have hal : Below w3.heap.size w3 (wA.alloc (.cells #[.int .u8 9, .int .i64 (-1), .int .i64 (-1)] 41)) := HBW.out.alloc HBW.out.size _
      have hown3 : (wA.alloc (.cells #[.int .u8 9, .int .i64 (-1), .int .i64 (-1)] 41)).ownsRow w3.heap.size 41 3 (.slice a m c) m (opsV (optsOf ps own ag)) := by
        have := HO.out.below ((Below.refl _ _).alloc (Nat.le_refl _) (.cells #[.int .u8 9, .int .i64 (-1), .int .i64 (-1)] 41))
        unfold OptsAt at this
        rwa [← HML.out, HFULL.out] at this
      have HAL3 := Lib.hid hal
      have HO7 := Lib.hid hown3
      have HBK : Hid (∀ i, (Value.slice a m c).ownBlock = some i → w3.heap.size ≤ i) := Lib.hid fun i hi => (World.ownsRow.lt hown3 i hi).1
      clear hal hown3
      go_wp2_with (at_builtin; (refine wpList_append_lies _ rfl (.tmp 75) (.tmp 77) 36 rfl w3.heap.size 41 i0 _ 3 24 Try.underlying36 hi0 hz0 hz1 hz2 rfl (by omega) _ m (opsV (optsOf ps own ag)) rfl HO7.out ⟨wA.heap.size, 0, none⟩ 1 1 (opV (9, -1, -1)) rfl rfl (World.news_of_block (cs := #[.int .u8 9, .int .i64 (-1), .int .i64 (-1)]) (t := 41) (fr := (0, 0)) (heap_alloc_new _ _)) (by simp [opV, Value.oneCell']) (by omega) (by unfold maxLen; omega) (by omega) HAL3.out.size _ rfl ?_; intro g4 cap w6 hown6 hgrow6 hat6 hlt6; have hgr6 : World.grownBy _ w6 (Value.slice a m c).ownBlock := hgrow6))
      have hB6 : Below w3.heap.size w3 w6 := HAL3.out.grown hgr6 HAL3.out.size (fun i hi => HBK.out i hi)
      have ho8 : OptsAt w6 w3.heap.size (.slice (some ⟨g4, 0, none⟩) (m + 1) cap) (optsOf ps own ag ++ [(9, -1, -1)]) := by
        show World.ownsRow _ _ _ _ _ _ _
        have hl := HML.out
        rw [HFULL.out] at hl
        rw [List.length_append, ← hl, ← opsV_snoc]
        exact hown6
      have HO8 := Lib.hid ho8
      have HB6 := Lib.hid hB6
      clear ho8 hB6 hown6 hgrow6 hgr6 hat6
      go_wp2_with fail
      go_ret
      exact ⟨⟨_, rfl, by rw [HAG.out]; exact HO8.out.base HB3.out.size⟩, HB3.out.trans (HB6.out.mono HB3.out.size)⟩
set_option maxHeartbeats 4000000 in
set_option maxRecDepth 100000 in
theorem rattacks_nomay (t : Tb) (xs : List Cd) (ps : List Pc) (h : Nat) (w : World) (hT : TabIn w t xs ps) (hN : ¬ (LifeOk t ∧ GoodB xs ps)) : Calls Try.prog 14 #[.agg t.row, .int .u8 h] w fun e w' => e = .returned (.slice none 0 0) ∧ Below w.heap.size w w' := by
  have hmay := Lib.hid fun (W : World) (hb : Below w.heap.size w W) => rmay_no t xs ps W (hT.below hb) hN
  clear hT hN
  obtain ⟨w0, hw0⟩ : ∃ w0, w0 = w.alloc (.cells t.row 28) := ⟨_, rfl⟩
  have hb0 : Below w.heap.size w w0 := by rw [hw0]; exact (Below.refl _ _).alloc (Nat.le_refl _) _
  have HB0 := Lib.hid hb0
  have HW0 := Lib.hid hw0
  clear hb0 hw0
  simp only [Tb.row] at *
  go_enter Try.func14, Try.ntmps14
  go_wp2_with fail
  rw [← HW0.out]
  (with_reducible refine (hmay.out _ HB0.out).mono ?_)
  rintro e w1 ⟨rfl, b1⟩
  have HB1 := Lib.hid (HB0.out.trans (b1.mono HB0.out.size))
  clear b1
  go_wp2_with fail
  go_ret
  exact ⟨rfl, HB1.out⟩
set_option maxHeartbeats 4000000 in
set_option maxRecDepth 100000 in
theorem rattacks_nowho (t : Tb) (xs : List Cd) (ps : List Pc) (h : Nat) (w : World) (hT : TabIn w t xs ps) (hL : LifeOk t) (hG : GoodB xs ps) (hh : (h : Int) > 1) : Calls Try.prog 14 #[.agg t.row, .int .u8 h] w fun e w' => e = .returned (.slice none 0 0) ∧ Below w.heap.size w w' := by
  have hmay := Lib.hid fun (W : World) (hb : Below w.heap.size w W) => rmay_yes t xs ps W (hT.below hb) hL hG
  clear hT hL hG
  obtain ⟨w0, hw0⟩ : ∃ w0, w0 = w.alloc (.cells t.row 28) := ⟨_, rfl⟩
  have hb0 : Below w.heap.size w w0 := by rw [hw0]; exact (Below.refl _ _).alloc (Nat.le_refl _) _
  have HB0 := Lib.hid hb0
  have HW0 := Lib.hid hw0
  clear hb0 hw0
  simp only [Tb.row] at *
  go_enter Try.func14, Try.ntmps14
  go_wp2_with fail
  rw [← HW0.out]
  (with_reducible refine (hmay.out _ HB0.out).mono ?_)
  rintro e w1 ⟨rfl, b1⟩
  have HB1 := Lib.hid (HB0.out.trans (b1.mono HB0.out.size))
  clear b1
  go_wp2_with fail
  go_ret
  exact ⟨rfl, HB1.out⟩
end Go.Proofs.Ytfdehhibgdeedaa
