import Derived.Test.YtmhpopkbmnhkkaaGreatDoorQRpPool
import Derived.Test.YtmhpopkbmnhkkaaGreatDoorQRpExprs
import Derived.Test.YtmhpopkbmnhkkaaGreatDoorQParLiv
/- joustlaw02.ParseTells: it answers true, for every text. -/
namespace Go.Proofs.YtmhpopkbmnhkkaaGreatDoor
open Go.RowKit Go.Lib

/-- What is asked of a list of cards in which names and payments are written: its cells, and those of its effects. -/
structure PayAt (wr : World) (S : Nat → Prop) (b : Nat) (a : Option Addr) (m : Nat) : Prop where
  all : ∀ j, j < m → ∃ e p, a = some ⟨e, 0, none⟩ ∧ e ≠ b ∧ S e ∧ (∃ cs, wr.heap[e]? = some (.cells cs 43 (0, 0))) ∧ wr.cell? ⟨e, j * 12 + 4, none⟩ = some (.int .i64 p)
structure Shape (wr : World) (S : Nat → Prop) (b n : Nat) : Prop where
  blk : 0 < n → S b ∧ ∃ cs, wr.heap[b]? = some (.cells cs 38 (0, 0))
  all : ∀ k, k < n → (∃ s, wr.cell? ⟨b, k * 6, none⟩ = some (.string s)) ∧ ∃ a m c, wr.cell? ⟨b, k * 6 + 5, none⟩ = some (.slice a m c) ∧ m ≤ maxLen ∧ PayAt wr S b a m
theorem set_same {w : World} {g i : Nat} {cs : Array Value} {t : TypeId} {u v : Value} (hb : w.heap[g]? = some (.cells cs t (0, 0))) (hc : w.cell? ⟨g, i, none⟩ = some v) : (w.setCell ⟨g, i, none⟩ u).cell? ⟨g, i, none⟩ = some u := by
  rw [cell_blk hb] at hc
  have hi : i < cs.size := (Array.getElem?_eq_some_iff.1 hc).1
  rw [cell_blk (heap_set hb u)]
  simp [hi]
theorem set_other {w : World} {g i j : Nat} {cs : Array Value} {t : TypeId} {u v : Value} (hb : w.heap[g]? = some (.cells cs t (0, 0))) (hc : w.cell? ⟨g, j, none⟩ = some v) (hne : i ≠ j) : (w.setCell ⟨g, i, none⟩ u).cell? ⟨g, j, none⟩ = some v := by
  rw [cell_blk hb] at hc
  rw [cell_blk (heap_set hb u), Array.getElem?_setIfInBounds_ne hne]
  exact hc
theorem set_blk {w : World} {g i e : Nat} {t : TypeId} {u : Value} (h : ∃ cs, w.heap[e]? = some (.cells cs t (0, 0))) : ∃ cs, (w.setCell ⟨g, i, none⟩ u).heap[e]? = some (.cells cs t (0, 0)) := by
  obtain ⟨cs, h⟩ := h
  by_cases he : e = g
  · subst he; exact ⟨_, heap_set h u⟩
  · exact ⟨_, (heap_set_far he u).trans h⟩
section
variable {wr : World} {S : Nat → Prop} {b n : Nat}
theorem PayAt.far {a : Option Addr} {m : Nat} (h : PayAt wr S b a m) (i : Nat) (u : Value) : PayAt (wr.setCell ⟨b, i, none⟩ u) S b a m :=
  ⟨fun j hj => by
    obtain ⟨e, p, ha, he, hs, hb, hc⟩ := h.all j hj
    exact ⟨e, p, ha, he, hs, set_blk hb, cell_far hc he⟩⟩
theorem PayAt.pay {a : Option Addr} {m : Nat} (h : PayAt wr S b a m) {g i : Nat} (x : Int) (hb : ∃ cs, wr.heap[g]? = some (.cells cs 43 (0, 0))) : PayAt (wr.setCell ⟨g, i * 12 + 4, none⟩ (.int .i64 x)) S b a m :=
  ⟨fun j hj => by
    obtain ⟨e, p, ha, he, hs, hbe, hc⟩ := h.all j hj
    by_cases heg : e = g
    · subst heg
      by_cases hij : i = j
      · subst hij
        obtain ⟨cs, hb⟩ := hb
        exact ⟨e, x, ha, he, hs, set_blk hbe, set_same hb hc⟩
      · obtain ⟨cs, hb⟩ := hb
        exact ⟨e, p, ha, he, hs, set_blk hbe, set_other hb hc (by omega)⟩
    · exact ⟨e, p, ha, he, hs, set_blk hbe, cell_far hc heg⟩⟩
theorem Shape.name (h : Shape wr S b n) (k : Nat) (x : ByteArray) : Shape (wr.setCell ⟨b, k * 6, none⟩ (.string x)) S b n :=
  ⟨fun hn => ⟨(h.blk hn).1, set_blk (h.blk hn).2⟩, fun j hj => by
    obtain ⟨⟨s, hs⟩, a, m, c, hc, hm, hp⟩ := h.all j hj
    obtain ⟨-, cs, hb⟩ := h.blk (by omega)
    refine ⟨?_, a, m, c, set_other hb hc (by omega), hm, hp.far _ _⟩
    by_cases hjk : k = j
    · subst hjk; exact ⟨x, set_same hb hs⟩
    · exact ⟨s, set_other hb hs (by omega)⟩⟩
theorem Shape.pay (h : Shape wr S b n) {g i : Nat} (x : Int) (hg : g ≠ b) (hb : ∃ cs, wr.heap[g]? = some (.cells cs 43 (0, 0))) : Shape (wr.setCell ⟨g, i * 12 + 4, none⟩ (.int .i64 x)) S b n :=
  ⟨fun hn => ⟨(h.blk hn).1, set_blk (h.blk hn).2⟩, fun j hj => by
    obtain ⟨⟨s, hs⟩, a, m, c, hc, hm, hp⟩ := h.all j hj
    exact ⟨⟨s, cell_far hs (Ne.symm hg)⟩, a, m, c, cell_far hc (Ne.symm hg), hm, hp.pay x hb⟩⟩
end
theorem shape_of {w : World} {S : Nat → Prop} {v : Value} {xs : List Cd} (h : RowAt w S 38 6 CdAt v xs) : ∃ b o c, v = .slice o xs.length c ∧ (0 < xs.length → o = some ⟨b, 0, none⟩) ∧ xs.length ≤ maxLen ∧ Shape w S b xs.length := by
  rcases h.open with ⟨rfl, rfl⟩ | ⟨g, cap, rfl, h1, h2, hS, -, ⟨cur, hb, -⟩, hall⟩
  · exact ⟨0, none, 0, rfl, fun h => by simp at h, by simp, fun h => by simp at h, fun k hk => by simp at hk⟩
  · refine ⟨g, _, cap, rfl, fun _ => rfl, by omega, fun _ => ⟨hS, _, hb⟩, fun k hk => ?_⟩
    obtain ⟨c, -, hp, hc⟩ := hall k _ (List.getElem?_eq_getElem hk)
    obtain ⟨ve, rfl, hr⟩ := hp
    have c0 := hc 0 _ (by omega) rfl
    have c5 := hc 5 _ (by omega) rfl
    rcases hr.open with ⟨rfl, -⟩ | ⟨e, cp, rfl, h3, h4, hSe, -, ⟨ce, hbe, -⟩, hae⟩
    · exact ⟨⟨_, c0⟩, _, _, _, c5, by simp, ⟨fun j hj => by simp at hj⟩⟩
    · refine ⟨⟨_, c0⟩, _, _, _, c5, by omega, ⟨fun j hj => ?_⟩⟩
      obtain ⟨d, -, hq, hd⟩ := hae j _ (List.getElem?_eq_getElem hj)
      obtain ⟨vc, vs, rfl, -⟩ := hq
      exact ⟨e, _, rfl, hSe.2, hSe.1, ⟨_, hbe⟩, hd 4 _ (by omega) rfl⟩

theorem trip_eq {a b c a' b' c' : Int} {r : Flt} (h : r = (a, b, c)) (k : r = (a', b', c')) : a = a' ∧ b = b' ∧ c = c' := by
  rw [h] at k; cases k; exact ⟨rfl, rfl, rfl⟩

set_option maxHeartbeats 8000000 in
set_option maxRecDepth 100000 in
theorem ptells_any (s : ByteArray) (w : World) (hs : s.size ≤ maxLen) (hT : PTabs w) :
    Calls Tryz.prog 3 #[.string s] w fun e w' => e = .returned (.bool true) ∧ Below w.heap.size w w' := by
  have HT := Lib.hid hT
  have hm := hs
  unfold maxLen at hm
  by_cases hd : 3000 < s.size
  · have hg : ((s.size : Int) > 3000) := by omega
    clear hT hs
    go_enter Tryz.func3, Tryz.ntmps3
    go_wp2_with fail
    refine (plives_any _ HT.out).mono ?_
    rintro e w1 ⟨rfl, b1⟩
    have B1 := Lib.hid b1
    clear b1
    go_wp2
    go_ret
    exact ⟨rfl, B1.out⟩
  have hP : Hid (∀ W, PTabs W → _) := fun W hW => pool_reads s W hs hW
  have hQ : Hid (∀ W, PTabs W → _) := fun W hW => rpool_reads s W hs hW.tabs
  have hX : Hid (∀ W, PTabs W → _) := fun W hW => exprs_reads s W hs hW
  have hY : Hid (∀ W, PTabs W → _) := fun W hW => rexprs_reads s W hs hW.tabs
  have HF : Hid (∀ r : Flt, r = r) := fun _ => rfl
  generalize hpo : poolOf s = po at *
  generalize hex : exprsOf s = xo at *
  clear hpo hex
  obtain ⟨cs, cf⟩ := po
  obtain ⟨xs, xf⟩ := xo
  obtain ⟨f1, f2, f3⟩ := cf
  obtain ⟨h1, h2, h3⟩ := xf
  clear hT hs HF
  go_enter Tryz.func3, Tryz.ntmps3
  go_wp2_with fail
  refine (hP.out _ HT.out).mono ?_
  rintro e w1 ⟨a, n, c, g1, g2, g3, rfl, hrow, hf, b1⟩
  cases hf
  have ROW := Lib.hid hrow
  have B1 := Lib.hid b1
  have T1 := Lib.hid ((HT.out.below b1).alloc (.cells #[.int .i64 f1, .int .i64 f2, .int .i64 f3] 28))
  have hsz1 := b1.size
  clear hrow b1
  go_wp2_with fail
  refine (hQ.out _ T1.out).mono ?_
  rintro e w2 ⟨a', n', c', g1, g2, g3, rfl, hrow, hf, b2⟩
  cases hf
  have ROW' := Lib.hid hrow
  have B2 := Lib.hid b2
  have T2 := Lib.hid ((T1.out.below b2).alloc (.cells #[.int .i64 f1, .int .i64 f2, .int .i64 f3] 28))
  have hsz2 := b2.size
  clear hrow b2
  go_wp2_with fail
  refine (hX.out _ T2.out).mono ?_
  rintro e w3 ⟨xa, xn, xc, g1, g2, g3, rfl, hrow, hf, b3⟩
  cases hf
  have XROW := Lib.hid hrow
  have B3 := Lib.hid b3
  have T3 := Lib.hid ((T2.out.below b3).alloc (.cells #[.int .i64 h1, .int .i64 h2, .int .i64 h3] 28))
  have hsz3 := b3.size
  clear hrow b3
  go_wp2_with fail
  refine (hY.out _ T3.out).mono ?_
  rintro e w4 ⟨ya, yn, yc, g1, g2, g3, rfl, hrow, hf, b4⟩
  cases hf
  have YROW := Lib.hid hrow
  have B4 := Lib.hid b4
  have hsz4 := b4.size
  clear hrow b4
  simp at hsz2 hsz3 hsz4
  -- the world ahead of the comparisons
  obtain ⟨W, hW⟩ : ∃ W, W = w4.alloc (.cells #[.int .i64 h1, .int .i64 h2, .int .i64 h3] 28) := ⟨_, rfl⟩
  have kb4 : Below w3.heap.size w3 W := by rw [hW]; exact (((Below.refl _ _).alloc (Nat.le_refl _) _).trans (B4.out.mono (by simp))).alloc (by omega) _
  have kb3 : Below w2.heap.size w2 W := (((Below.refl _ _).alloc (Nat.le_refl _) _).trans (B3.out.mono (by simp))).trans (kb4.mono (by omega))
  have kb2 : Below w1.heap.size w1 W := (((Below.refl _ _).alloc (Nat.le_refl _) _).trans (B2.out.mono (by simp))).trans (kb3.mono (by omega))
  have kb1 : Below w.heap.size w W := B1.out.trans (kb2.mono hsz1)
  have F1 : W.heap[w1.heap.size]? = some (.cells #[.int .i64 f1, .int .i64 f2, .int .i64 f3] 28 (0, 0)) := (kb3.block _ (by omega)).trans ((B2.out.block _ (by simp)).trans (heap_alloc_new _ _))
  have F2 : W.heap[w2.heap.size]? = some (.cells #[.int .i64 f1, .int .i64 f2, .int .i64 f3] 28 (0, 0)) := (kb4.block _ (by omega)).trans ((B3.out.block _ (by simp)).trans (heap_alloc_new _ _))
  have F3 : W.heap[w3.heap.size]? = some (.cells #[.int .i64 h1, .int .i64 h2, .int .i64 h3] 28 (0, 0)) := by rw [hW]; exact heap_old ((B4.out.block _ (by simp)).trans (heap_alloc_new _ _))
  have F4 : W.heap[w4.heap.size]? = some (.cells #[.int .i64 h1, .int .i64 h2, .int .i64 h3] 28 (0, 0)) := by rw [hW]; exact heap_alloc_new _ _
  have RA : RowAt W (fun i => From w.heap.size i ∧ i < w1.heap.size) 38 6 CdAt (.slice a n c) cs := ROW.out.frame CdAt.frames fun i hi hl => ⟨⟨hi, hl⟩, kb2.block i hl⟩
  have RB : RowAt W (From w1.heap.size) 38 6 CdAt (.slice a' n' c') cs := ROW'.out.frame CdAt.frames fun i hi hl => ⟨by unfold From at *; simp at hi; omega, kb3.block i hl⟩
  have RX : RowAt W (fun _ => True) 46 7 (ExAt 5) (.slice xa xn xc) xs := XROW.out.frame (ExAt.frames 5) fun i hi hl => ⟨trivial, kb4.block i hl⟩
  have RY : RowAt W (fun _ => True) 46 7 (ExAt 5) (.slice ya yn yc) xs := YROW.out.frame (ExAt.frames 5) fun i hi hl => ⟨trivial, by rw [hW]; exact Below.heap_alloc _ _ _ hl⟩
  have TW : PTabs W := HT.out.below kb1
  have HRA := Lib.hid RA
  have HRB := Lib.hid RB
  have HRX := Lib.hid RX
  have HRY := Lib.hid RY
  have HTW := Lib.hid TW
  have KB := Lib.hid kb1
  have HF1 := Lib.hid F1
  have HF2 := Lib.hid F2
  have HF3 := Lib.hid F3
  have HF4 := Lib.hid F4
  have HWW := Lib.hid hW
  have szW4 : w4.heap.size < W.heap.size := heap_lt F4
  clear kb1 kb2 kb3 kb4 F1 F2 F3 F4 RA RB RX RY TW hW
  go_wp2_with fail
  rw [← HWW.out]
  refine (cards_yes W _ _ cs a a' n c n' c' HRA.out HRB.out).mono ?_
  rintro e w5 ⟨rfl, b5⟩
  have K5 := Lib.hid b5
  have hsz5 := b5.size
  have hA1 := (b5.block _ (heap_lt HF1.out)).trans HF1.out
  have hA2 := (b5.block _ (heap_lt HF2.out)).trans HF2.out
  have hA3 := (b5.block _ (heap_lt HF3.out)).trans HF3.out
  have hA4 := (b5.block _ (heap_lt HF4.out)).trans HF4.out
  have HA3 := Lib.hid hA3
  have HA4 := Lib.hid hA4
  have HX5 := Lib.hid (row_below (ExAt.frames 5) HRX.out b5)
  have HY5 := Lib.hid (row_below (ExAt.frames 5) HRY.out b5)
  have p0 := cell_blk (i := 0) hA1; have p1 := cell_blk (i := 1) hA1; have p2 := cell_blk (i := 2) hA1; have pf0 := free_blk (i := 0) hA1; have pf1 := free_blk (i := 1) hA1; have pf2 := free_blk (i := 2) hA1; simp at p0 p1 p2
  have q0 := cell_blk (i := 0) hA2; have q1 := cell_blk (i := 1) hA2; have q2 := cell_blk (i := 2) hA2; have qf0 := free_blk (i := 0) hA2; have qf1 := free_blk (i := 1) hA2; have qf2 := free_blk (i := 2) hA2; simp at q0 q1 q2
  clear hA1 hA2 hA3 hA4 b5
  go_wp2_with fail
  refine (exprs_yes 5 w5 _ _ xs xa ya xn xc yn yc HX5.out HY5.out).mono ?_
  rintro e w6 ⟨rfl, b6⟩
  have hsz6 := b6.size
  have hA3 := (b6.block _ (heap_lt HA3.out)).trans HA3.out
  have hA4 := (b6.block _ (heap_lt HA4.out)).trans HA4.out
  have K6 : Hid (Below W.heap.size W w6) := K5.out.trans (b6.mono hsz5)
  have u0 := cell_blk (i := 0) hA3; have u1 := cell_blk (i := 1) hA3; have u2 := cell_blk (i := 2) hA3; have uf0 := free_blk (i := 0) hA3; have uf1 := free_blk (i := 1) hA3; have uf2 := free_blk (i := 2) hA3; simp at u0 u1 u2
  have v0 := cell_blk (i := 0) hA4; have v1 := cell_blk (i := 1) hA4; have v2 := cell_blk (i := 2) hA4; have vf0 := free_blk (i := 0) hA4; have vf1 := free_blk (i := 1) hA4; have vf2 := free_blk (i := 2) hA4; simp at v0 v1 v2
  clear hA3 hA4 b6
  have HRA6 := Lib.hid (row_below CdAt.frames HRA.out K6.out)
  have HRB6 := Lib.hid (row_below CdAt.frames HRB.out K6.out)
  have HT6 := Lib.hid (HTW.out.below K6.out)
  have KB6 : Hid (Below w.heap.size w w6) := KB.out.trans (K6.out.mono (by omega))
  obtain ⟨b, o, c0, hv, ho, hlen, hshape⟩ := shape_of HRA6.out
  cases hv
  have HSh := Lib.hid hshape
  have HO := Lib.hid ho
  have hlen2 := hlen
  unfold maxLen at hlen2
  have HLen := Lib.hid hlen
  clear hshape ho hlen
  generalize hnn : cs.length = N at *
  have HNN := Lib.hid hnn
  clear hnn
  go_wp2_with fail
  go_loopw [61] (fun vi wr => ∃ k : Nat, vi = .int .i64 k ∧ k ≤ N ∧ Shape wr (fun i => From w.heap.size i ∧ i < w1.heap.size) b N ∧ Below w.heap.size w wr ∧ RowAt wr (From w1.heap.size) 38 6 CdAt (.slice a' n' c') cs) (fun vi _ => N - (RowKit.intOf vi).toNat)
  case atStart => exact ⟨0, rfl, Nat.zero_le _, HSh.out, KB6.out, HRB6.out⟩
  case round =>
  obtain ⟨k, rfl, hk, hsh, hbw, hrb⟩ := hrel
  have HS := Lib.hid hsh
  have HBW := Lib.hid hbw
  have HB := Lib.hid hrb
  by_cases hkn : k < N
  · obtain ⟨⟨nm, hnm⟩, ea, em, ec, h5c, hme, hpay⟩ := hsh.all k hkn
    obtain ⟨⟨hSb, hSb1⟩, csb, hblk⟩ := hsh.blk (by omega)
    have hob := HO.out (by omega)
    subst hob
    have fz0 := free_blk (i := k * 6) hblk
    have hbl : b < wr.heap.size := heap_lt hblk
    have hi1 : (k : Int) < (N : Int) := by omega
    have HS1 := Lib.hid (hsh.name k ⟨#[]⟩)
    have HB1 : Hid (RowAt (wr.setCell ⟨b, k * 6, none⟩ (.string ⟨#[]⟩)) (From w1.heap.size) 38 6 CdAt (.slice a' n' c') cs) := row_set CdAt.frames hrb (fun i hi => by unfold From at hi; simp; omega)
    have HBW1 : Hid (Below w.heap.size w (wr.setCell ⟨b, k * 6, none⟩ (.string ⟨#[]⟩))) := hbw.setCell (p := ⟨b, k * 6, none⟩) (by unfold From at hSb; exact hSb) _
    have H5 := Lib.hid (set_other (i := k * 6) (j := k * 6 + 5) (u := .string ⟨#[]⟩) hblk h5c (by omega))
    unfold maxLen at hme
    clear hsh hbw hrb hpay
    go_wp2_with fail
    go_loopw [74] (fun vj wq => ∃ j : Nat, vj = .int .i64 j ∧ j ≤ em ∧ Shape wq (fun i => From w.heap.size i ∧ i < w1.heap.size) b N ∧ Below w.heap.size w wq ∧ RowAt wq (From w1.heap.size) 38 6 CdAt (.slice a' n' c') cs ∧ wq.cell? ⟨b, k * 6 + 5, none⟩ = some (.slice ea em ec)) (fun vj _ => em - (RowKit.intOf vj).toNat)
    case atStart => exact ⟨0, rfl, Nat.zero_le _, HS1.out, HBW1.out, HB1.out, H5.out⟩
    case round =>
      obtain ⟨j, rfl, hj, hsh, hbw, hrb, h5⟩ := hrel
      have HS := Lib.hid hsh
      have HBW := Lib.hid hbw
      have HB := Lib.hid hrb
      by_cases hjm : j < em
      · obtain ⟨-, ea', em', ec', h5', -, hpay⟩ := hsh.all k hkn
        have he := Option.some.inj (h5.symm.trans h5')
        cases he
        obtain ⟨g, p, rfl, hgb, ⟨hSg, hSg1⟩, ⟨csg, hblg⟩, hcg⟩ := hpay.all j hjm
        have fzg := free_blk (i := j * 12 + 4) hblg
        have hgl : g < wr.heap.size := heap_lt hblg
        have hi2 : (j : Int) < (em : Int) := by omega
        have HS2 := Lib.hid (hsh.pay (i := j) 7 hgb ⟨_, hblg⟩)
        have HB2 : Hid (RowAt (wr.setCell ⟨g, j * 12 + 4, none⟩ (.int .i64 7)) (From w1.heap.size) 38 6 CdAt (.slice a' n' c') cs) := row_set CdAt.frames hrb (fun i hi => by unfold From at hi; simp; omega)
        have HBW2 : Hid (Below w.heap.size w (wr.setCell ⟨g, j * 12 + 4, none⟩ (.int .i64 7))) := hbw.setCell (p := ⟨g, j * 12 + 4, none⟩) (by unfold From at hSg; exact hSg) _
        have H52 := Lib.hid (cell_far (a := ⟨g, j * 12 + 4, none⟩) (u := .int .i64 7) h5 (Ne.symm hgb))
        have hbl2 : b < wr.heap.size := World.block_lt_of_cell? _ _ h5
        clear hsh hbw hrb hpay h5' HS HBW HB
        go_wp2
        go_roundw
        case rel => exact ⟨j + 1, by go_num, hjm, HS2.out, HBW2.out, HB2.out, H52.out⟩
        case measure => simp [RowKit.intOf]; omega
      · have hi2 : ¬ ((j : Int) < (em : Int)) := by omega
        clear hsh hbw hrb h5
        go_wp2
        go_roundw
        case rel => exact ⟨k + 1, by go_num, hkn, HS.out, HBW.out, HB.out⟩
        case measure => simp [RowKit.intOf]; omega
  · have hi1 : ¬ ((k : Int) < (N : Int)) := by omega
    have HTr := Lib.hid (HT.out.below hbw)
    clear hsh hbw hrb
    go_wp2_with fail
    refine (hP.out _ HTr.out).mono ?_
    rintro e w7 ⟨za, zn, zc, g1, g2, g3, rfl, hrow, hf, b7⟩
    cases hf
    have hsz7 := b7.size
    have ZROW := Lib.hid (hrow.frame (w' := w7.alloc (.cells #[.int .i64 f1, .int .i64 f2, .int .i64 f3] 28)) (S' := fun _ => True) CdAt.frames fun i hi hl => ⟨trivial, Below.heap_alloc _ _ _ hl⟩)
    have BR7 := Lib.hid ((row_below CdAt.frames HB.out b7).frame (w' := w7.alloc (.cells #[.int .i64 f1, .int .i64 f2, .int .i64 f3] 28)) (S' := fun _ => True) CdAt.frames fun i hi hl => ⟨trivial, Below.heap_alloc _ _ _ hl⟩)
    have KB7 : Hid (Below w.heap.size w (w7.alloc (.cells #[.int .i64 f1, .int .i64 f2, .int .i64 f3] 28))) := (HBW.out.trans (b7.mono HBW.out.size)).alloc (by have := HBW.out.size; omega) _
    have T7 := Lib.hid (HT.out.below KB7.out)
    clear hrow b7
    go_wp2_with fail
    refine (cards_yes _ _ _ cs za a' zn zc n' c' ZROW.out BR7.out).mono ?_
    rintro e w8 ⟨rfl, b8⟩
    have hsz8 := b8.size
    have T8 := Lib.hid (T7.out.below b8)
    have KB8 : Hid (Below w.heap.size w w8) := KB7.out.trans (b8.mono KB7.out.size)
    clear b8
    go_wp2_with fail
    refine (plives_any _ T8.out).mono ?_
    rintro e w9 ⟨rfl, b9⟩
    have KB9 : Hid (Below w.heap.size w w9) := KB8.out.trans (b9.mono KB8.out.size)
    clear b9
    go_wp2
    go_ret
    exact ⟨rfl, KB9.out⟩
end Go.Proofs.YtmhpopkbmnhkkaaGreatDoor
