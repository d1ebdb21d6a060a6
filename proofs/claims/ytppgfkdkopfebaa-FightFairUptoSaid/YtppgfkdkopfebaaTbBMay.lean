/- board: May says yes of a table that may be. -/
import Derived.Test.YtppgfkdkopfebaaTbMay
import Derived.Test.YtppgfkdkopfebaaTbPlacesMay
import Derived.Test.YtppgfkdkopfebaaTbZone
namespace Go.Proofs.Ytppgfkdkopfebaa
open Go.RowKit Go.Lib

set_option maxHeartbeats 1000000 in
set_option maxRecDepth 100000 in
theorem bmay_zero (t : Tb) (w : World) (h : t.tn < 1) : Calls Try.prog 25 #[.agg t.row] w fun e w' => e = .returned (.bool false) ∧ Below w.heap.size w w' := by
  simp only [Tb.row]
  go_enter Try.func25, Try.ntmps25
  go_wp2_with fail
  go_ret
  exact ⟨rfl, (Below.refl _ _).alloc (Nat.le_refl _) _⟩

set_option maxHeartbeats 8000000 in
set_option maxRecDepth 100000 in
theorem bmay_yes (t : Tb) (xs : List Cd) (ps : List Pc) (w : World) (hT : TabIn w t xs ps) (hL : LifeOk t) (hG : GoodB xs ps) : Calls Try.prog 25 #[.agg t.row] w fun e w' => e = .returned (.bool true) ∧ Below w.heap.size w w' := by
  obtain ⟨qk, nk, ck, qp, np, cp, vl0, vl1, tn, py, mo, qe, ne, ce, vb0, vb1⟩ := t
  have HN := Lib.hid hT.np
  have HK := Lib.hid hT.nk
  have HT := Lib.hid hT
  have HG := Lib.hid hG
  have hpl := Lib.hid fun (W : World) (hb : Below w.heap.size w W) => bplaces_yes ⟨qk, nk, ck, qp, np, cp, vl0, vl1, tn, py, mo, qe, ne, ce, vb0, vb1⟩ xs ps W (hT.below hb) hG
  have hko := Lib.hid fun (W : World) (hb : Below w.heap.size w W) (d : Int) => bkindOf_any ⟨qk, nk, ck, qp, np, cp, vl0, vl1, tn, py, mo, qe, ne, ce, vb0, vb1⟩ xs ps d W (hT.below hb)
  dsimp only at HN HK hpl hko
  have h1 : ¬ tn < 1 := by have := hL.tn; dsimp only at this; omega
  have h2 : ¬ (py : Int) > 1 := by have := hL.py; dsimp only at this; omega
  have h3 : ¬ (np : Int) > 144 := by have := hG.few; have := HN.out.1; omega
  have h4 : np ≤ 144 := by omega
  have l0 : ¬ vl0 < 0 := by have := hL.l0; dsimp only at this; omega
  have l1 : ¬ vl0 > 99999 := by have := hL.l0; dsimp only at this; omega
  have l2 : ¬ vl1 < 0 := by have := hL.l1; dsimp only at this; omega
  have l3 : ¬ vl1 > 99999 := by have := hL.l1; dsimp only at this; omega
  clear hT hL hG
  obtain ⟨w0, hw0⟩ : ∃ w0, w0 = w.alloc (.cells (Tb.row ⟨qk, nk, ck, qp, np, cp, vl0, vl1, tn, py, mo, qe, ne, ce, vb0, vb1⟩) 28) := ⟨_, rfl⟩
  have hb0 : Below w.heap.size w w0 := by rw [hw0]; exact (Below.refl _ _).alloc (Nat.le_refl _) _
  have hx0 : w0.heap[w.heap.size]? = some (.cells (Tb.row ⟨qk, nk, ck, qp, np, cp, vl0, vl1, tn, py, mo, qe, ne, ce, vb0, vb1⟩) 28 (0, 0)) := by rw [hw0]; exact heap_alloc_new _ _
  have HB0 := Lib.hid hb0
  have HX0 := Lib.hid hx0
  have HW0 := Lib.hid hw0
  clear hb0 hx0 hw0
  simp only [Tb.row] at *
  have hix0 : ∀ W : World, (Instr.index 24 (.agg #[.int .i64 vl0, .int .i64 vl1]) (.int .i64 0)).run Try.prog W = .ok (.int .i64 vl0) W := fun W => by kernel_rfl
  have hix1 : ∀ W : World, (Instr.index 24 (.agg #[.int .i64 vl0, .int .i64 vl1]) (.int .i64 1)).run Try.prog W = .ok (.int .i64 vl1) W := fun W => by kernel_rfl
  go_enter Try.func25, Try.ntmps25
  go_wp2_with fail
  rw [← HW0.out]
  go_loopw [23] (fun vi wr => (vi = .int .i64 0 ∨ vi = .int .i64 1 ∨ vi = .int .i64 2) ∧ wr = w0) (fun vi _ => 2 - (RowKit.intOf vi).toNat)
  case atStart => exact ⟨.inl rfl, rfl⟩
  case round =>
    obtain ⟨hk3, rfl⟩ := hrel
    rcases hk3 with rfl | rfl | rfl
    · go_wp2_with fail
      go_roundw
      case rel => exact ⟨.inr (.inl rfl), by first | trivial | rfl⟩
      case measure => simp [RowKit.intOf]
    · go_wp2_with fail
      go_roundw
      case rel => exact ⟨.inr (.inr rfl), by first | trivial | rfl⟩
      case measure => simp [RowKit.intOf]
    · have y1 := cell_blk (i := 1) HX0.out
      simp at y1
      have hlt0 := heap_lt HX0.out
      clear hix0 hix1 l0 l1 l2 l3
      go_wp2_with fail
      rename World => w0
      go_loopw [36] (fun vi wr => ∃ k : Nat, vi = .int .i64 k ∧ k ≤ np ∧ Below w0.heap.size w0 wr) (fun vi _ => np - (RowKit.intOf vi).toNat)
      case atStart => exact ⟨0, by rfl, by omega, Below.refl _ _⟩
      case round =>
        obtain ⟨k, rfl, hk, hbw⟩ := hrel
        rename World => wA
        have hx1 := (hbw.block _ (heap_lt HX0.out)).trans HX0.out
        have hltA := heap_lt hx1
        have z0 := cell_blk (i := 0) hx1
        have z1 := cell_blk (i := 1) hx1
        simp at z0 z1
        have HBW := Lib.hid hbw
        have HBw : Hid (Below w.heap.size w wA) := Lib.hid (HB0.out.trans (hbw.mono HB0.out.size))
        clear hx1 hbw
        by_cases hlt : k < np
        · obtain ⟨p, hp⟩ : ∃ p, ps[k]? = some p := ⟨ps[k]'(by have := HN.out; omega), List.getElem?_eq_getElem _⟩
          obtain ⟨g, o, hq, hg, hc⟩ := HT.out.piece hp
          dsimp only at hq
          subst hq
          have hone := HG.out.one p (List.mem_of_getElem? hp)
          have hc := fun j u hu => cell_later HBw.out (hc j u hu)
          have c0 := hc 0 _ rfl
          have c1 := hc 1 _ rfl
          have c2 := hc 2 _ rfl
          have c3 := hc 3 _ rfl
          have c4 := hc 4 _ rfl
          have c5 := hc 5 _ rfl
          have c6 := hc 6 _ rfl
          have c7 := hc 7 _ rfl
          have c8 := hc 8 _ rfl
          have c9 := hc 9 _ rfl
          have c10 := hc 10 _ rfl
          have c11 := hc 11 _ rfl
          have c12 := hc 12 _ rfl
          have c13 := hc 13 _ rfl
          simp only [Nat.add_zero] at c0
          have HPM := Lib.hid fun W => bpiece_yes xs p nk W hone HK.out.1
          have HZM := Lib.hid fun W => bzone_yes xs p _ W hone rfl
          simp only [pcV] at HPM HZM
          have i0 : (0 : Int) ≤ (k : Int) := by omega
          have i1 : (k : Int) < (np : Int) := by omega
          clear hc hp hone
          go_wp2_with fail
          go_region_held3 (fun w' => w'.cell? ⟨wA.heap.size, 0, none⟩ = some (.int .i64 p.df) ∧ w'.cell? ⟨wA.heap.size, 1, none⟩ = some (.int .i64 p.ak) ∧ w'.cell? ⟨wA.heap.size, 2, none⟩ = some (.int .i64 p.gd) ∧ w'.cell? ⟨wA.heap.size, 3, none⟩ = some (.int .u8 p.ow) ∧ w'.cell? ⟨wA.heap.size, 4, none⟩ = some (.int .u8 p.hs) ∧ w'.cell? ⟨wA.heap.size, 5, none⟩ = some (.int .u8 p.zn) ∧ w'.cell? ⟨wA.heap.size, 6, none⟩ = some (.int .i64 p.pl) ∧ w'.cell? ⟨wA.heap.size, 7, none⟩ = some (.bool p.up) ∧ w'.cell? ⟨wA.heap.size, 8, none⟩ = some (.bool p.lw) ∧ w'.cell? ⟨wA.heap.size, 9, none⟩ = some (.int .i64 p.sc) ∧ w'.cell? ⟨wA.heap.size, 10, none⟩ = some (.int .u8 p.us) ∧ w'.cell? ⟨wA.heap.size, 11, none⟩ = some (.bool p.sk) ∧ w'.cell? ⟨wA.heap.size, 12, none⟩ = some (.bool p.tu) ∧ w'.cell? ⟨wA.heap.size, 13, none⟩ = some (.int .i64 p.bo) ∧ w'.cell? ⟨w.heap.size, 0, none⟩ = some (.slice qk nk ck))
            (first
              | go_keep
              | ((repeat' apply And.intro) <;> (refine cell_later b5 ?_) <;> first | assumption | go_keep | simp_all))
            (first
              | (go_at_call 46; refine (HPM.out _).mono ?_; rintro e w5 ⟨rfl, b5⟩; have B5 : Below w0.heap.size w0 w5 := ((by repeat (first | (with_reducible exact HBW.out) | (with_reducible exact B5) | ((with_reducible refine Below.alloc ?_ ?_ _); rotate_left; focus (have := HBW.out.size; first | omega | (simp; omega))) | (with_reducible refine Below.drew ?_))) : Below w0.heap.size w0 _).trans (b5.mono (by have := HBW.out.size; simp; omega)))
              | (go_at_call 48; refine (hko.out _ (HB0.out.trans (((by repeat (first | (with_reducible exact HBW.out) | (with_reducible exact B5) | ((with_reducible refine Below.alloc ?_ ?_ _); rotate_left; focus (have := HBW.out.size; first | omega | (simp; omega))) | (with_reducible refine Below.drew ?_))) : Below w0.heap.size w0 _).mono HB0.out.size)) _).mono ?_; rintro e w5 ⟨rfl, rfl⟩)
              | (go_at_call 47; refine (HZM.out _).mono ?_; rintro e w5 ⟨rfl, b5⟩; have B6 : Below w0.heap.size w0 w5 := ((by repeat (first | (with_reducible exact HBW.out) | (with_reducible exact B5) | ((with_reducible refine Below.alloc ?_ ?_ _); rotate_left; focus (have := HBW.out.size; first | omega | (simp; omega))) | (with_reducible refine Below.drew ?_))) : Below w0.heap.size w0 _).trans (b5.mono (by have := B5.size; simp; omega))))
          go_wp2_with fail
          go_roundw
          case rel => exact ⟨k + 1, by go_num, by omega, by first | exact B6 | exact B6.drew⟩
          case measure => simp [RowKit.intOf]; omega
        · obtain rfl : k = np := by omega
          go_wp2_with fail
          refine (hpl.out _ HBw.out).mono ?_
          rintro e w2 ⟨rfl, b2⟩
          go_wp2_with fail
          go_ret
          exact ⟨rfl, HBw.out.trans (b2.mono HBw.out.size)⟩
end Go.Proofs.Ytppgfkdkopfebaa
