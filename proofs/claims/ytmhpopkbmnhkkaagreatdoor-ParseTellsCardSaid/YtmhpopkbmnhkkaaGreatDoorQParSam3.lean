import Derived.Test.YtmhpopkbmnhkkaaGreatDoorQParSam2
import Derived.RegionTactic
import Derived.ChangeAlike
import Derived.BigRegion
/- joustref00: an effect that is the same is told so. -/
namespace Go.Proofs.YtmhpopkbmnhkkaaGreatDoor
open Go.RowKit Go.Lib

theorem StAt.slices {w : World} {S : Nat → Prop} {c : List Value} {x : St} (h : StAt w S c x) : ∃ a n m, c = stV x (exV x.n (.slice a n m)) ∧ ExAt 5 w S (exV x.n (.slice a n m)) x.n := by
  obtain ⟨ce, hc, he⟩ := h
  obtain ⟨a, n, m, rfl⟩ := he.slices
  exact ⟨a, n, m, hc, he⟩

set_option maxHeartbeats 4000000 in
set_option maxRecDepth 100000 in
theorem effect_yes : EffectYes := by
  intro W S1 S2 x pa qa pn pc qn qc pd qd pm pe qm qe h1 h2
  obtain ⟨vc, vs, hv, rc1, rs1⟩ := h1
  obtain ⟨uc, us, hu, rc2, rs2⟩ := h2
  obtain ⟨e1, e2⟩ := efV_inj hv
  obtain ⟨e3, e4⟩ := efV_inj hu
  subst e1 e2 e3 e4
  clear hv hu
  have hcond : Hid (∀ W', Below W.heap.size W W' → Calls Tryz.prog 13 #[.slice pa pn pc, .slice qa qn qc] W' fun e w' => e = .returned (.bool true) ∧ Below W'.heap.size W' w') := fun W' hb =>
    exprs_yes 5 W' S1 S2 x.cond pa qa pn pc qn qc (rc1.frame (ExAt.frames 5) fun i hs hl => ⟨hs, hb.block i hl⟩) (rc2.frame (ExAt.frames 5) fun i hs hl => ⟨hs, hb.block i hl⟩)
  clear rc1 rc2
  obtain ⟨m, ev, sd, cd, pay, dr, tr, pk, ⟨k1, k2, k3⟩, xs⟩ := x
  simp only [] at rs1 rs2 ⊢
  rcases rs1.open with ⟨hv, hn⟩ | ⟨ga, ca, hv, hca, hcm, -, hga, -, ha⟩
  · cases hv
    subst hn
    have hm : qm = 0 := by
      rcases rs2.open with ⟨hv, _⟩ | ⟨g, cap, hv, _⟩
      · cases hv; rfl
      · cases hv; rfl
    subst hm
    clear rs1 rs2
    go_enter Tryz.func86, Tryz.ntmps86
    go_wp2_with fail
    refine (hcond.out _ (by repeat (first | (with_reducible exact Below.refl _ _) | (with_reducible assumption) | ((with_reducible refine Below.setCell ?_ ?_ _); rotate_left; focus (simp; done)) | ((with_reducible refine Below.alloc ?_ ?_ _); rotate_left; focus (simp; done)) | (with_reducible refine Below.drew ?_)))).mono ?_
    rintro e w1 ⟨rfl, b1⟩
    have B1 : Hid (Below W.heap.size W w1) := Below.trans ((by repeat (first | (with_reducible exact Below.refl _ _) | (with_reducible assumption) | ((with_reducible refine Below.setCell ?_ ?_ _); rotate_left; focus (simp; done)) | ((with_reducible refine Below.alloc ?_ ?_ _); rotate_left; focus (simp; done)) | (with_reducible refine Below.drew ?_)))) (b1.mono (by simp; omega))
    have z1 : w1.cell? ⟨W.heap.size, 11, none⟩ = some (.slice none 0 0) := below_cell b1 (by rw [cell_blk (heap_old (heap_alloc_new _ _))]; rfl) (by simp; omega)
    have z2 : w1.cell? ⟨W.heap.size + 1, 11, none⟩ = some (.slice qd 0 qe) := below_cell b1 (by rw [cell_blk (heap_new_at _ _ _ (by simp))]; rfl) (by simp)
    clear b1
    go_wp2
    refine wp_loop_rounds 1 ?_
    rw [rounds_succ]
    go_wp2
    go_ret
    exact ⟨rfl, B1.out⟩
  · cases hv
    rcases rs2.open with ⟨hv, hn⟩ | ⟨gb, cb, hv, hcb, hcmb, -, hgb, -, hb⟩
    · cases hv
      subst hn
      clear rs1 rs2 ha
      simp only [List.length_nil] at *
      go_enter Tryz.func86, Tryz.ntmps86
      go_wp2_with fail
      refine (hcond.out _ (by repeat (first | (with_reducible exact Below.refl _ _) | (with_reducible assumption) | ((with_reducible refine Below.setCell ?_ ?_ _); rotate_left; focus (simp; done)) | ((with_reducible refine Below.alloc ?_ ?_ _); rotate_left; focus (simp; done)) | (with_reducible refine Below.drew ?_)))).mono ?_
      rintro e w1 ⟨rfl, b1⟩
      have B1 : Hid (Below W.heap.size W w1) := Below.trans ((by repeat (first | (with_reducible exact Below.refl _ _) | (with_reducible assumption) | ((with_reducible refine Below.setCell ?_ ?_ _); rotate_left; focus (simp; done)) | ((with_reducible refine Below.alloc ?_ ?_ _); rotate_left; focus (simp; done)) | (with_reducible refine Below.drew ?_)))) (b1.mono (by simp; omega))
      have z1 : w1.cell? ⟨W.heap.size, 11, none⟩ = some (.slice (some ⟨ga, 0, none⟩) 0 pe) := below_cell b1 (by rw [cell_blk (heap_old (heap_alloc_new _ _))]; rfl) (by simp; omega)
      have z2 : w1.cell? ⟨W.heap.size + 1, 11, none⟩ = some (.slice none 0 0) := below_cell b1 (by rw [cell_blk (heap_new_at _ _ _ (by simp))]; rfl) (by simp)
      clear b1
      go_wp2
      refine wp_loop_rounds 1 ?_
      rw [rounds_succ]
      go_wp2
      go_ret
      exact ⟨rfl, B1.out⟩
    · cases hv
      have HA := Lib.hid ha
      have HB := Lib.hid hb
      unfold maxLen at hcm hcmb
      clear rs1 rs2 ha hb
      obtain ⟨N, hN⟩ : ∃ N, N = xs.length := ⟨_, rfl⟩
      rw [← hN] at hca hcb ⊢
      have HN := Lib.hid hN
      clear hN
      have q0 : ((N : Int) == (N : Int)) = true := by simp
      have HX1 := Lib.hid (heap_old (o' := .cells #[.int .u8 m, .int .u8 ev, .int .u8 sd, .slice qa qn qc, .int .i64 pay, .int .i64 dr, .bool tr, .int .i64 pk, .int .u8 k1, .int .u8 k2, .int .u8 k3, .slice (some ⟨gb, 0, none⟩) N qe] 43) (heap_alloc_new W (.cells #[.int .u8 m, .int .u8 ev, .int .u8 sd, .slice pa pn pc, .int .i64 pay, .int .i64 dr, .bool tr, .int .i64 pk, .int .u8 k1, .int .u8 k2, .int .u8 k3, .slice (some ⟨ga, 0, none⟩) N pe] 43)))
      have HX2 := Lib.hid (heap_new_at (W.alloc (.cells #[.int .u8 m, .int .u8 ev, .int .u8 sd, .slice pa pn pc, .int .i64 pay, .int .i64 dr, .bool tr, .int .i64 pk, .int .u8 k1, .int .u8 k2, .int .u8 k3, .slice (some ⟨ga, 0, none⟩) N pe] 43)) (.cells #[.int .u8 m, .int .u8 ev, .int .u8 sd, .slice qa qn qc, .int .i64 pay, .int .i64 dr, .bool tr, .int .i64 pk, .int .u8 k1, .int .u8 k2, .int .u8 k3, .slice (some ⟨gb, 0, none⟩) N qe] 43) (W.heap.size + 1) (by simp))
      have HW0 := Lib.hid (((Below.refl W.heap.size W).alloc (Nat.le_refl _) (.cells #[.int .u8 m, .int .u8 ev, .int .u8 sd, .slice pa pn pc, .int .i64 pay, .int .i64 dr, .bool tr, .int .i64 pk, .int .u8 k1, .int .u8 k2, .int .u8 k3, .slice (some ⟨ga, 0, none⟩) N pe] 43)).alloc (by simp) (.cells #[.int .u8 m, .int .u8 ev, .int .u8 sd, .slice qa qn qc, .int .i64 pay, .int .i64 dr, .bool tr, .int .i64 pk, .int .u8 k1, .int .u8 k2, .int .u8 k3, .slice (some ⟨gb, 0, none⟩) N qe] 43))
      go_enter Tryz.func86, Tryz.ntmps86
      go_wp2_with fail
      refine (hcond.out _ HW0.out).mono ?_
      rintro e w1 ⟨rfl, b1⟩
      have B1 : Hid (Below (W.heap.size + 2) ((W.alloc (.cells #[.int .u8 m, .int .u8 ev, .int .u8 sd, .slice pa pn pc, .int .i64 pay, .int .i64 dr, .bool tr, .int .i64 pk, .int .u8 k1, .int .u8 k2, .int .u8 k3, .slice (some ⟨ga, 0, none⟩) N pe] 43)).alloc (.cells #[.int .u8 m, .int .u8 ev, .int .u8 sd, .slice qa qn qc, .int .i64 pay, .int .i64 dr, .bool tr, .int .i64 pk, .int .u8 k1, .int .u8 k2, .int .u8 k3, .slice (some ⟨gb, 0, none⟩) N qe] 43)) w1) := b1.mono (by simp)
      have y1 : w1.cell? ⟨W.heap.size, 11, none⟩ = some (.slice (some ⟨ga, 0, none⟩) N pe) := below_cell B1.out (by rw [cell_blk HX1.out]; rfl) (by simp)
      have y2 : w1.cell? ⟨W.heap.size + 1, 11, none⟩ = some (.slice (some ⟨gb, 0, none⟩) N qe) := below_cell B1.out (by rw [cell_blk HX2.out]; rfl) (by simp)
      clear b1
      go_wp2
      go_loopw [5, 6] (fun vs vi wr => ∃ k : Nat, vs = .bool true ∧ vi = .int .i64 k ∧ k ≤ N ∧ Below (W.heap.size + 2) ((W.alloc (.cells #[.int .u8 m, .int .u8 ev, .int .u8 sd, .slice pa pn pc, .int .i64 pay, .int .i64 dr, .bool tr, .int .i64 pk, .int .u8 k1, .int .u8 k2, .int .u8 k3, .slice (some ⟨ga, 0, none⟩) N pe] 43)).alloc (.cells #[.int .u8 m, .int .u8 ev, .int .u8 sd, .slice qa qn qc, .int .i64 pay, .int .i64 dr, .bool tr, .int .i64 pk, .int .u8 k1, .int .u8 k2, .int .u8 k3, .slice (some ⟨gb, 0, none⟩) N qe] 43)) wr) (fun _ vi _ => N - (RowKit.intOf vi).toNat)
      case atStart => exact ⟨0, by rfl, rfl, by omega, B1.out⟩
      case round =>
        obtain ⟨i, rfl, rfl, hi, hbw⟩ := hrel
        have z1 : wr.cell? ⟨W.heap.size, 11, none⟩ = some (.slice (some ⟨ga, 0, none⟩) N pe) := below_cell hbw (by rw [cell_blk HX1.out]; rfl) (by simp)
        have z2 : wr.cell? ⟨W.heap.size + 1, 11, none⟩ = some (.slice (some ⟨gb, 0, none⟩) N qe) := below_cell hbw (by rw [cell_blk HX2.out]; rfl) (by simp)
        have hbW : Below W.heap.size W wr := HW0.out.trans (hbw.mono (by omega))
        by_cases hlt : i < N
        · obtain ⟨x, hx⟩ : ∃ x, xs[i]? = some x := ⟨xs[i]'(by have := HN.out; omega), List.getElem?_eq_getElem _⟩
          obtain ⟨cA, -, pA, fA⟩ := HA.out i x hx
          obtain ⟨cB, -, pB, fB⟩ := HB.out i x hx
          obtain ⟨va, vn, vc, rfl, eA⟩ := pA.slices
          obtain ⟨ua, un, uc, rfl, eB⟩ := pB.slices
          have hcall : Hid (∀ W', Below W.heap.size W W' → _) := fun W' hb => expr_yes 5 W' _ _ x.n va ua vn vc un uc (ExAt.frames 5 _ _ _ _ _ _ eA fun j hs hl => ⟨hs, hb.block j hl⟩) (ExAt.frames 5 _ _ _ _ _ _ eB fun j hs hl => ⟨hs, hb.block j hl⟩)
          have a0 := cell_later hbW (fA 0 _ (by omega) rfl)
          have a1 := cell_later hbW (fA 1 _ (by omega) rfl)
          have a2 := cell_later hbW (fA 2 _ (by omega) rfl)
          have a3 := cell_later hbW (fA 3 _ (by omega) rfl)
          have a4 := cell_later hbW (fA 4 _ (by omega) rfl)
          have a5 := cell_later hbW (fA 5 _ (by omega) rfl)
          have a6 := cell_later hbW (fA 6 _ (by omega) rfl)
          have a7 := cell_later hbW (fA 7 _ (by omega) rfl)
          have a8 := cell_later hbW (fA 8 _ (by omega) rfl)
          have a9 := cell_later hbW (fA 9 _ (by omega) rfl)
          have a10 := cell_later hbW (fA 10 _ (by omega) rfl)
          have a11 := cell_later hbW (fA 11 _ (by omega) rfl)
          have a12 := cell_later hbW (fA 12 _ (by omega) rfl)
          have b0 := cell_later hbW (fB 0 _ (by omega) rfl)
          have b1 := cell_later hbW (fB 1 _ (by omega) rfl)
          have b2 := cell_later hbW (fB 2 _ (by omega) rfl)
          have b3 := cell_later hbW (fB 3 _ (by omega) rfl)
          have b4 := cell_later hbW (fB 4 _ (by omega) rfl)
          have b5 := cell_later hbW (fB 5 _ (by omega) rfl)
          have b6 := cell_later hbW (fB 6 _ (by omega) rfl)
          have b7 := cell_later hbW (fB 7 _ (by omega) rfl)
          have b8 := cell_later hbW (fB 8 _ (by omega) rfl)
          have b9 := cell_later hbW (fB 9 _ (by omega) rfl)
          have b10 := cell_later hbW (fB 10 _ (by omega) rfl)
          have b11 := cell_later hbW (fB 11 _ (by omega) rfl)
          have b12 := cell_later hbW (fB 12 _ (by omega) rfl)
          simp only [Nat.add_zero] at a0 b0
          obtain ⟨xd, xs', ⟨eo, en, es, ⟨g1, g2, g3⟩, el⟩, xb, ⟨h1, h2, h3⟩⟩ := x
          simp only [Ex.op, Ex.n, Ex.side, Ex.sel] at *
          clear pA pB fA fB hx eA eB
          have i1 : (i : Int) < (N : Int) := by omega
          have i0 : (0 : Int) ≤ (i : Int) := by omega
          have HBW := Lib.hid hbw
          have HBw := Lib.hid hbW
          clear hbw hbW
          go_wp2_with fail
          have hzz : W.heap.size + 2 ≤ wr.heap.size := by have := HBW.out.size; simpa using this
          have l1 : W.heap.size < wr.heap.size := by omega
          have l2 : W.heap.size + 1 < wr.heap.size := by omega
          have l3 : ga < wr.heap.size := by omega
          have l4 : gb < wr.heap.size := by omega
          have l5 : W.heap.size < wr.heap.size + 1 := by omega
          have l6 : W.heap.size + 1 < wr.heap.size + 1 := by omega
          have l7 : ga < wr.heap.size + 1 := by omega
          have l8 : gb < wr.heap.size + 1 := by omega
          go_region
          all_goals
            go_wp2_with fail
            refine (hcall.out _ (by first | exact (((HBw.out.alloc (by omega) _).alloc (by simp; omega) _).drew) | exact (((HBw.out.drew.alloc (by simp; omega) _).alloc (by simp; omega) _)))).mono ?_
            rintro e w2 ⟨rfl, b2⟩
            have HB2 : Hid (Below (W.heap.size + 2) ((W.alloc (.cells #[.int .u8 m, .int .u8 ev, .int .u8 sd, .slice pa pn pc, .int .i64 pay, .int .i64 dr, .bool tr, .int .i64 pk, .int .u8 k1, .int .u8 k2, .int .u8 k3, .slice (some ⟨ga, 0, none⟩) N pe] 43)).alloc (.cells #[.int .u8 m, .int .u8 ev, .int .u8 sd, .slice qa qn qc, .int .i64 pay, .int .i64 dr, .bool tr, .int .i64 pk, .int .u8 k1, .int .u8 k2, .int .u8 k3, .slice (some ⟨gb, 0, none⟩) N qe] 43)) w2) := by first | exact (((HBW.out.alloc (by omega) _).alloc (by simp; omega) _).drew).trans (b2.mono (by simp; omega)) | exact (((HBW.out.drew.alloc (by simp; omega) _).alloc (by simp; omega) _)).trans (b2.mono (by simp; omega))
            clear b2
            go_wp2
            go_roundw
            case rel => exact ⟨i + 1, by rfl, by go_num, by omega, HB2.out⟩
            case measure => simp [RowKit.intOf]; omega
        · go_wp2
          go_ret
          exact ⟨rfl, hbW⟩

theorem card_yes : CardYes := card_by effect_yes
theorem cards_yes (W : World) (S1 S2 : Nat → Prop) (xs : List Cd) (a b : Option Addr) (n c m d : Nat) (h1 : RowAt W S1 38 6 CdAt (.slice a n c) xs) (h2 : RowAt W S2 38 6 CdAt (.slice b m d) xs) :
    Calls Tryz.prog 12 #[.slice a n c, .slice b m d] W fun e w' => e = .returned (.bool true) ∧ Below W.heap.size W w' := cards_by card_yes W S1 S2 xs a b n c m d h1 h2
end Go.Proofs.YtmhpopkbmnhkkaaGreatDoor
