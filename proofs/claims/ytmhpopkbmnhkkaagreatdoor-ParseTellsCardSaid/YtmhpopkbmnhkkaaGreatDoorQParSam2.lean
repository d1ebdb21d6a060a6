import Derived.Test.YtmhpopkbmnhkkaaGreatDoorQParSame
/- joustref00: a card, an effect that are the same are told so. -/
namespace Go.Proofs.YtmhpopkbmnhkkaaGreatDoor
open Go.RowKit Go.Lib

def EffectYes : Prop := ∀ (W : World) (S1 S2 : Nat → Prop) (x : Ef) (pa qa : Option Addr) (pn pc qn qc : Nat) (pd qd : Option Addr) (pm pe qm qe : Nat), EfAt W S1 (efV x (.slice pa pn pc) (.slice pd pm pe)) x → EfAt W S2 (efV x (.slice qa qn qc) (.slice qd qm qe)) x →
  Calls Tryz.prog 86 #[.agg #[.int .u8 x.mode, .int .u8 x.ev, .int .u8 x.side, .slice pa pn pc, .int .i64 x.pay, .int .i64 x.discard, .bool x.tribute, .int .i64 x.pick, .int .u8 x.sel.side, .int .u8 x.sel.zone, .int .u8 x.sel.kind, .slice pd pm pe], .agg #[.int .u8 x.mode, .int .u8 x.ev, .int .u8 x.side, .slice qa qn qc, .int .i64 x.pay, .int .i64 x.discard, .bool x.tribute, .int .i64 x.pick, .int .u8 x.sel.side, .int .u8 x.sel.zone, .int .u8 x.sel.kind, .slice qd qm qe]] W fun e w' => e = .returned (.bool true) ∧ Below W.heap.size W w'
theorem efV_inj {x y : Ef} {u v u' v' : Value} (h : efV x u v = efV y u' v') : u = u' ∧ v = v' := by
  simp only [efV, List.cons.injEq] at h
  exact ⟨h.2.2.2.1, h.2.2.2.2.2.2.2.2.2.2.2.1⟩
theorem EfAt.slices {w : World} {S : Nat → Prop} {c : List Value} {x : Ef} (h : EfAt w S c x) : ∃ a n m a' n' m', c = efV x (.slice a n m) (.slice a' n' m') := by
  obtain ⟨vc, vs, hc, ⟨css, ho, -, -⟩, ⟨css', ho', -, -⟩⟩ := h
  rcases ho.2 with ⟨rfl, _⟩ | ⟨g, cap, cur, rfl, _⟩ <;> rcases ho'.2 with ⟨rfl, _⟩ | ⟨g', cap', cur', rfl, _⟩ <;> exact ⟨_, _, _, _, _, _, hc⟩
theorem below_cell {B : Nat} {w w' : World} (h : Below B w w') {a : Addr} {v : Value} (hc : w.cell? a = some v) (hb : a.block < B) : w'.cell? a = some v := (h.cell hb).trans hc

set_option maxHeartbeats 4000000 in
set_option maxRecDepth 100000 in
theorem card_by (ih : EffectYes) : CardYes := by
  intro W S1 S2 x a b n c m d h1 h2
  have HI := Lib.hid ih
  obtain ⟨va, hva, r1⟩ := h1
  obtain ⟨vb, hvb, r2⟩ := h2
  rw [← cdV_inj hva] at r1
  rw [← cdV_inj hvb] at r2
  clear hva hvb ih
  obtain ⟨nm, kd, lv, at_, gd, xs⟩ := x
  simp only [] at r1 r2 ⊢
  rcases r1.open with ⟨hv, hn⟩ | ⟨ga, ca, hv, hca, hcm, -, -, -, ha⟩
  · cases hv
    subst hn
    have hm : m = 0 := by
      rcases r2.open with ⟨hv, _⟩ | ⟨g, cap, hv, _⟩
      · cases hv; rfl
      · cases hv; rfl
    subst hm
    clear r1 r2 HI
    go_enter Tryz.func45, Tryz.ntmps45
    go_wp2
    refine wp_loop_rounds 1 ?_
    rw [rounds_succ]
    go_wp2
    go_ret
    exact ⟨rfl, (by repeat (first | (with_reducible exact Below.refl _ _) | (with_reducible assumption) | ((with_reducible refine Below.setCell ?_ ?_ _); rotate_left; focus (simp; done)) | ((with_reducible refine Below.alloc ?_ ?_ _); rotate_left; focus (simp; done)) | (with_reducible refine Below.drew ?_)))⟩
  · cases hv
    rcases r2.open with ⟨hv, hn⟩ | ⟨gb, cb, hv, hcb, hcmb, -, -, -, hb⟩
    · cases hv
      subst hn
      clear r1 r2 HI ha
      simp only [List.length_nil] at *
      go_enter Tryz.func45, Tryz.ntmps45
      go_wp2
      refine wp_loop_rounds 1 ?_
      rw [rounds_succ]
      go_wp2
      go_ret
      exact ⟨rfl, (by repeat (first | (with_reducible exact Below.refl _ _) | (with_reducible assumption) | ((with_reducible refine Below.setCell ?_ ?_ _); rotate_left; focus (simp; done)) | ((with_reducible refine Below.alloc ?_ ?_ _); rotate_left; focus (simp; done)) | (with_reducible refine Below.drew ?_)))⟩
    · cases hv
      have HA := Lib.hid ha
      have HB := Lib.hid hb
      unfold maxLen at hcm hcmb
      have hga : ∀ i y, xs[i]? = some y → ga < W.heap.size := fun i y hy => by
        obtain ⟨cc, hl, -, hf⟩ := ha i y hy
        exact World.block_lt_of_cell? _ _ (hf 0 (cc[0]'(by omega)) (by omega) (List.getElem?_eq_getElem _))
      have hgb : ∀ i y, xs[i]? = some y → gb < W.heap.size := fun i y hy => by
        obtain ⟨cc, hl, -, hf⟩ := hb i y hy
        exact World.block_lt_of_cell? _ _ (hf 0 (cc[0]'(by omega)) (by omega) (List.getElem?_eq_getElem _))
      have HGA := Lib.hid hga
      have HGB := Lib.hid hgb
      clear r1 r2 ha hb hga hgb
      obtain ⟨N, hN⟩ : ∃ N, N = xs.length := ⟨_, rfl⟩
      rw [← hN] at hca hcb ⊢
      have HN := Lib.hid hN
      clear hN
      have q0 : ((N : Int) == (N : Int)) = true := by simp
      have HX1 := Lib.hid (heap_old (o' := .cells #[.string nm, .int .u8 kd, .int .i64 lv, .int .i64 at_, .int .i64 gd, .slice (some ⟨gb, 0, none⟩) N d] 38) (heap_alloc_new W (.cells #[.string nm, .int .u8 kd, .int .i64 lv, .int .i64 at_, .int .i64 gd, .slice (some ⟨ga, 0, none⟩) N c] 38)))
      have HX2 := Lib.hid (heap_new_at (W.alloc (.cells #[.string nm, .int .u8 kd, .int .i64 lv, .int .i64 at_, .int .i64 gd, .slice (some ⟨ga, 0, none⟩) N c] 38)) (.cells #[.string nm, .int .u8 kd, .int .i64 lv, .int .i64 at_, .int .i64 gd, .slice (some ⟨gb, 0, none⟩) N d] 38) (W.heap.size + 1) (by simp))
      have HW0 := Lib.hid (((Below.refl W.heap.size W).alloc (Nat.le_refl _) (.cells #[.string nm, .int .u8 kd, .int .i64 lv, .int .i64 at_, .int .i64 gd, .slice (some ⟨ga, 0, none⟩) N c] 38)).alloc (by simp) (.cells #[.string nm, .int .u8 kd, .int .i64 lv, .int .i64 at_, .int .i64 gd, .slice (some ⟨gb, 0, none⟩) N d] 38))
      go_enter Tryz.func45, Tryz.ntmps45
      go_wp2
      go_loopw [5, 6] (fun vs vi wr => ∃ k : Nat, vs = .bool true ∧ vi = .int .i64 k ∧ k ≤ N ∧ Below (W.heap.size + 2) ((W.alloc (.cells #[.string nm, .int .u8 kd, .int .i64 lv, .int .i64 at_, .int .i64 gd, .slice (some ⟨ga, 0, none⟩) N c] 38)).alloc (.cells #[.string nm, .int .u8 kd, .int .i64 lv, .int .i64 at_, .int .i64 gd, .slice (some ⟨gb, 0, none⟩) N d] 38)) wr) (fun _ vi _ => N - (RowKit.intOf vi).toNat)
      case atStart => exact ⟨0, by rfl, rfl, by omega, Below.refl _ _⟩
      case round =>
        obtain ⟨i, rfl, rfl, hi, hbw⟩ := hrel
        have z1 : wr.cell? ⟨W.heap.size, 5, none⟩ = some (.slice (some ⟨ga, 0, none⟩) N c) := below_cell hbw (by rw [cell_blk HX1.out]; rfl) (by simp)
        have z2 : wr.cell? ⟨W.heap.size + 1, 5, none⟩ = some (.slice (some ⟨gb, 0, none⟩) N d) := below_cell hbw (by rw [cell_blk HX2.out]; rfl) (by simp)
        have hbW : Below W.heap.size W wr := HW0.out.trans (hbw.mono (by omega))
        by_cases hlt : i < N
        · obtain ⟨x, hx⟩ : ∃ x, xs[i]? = some x := ⟨xs[i]'(by have := HN.out; omega), List.getElem?_eq_getElem _⟩
          obtain ⟨cA, -, pA, fA⟩ := HA.out i x hx
          obtain ⟨cB, -, pB, fB⟩ := HB.out i x hx
          obtain ⟨pa, pn, pc, pd, pm, pe, rfl⟩ := pA.slices
          obtain ⟨qa, qn, qc, qd, qm, qe, rfl⟩ := pB.slices
          have hcall : Hid (∀ W', Below W.heap.size W W' → _) := fun W' hb => HI.out W' _ _ x pa qa pn pc qn qc pd qd pm pe qm qe (EfAt.frames _ _ _ _ _ _ pA fun j hs hl => ⟨hs, hb.block j hl⟩) (EfAt.frames _ _ _ _ _ _ pB fun j hs hl => ⟨hs, hb.block j hl⟩)
          have a0 := cell_later hbW (fA 0 _ (by omega) rfl)
          have a1 := cell_later hbW (fA 1 _ (by omega) rfl)
          have a2 := cell_later hbW (fA 2 _ (by omega) rfl)
          have a3 := cell_later hbW (fA 3 _ (by omega) rfl)
          have a4 := cell_later hbW (fA 4 _ (by omega) rfl)
          have a5 := cell_later hbW (fA 5 _ (by omega) rfl)
          have a6 := cell_later hbW (fA 6 _ (by omega) rfl)
          have a7 := cell_later hbW (fA 7 _ (by omega) rfl)
          have a8 := cell_later hbW (fA 8 _ (by omega) rfl)
          have a9 := cell_later hbW (fA 9 _ (by omega) rfl)
          have a10 := cell_later hbW (fA 10 _ (by omega) rfl)
          have a11 := cell_later hbW (fA 11 _ (by omega) rfl)
          have b0 := cell_later hbW (fB 0 _ (by omega) rfl)
          have b1 := cell_later hbW (fB 1 _ (by omega) rfl)
          have b2 := cell_later hbW (fB 2 _ (by omega) rfl)
          have b3 := cell_later hbW (fB 3 _ (by omega) rfl)
          have b4 := cell_later hbW (fB 4 _ (by omega) rfl)
          have b5 := cell_later hbW (fB 5 _ (by omega) rfl)
          have b6 := cell_later hbW (fB 6 _ (by omega) rfl)
          have b7 := cell_later hbW (fB 7 _ (by omega) rfl)
          have b8 := cell_later hbW (fB 8 _ (by omega) rfl)
          have b9 := cell_later hbW (fB 9 _ (by omega) rfl)
          have b10 := cell_later hbW (fB 10 _ (by omega) rfl)
          have b11 := cell_later hbW (fB 11 _ (by omega) rfl)
          simp only [Nat.add_zero] at a0 b0
          clear pA pB fA fB hx
          have i1 : (i : Int) < (N : Int) := by omega
          have i0 : (0 : Int) ≤ (i : Int) := by omega
          have HBW := Lib.hid hbw
          have HBw := Lib.hid hbW
          clear hbw hbW
          go_wp2_with fail
          go_still_tail 10, (by kernel_rfl)
          change wpList _ _ _ _ _ wr.drew
          go_wp2_with fail
          refine (hcall.out _ HBw.out.drew).mono ?_
          rintro e w2 ⟨rfl, b2⟩
          have HB2 := Lib.hid (HBW.out.drew.trans (b2.mono (by have := HBW.out.size; simp at this; simpa using this)))
          clear b2
          go_wp2
          go_roundw
          case rel => exact ⟨i + 1, by rfl, by go_num, by omega, HB2.out⟩
          case measure => simp [RowKit.intOf]; omega
        · go_wp2
          go_ret
          exact ⟨rfl, hbW⟩
end Go.Proofs.YtmhpopkbmnhkkaaGreatDoor
