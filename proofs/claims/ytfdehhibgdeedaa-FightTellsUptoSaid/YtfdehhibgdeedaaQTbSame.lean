import Derived.Test.YtfdehhibgdeedaaQTbA
import Derived.StillTailTactics
import Derived.Deep.RegionHeld3
import Derived.RegionTactic
import Derived.ChangeAlike
import Derived.BigRegion
/- joustref00: expressions, cards of any depth that are the same are told so, wherever they lie. -/
namespace Go.Proofs.Ytfdehhibgdeedaa
open Go.RowKit Go.Lib

theorem exV_one {x y : Ex} {u v : Value} (h : exV x u = exV y v) : u = v := by
  simp only [exV, List.cons.injEq] at h
  exact h.2.2.2.2.2.2.1
theorem cdV_one {x y : Cd} {u v : Value} (h : cdV x u = cdV y v) : u = v := by
  simp only [cdV, List.cons.injEq] at h
  exact h.2.2.2.2.2.1
theorem efV_two {x y : Ef} {u v u' v' : Value} (h : efV x u v = efV y u' v') : u = u' ∧ v = v' := by
  simp only [efV, List.cons.injEq] at h
  exact ⟨h.2.2.2.1, h.2.2.2.2.2.2.2.2.2.2.2.1⟩
theorem ExIn.slices {f k : Nat} {w : World} {c : List Value} {x : Ex} (h : ExIn f k w c x) : ∃ a n m, c = exV x (.slice a n m) := by
  cases k with
  | zero => exact h.elim
  | succ k =>
    obtain ⟨va, hc, q, cc, rfl, -⟩ := h
    exact ⟨_, _, _, hc⟩
theorem EfIn.slices {f k : Nat} {w : World} {c : List Value} {x : Ef} (h : EfIn f k w c x) : ∃ a n m a' n' m', c = efV x (.slice a n m) (.slice a' n' m') := by
  obtain ⟨vc, vs, hc, ⟨q, cc, rfl, -⟩, ⟨q', cc', rfl, -⟩⟩ := h
  exact ⟨_, _, _, _, _, _, hc⟩
theorem CdIn.slices {f k : Nat} {w : World} {c : List Value} {x : Cd} (h : CdIn f k w c x) : ∃ a n m, c = cdV x (.slice a n m) := by
  obtain ⟨va, hc, -, q, cc, rfl, -⟩ := h
  exact ⟨_, _, _, hc⟩
theorem StIn.slices {f k : Nat} {w : World} {c : List Value} {x : St} (h : StIn f k w c x) : ∃ a n m, c = stV x (exV x.n (.slice a n m)) ∧ ExIn f k w (exV x.n (.slice a n m)) x.n := by
  obtain ⟨ce, hc, he⟩ := h
  obtain ⟨a, n, m, rfl⟩ := he.slices
  exact ⟨a, n, m, hc, he⟩

def ExprIn (k : Nat) : Prop := ∀ (W : World) (x : Ex) (a b : Option Addr) (n c m d : Nat), ExIn 0 k W (exV x (.slice a n c)) x → ExIn 0 k W (exV x (.slice b m d)) x →
  Calls Try.prog 77 #[.agg #[.int .u8 x.op, .int .i64 x.n, .int .u8 x.side, .int .u8 x.sel.side, .int .u8 x.sel.zone, .int .u8 x.sel.kind, .slice a n c], .agg #[.int .u8 x.op, .int .i64 x.n, .int .u8 x.side, .int .u8 x.sel.side, .int .u8 x.sel.zone, .int .u8 x.sel.kind, .slice b m d]] W fun e w' => e = .returned (.bool true) ∧ Below W.heap.size W w'
def ExprsIn (k : Nat) : Prop := ∀ (W : World) (v u : Value) (xs : List Ex), RowIn W 7 0 (ExIn 0 k) v xs → RowIn W 7 0 (ExIn 0 k) u xs → Calls Try.prog 76 #[v, u] W fun e w' => e = .returned (.bool true) ∧ Below W.heap.size W w'
def EffectIn (k : Nat) : Prop := ∀ (W : World) (x : Ef) (pa qa : Option Addr) (pn pc qn qc : Nat) (pd qd : Option Addr) (pm pe qm qe : Nat), EfIn 0 k W (efV x (.slice pa pn pc) (.slice pd pm pe)) x → EfIn 0 k W (efV x (.slice qa qn qc) (.slice qd qm qe)) x →
  Calls Try.prog 70 #[.agg #[.int .u8 x.mode, .int .u8 x.ev, .int .u8 x.side, .slice pa pn pc, .int .i64 x.pay, .int .i64 x.discard, .bool x.tribute, .int .i64 x.pick, .int .u8 x.sel.side, .int .u8 x.sel.zone, .int .u8 x.sel.kind, .slice pd pm pe], .agg #[.int .u8 x.mode, .int .u8 x.ev, .int .u8 x.side, .slice qa qn qc, .int .i64 x.pay, .int .i64 x.discard, .bool x.tribute, .int .i64 x.pick, .int .u8 x.sel.side, .int .u8 x.sel.zone, .int .u8 x.sel.kind, .slice qd qm qe]] W fun e w' => e = .returned (.bool true) ∧ Below W.heap.size W w'
def CardIn (k : Nat) : Prop := ∀ (W : World) (x : Cd) (a b : Option Addr) (n c m d : Nat), CdIn 0 k W (cdV x (.slice a n c)) x → CdIn 0 k W (cdV x (.slice b m d)) x →
  Calls Try.prog 53 #[.agg #[.string x.name, .int .u8 x.kind, .int .i64 x.level, .int .i64 x.attack, .int .i64 x.guard, .slice a n c], .agg #[.string x.name, .int .u8 x.kind, .int .i64 x.level, .int .i64 x.attack, .int .i64 x.guard, .slice b m d]] W fun e w' => e = .returned (.bool true) ∧ Below W.heap.size W w'

set_option maxHeartbeats 2000000 in
set_option maxRecDepth 100000 in
theorem expr_in_by (k : Nat) (ih : ExprsIn k) : ExprIn (k + 1) := by
  intro W x a b n c m d ⟨va, e1, r1⟩ ⟨vb, e2, r2⟩
  rw [← exV_one e1] at r1
  rw [← exV_one e2] at r2
  have hc : Hid (∀ W', Below W.heap.size W W' → Calls Try.prog 76 #[.slice a n c, .slice b m d] W' fun e w' => e = .returned (.bool true) ∧ Below W'.heap.size W' w') := Lib.hid fun W' hb =>
    ih W' _ _ x.args (r1.below (ExIn.stays 0 k) hb) (r2.below (ExIn.stays 0 k) hb)
  clear r1 r2 ih e1 e2
  obtain ⟨o, nn, sd, ⟨e1, e2, e3⟩, l⟩ := x
  simp only [Ex.op, Ex.n, Ex.side, Ex.sel] at *
  go_enter Try.func77, Try.ntmps77
  go_wp2_with fail
  refine (hc.out _ (by repeat (first | (with_reducible exact Below.refl _ _) | (with_reducible assumption) | ((with_reducible refine Below.setCell ?_ ?_ _); rotate_left; focus (simp; done)) | ((with_reducible refine Below.alloc ?_ ?_ _); rotate_left; focus (simp; done)) | (with_reducible refine Below.drew ?_)))).mono ?_
  rintro e w1 ⟨rfl, b1⟩
  have B1 : Hid (Below W.heap.size W w1) := Below.trans ((by repeat (first | (with_reducible exact Below.refl _ _) | (with_reducible assumption) | ((with_reducible refine Below.setCell ?_ ?_ _); rotate_left; focus (simp; done)) | ((with_reducible refine Below.alloc ?_ ?_ _); rotate_left; focus (simp; done)) | (with_reducible refine Below.drew ?_)))) (b1.mono (by simp; omega))
  clear b1
  go_wp2
  go_ret
  exact ⟨rfl, B1.out⟩

set_option maxHeartbeats 4000000 in
set_option maxRecDepth 100000 in
theorem exprs_in_by (k : Nat) (ih : ExprIn k) : ExprsIn k := by
  intro W v u xs h1 h2
  obtain ⟨qa, ca, rfl, hl, -, ha⟩ := h1
  obtain ⟨qb, cb, rfl, -, -, hb⟩ := h2
  have HA := Lib.hid ha
  have HB := Lib.hid hb
  have HI := Lib.hid ih
  unfold maxLen at hl
  clear ha hb ih
  obtain ⟨N, hN⟩ : ∃ N, N = xs.length := ⟨_, rfl⟩
  rw [← hN] at hl ⊢
  have HN := Lib.hid hN
  clear hN
  have q0 : ((N : Int) == (N : Int)) = true := by simp
  go_enter Try.func76, Try.ntmps76
  go_wp2
  go_loopw [5, 6] (fun vs vi wr => ∃ k : Nat, vs = .bool true ∧ vi = .int .i64 k ∧ k ≤ N ∧ Below W.heap.size W wr) (fun _ vi _ => N - (RowKit.intOf vi).toNat)
  case atStart => exact ⟨0, by rfl, rfl, by omega, Below.refl _ _⟩
  case round =>
  obtain ⟨i, rfl, rfl, hi, hbw⟩ := hrel
  by_cases hlt : i < N
  · obtain ⟨x, hx⟩ : ∃ x, xs[i]? = some x := ⟨xs[i]'(by have := HN.out; omega), List.getElem?_eq_getElem _⟩
    obtain ⟨ga, oa, rfl, cA, -, pA, fA⟩ := HA.out i x hx
    obtain ⟨gb, ob, rfl, cB, -, pB, fB⟩ := HB.out i x hx
    obtain ⟨va, vn, vc, rfl⟩ := pA.slices
    obtain ⟨ua, un, uc, rfl⟩ := pB.slices
    have hcall : Hid (∀ W', Below W.heap.size W W' → _) := Lib.hid fun W' hb => HI.out W' x va ua vn vc un uc (ExIn.stays 0 k _ _ _ _ pA hb) (ExIn.stays 0 k _ _ _ _ pB hb)
    have a0 := cell_later hbw (fA 0 _ rfl)
    have a1 := cell_later hbw (fA 1 _ rfl)
    have a2 := cell_later hbw (fA 2 _ rfl)
    have a3 := cell_later hbw (fA 3 _ rfl)
    have a4 := cell_later hbw (fA 4 _ rfl)
    have a5 := cell_later hbw (fA 5 _ rfl)
    have a6 := cell_later hbw (fA 6 _ rfl)
    have b0 := cell_later hbw (fB 0 _ rfl)
    have b1 := cell_later hbw (fB 1 _ rfl)
    have b2 := cell_later hbw (fB 2 _ rfl)
    have b3 := cell_later hbw (fB 3 _ rfl)
    have b4 := cell_later hbw (fB 4 _ rfl)
    have b5 := cell_later hbw (fB 5 _ rfl)
    have b6 := cell_later hbw (fB 6 _ rfl)
    simp only [Nat.add_zero] at a0 b0
    clear pA pB fA fB hx
    have i1 : (i : Int) < (N : Int) := by omega
    have i0 : (0 : Int) ≤ (i : Int) := by omega
    have HBW := Lib.hid hbw
    clear hbw
    go_wp2_with fail
    go_still_tail 8, (by kernel_rfl)
    change wpList _ _ _ _ _ wr.drew
    go_wp2_with fail
    refine (hcall.out _ HBW.out.drew).mono ?_
    rintro e w2 ⟨rfl, b2⟩
    have HB2 : Hid (Below W.heap.size W w2) := HBW.out.drew.trans (b2.mono (by have := HBW.out.size; simpa using this))
    clear b2
    go_wp2
    go_roundw
    case rel => exact ⟨i + 1, by rfl, by go_num, by omega, HB2.out⟩
    case measure => simp [RowKit.intOf]; omega
  · go_wp2
    go_ret
    exact ⟨rfl, hbw⟩
theorem expr_in : ∀ k, ExprIn k
  | 0 => fun _ _ _ _ _ _ _ _ h _ => h.elim
  | k + 1 => expr_in_by k (exprs_in_by k (expr_in k))
theorem exprs_in (k : Nat) : ExprsIn k := exprs_in_by k (expr_in k)

set_option maxHeartbeats 4000000 in
set_option maxRecDepth 100000 in
theorem cards_in_by (k : Nat) (ih : CardIn k) (W : World) (v u : Value) (xs : List Cd) (h1 : RowIn W 6 0 (CdIn 0 k) v xs) (h2 : RowIn W 6 0 (CdIn 0 k) u xs) :
    Calls Try.prog 31 #[v, u] W fun e w' => e = .returned (.bool true) ∧ Below W.heap.size W w' := by
  obtain ⟨qa, ca, rfl, hl, -, ha⟩ := h1
  obtain ⟨qb, cb, rfl, -, -, hb⟩ := h2
  have HA := Lib.hid ha
  have HB := Lib.hid hb
  have HI := Lib.hid ih
  unfold maxLen at hl
  clear ha hb ih
  obtain ⟨N, hN⟩ : ∃ N, N = xs.length := ⟨_, rfl⟩
  rw [← hN] at hl ⊢
  have HN := Lib.hid hN
  clear hN
  have q0 : ((N : Int) == (N : Int)) = true := by simp
  go_enter Try.func31, Try.ntmps31
  go_wp2
  go_loopw [5, 6] (fun vs vi wr => ∃ k : Nat, vs = .bool true ∧ vi = .int .i64 k ∧ k ≤ N ∧ Below W.heap.size W wr) (fun _ vi _ => N - (RowKit.intOf vi).toNat)
  case atStart => exact ⟨0, by rfl, rfl, by omega, Below.refl _ _⟩
  case round =>
  obtain ⟨i, rfl, rfl, hi, hbw⟩ := hrel
  by_cases hlt : i < N
  · obtain ⟨x, hx⟩ : ∃ x, xs[i]? = some x := ⟨xs[i]'(by have := HN.out; omega), List.getElem?_eq_getElem _⟩
    obtain ⟨ga, oa, rfl, cA, -, pA, fA⟩ := HA.out i x hx
    obtain ⟨gb, ob, rfl, cB, -, pB, fB⟩ := HB.out i x hx
    obtain ⟨va, vn, vc, rfl⟩ := pA.slices
    obtain ⟨ua, un, uc, rfl⟩ := pB.slices
    have hcall : Hid (∀ W', Below W.heap.size W W' → _) := Lib.hid fun W' hb => HI.out W' x va ua vn vc un uc (CdIn.stays 0 k _ _ _ _ pA hb) (CdIn.stays 0 k _ _ _ _ pB hb)
    have a0 := cell_later hbw (fA 0 _ rfl)
    have a1 := cell_later hbw (fA 1 _ rfl)
    have a2 := cell_later hbw (fA 2 _ rfl)
    have a3 := cell_later hbw (fA 3 _ rfl)
    have a4 := cell_later hbw (fA 4 _ rfl)
    have a5 := cell_later hbw (fA 5 _ rfl)
    have b0 := cell_later hbw (fB 0 _ rfl)
    have b1 := cell_later hbw (fB 1 _ rfl)
    have b2 := cell_later hbw (fB 2 _ rfl)
    have b3 := cell_later hbw (fB 3 _ rfl)
    have b4 := cell_later hbw (fB 4 _ rfl)
    have b5 := cell_later hbw (fB 5 _ rfl)
    simp only [Nat.add_zero] at a0 b0
    clear pA pB fA fB hx
    have i1 : (i : Int) < (N : Int) := by omega
    have i0 : (0 : Int) ≤ (i : Int) := by omega
    have HBW := Lib.hid hbw
    clear hbw
    go_wp2_with fail
    go_still_tail 8, (by kernel_rfl)
    change wpList _ _ _ _ _ wr.drew
    go_wp2_with fail
    refine (hcall.out _ HBW.out.drew).mono ?_
    rintro e w2 ⟨rfl, b2⟩
    have HB2 : Hid (Below W.heap.size W w2) := HBW.out.drew.trans (b2.mono (by have := HBW.out.size; simpa using this))
    clear b2
    go_wp2
    go_roundw
    case rel => exact ⟨i + 1, by rfl, by go_num, by omega, HB2.out⟩
    case measure => simp [RowKit.intOf]; omega
  · go_wp2
    go_ret
    exact ⟨rfl, hbw⟩

set_option maxHeartbeats 4000000 in
set_option maxRecDepth 100000 in
theorem card_in_by (k : Nat) (ih : EffectIn k) : CardIn k := by
  intro W x a b n c m d h1 h2
  have HI := Lib.hid ih
  obtain ⟨va, hva, -, r1⟩ := h1
  obtain ⟨vb, hvb, -, r2⟩ := h2
  rw [← cdV_one hva] at r1
  rw [← cdV_one hvb] at r2
  clear hva hvb ih
  obtain ⟨nm, kd, lv, at_, gd, xs⟩ := x
  simp only [] at r1 r2 ⊢
  obtain ⟨qa, ca, hv, hl, -, ha⟩ := r1
  obtain ⟨qb, cb, hu, -, -, hb⟩ := r2
  cases hv
  cases hu
  have HA := Lib.hid ha
  have HB := Lib.hid hb
  unfold maxLen at hl
  clear ha hb
  obtain ⟨N, hN⟩ : ∃ N, N = xs.length := ⟨_, rfl⟩
  rw [← hN] at hl ⊢
  have HN := Lib.hid hN
  clear hN
  have q0 : ((N : Int) == (N : Int)) = true := by simp
  obtain ⟨w0, hw0⟩ : ∃ w0, w0 = ((W.alloc (.cells #[.string nm, .int .u8 kd, .int .i64 lv, .int .i64 at_, .int .i64 gd, .slice a N c] 62)).alloc (.cells #[.string nm, .int .u8 kd, .int .i64 lv, .int .i64 at_, .int .i64 gd, .slice b N d] 62)) := ⟨_, rfl⟩
  have hs0 : w0.heap.size = W.heap.size + 2 := by rw [hw0]; simp
  have hx1 : w0.heap[W.heap.size]? = some (.cells #[.string nm, .int .u8 kd, .int .i64 lv, .int .i64 at_, .int .i64 gd, .slice a N c] 62 (0, 0)) := by rw [hw0]; exact heap_older (heap_alloc_new _ _)
  have hx2 : w0.heap[W.heap.size + 1]? = some (.cells #[.string nm, .int .u8 kd, .int .i64 lv, .int .i64 at_, .int .i64 gd, .slice b N d] 62 (0, 0)) := by rw [hw0]; exact heap_newer _ _ _ (by simp)
  have hb0 : Below W.heap.size W w0 := by rw [hw0]; exact ((Below.refl _ _).alloc (Nat.le_refl _) _).alloc (by simp) _
  have HX1 := Lib.hid hx1
  have HX2 := Lib.hid hx2
  have HB0 := Lib.hid hb0
  have HS0 := Lib.hid hs0
  have HW0 := Lib.hid hw0
  clear hx1 hx2 hb0 hs0 hw0
  go_enter Try.func53, Try.ntmps53
  go_wp2
  go_loopw [5, 6] (fun vs vi wr => ∃ k : Nat, vs = .bool true ∧ vi = .int .i64 k ∧ k ≤ N ∧ Below w0.heap.size w0 wr) (fun _ vi _ => N - (RowKit.intOf vi).toNat)
  case atStart => exact ⟨0, by rfl, rfl, by omega, by rw [HW0.out]; exact Below.refl _ _⟩
  case round =>
    obtain ⟨i, rfl, rfl, hi, hbw⟩ := hrel
    have z1 : wr.cell? ⟨W.heap.size, 5, none⟩ = some (.slice a N c) := below_cell' hbw (by rw [cell_blk HX1.out]; rfl) (by rw [HS0.out]; simp)
    have z2 : wr.cell? ⟨W.heap.size + 1, 5, none⟩ = some (.slice b N d) := below_cell' hbw (by rw [cell_blk HX2.out]; rfl) (by rw [HS0.out]; simp)
    have hbW : Below W.heap.size W wr := HB0.out.trans (hbw.mono HB0.out.size)
    by_cases hlt : i < N
    · obtain ⟨x, hx⟩ : ∃ x, xs[i]? = some x := ⟨xs[i]'(by have := HN.out; omega), List.getElem?_eq_getElem _⟩
      obtain ⟨ga, oa, rfl, cA, -, pA, fA⟩ := HA.out i x hx
      obtain ⟨gb, ob, rfl, cB, -, pB, fB⟩ := HB.out i x hx
      obtain ⟨pa, pn, pc, pd, pm, pe, rfl⟩ := pA.slices
      obtain ⟨qa, qn, qc, qd, qm, qe, rfl⟩ := pB.slices
      have hcall : Hid (∀ W', Below W.heap.size W W' → _) := Lib.hid fun W' hb => HI.out W' x pa qa pn pc qn qc pd qd pm pe qm qe (EfIn.stays 0 k _ _ _ _ pA hb) (EfIn.stays 0 k _ _ _ _ pB hb)
      have a0 := cell_later hbW (fA 0 _ rfl)
      have a1 := cell_later hbW (fA 1 _ rfl)
      have a2 := cell_later hbW (fA 2 _ rfl)
      have a3 := cell_later hbW (fA 3 _ rfl)
      have a4 := cell_later hbW (fA 4 _ rfl)
      have a5 := cell_later hbW (fA 5 _ rfl)
      have a6 := cell_later hbW (fA 6 _ rfl)
      have a7 := cell_later hbW (fA 7 _ rfl)
      have a8 := cell_later hbW (fA 8 _ rfl)
      have a9 := cell_later hbW (fA 9 _ rfl)
      have a10 := cell_later hbW (fA 10 _ rfl)
      have a11 := cell_later hbW (fA 11 _ rfl)
      have b0 := cell_later hbW (fB 0 _ rfl)
      have b1 := cell_later hbW (fB 1 _ rfl)
      have b2 := cell_later hbW (fB 2 _ rfl)
      have b3 := cell_later hbW (fB 3 _ rfl)
      have b4 := cell_later hbW (fB 4 _ rfl)
      have b5 := cell_later hbW (fB 5 _ rfl)
      have b6 := cell_later hbW (fB 6 _ rfl)
      have b7 := cell_later hbW (fB 7 _ rfl)
      have b8 := cell_later hbW (fB 8 _ rfl)
      have b9 := cell_later hbW (fB 9 _ rfl)
      have b10 := cell_later hbW (fB 10 _ rfl)
      have b11 := cell_later hbW (fB 11 _ rfl)
      simp only [Nat.add_zero] at a0 b0
      clear pA pB fA fB hx
      have i1 : (i : Int) < (N : Int) := by omega
      have i0 : (0 : Int) ≤ (i : Int) := by omega
      have HBW := Lib.hid hbw
      have HBw := Lib.hid hbW
      clear hbw hbW
      go_wp2_with fail
      go_still_tail 10, (by kernel_rfl)
      change wpList _ _ _ _ _ wr.drew
      go_wp2_with fail
      refine (hcall.out _ HBw.out.drew).mono ?_
      rintro e w2 ⟨rfl, b2⟩
      have HB2 : Hid (Below w0.heap.size w0 w2) := Lib.hid (HBW.out.drew.trans (b2.mono (by have := HBW.out.size; simpa using this)))
      clear b2
      go_wp2
      go_roundw
      case rel => exact ⟨i + 1, by rfl, by go_num, by omega, HB2.out⟩
      case measure => simp [RowKit.intOf]; omega
    · go_wp2
      go_ret
      exact ⟨rfl, hbW⟩

set_option maxHeartbeats 4000000 in
set_option maxRecDepth 100000 in
theorem effect_in (k : Nat) : EffectIn k := by
  intro W x pa qa pn pc qn qc pd qd pm pe qm qe h1 h2
  obtain ⟨vc, vs, hv, rc1, rs1⟩ := h1
  obtain ⟨uc, us, hu, rc2, rs2⟩ := h2
  obtain ⟨e1, e2⟩ := efV_two hv
  obtain ⟨e3, e4⟩ := efV_two hu
  subst e1 e2 e3 e4
  clear hv hu
  have hcond : Hid (∀ W', Below W.heap.size W W' → Calls Try.prog 76 #[.slice pa pn pc, .slice qa qn qc] W' fun e w' => e = .returned (.bool true) ∧ Below W'.heap.size W' w') := Lib.hid fun W' hb =>
    exprs_in k W' _ _ x.cond (rc1.below (ExIn.stays 0 k) hb) (rc2.below (ExIn.stays 0 k) hb)
  clear rc1 rc2
  obtain ⟨m, ev, sd, cd, pay, dr, tr, pk, ⟨k1, k2, k3⟩, xs⟩ := x
  simp only [] at rs1 rs2 ⊢
  obtain ⟨ra, ca, hv, hl, -, ha⟩ := rs1
  obtain ⟨rb, cb, hu, -, -, hb⟩ := rs2
  cases hv
  cases hu
  have HA := Lib.hid ha
  have HB := Lib.hid hb
  unfold maxLen at hl
  clear ha hb
  obtain ⟨N, hN⟩ : ∃ N, N = xs.length := ⟨_, rfl⟩
  rw [← hN] at hl ⊢
  have HN := Lib.hid hN
  clear hN
  have q0 : ((N : Int) == (N : Int)) = true := by simp
  obtain ⟨w0, hw0⟩ : ∃ w0, w0 = ((W.alloc (.cells #[.int .u8 m, .int .u8 ev, .int .u8 sd, .slice pa pn pc, .int .i64 pay, .int .i64 dr, .bool tr, .int .i64 pk, .int .u8 k1, .int .u8 k2, .int .u8 k3, .slice pd N pe] 68)).alloc (.cells #[.int .u8 m, .int .u8 ev, .int .u8 sd, .slice qa qn qc, .int .i64 pay, .int .i64 dr, .bool tr, .int .i64 pk, .int .u8 k1, .int .u8 k2, .int .u8 k3, .slice qd N qe] 68)) := ⟨_, rfl⟩
  have hs0 : w0.heap.size = W.heap.size + 2 := by rw [hw0]; simp
  have hx1 : w0.heap[W.heap.size]? = some (.cells #[.int .u8 m, .int .u8 ev, .int .u8 sd, .slice pa pn pc, .int .i64 pay, .int .i64 dr, .bool tr, .int .i64 pk, .int .u8 k1, .int .u8 k2, .int .u8 k3, .slice pd N pe] 68 (0, 0)) := by rw [hw0]; exact heap_older (heap_alloc_new _ _)
  have hx2 : w0.heap[W.heap.size + 1]? = some (.cells #[.int .u8 m, .int .u8 ev, .int .u8 sd, .slice qa qn qc, .int .i64 pay, .int .i64 dr, .bool tr, .int .i64 pk, .int .u8 k1, .int .u8 k2, .int .u8 k3, .slice qd N qe] 68 (0, 0)) := by rw [hw0]; exact heap_newer _ _ _ (by simp)
  have hb0 : Below W.heap.size W w0 := by rw [hw0]; exact ((Below.refl _ _).alloc (Nat.le_refl _) _).alloc (by simp) _
  have HX1 := Lib.hid hx1
  have HX2 := Lib.hid hx2
  have HB0 := Lib.hid hb0
  have HS0 := Lib.hid hs0
  have HW0 := Lib.hid hw0
  clear hx1 hx2 hb0 hs0 hw0
  go_enter Try.func70, Try.ntmps70
  go_wp2_with fail
  rw [← HW0.out]
  refine (hcond.out _ HB0.out).mono ?_
  rintro e w1 ⟨rfl, b1⟩
  have B1 := Lib.hid b1
  have y1 : w1.cell? ⟨W.heap.size, 11, none⟩ = some (.slice pd N pe) := below_cell' b1 (by rw [cell_blk HX1.out]; rfl) (by rw [HS0.out]; simp)
  have y2 : w1.cell? ⟨W.heap.size + 1, 11, none⟩ = some (.slice qd N qe) := below_cell' b1 (by rw [cell_blk HX2.out]; rfl) (by rw [HS0.out]; simp)
  clear b1
  go_wp2
  go_loopw [5, 6] (fun vs vi wr => ∃ k : Nat, vs = .bool true ∧ vi = .int .i64 k ∧ k ≤ N ∧ Below w0.heap.size w0 wr) (fun _ vi _ => N - (RowKit.intOf vi).toNat)
  case atStart => exact ⟨0, by rfl, rfl, by omega, B1.out⟩
  case round =>
    obtain ⟨i, rfl, rfl, hi, hbw⟩ := hrel
    have z1 : wr.cell? ⟨W.heap.size, 11, none⟩ = some (.slice pd N pe) := below_cell' hbw (by rw [cell_blk HX1.out]; rfl) (by rw [HS0.out]; simp)
    have z2 : wr.cell? ⟨W.heap.size + 1, 11, none⟩ = some (.slice qd N qe) := below_cell' hbw (by rw [cell_blk HX2.out]; rfl) (by rw [HS0.out]; simp)
    have hbW : Below W.heap.size W wr := HB0.out.trans (hbw.mono HB0.out.size)
    by_cases hlt : i < N
    · obtain ⟨x, hx⟩ : ∃ x, xs[i]? = some x := ⟨xs[i]'(by have := HN.out; omega), List.getElem?_eq_getElem _⟩
      obtain ⟨ga, oa, rfl, cA, -, pA, fA⟩ := HA.out i x hx
      obtain ⟨gb, ob, rfl, cB, -, pB, fB⟩ := HB.out i x hx
      obtain ⟨va, vn, vc, rfl, eA⟩ := pA.slices
      obtain ⟨ua, un, uc, rfl, eB⟩ := pB.slices
      have hcall : Hid (∀ W', Below W.heap.size W W' → _) := Lib.hid fun W' hb => expr_in k W' x.n va ua vn vc un uc (ExIn.stays 0 k _ _ _ _ eA hb) (ExIn.stays 0 k _ _ _ _ eB hb)
      have a0 := cell_later hbW (fA 0 _ rfl)
      have a1 := cell_later hbW (fA 1 _ rfl)
      have a2 := cell_later hbW (fA 2 _ rfl)
      have a3 := cell_later hbW (fA 3 _ rfl)
      have a4 := cell_later hbW (fA 4 _ rfl)
      have a5 := cell_later hbW (fA 5 _ rfl)
      have a6 := cell_later hbW (fA 6 _ rfl)
      have a7 := cell_later hbW (fA 7 _ rfl)
      have a8 := cell_later hbW (fA 8 _ rfl)
      have a9 := cell_later hbW (fA 9 _ rfl)
      have a10 := cell_later hbW (fA 10 _ rfl)
      have a11 := cell_later hbW (fA 11 _ rfl)
      have a12 := cell_later hbW (fA 12 _ rfl)
      have b0 := cell_later hbW (fB 0 _ rfl)
      have b1 := cell_later hbW (fB 1 _ rfl)
      have b2 := cell_later hbW (fB 2 _ rfl)
      have b3 := cell_later hbW (fB 3 _ rfl)
      have b4 := cell_later hbW (fB 4 _ rfl)
      have b5 := cell_later hbW (fB 5 _ rfl)
      have b6 := cell_later hbW (fB 6 _ rfl)
      have b7 := cell_later hbW (fB 7 _ rfl)
      have b8 := cell_later hbW (fB 8 _ rfl)
      have b9 := cell_later hbW (fB 9 _ rfl)
      have b10 := cell_later hbW (fB 10 _ rfl)
      have b11 := cell_later hbW (fB 11 _ rfl)
      have b12 := cell_later hbW (fB 12 _ rfl)
      simp only [Nat.add_zero] at a0 b0
      obtain ⟨xd, xs', ⟨eo, en, es, ⟨g1, g2, g3⟩, el⟩, xb, ⟨h1, h2, h3⟩⟩ := x
      simp only [Ex.op, Ex.n, Ex.side, Ex.sel] at *
      have hga := World.block_lt_of_cell? _ _ a0
      have hgb := World.block_lt_of_cell? _ _ b0
      simp only [] at hga hgb
      clear pA pB fA fB hx eA eB
      have i1 : (i : Int) < (N : Int) := by omega
      have i0 : (0 : Int) ≤ (i : Int) := by omega
      have HBW := Lib.hid hbw
      have HBw := Lib.hid hbW
      have hzz : W.heap.size + 2 ≤ wr.heap.size := by have := hbw.size; have := HS0.out; omega
      clear hbw hbW
      go_wp2_with fail
      have l1 : W.heap.size < wr.heap.size := by omega
      have l2 : W.heap.size + 1 < wr.heap.size := by omega
      have l3 : ga < wr.heap.size := by omega
      have l4 : gb < wr.heap.size := by omega
      have l5 : W.heap.size < wr.heap.size + 1 := by omega
      have l6 : W.heap.size + 1 < wr.heap.size + 1 := by omega
      have l7 : ga < wr.heap.size + 1 := by omega
      have l8 : gb < wr.heap.size + 1 := by omega
      go_region
      all_goals
        go_wp2_with fail
        refine (hcall.out _ (by first | exact (((HBw.out.alloc (by omega) _).alloc (by simp; omega) _).drew) | exact (((HBw.out.drew.alloc (by simp; omega) _).alloc (by simp; omega) _)))).mono ?_
        rintro e w2 ⟨rfl, b2⟩
        have HB2 : Hid (Below w0.heap.size w0 w2) := Lib.hid (by have hsz := HS0.out; first | exact (((HBW.out.alloc (by omega) _).alloc (by simp; omega) _).drew).trans (b2.mono (by simp; omega)) | exact (((HBW.out.drew.alloc (by simp; omega) _).alloc (by simp; omega) _)).trans (b2.mono (by simp; omega)))
        clear b2
        go_wp2
        go_roundw
        case rel => exact ⟨i + 1, by rfl, by go_num, by omega, HB2.out⟩
        case measure => simp [RowKit.intOf]; omega
    · go_wp2
      go_ret
      exact ⟨rfl, hbW⟩

theorem cards_in (k : Nat) (W : World) (v u : Value) (xs : List Cd) (h1 : RowIn W 6 0 (CdIn 0 k) v xs) (h2 : RowIn W 6 0 (CdIn 0 k) u xs) :
    Calls Try.prog 31 #[v, u] W fun e w' => e = .returned (.bool true) ∧ Below W.heap.size W w' := cards_in_by k (card_in_by k (effect_in k)) W v u xs h1 h2
end Go.Proofs.Ytfdehhibgdeedaa
