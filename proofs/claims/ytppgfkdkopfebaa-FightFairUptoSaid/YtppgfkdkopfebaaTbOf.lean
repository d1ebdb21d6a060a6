/- might.of, Of: is a piece one of a Sel. -/
import Derived.Test.YtppgfkdkopfebaaTbMight
import Derived.Test.YtppgfkdkopfebaaTbBMay
namespace Go.Proofs.Ytppgfkdkopfebaa
open Go.RowKit Go.Lib

theorem below_n {B : Nat} {a w : World} (h : Below B a w) (n : Nat) : Below B a (w.drewN n) := h.trans ⟨rfl, rfl, rfl, Nat.le_refl _, fun _ _ => rfl⟩
set_option maxHeartbeats 1000000 in
theorem might_there_yes (t : Tb) (i : Nat) (w : World) (h : i < t.np) : Calls Try.prog 37 #[.agg t.row, .int .i64 i] w fun e w' => e = .returned (.bool true) ∧ Below w.heap.size w w' := by
  have i0 : (i : Int) ≥ 0 := by omega
  have i1 : (i : Int) < (t.np : Int) := by omega
  simp only [Tb.row]
  go_enter Try.func37, Try.ntmps37
  go_wp2_with fail
  go_ret
  exact ⟨rfl, (Below.refl _ _).alloc (Nat.le_refl _) _⟩

set_option maxHeartbeats 1000000 in
theorem board_there_yes (t : Tb) (i : Nat) (w : World) (h : i < t.np) : Calls Try.prog 72 #[.agg t.row, .int .i64 i] w fun e w' => e = .returned (.bool true) ∧ Below w.heap.size w w' := by
  have i0 : (i : Int) ≥ 0 := by omega
  have i1 : (i : Int) < (t.np : Int) := by omega
  simp only [Tb.row]
  go_enter Try.func72, Try.ntmps72
  go_wp2_with fail
  go_ret
  exact ⟨rfl, (Below.refl _ _).alloc (Nat.le_refl _) _⟩

set_option maxHeartbeats 2000000 in
theorem bkind_any (t : Tb) (xs : List Cd) (ps : List Pc) (i : Nat) (p : Pc) (w : World) (hT : TabIn w t xs ps) (hi : ps[i]? = some p) : Calls Try.prog 59 #[.agg t.row, .int .i64 i] w fun e w' => e = .returned (.int .u8 (kindI xs p.df)) ∧ Below w.heap.size w w' := by
  obtain ⟨g, o, hq, hg, hc⟩ := hT.piece hi
  have hil : i < t.np := by rw [hT.np.1]; exact (List.getElem?_eq_some_iff.1 hi).1
  have hth := Lib.hid fun W => board_there_yes t i W hil
  have hk := Lib.hid fun (W : World) (hb : Below w.heap.size w W) => bkindOf_any t xs ps p.df W (hT.below hb)
  have c0 := hc 0 _ rfl
  simp only [Nat.add_zero] at c0
  have HC := Lib.hid c0
  have i0 : (0 : Int) ≤ (i : Int) := by omega
  have i1 : (i : Int) < (t.np : Int) := by omega
  obtain ⟨K, hK⟩ : ∃ K, kindI xs p.df = K := ⟨_, rfl⟩
  rw [hK] at hk ⊢
  clear hT hi hc c0 hK
  simp only [Tb.row] at *
  rw [hq] at hth ⊢
  have hbx : Below w.heap.size w (w.alloc (.cells #[.slice t.qk t.nk t.ck, .slice (some ⟨g, o, none⟩) t.np t.cp, .int .i64 t.l0, .int .i64 t.l1, .int .i64 t.tn, .int .u8 t.py, .int .i64 t.mo, .slice t.qe t.ne t.ce, .bool t.b0, .bool t.b1] 28)) := (Below.refl _ _).alloc (Nat.le_refl _) _
  have HBX := Lib.hid hbx
  clear hbx
  go_enter Try.func59, Try.ntmps59
  go_wp2_with fail
  refine (hth.out _).mono ?_
  rintro e w1 ⟨rfl, b1⟩
  have x1 := (b1.block w.heap.size (by simp)).trans (heap_alloc_new _ _)
  have B1 : Below w.heap.size w w1 := HBX.out.trans (b1.mono HBX.out.size)
  have y0 := cell_blk (i := 0) x1
  have y1 := cell_blk (i := 1) x1
  simp at y0 y1
  have hlt := heap_lt x1
  have c0 := cell_later B1 HC.out
  have HB1 := Lib.hid B1
  clear b1 x1 B1
  go_wp2_with fail
  go_quiet (refine Calls.quiet_of_same ((hk.out _ (below_n HB1.out _)).mono fun e w' ⟨he, hw⟩ => ⟨he, hw.symm⟩))
  go_wp2_with fail
  go_ret
  exact ⟨rfl, below_n HB1.out _⟩

def seenB (p : Pc) : Bool := p.up || (p.zn != 2 && p.zn != 3)
set_option maxHeartbeats 1000000 in
theorem seen_any (p : Pc) (w : World) (h : p.zn ≤ 7) : Calls Try.prog 58 #[.agg (pcV p).toArray] w fun e w' => e = .returned (.bool (seenB p)) ∧ Below w.heap.size w w' := by
  simp only [pcV, seenB]
  generalize p.zn = z at *
  cases hu : p.up with
  | true =>
    go_enter Try.func58, Try.ntmps58
    go_wp2_with fail
    go_ret
    exact ⟨rfl, (Below.refl _ _).alloc (Nat.le_refl _) _⟩
  | false =>
    rcases eight h with rfl | rfl | rfl | rfl | rfl | rfl | rfl | rfl
    all_goals
      go_enter Try.func58, Try.ntmps58
      go_wp2_with fail
      go_ret
      exact ⟨rfl, (Below.refl _ _).alloc (Nat.le_refl _) _⟩

def ofB (xs : List Cd) (p : Pc) (who : Nat) (fr : Int) (s : Sl) (id : Int) : Bool :=
  p.zn == s.zone && (sideB s.side who fr p.hs id && (s.kind == 0 || (seenB p && IntKind.u8.wrap ((s.kind : Int) - 1) == (kindI xs p.df : Int))))

set_option maxHeartbeats 4000000 in
set_option maxRecDepth 100000 in
theorem of_zone (t : Tb) (xs : List Cd) (ps : List Pc) (i : Nat) (p : Pc) (who : Nat) (fr : Int) (s : Sl) (w : World) (hT : TabIn w t xs ps) (hi : ps[i]? = some p) (hz : p.zn ≤ 7) (h1 : p.zn ≠ s.zone) :
    Calls Try.prog 40 #[.agg t.row, .int .u8 who, .int .i64 fr, .agg #[.int .u8 s.side, .int .u8 s.zone, .int .u8 s.kind], .int .i64 i] w fun e w' => e = .returned (.bool (ofB xs p who fr s i)) ∧ Below w.heap.size w w' := by
  obtain ⟨g, o, hq, hg, hc⟩ := hT.piece hi
  have hil : i < t.np := by rw [hT.np.1]; exact (List.getElem?_eq_some_iff.1 hi).1
  skip
  have c0 := hc 0 _ rfl
  have c1 := hc 1 _ rfl
  have c2 := hc 2 _ rfl
  have c3 := hc 3 _ rfl
  have c4 := hc 4 _ rfl
  have c5 := hc 5 _ rfl
  have c6 := hc 6 _ rfl
  have c7 := hc 7 _ rfl
  have c8 := hc 8 _ rfl
  have c9 := hc 9 _ rfl
  have c10 := hc 10 _ rfl
  have c11 := hc 11 _ rfl
  have c12 := hc 12 _ rfl
  have c13 := hc 13 _ rfl
  simp only [Nat.add_zero] at c0
  have i0 : (0 : Int) ≤ (i : Int) := by omega
  have i1 : (i : Int) < (t.np : Int) := by omega
  obtain ⟨sd, sz, sk⟩ := s
  dsimp only at *
  have hr : ofB xs p who fr ⟨sd, sz, sk⟩ i = false := by
    have : (p.zn == sz) = false := by simpa using h1
    simp [ofB, this]
  have e1 : ((p.zn : Int) == (sz : Int)) = false := by simp; omega
  rw [hr]
  clear hr h1
  clear hT hi hc hz
  simp only [Tb.row] at *
  rw [hq]
  go_enter Try.func40, Try.ntmps40
  go_wp2_with fail
  go_quiet (fail)
  go_wp2_with fail
  go_ret
  exact ⟨rfl, below_n ((((Below.refl _ w).alloc (Nat.le_refl _) _).alloc (by simp) _).alloc (by simp; omega) _) _⟩

set_option maxHeartbeats 4000000 in
set_option maxRecDepth 100000 in
theorem of_side (t : Tb) (xs : List Cd) (ps : List Pc) (i : Nat) (p : Pc) (who : Nat) (fr : Int) (s : Sl) (w : World) (hT : TabIn w t xs ps) (hi : ps[i]? = some p) (hz : p.zn ≤ 7) (h1 : p.zn = s.zone) (h2 : sideB s.side who fr p.hs i = false) :
    Calls Try.prog 40 #[.agg t.row, .int .u8 who, .int .i64 fr, .agg #[.int .u8 s.side, .int .u8 s.zone, .int .u8 s.kind], .int .i64 i] w fun e w' => e = .returned (.bool (ofB xs p who fr s i)) ∧ Below w.heap.size w w' := by
  obtain ⟨g, o, hq, hg, hc⟩ := hT.piece hi
  have hil : i < t.np := by rw [hT.np.1]; exact (List.getElem?_eq_some_iff.1 hi).1
  have hside := Lib.hid fun W => side_any s.side who fr p.hs i W
  have c0 := hc 0 _ rfl
  have c1 := hc 1 _ rfl
  have c2 := hc 2 _ rfl
  have c3 := hc 3 _ rfl
  have c4 := hc 4 _ rfl
  have c5 := hc 5 _ rfl
  have c6 := hc 6 _ rfl
  have c7 := hc 7 _ rfl
  have c8 := hc 8 _ rfl
  have c9 := hc 9 _ rfl
  have c10 := hc 10 _ rfl
  have c11 := hc 11 _ rfl
  have c12 := hc 12 _ rfl
  have c13 := hc 13 _ rfl
  simp only [Nat.add_zero] at c0
  have i0 : (0 : Int) ≤ (i : Int) := by omega
  have i1 : (i : Int) < (t.np : Int) := by omega
  obtain ⟨sd, sz, sk⟩ := s
  dsimp only at *
  have hr : ofB xs p who fr ⟨sd, sz, sk⟩ i = false := by
    simp [ofB, h2]
  have e1 : ((p.zn : Int) == (sz : Int)) = true := by simp [h1]
  rw [h2] at hside
  rw [hr]
  clear hr h1 h2
  clear hT hi hc hz
  simp only [Tb.row] at *
  rw [hq]
  go_enter Try.func40, Try.ntmps40
  go_wp2_with fail
  go_quiet (refine Calls.quiet_of_same ((hside.out _).mono fun e w' ⟨he, hw⟩ => ⟨he, hw.symm⟩))
  go_wp2_with fail
  go_ret
  exact ⟨rfl, below_n ((((Below.refl _ w).alloc (Nat.le_refl _) _).alloc (by simp) _).alloc (by simp; omega) _) _⟩

set_option maxHeartbeats 4000000 in
set_option maxRecDepth 100000 in
theorem of_all (t : Tb) (xs : List Cd) (ps : List Pc) (i : Nat) (p : Pc) (who : Nat) (fr : Int) (s : Sl) (w : World) (hT : TabIn w t xs ps) (hi : ps[i]? = some p) (hz : p.zn ≤ 7) (h1 : p.zn = s.zone) (h2 : sideB s.side who fr p.hs i = true) (h3 : s.kind = 0) :
    Calls Try.prog 40 #[.agg t.row, .int .u8 who, .int .i64 fr, .agg #[.int .u8 s.side, .int .u8 s.zone, .int .u8 s.kind], .int .i64 i] w fun e w' => e = .returned (.bool (ofB xs p who fr s i)) ∧ Below w.heap.size w w' := by
  obtain ⟨g, o, hq, hg, hc⟩ := hT.piece hi
  have hil : i < t.np := by rw [hT.np.1]; exact (List.getElem?_eq_some_iff.1 hi).1
  have hside := Lib.hid fun W => side_any s.side who fr p.hs i W
  have c0 := hc 0 _ rfl
  have c1 := hc 1 _ rfl
  have c2 := hc 2 _ rfl
  have c3 := hc 3 _ rfl
  have c4 := hc 4 _ rfl
  have c5 := hc 5 _ rfl
  have c6 := hc 6 _ rfl
  have c7 := hc 7 _ rfl
  have c8 := hc 8 _ rfl
  have c9 := hc 9 _ rfl
  have c10 := hc 10 _ rfl
  have c11 := hc 11 _ rfl
  have c12 := hc 12 _ rfl
  have c13 := hc 13 _ rfl
  simp only [Nat.add_zero] at c0
  have i0 : (0 : Int) ≤ (i : Int) := by omega
  have i1 : (i : Int) < (t.np : Int) := by omega
  obtain ⟨sd, sz, sk⟩ := s
  dsimp only at *
  have hr : ofB xs p who fr ⟨sd, sz, sk⟩ i = true := by
    simp [ofB, h1, h2, h3]
  have e1 : ((p.zn : Int) == (sz : Int)) = true := by simp [h1]
  have e3 : ((sk : Int) == 0) = true := by simp [h3]
  clear h3
  rw [h2] at hside
  rw [hr]
  clear hr h1 h2
  clear hT hi hc hz
  simp only [Tb.row] at *
  rw [hq]
  go_enter Try.func40, Try.ntmps40
  go_wp2_with fail
  go_quiet (refine Calls.quiet_of_same ((hside.out _).mono fun e w' ⟨he, hw⟩ => ⟨he, hw.symm⟩))
  go_wp2_with fail
  go_ret
  exact ⟨rfl, below_n ((((Below.refl _ w).alloc (Nat.le_refl _) _).alloc (by simp) _).alloc (by simp; omega) _) _⟩
end Go.Proofs.Ytppgfkdkopfebaa
