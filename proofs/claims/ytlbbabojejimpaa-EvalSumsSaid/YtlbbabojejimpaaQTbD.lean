import Derived.Test.YtlbbabojejimpaaQTbMight
import Derived.Test.YtlbbabojejimpaaQTbC
import Derived.Deep.RegionLaw
import Derived.Deep.RegionHeld3
/- might.of, Of: is a piece one of a Sel. -/
namespace Go.Proofs.Ytlbbabojejimpaa
open Go.RowKit Go.Lib

theorem below_n {B : Nat} {a w : World} (h : Below B a w) (n : Nat) : Below B a (w.drewN n) := h.trans ⟨rfl, rfl, rfl, Nat.le_refl _, fun _ _ => rfl⟩
set_option maxHeartbeats 1000000 in
theorem might_there_yes (t : Tb) (i : Nat) (w : World) (h : i < t.np) : Calls Try.prog 38 #[.agg t.row, .int .i64 i] w fun e w' => e = .returned (.bool true) ∧ Below w.heap.size w w' := by
  have i0 : (i : Int) ≥ 0 := by omega
  have i1 : (i : Int) < (t.np : Int) := by omega
  simp only [Tb.row]
  go_enter Try.func38, Try.ntmps38
  go_wp2_with fail
  go_ret
  exact ⟨rfl, (Below.refl _ _).alloc (Nat.le_refl _) _⟩

set_option maxHeartbeats 1000000 in
theorem board_there_yes (t : Tb) (i : Nat) (w : World) (h : i < t.np) : Calls Try.prog 57 #[.agg t.row, .int .i64 i] w fun e w' => e = .returned (.bool true) ∧ Below w.heap.size w w' := by
  have i0 : (i : Int) ≥ 0 := by omega
  have i1 : (i : Int) < (t.np : Int) := by omega
  simp only [Tb.row]
  go_enter Try.func57, Try.ntmps57
  go_wp2_with fail
  go_ret
  exact ⟨rfl, (Below.refl _ _).alloc (Nat.le_refl _) _⟩

set_option maxHeartbeats 2000000 in
theorem bkind_any (t : Tb) (xs : List Cd) (ps : List Pc) (i : Nat) (p : Pc) (w : World) (hT : TabIn w t xs ps) (hi : ps[i]? = some p) : Calls Try.prog 50 #[.agg t.row, .int .i64 i] w fun e w' => e = .returned (.int .u8 (kindI xs p.df)) ∧ Below w.heap.size w w' := by
  obtain ⟨g, o, hq, hg, hc⟩ := hT.piece hi
  have hil : i < t.np := by rw [hT.np.1]; exact (List.getElem?_eq_some_iff.1 hi).1
  have hth := Lib.hid fun W => board_there_yes t i W hil
  have hk := Lib.hid fun (W : World) (hb : Below w.heap.size w W) => bkindOf_any t xs ps p.df W (hT.below hb)
  have c0 := hc 0 _ rfl
  simp only [Nat.add_zero] at c0
  have HC := Lib.hid c0
  have i0 : (0 : Int) ≤ (i : Int) := by omega
  have i1 : (i : Int) < (t.np : Int) := by omega
  obtain ⟨K, hK⟩ : ∃ K, kindI xs p.df = K := ⟨_, rfl⟩
  rw [hK] at hk ⊢
  clear hT hi hc c0 hK
  simp only [Tb.row] at *
  rw [hq] at hth ⊢
  have hbx : Below w.heap.size w (w.alloc (.cells #[.slice t.qk t.nk t.ck, .slice (some ⟨g, o, none⟩) t.np t.cp, .int .i64 t.l0, .int .i64 t.l1, .int .i64 t.tn, .int .u8 t.py, .int .i64 t.mo, .slice t.qe t.ne t.ce, .bool t.b0, .bool t.b1] 28)) := (Below.refl _ _).alloc (Nat.le_refl _) _
  have HBX := Lib.hid hbx
  clear hbx
  go_enter Try.func50, Try.ntmps50
  go_wp2_with fail
  refine (hth.out _).mono ?_
  rintro e w1 ⟨rfl, b1⟩
  have x1 := (b1.block w.heap.size (by simp)).trans (heap_alloc_new _ _)
  have B1 : Below w.heap.size w w1 := HBX.out.trans (b1.mono HBX.out.size)
  have y0 := cell_blk (i := 0) x1
  have y1 := cell_blk (i := 1) x1
  simp at y0 y1
  have hlt := heap_lt x1
  have c0 := cell_later B1 HC.out
  have HB1 := Lib.hid B1
  clear b1 x1 B1
  go_wp2_with fail
  go_quiet (refine Calls.quiet_of_same ((hk.out _ (below_n HB1.out _)).mono fun e w' ⟨he, hw⟩ => ⟨he, hw.symm⟩))
  go_wp2_with fail
  go_ret
  exact ⟨rfl, below_n HB1.out _⟩

def seenB (p : Pc) : Bool := p.up || (p.zn != 2 && p.zn != 3)
set_option maxHeartbeats 1000000 in
theorem seen_any (p : Pc) (w : World) (h : p.zn ≤ 7) : Calls Try.prog 49 #[.agg (pcV p).toArray] w fun e w' => e = .returned (.bool (seenB p)) ∧ Below w.heap.size w w' := by
  simp only [pcV, seenB]
  generalize p.zn = z at *
  cases hu : p.up with
  | true =>
    go_enter Try.func49, Try.ntmps49
    go_wp2_with fail
    go_ret
    exact ⟨rfl, (Below.refl _ _).alloc (Nat.le_refl _) _⟩
  | false =>
    rcases eight h with rfl | rfl | rfl | rfl | rfl | rfl | rfl | rfl
    all_goals
      go_enter Try.func49, Try.ntmps49
      go_wp2_with fail
      go_ret
      exact ⟨rfl, (Below.refl _ _).alloc (Nat.le_refl _) _⟩

def ofB (xs : List Cd) (p : Pc) (who : Nat) (fr : Int) (s : Sl) (id : Int) : Bool :=
  p.zn == s.zone && (sideB s.side who fr p.hs id && (s.kind == 0 || (seenB p && IntKind.u8.wrap ((s.kind : Int) - 1) == (kindI xs p.df : Int))))

set_option maxHeartbeats 4000000 in
set_option maxRecDepth 100000 in
theorem of_zone (t : Tb) (xs : List Cd) (ps : List Pc) (i : Nat) (p : Pc) (who : Nat) (fr : Int) (s : Sl) (w : World) (hT : TabIn w t xs ps) (hi : ps[i]? = some p) (hz : p.zn ≤ 7) (h1 : p.zn ≠ s.zone) :
    Calls Try.prog 41 #[.agg t.row, .int .u8 who, .int .i64 fr, .agg #[.int .u8 s.side, .int .u8 s.zone, .int .u8 s.kind], .int .i64 i] w fun e w' => e = .returned (.bool (ofB xs p who fr s i)) ∧ Below w.heap.size w w' := by
  obtain ⟨g, o, hq, hg, hc⟩ := hT.piece hi
  have hil : i < t.np := by rw [hT.np.1]; exact (List.getElem?_eq_some_iff.1 hi).1
  skip
  have c0 := hc 0 _ rfl
  have c1 := hc 1 _ rfl
  have c2 := hc 2 _ rfl
  have c3 := hc 3 _ rfl
  have c4 := hc 4 _ rfl
  have c5 := hc 5 _ rfl
  have c6 := hc 6 _ rfl
  have c7 := hc 7 _ rfl
  have c8 := hc 8 _ rfl
  have c9 := hc 9 _ rfl
  have c10 := hc 10 _ rfl
  have c11 := hc 11 _ rfl
  have c12 := hc 12 _ rfl
  have c13 := hc 13 _ rfl
  simp only [Nat.add_zero] at c0
  have i0 : (0 : Int) ≤ (i : Int) := by omega
  have i1 : (i : Int) < (t.np : Int) := by omega
  obtain ⟨sd, sz, sk⟩ := s
  dsimp only at *
  have hr : ofB xs p who fr ⟨sd, sz, sk⟩ i = false := by
    have : (p.zn == sz) = false := by simpa using h1
    simp [ofB, this]
  have e1 : ((p.zn : Int) == (sz : Int)) = false := by simp; omega
  rw [hr]
  clear hr h1
  clear hT hi hc hz
  simp only [Tb.row] at *
  rw [hq]
  go_enter Try.func41, Try.ntmps41
  go_wp2_with fail
  go_quiet (fail)
  go_wp2_with fail
  go_ret
  exact ⟨rfl, below_n ((((Below.refl _ w).alloc (Nat.le_refl _) _).alloc (by simp) _).alloc (by simp; omega) _) _⟩

set_option maxHeartbeats 4000000 in
set_option maxRecDepth 100000 in
theorem of_side (t : Tb) (xs : List Cd) (ps : List Pc) (i : Nat) (p : Pc) (who : Nat) (fr : Int) (s : Sl) (w : World) (hT : TabIn w t xs ps) (hi : ps[i]? = some p) (hz : p.zn ≤ 7) (h1 : p.zn = s.zone) (h2 : sideB s.side who fr p.hs i = false) :
    Calls Try.prog 41 #[.agg t.row, .int .u8 who, .int .i64 fr, .agg #[.int .u8 s.side, .int .u8 s.zone, .int .u8 s.kind], .int .i64 i] w fun e w' => e = .returned (.bool (ofB xs p who fr s i)) ∧ Below w.heap.size w w' := by
  obtain ⟨g, o, hq, hg, hc⟩ := hT.piece hi
  have hil : i < t.np := by rw [hT.np.1]; exact (List.getElem?_eq_some_iff.1 hi).1
  have hside := Lib.hid fun W => side_any s.side who fr p.hs i W
  have c0 := hc 0 _ rfl
  have c1 := hc 1 _ rfl
  have c2 := hc 2 _ rfl
  have c3 := hc 3 _ rfl
  have c4 := hc 4 _ rfl
  have c5 := hc 5 _ rfl
  have c6 := hc 6 _ rfl
  have c7 := hc 7 _ rfl
  have c8 := hc 8 _ rfl
  have c9 := hc 9 _ rfl
  have c10 := hc 10 _ rfl
  have c11 := hc 11 _ rfl
  have c12 := hc 12 _ rfl
  have c13 := hc 13 _ rfl
  simp only [Nat.add_zero] at c0
  have i0 : (0 : Int) ≤ (i : Int) := by omega
  have i1 : (i : Int) < (t.np : Int) := by omega
  obtain ⟨sd, sz, sk⟩ := s
  dsimp only at *
  have hr : ofB xs p who fr ⟨sd, sz, sk⟩ i = false := by
    simp [ofB, h2]
  have e1 : ((p.zn : Int) == (sz : Int)) = true := by simp [h1]
  rw [h2] at hside
  rw [hr]
  clear hr h1 h2
  clear hT hi hc hz
  simp only [Tb.row] at *
  rw [hq]
  go_enter Try.func41, Try.ntmps41
  go_wp2_with fail
  go_quiet (refine Calls.quiet_of_same ((hside.out _).mono fun e w' ⟨he, hw⟩ => ⟨he, hw.symm⟩))
  go_wp2_with fail
  go_ret
  exact ⟨rfl, below_n ((((Below.refl _ w).alloc (Nat.le_refl _) _).alloc (by simp) _).alloc (by simp; omega) _) _⟩

set_option maxHeartbeats 4000000 in
set_option maxRecDepth 100000 in
theorem of_all (t : Tb) (xs : List Cd) (ps : List Pc) (i : Nat) (p : Pc) (who : Nat) (fr : Int) (s : Sl) (w : World) (hT : TabIn w t xs ps) (hi : ps[i]? = some p) (hz : p.zn ≤ 7) (h1 : p.zn = s.zone) (h2 : sideB s.side who fr p.hs i = true) (h3 : s.kind = 0) :
    Calls Try.prog 41 #[.agg t.row, .int .u8 who, .int .i64 fr, .agg #[.int .u8 s.side, .int .u8 s.zone, .int .u8 s.kind], .int .i64 i] w fun e w' => e = .returned (.bool (ofB xs p who fr s i)) ∧ Below w.heap.size w w' := by
  obtain ⟨g, o, hq, hg, hc⟩ := hT.piece hi
  have hil : i < t.np := by rw [hT.np.1]; exact (List.getElem?_eq_some_iff.1 hi).1
  have hside := Lib.hid fun W => side_any s.side who fr p.hs i W
  have c0 := hc 0 _ rfl
  have c1 := hc 1 _ rfl
  have c2 := hc 2 _ rfl
  have c3 := hc 3 _ rfl
  have c4 := hc 4 _ rfl
  have c5 := hc 5 _ rfl
  have c6 := hc 6 _ rfl
  have c7 := hc 7 _ rfl
  have c8 := hc 8 _ rfl
  have c9 := hc 9 _ rfl
  have c10 := hc 10 _ rfl
  have c11 := hc 11 _ rfl
  have c12 := hc 12 _ rfl
  have c13 := hc 13 _ rfl
  simp only [Nat.add_zero] at c0
  have i0 : (0 : Int) ≤ (i : Int) := by omega
  have i1 : (i : Int) < (t.np : Int) := by omega
  obtain ⟨sd, sz, sk⟩ := s
  dsimp only at *
  have hr : ofB xs p who fr ⟨sd, sz, sk⟩ i = true := by
    simp [ofB, h1, h2, h3]
  have e1 : ((p.zn : Int) == (sz : Int)) = true := by simp [h1]
  have e3 : ((sk : Int) == 0) = true := by simp [h3]
  clear h3
  rw [h2] at hside
  rw [hr]
  clear hr h1 h2
  clear hT hi hc hz
  simp only [Tb.row] at *
  rw [hq]
  go_enter Try.func41, Try.ntmps41
  go_wp2_with fail
  go_quiet (refine Calls.quiet_of_same ((hside.out _).mono fun e w' ⟨he, hw⟩ => ⟨he, hw.symm⟩))
  go_wp2_with fail
  go_ret
  exact ⟨rfl, below_n ((((Below.refl _ w).alloc (Nat.le_refl _) _).alloc (by simp) _).alloc (by simp; omega) _) _⟩
end Go.Proofs.Ytlbbabojejimpaa

/- might.of: of a kind, seen. -/
namespace Go.Proofs.Ytlbbabojejimpaa
open Go.RowKit Go.Lib

set_option maxHeartbeats 4000000 in
set_option maxRecDepth 100000 in
theorem of_kind (t : Tb) (xs : List Cd) (ps : List Pc) (i : Nat) (p : Pc) (who : Nat) (fr : Int) (s : Sl) (w : World) (hT : TabIn w t xs ps) (hi : ps[i]? = some p) (hz : p.zn ≤ 7) (h1 : p.zn = s.zone) (h2 : sideB s.side who fr p.hs i = true) (h3 : s.kind ≠ 0) (h4 : seenB p = true) :
    Calls Try.prog 41 #[.agg t.row, .int .u8 who, .int .i64 fr, .agg #[.int .u8 s.side, .int .u8 s.zone, .int .u8 s.kind], .int .i64 i] w fun e w' => e = .returned (.bool (ofB xs p who fr s i)) ∧ Below w.heap.size w w' := by
  obtain ⟨g, o, hq, hg, hc⟩ := hT.piece hi
  have hil : i < t.np := by rw [hT.np.1]; exact (List.getElem?_eq_some_iff.1 hi).1
  have hside := Lib.hid fun W => side_any s.side who fr p.hs i W
  have hseen := Lib.hid fun W => seen_any p W hz
  have hkind := Lib.hid fun (W : World) (hb : Below w.heap.size w W) => bkind_any t xs ps i p W (hT.below hb) hi
  simp only [pcV] at hseen
  have c0 := hc 0 _ rfl
  have c1 := hc 1 _ rfl
  have c2 := hc 2 _ rfl
  have c3 := hc 3 _ rfl
  have c4 := hc 4 _ rfl
  have c5 := hc 5 _ rfl
  have c6 := hc 6 _ rfl
  have c7 := hc 7 _ rfl
  have c8 := hc 8 _ rfl
  have c9 := hc 9 _ rfl
  have c10 := hc 10 _ rfl
  have c11 := hc 11 _ rfl
  have c12 := hc 12 _ rfl
  have c13 := hc 13 _ rfl
  simp only [Nat.add_zero] at c0
  have i0 : (0 : Int) ≤ (i : Int) := by omega
  have i1 : (i : Int) < (t.np : Int) := by omega
  obtain ⟨sd, sz, sk⟩ := s
  dsimp only at *
  have hr : ofB xs p who fr ⟨sd, sz, sk⟩ i = (IntKind.u8.wrap ((sk : Int) - 1) == (kindI xs p.df : Int)) := by
    have e3 : (sk == 0) = false := by simpa using h3
    simp [ofB, h1, h2, h4, e3]
  have e1 : ((p.zn : Int) == (sz : Int)) = true := by simp [h1]
  have e3 : ((sk : Int) == 0) = false := by simp; omega
  rw [h2] at hside
  rw [h4] at hseen
  rw [hr]
  clear hr h1 h2 h3 h4
  obtain ⟨K, hK⟩ : ∃ K, kindI xs p.df = K := ⟨_, rfl⟩
  rw [hK] at hkind ⊢
  clear hK
  clear hT hi hc hz
  simp only [Tb.row] at *
  rw [hq] at hkind ⊢
  go_enter Try.func41, Try.ntmps41
  go_wp2_with fail
  obtain ⟨W3, hW3⟩ : ∃ W3, W3 = ((w.alloc (.cells #[.slice t.qk t.nk t.ck, .slice (some ⟨g, o, none⟩) t.np t.cp, .int .i64 t.l0, .int .i64 t.l1, .int .i64 t.tn, .int .u8 t.py, .int .i64 t.mo, .slice t.qe t.ne t.ce, .bool t.b0, .bool t.b1] 28)).alloc (.cells #[.int .u8 sd, .int .u8 sz, .int .u8 sk] 30)).alloc (.cells #[.int .i64 p.df, .int .i64 p.ak, .int .i64 p.gd, .int .u8 p.ow, .int .u8 p.hs, .int .u8 p.zn, .int .i64 p.pl, .bool p.up, .bool p.lw, .int .i64 p.sc, .int .u8 p.us, .bool p.sk, .bool p.tu, .int .i64 p.bo] 51) := ⟨_, rfl⟩
  rw [← hW3]
  have hs3 : W3.heap.size = w.heap.size + 1 + 1 + 1 := by rw [hW3]; simp
  have hB3 : Below w.heap.size w W3 := by rw [hW3]; exact (((Below.refl _ w).alloc (Nat.le_refl _) _).alloc (by simp) _).alloc (by simp; omega) _
  have q2 : W3.heap[w.heap.size + 1 + 1]? = some (.cells #[.int .i64 p.df, .int .i64 p.ak, .int .i64 p.gd, .int .u8 p.ow, .int .u8 p.hs, .int .u8 p.zn, .int .i64 p.pl, .bool p.up, .bool p.lw, .int .i64 p.sc, .int .u8 p.us, .bool p.sk, .bool p.tu, .int .i64 p.bo] 51 (0, 0)) := by rw [hW3]; exact heap_newer _ _ _ (by simp)
  have q1 : W3.heap[w.heap.size + 1]? = some (.cells #[.int .u8 sd, .int .u8 sz, .int .u8 sk] 30 (0, 0)) := by rw [hW3]; exact heap_older (heap_newer _ _ _ (by simp))
  have q0 : W3.heap[w.heap.size]? = some (.cells #[.slice t.qk t.nk t.ck, .slice (some ⟨g, o, none⟩) t.np t.cp, .int .i64 t.l0, .int .i64 t.l1, .int .i64 t.tn, .int .u8 t.py, .int .i64 t.mo, .slice t.qe t.ne t.ce, .bool t.b0, .bool t.b1] 28 (0, 0)) := by rw [hW3]; exact heap_older (heap_older (heap_newer _ _ _ rfl))
  have d0 := cell_blk (i := 0) q2
  have d1 := cell_blk (i := 1) q2
  have d2 := cell_blk (i := 2) q2
  have d3 := cell_blk (i := 3) q2
  have d4 := cell_blk (i := 4) q2
  have d5 := cell_blk (i := 5) q2
  have d6 := cell_blk (i := 6) q2
  have d7 := cell_blk (i := 7) q2
  have d8 := cell_blk (i := 8) q2
  have d9 := cell_blk (i := 9) q2
  have d10 := cell_blk (i := 10) q2
  have d11 := cell_blk (i := 11) q2
  have d12 := cell_blk (i := 12) q2
  have d13 := cell_blk (i := 13) q2
  have e0' := cell_blk (i := 0) q1
  have e1' := cell_blk (i := 1) q1
  have e2' := cell_blk (i := 2) q1
  have f0 := cell_blk (i := 0) q0
  have f1 := cell_blk (i := 1) q0
  have f2 := cell_blk (i := 2) q0
  have f3 := cell_blk (i := 3) q0
  have f4 := cell_blk (i := 4) q0
  have f5 := cell_blk (i := 5) q0
  have f6 := cell_blk (i := 6) q0
  have f7 := cell_blk (i := 7) q0
  have f8 := cell_blk (i := 8) q0
  have f9 := cell_blk (i := 9) q0
  simp at d0 d1 d2 d3 d4 d5 d6 d7 d8 d9 d10 d11 d12 d13 e0' e1' e2' f0 f1 f2 f3 f4 f5 f6 f7 f8 f9
  have HB3 := Lib.hid hB3
  clear q0 q1 q2 hW3 hB3
  go_region_held3 (fun w' => w'.cell? ⟨w.heap.size + 1 + 1, 0, none⟩ = some (.int .i64 p.df) ∧ w'.cell? ⟨w.heap.size + 1 + 1, 1, none⟩ = some (.int .i64 p.ak) ∧ w'.cell? ⟨w.heap.size + 1 + 1, 2, none⟩ = some (.int .i64 p.gd) ∧ w'.cell? ⟨w.heap.size + 1 + 1, 3, none⟩ = some (.int .u8 p.ow) ∧ w'.cell? ⟨w.heap.size + 1 + 1, 4, none⟩ = some (.int .u8 p.hs) ∧ w'.cell? ⟨w.heap.size + 1 + 1, 5, none⟩ = some (.int .u8 p.zn) ∧ w'.cell? ⟨w.heap.size + 1 + 1, 6, none⟩ = some (.int .i64 p.pl) ∧ w'.cell? ⟨w.heap.size + 1 + 1, 7, none⟩ = some (.bool p.up) ∧ w'.cell? ⟨w.heap.size + 1 + 1, 8, none⟩ = some (.bool p.lw) ∧ w'.cell? ⟨w.heap.size + 1 + 1, 9, none⟩ = some (.int .i64 p.sc) ∧ w'.cell? ⟨w.heap.size + 1 + 1, 10, none⟩ = some (.int .u8 p.us) ∧ w'.cell? ⟨w.heap.size + 1 + 1, 11, none⟩ = some (.bool p.sk) ∧ w'.cell? ⟨w.heap.size + 1 + 1, 12, none⟩ = some (.bool p.tu) ∧ w'.cell? ⟨w.heap.size + 1 + 1, 13, none⟩ = some (.int .i64 p.bo) ∧ w'.cell? ⟨w.heap.size + 1, 0, none⟩ = some (.int .u8 sd) ∧ w'.cell? ⟨w.heap.size + 1, 1, none⟩ = some (.int .u8 sz) ∧ w'.cell? ⟨w.heap.size + 1, 2, none⟩ = some (.int .u8 sk) ∧ w'.cell? ⟨w.heap.size, 0, none⟩ = some (.slice t.qk t.nk t.ck) ∧ w'.cell? ⟨w.heap.size, 1, none⟩ = some (.slice (some ⟨g, o, none⟩) t.np t.cp) ∧ w'.cell? ⟨w.heap.size, 2, none⟩ = some (.int .i64 t.l0) ∧ w'.cell? ⟨w.heap.size, 3, none⟩ = some (.int .i64 t.l1) ∧ w'.cell? ⟨w.heap.size, 4, none⟩ = some (.int .i64 t.tn) ∧ w'.cell? ⟨w.heap.size, 5, none⟩ = some (.int .u8 t.py) ∧ w'.cell? ⟨w.heap.size, 6, none⟩ = some (.int .i64 t.mo) ∧ w'.cell? ⟨w.heap.size, 7, none⟩ = some (.slice t.qe t.ne t.ce) ∧ w'.cell? ⟨w.heap.size, 8, none⟩ = some (.bool t.b0) ∧ w'.cell? ⟨w.heap.size, 9, none⟩ = some (.bool t.b1))
    (first
      | go_keep
      | (exact ⟨d0, d1, d2, d3, d4, d5, d6, d7, d8, d9, d10, d11, d12, d13, e0', e1', e2', f0, f1, f2, f3, f4, f5, f6, f7, f8, f9⟩)
      | ((repeat' apply And.intro) <;> (refine cell_later b5 ?_) <;> first | assumption | go_keep | simp_all))
    (first
      | (go_at_call 48; refine (hside.out _).mono ?_; rintro e w5 ⟨rfl, rfl⟩)
      | (go_at_call 49; refine (hseen.out _).mono ?_; rintro e w5 ⟨rfl, b5⟩; have B5 : Below w.heap.size w w5 := ((by repeat (first | (with_reducible exact HB3.out) | ((with_reducible refine Below.alloc ?_ ?_ _); rotate_left; focus (first | omega | (simp; omega) | (simp; done))) | (with_reducible refine Below.drew ?_))) : Below w.heap.size w _).trans (b5.mono (by have := HB3.out.size; simp; omega)))
      | (go_at_call 50; refine (hkind.out _ (by repeat (first | (with_reducible exact B5) | (with_reducible refine Below.drew ?_)))).mono ?_; rintro e w5 ⟨rfl, b5⟩; have B6 : Below w.heap.size w w5 := ((by repeat (first | (with_reducible exact B5) | (with_reducible refine Below.drew ?_))) : Below w.heap.size w _).trans (b5.mono (by have := B5.size; simp; omega))))
  all_goals go_wp2_with fail
  all_goals go_ret
  all_goals exact ⟨rfl, by first | exact B6 | exact B6.drew⟩
end Go.Proofs.Ytlbbabojejimpaa

/- might.of: of a kind, not seen. -/
namespace Go.Proofs.Ytlbbabojejimpaa
open Go.RowKit Go.Lib
section
variable {P : Program} {l : List Oper} {Q : Exit → Act → World → Prop} {md : Region.Mode} {S : World → Prop}
theorem take_at {i : Nat} {oi : Oper} {v : Value} {fuel : Nat} {listed : Array Bool} {a : Act} {w : World} (hi : l[i]? = some oi)
    (hs : Region.noSelect l.toArray = true) (hf : Region.free md l.toArray listed i = true) (hr : (Region.ready md l.toArray listed).contains i = true)
    (hQ : ∀ c a w, Q (.panic c) (a.put oi.dst v) w → Q (.panic c) a w) (hy : YieldsIf P l.toArray S oi v a) (hS : S w)
    (h : wpAnyH P md l.toArray Q S fuel (listed.setIfInBounds i true) (a.put oi.dst v) w) : wpAnyH P md l.toArray Q S (fuel + 1) listed a w :=
  wpAnyH_take (by rw [List.getElem?_toArray]; exact hi) hs hf hr hQ hy hS h
theorem cons_at {fuel : Nat} {listed : Array Bool} {a : Act} {w : World} {i : Nat} {o : Oper} {rs : List Nat} (ho : l[i]? = some o)
    (h : ∀ K' : Act → World → Prop, Shut (∀ a w, S w → (S w → wpAnyH P md l.toArray Q S fuel (listed.setIfInBounds i true) a w) → K' a w) → if Region.wanted o (yielded l.toArray a.tmps) = true then Oper.wp P o a w K' Q else K' (a.put o.dst undef) w)
    (hs : AllReadyH P md l.toArray Q S fuel listed a w rs) : AllReadyH P md l.toArray Q S fuel listed a w (i :: rs) :=
  AllReadyH.cons (by rw [List.getElem?_toArray]; exact ho) h hs
end

set_option maxHeartbeats 4000000 in
set_option maxRecDepth 100000 in
theorem of_blind (t : Tb) (xs : List Cd) (ps : List Pc) (i : Nat) (p : Pc) (who : Nat) (fr : Int) (s : Sl) (w : World) (hT : TabIn w t xs ps) (hi : ps[i]? = some p) (hz : p.zn ≤ 7) (h1 : p.zn = s.zone) (h2 : sideB s.side who fr p.hs i = true) (h3 : s.kind ≠ 0) (h4 : seenB p = false) :
    Calls Try.prog 41 #[.agg t.row, .int .u8 who, .int .i64 fr, .agg #[.int .u8 s.side, .int .u8 s.zone, .int .u8 s.kind], .int .i64 i] w fun e w' => e = .returned (.bool (ofB xs p who fr s i)) ∧ Below w.heap.size w w' := by
  obtain ⟨g, o, hq, hg, hc⟩ := hT.piece hi
  have hil : i < t.np := by rw [hT.np.1]; exact (List.getElem?_eq_some_iff.1 hi).1
  have hside := Lib.hid fun W => side_any s.side who fr p.hs i W
  have hseen := Lib.hid fun W => seen_any p W hz
  have hkind := Lib.hid fun (W : World) (hb : Below w.heap.size w W) => bkind_any t xs ps i p W (hT.below hb) hi
  simp only [pcV] at hseen
  have c0 := hc 0 _ rfl
  have c1 := hc 1 _ rfl
  have c2 := hc 2 _ rfl
  have c3 := hc 3 _ rfl
  have c4 := hc 4 _ rfl
  have c5 := hc 5 _ rfl
  have c6 := hc 6 _ rfl
  have c7 := hc 7 _ rfl
  have c8 := hc 8 _ rfl
  have c9 := hc 9 _ rfl
  have c10 := hc 10 _ rfl
  have c11 := hc 11 _ rfl
  have c12 := hc 12 _ rfl
  have c13 := hc 13 _ rfl
  simp only [Nat.add_zero] at c0
  have i0 : (0 : Int) ≤ (i : Int) := by omega
  have i1 : (i : Int) < (t.np : Int) := by omega
  obtain ⟨sd, sz, sk⟩ := s
  dsimp only at *
  have hr : ofB xs p who fr ⟨sd, sz, sk⟩ i = false := by
    have e3 : (sk == 0) = false := by simpa using h3
    simp [ofB, h1, h2, h4, e3]
  have e1 : ((p.zn : Int) == (sz : Int)) = true := by simp [h1]
  have e3 : ((sk : Int) == 0) = false := by simp; omega
  rw [h2] at hside
  rw [h4] at hseen
  rw [hr]
  clear hr h1 h2 h3 h4
  obtain ⟨K, hK⟩ : ∃ K, kindI xs p.df = K := ⟨_, rfl⟩
  rw [hK] at hkind
  clear hK
  clear hT hi hc hz
  simp only [Tb.row] at *
  rw [hq] at hkind ⊢
  go_enter Try.func41, Try.ntmps41
  go_wp2_with fail
  obtain ⟨W3, hW3⟩ : ∃ W3, W3 = ((w.alloc (.cells #[.slice t.qk t.nk t.ck, .slice (some ⟨g, o, none⟩) t.np t.cp, .int .i64 t.l0, .int .i64 t.l1, .int .i64 t.tn, .int .u8 t.py, .int .i64 t.mo, .slice t.qe t.ne t.ce, .bool t.b0, .bool t.b1] 28)).alloc (.cells #[.int .u8 sd, .int .u8 sz, .int .u8 sk] 30)).alloc (.cells #[.int .i64 p.df, .int .i64 p.ak, .int .i64 p.gd, .int .u8 p.ow, .int .u8 p.hs, .int .u8 p.zn, .int .i64 p.pl, .bool p.up, .bool p.lw, .int .i64 p.sc, .int .u8 p.us, .bool p.sk, .bool p.tu, .int .i64 p.bo] 51) := ⟨_, rfl⟩
  rw [← hW3]
  have hs3 : W3.heap.size = w.heap.size + 1 + 1 + 1 := by rw [hW3]; simp
  have hB3 : Below w.heap.size w W3 := by rw [hW3]; exact (((Below.refl _ w).alloc (Nat.le_refl _) _).alloc (by simp) _).alloc (by simp; omega) _
  have q2 : W3.heap[w.heap.size + 1 + 1]? = some (.cells #[.int .i64 p.df, .int .i64 p.ak, .int .i64 p.gd, .int .u8 p.ow, .int .u8 p.hs, .int .u8 p.zn, .int .i64 p.pl, .bool p.up, .bool p.lw, .int .i64 p.sc, .int .u8 p.us, .bool p.sk, .bool p.tu, .int .i64 p.bo] 51 (0, 0)) := by rw [hW3]; exact heap_newer _ _ _ (by simp)
  have q1 : W3.heap[w.heap.size + 1]? = some (.cells #[.int .u8 sd, .int .u8 sz, .int .u8 sk] 30 (0, 0)) := by rw [hW3]; exact heap_older (heap_newer _ _ _ (by simp))
  have q0 : W3.heap[w.heap.size]? = some (.cells #[.slice t.qk t.nk t.ck, .slice (some ⟨g, o, none⟩) t.np t.cp, .int .i64 t.l0, .int .i64 t.l1, .int .i64 t.tn, .int .u8 t.py, .int .i64 t.mo, .slice t.qe t.ne t.ce, .bool t.b0, .bool t.b1] 28 (0, 0)) := by rw [hW3]; exact heap_older (heap_older (heap_newer _ _ _ rfl))
  have d0 := cell_blk (i := 0) q2
  have d1 := cell_blk (i := 1) q2
  have d2 := cell_blk (i := 2) q2
  have d3 := cell_blk (i := 3) q2
  have d4 := cell_blk (i := 4) q2
  have d5 := cell_blk (i := 5) q2
  have d6 := cell_blk (i := 6) q2
  have d7 := cell_blk (i := 7) q2
  have d8 := cell_blk (i := 8) q2
  have d9 := cell_blk (i := 9) q2
  have d10 := cell_blk (i := 10) q2
  have d11 := cell_blk (i := 11) q2
  have d12 := cell_blk (i := 12) q2
  have d13 := cell_blk (i := 13) q2
  have e0' := cell_blk (i := 0) q1
  have e1' := cell_blk (i := 1) q1
  have e2' := cell_blk (i := 2) q1
  have f0 := cell_blk (i := 0) q0
  have f1 := cell_blk (i := 1) q0
  have f2 := cell_blk (i := 2) q0
  have f3 := cell_blk (i := 3) q0
  have f4 := cell_blk (i := 4) q0
  have f5 := cell_blk (i := 5) q0
  have f6 := cell_blk (i := 6) q0
  have f7 := cell_blk (i := 7) q0
  have f8 := cell_blk (i := 8) q0
  have f9 := cell_blk (i := 9) q0
  simp at d0 d1 d2 d3 d4 d5 d6 d7 d8 d9 d10 d11 d12 d13 e0' e1' e2' f0 f1 f2 f3 f4 f5 f6 f7 f8 f9
  have HB3 := Lib.hid hB3
  clear q0 q1 q2 hW3 hB3
  refine wp_region_held_drew (S := fun w' => w'.cell? ⟨w.heap.size + 1 + 1, 0, none⟩ = some (.int .i64 p.df) ∧ w'.cell? ⟨w.heap.size + 1 + 1, 1, none⟩ = some (.int .i64 p.ak) ∧ w'.cell? ⟨w.heap.size + 1 + 1, 2, none⟩ = some (.int .i64 p.gd) ∧ w'.cell? ⟨w.heap.size + 1 + 1, 3, none⟩ = some (.int .u8 p.ow) ∧ w'.cell? ⟨w.heap.size + 1 + 1, 4, none⟩ = some (.int .u8 p.hs) ∧ w'.cell? ⟨w.heap.size + 1 + 1, 5, none⟩ = some (.int .u8 p.zn) ∧ w'.cell? ⟨w.heap.size + 1 + 1, 6, none⟩ = some (.int .i64 p.pl) ∧ w'.cell? ⟨w.heap.size + 1 + 1, 7, none⟩ = some (.bool p.up) ∧ w'.cell? ⟨w.heap.size + 1 + 1, 8, none⟩ = some (.bool p.lw) ∧ w'.cell? ⟨w.heap.size + 1 + 1, 9, none⟩ = some (.int .i64 p.sc) ∧ w'.cell? ⟨w.heap.size + 1 + 1, 10, none⟩ = some (.int .u8 p.us) ∧ w'.cell? ⟨w.heap.size + 1 + 1, 11, none⟩ = some (.bool p.sk) ∧ w'.cell? ⟨w.heap.size + 1 + 1, 12, none⟩ = some (.bool p.tu) ∧ w'.cell? ⟨w.heap.size + 1 + 1, 13, none⟩ = some (.int .i64 p.bo) ∧ w'.cell? ⟨w.heap.size + 1, 0, none⟩ = some (.int .u8 sd) ∧ w'.cell? ⟨w.heap.size + 1, 1, none⟩ = some (.int .u8 sz) ∧ w'.cell? ⟨w.heap.size + 1, 2, none⟩ = some (.int .u8 sk)) (by kernel_rfl) ⟨d0, d1, d2, d3, d4, d5, d6, d7, d8, d9, d10, d11, d12, d13, e0', e1', e2'⟩ (fun hHeld => ?_)
  refine take_at (i := 0) (v := ?_) rfl (by kernel_rfl) (by kernel_rfl) (by kernel_rfl) (fun _ _ _ h => h) (Or.inl ⟨by rfl, ?_⟩) hHeld ?_
  rotate_left
  · intro w hSw
    (try dsimp only at hSw)
    go_simp
    try with_reducible rfl
  try simp only [Act.put, List.setIfInBounds_toArray, List.set_cons_zero, List.set_cons_succ]
  try dsimp only
  refine take_at (i := 1) (v := ?_) rfl (by kernel_rfl) (by kernel_rfl) (by kernel_rfl) (fun _ _ _ h => h) (Or.inl ⟨by rfl, ?_⟩) hHeld ?_
  rotate_left
  · intro w hSw
    (try dsimp only at hSw)
    go_simp
    try with_reducible rfl
  try simp only [Act.put, List.setIfInBounds_toArray, List.set_cons_zero, List.set_cons_succ]
  try dsimp only
  refine take_at (i := 2) (v := ?_) rfl (by kernel_rfl) (by kernel_rfl) (by kernel_rfl) (fun _ _ _ h => h) (Or.inl ⟨by rfl, ?_⟩) hHeld ?_
  rotate_left
  · intro w hSw
    (try dsimp only at hSw)
    go_simp
    try with_reducible rfl
  try simp only [Act.put, List.setIfInBounds_toArray, List.set_cons_zero, List.set_cons_succ]
  try dsimp only
  refine take_at (i := 3) (v := ?_) rfl (by kernel_rfl) (by kernel_rfl) (by kernel_rfl) (fun _ _ _ h => h) (Or.inl ⟨by rfl, ?_⟩) hHeld ?_
  rotate_left
  · intro w hSw
    (try dsimp only at hSw)
    go_simp
    try with_reducible rfl
  try simp only [Act.put, List.setIfInBounds_toArray, List.set_cons_zero, List.set_cons_succ]
  try dsimp only
  refine take_at (i := 4) (v := ?_) rfl (by kernel_rfl) (by kernel_rfl) (by kernel_rfl) (fun _ _ _ h => h) (Or.inl ⟨by rfl, ?_⟩) hHeld ?_
  rotate_left
  · intro w hSw
    (try dsimp only at hSw)
    go_simp
    try with_reducible rfl
  try simp only [Act.put, List.setIfInBounds_toArray, List.set_cons_zero, List.set_cons_succ]
  try dsimp only
  refine take_at (i := 5) (v := ?_) rfl (by kernel_rfl) (by kernel_rfl) (by kernel_rfl) (fun _ _ _ h => h) (Or.inl ⟨by rfl, ?_⟩) hHeld ?_
  rotate_left
  · intro w hSw
    (try dsimp only at hSw)
    go_simp
    try with_reducible rfl
  try simp only [Act.put, List.setIfInBounds_toArray, List.set_cons_zero, List.set_cons_succ]
  try dsimp only
  refine take_at (i := 6) (v := ?_) rfl (by kernel_rfl) (by kernel_rfl) (by kernel_rfl) (fun _ _ _ h => h) (Or.inl ⟨by rfl, ?_⟩) hHeld ?_
  rotate_left
  · intro w hSw
    (try dsimp only at hSw)
    go_simp
    try with_reducible rfl
  try simp only [Act.put, List.setIfInBounds_toArray, List.set_cons_zero, List.set_cons_succ]
  try dsimp only
  refine take_at (i := 7) (v := ?_) rfl (by kernel_rfl) (by kernel_rfl) (by kernel_rfl) (fun _ _ _ h => h) (Or.inl ⟨by rfl, ?_⟩) hHeld ?_
  rotate_left
  · intro w hSw
    (try dsimp only at hSw)
    go_simp
    try with_reducible rfl
  try simp only [Act.put, List.setIfInBounds_toArray, List.set_cons_zero, List.set_cons_succ]
  try dsimp only
  refine take_at (i := 8) (v := ?_) rfl (by kernel_rfl) (by kernel_rfl) (by kernel_rfl) (fun _ _ _ h => h) (Or.inl ⟨by rfl, ?_⟩) hHeld ?_
  rotate_left
  · intro w hSw
    (try dsimp only at hSw)
    go_simp
    try with_reducible rfl
  try simp only [Act.put, List.setIfInBounds_toArray, List.set_cons_zero, List.set_cons_succ]
  try dsimp only
  refine take_at (i := 9) (v := ?_) rfl (by kernel_rfl) (by kernel_rfl) (by kernel_rfl) (fun _ _ _ h => h) (Or.inl ⟨by rfl, ?_⟩) hHeld ?_
  rotate_left
  · intro w hSw
    (try dsimp only at hSw)
    go_simp
    try with_reducible rfl
  try simp only [Act.put, List.setIfInBounds_toArray, List.set_cons_zero, List.set_cons_succ]
  try dsimp only
  refine take_at (i := 10) (v := ?_) rfl (by kernel_rfl) (by kernel_rfl) (by kernel_rfl) (fun _ _ _ h => h) (Or.inl ⟨by rfl, ?_⟩) hHeld ?_
  rotate_left
  · intro w hSw
    (try dsimp only at hSw)
    go_simp
    try with_reducible rfl
  try simp only [Act.put, List.setIfInBounds_toArray, List.set_cons_zero, List.set_cons_succ]
  try dsimp only
  refine take_at (i := 11) (v := ?_) rfl (by kernel_rfl) (by kernel_rfl) (by kernel_rfl) (fun _ _ _ h => h) (Or.inl ⟨by rfl, ?_⟩) hHeld ?_
  rotate_left
  · intro w hSw
    (try dsimp only at hSw)
    go_simp
    try with_reducible rfl
  try simp only [Act.put, List.setIfInBounds_toArray, List.set_cons_zero, List.set_cons_succ]
  try dsimp only
  refine take_at (i := 12) (v := ?_) rfl (by kernel_rfl) (by kernel_rfl) (by kernel_rfl) (fun _ _ _ h => h) (Or.inl ⟨by rfl, ?_⟩) hHeld ?_
  rotate_left
  · intro w hSw
    (try dsimp only at hSw)
    go_simp
    try with_reducible rfl
  try simp only [Act.put, List.setIfInBounds_toArray, List.set_cons_zero, List.set_cons_succ]
  try dsimp only
  refine wpAnyH_ready (rs := [13]) (by kernel_rfl) (by simp) ?_
  refine cons_at rfl (fun K hK => ?_) AllReadyH.nil
  go_simp
  refine (hside.out _).mono ?_
  rintro e w5 ⟨rfl, rfl⟩
  refine hK.out _ _ ⟨d0, d1, d2, d3, d4, d5, d6, d7, d8, d9, d10, d11, d12, d13, e0', e1', e2'⟩ (fun hHeld => ?_)
  clear hK K
  try simp only [Act.put, List.setIfInBounds_toArray, List.set_cons_zero, List.set_cons_succ]
  try dsimp only
  refine take_at (i := 14) (v := ?_) rfl (by kernel_rfl) (by kernel_rfl) (by kernel_rfl) (fun _ _ _ h => h) (Or.inl ⟨by rfl, ?_⟩) hHeld ?_
  rotate_left
  · intro w hSw
    (try dsimp only at hSw)
    go_simp
    try with_reducible rfl
  try simp only [Act.put, List.setIfInBounds_toArray, List.set_cons_zero, List.set_cons_succ]
  try dsimp only
  refine take_at (i := 15) (v := ?_) rfl (by kernel_rfl) (by kernel_rfl) (by kernel_rfl) (fun _ _ _ h => h) (Or.inl ⟨by rfl, ?_⟩) hHeld ?_
  rotate_left
  · intro w hSw
    (try dsimp only at hSw)
    go_simp
    try with_reducible rfl
  try simp only [Act.put, List.setIfInBounds_toArray, List.set_cons_zero, List.set_cons_succ]
  try dsimp only
  refine take_at (i := 16) (v := ?_) rfl (by kernel_rfl) (by kernel_rfl) (by kernel_rfl) (fun _ _ _ h => h) (Or.inl ⟨by rfl, ?_⟩) hHeld ?_
  rotate_left
  · intro w hSw
    (try dsimp only at hSw)
    go_simp
    try with_reducible rfl
  try simp only [Act.put, List.setIfInBounds_toArray, List.set_cons_zero, List.set_cons_succ]
  try dsimp only
  refine take_at (i := 17) (v := ?_) rfl (by kernel_rfl) (by kernel_rfl) (by kernel_rfl) (fun _ _ _ h => h) (Or.inl ⟨by rfl, ?_⟩) hHeld ?_
  rotate_left
  · intro w hSw
    (try dsimp only at hSw)
    go_simp
    try with_reducible rfl
  try simp only [Act.put, List.setIfInBounds_toArray, List.set_cons_zero, List.set_cons_succ]
  try dsimp only
  refine take_at (i := 18) (v := ?_) rfl (by kernel_rfl) (by kernel_rfl) (by kernel_rfl) (fun _ _ _ h => h) (Or.inl ⟨by rfl, ?_⟩) hHeld ?_
  rotate_left
  · intro w hSw
    (try dsimp only at hSw)
    go_simp
    try with_reducible rfl
  try simp only [Act.put, List.setIfInBounds_toArray, List.set_cons_zero, List.set_cons_succ]
  try dsimp only
  refine take_at (i := 19) (v := ?_) rfl (by kernel_rfl) (by kernel_rfl) (by kernel_rfl) (fun _ _ _ h => h) (Or.inl ⟨by rfl, ?_⟩) hHeld ?_
  rotate_left
  · intro w hSw
    (try dsimp only at hSw)
    go_simp
    try with_reducible rfl
  try simp only [Act.put, List.setIfInBounds_toArray, List.set_cons_zero, List.set_cons_succ]
  try dsimp only
  refine take_at (i := 20) (v := ?_) rfl (by kernel_rfl) (by kernel_rfl) (by kernel_rfl) (fun _ _ _ h => h) (Or.inl ⟨by rfl, ?_⟩) hHeld ?_
  rotate_left
  · intro w hSw
    (try dsimp only at hSw)
    go_simp
    try with_reducible rfl
  try simp only [Act.put, List.setIfInBounds_toArray, List.set_cons_zero, List.set_cons_succ]
  try dsimp only
  refine wpAnyH_ready (rs := [21]) (by kernel_rfl) (by simp) ?_
  refine cons_at rfl (fun K hK => ?_) AllReadyH.nil
  go_simp
  refine (hseen.out _).mono ?_
  rintro e w5 ⟨rfl, b5⟩
  refine hK.out _ _ ⟨cell_later b5 d0, cell_later b5 d1, cell_later b5 d2, cell_later b5 d3, cell_later b5 d4, cell_later b5 d5, cell_later b5 d6, cell_later b5 d7, cell_later b5 d8, cell_later b5 d9, cell_later b5 d10, cell_later b5 d11, cell_later b5 d12, cell_later b5 d13, cell_later b5 e0', cell_later b5 e1', cell_later b5 e2'⟩ (fun hHeld => ?_)
  clear hK K
  try simp only [Act.put, List.setIfInBounds_toArray, List.set_cons_zero, List.set_cons_succ]
  try dsimp only
  refine take_at (i := 22) (v := ?_) rfl (by kernel_rfl) (by kernel_rfl) (by kernel_rfl) (fun _ _ _ h => h) (Or.inl ⟨by rfl, ?_⟩) hHeld ?_
  rotate_left
  · intro w hSw
    (try dsimp only at hSw)
    go_simp
    try with_reducible rfl
  try simp only [Act.put, List.setIfInBounds_toArray, List.set_cons_zero, List.set_cons_succ]
  try dsimp only
  refine take_at (i := 23) (v := undef) rfl (by kernel_rfl) (by kernel_rfl) (by kernel_rfl) (fun _ _ _ h => h) (Or.inr ⟨by rfl, rfl⟩) hHeld ?_
  try simp only [Act.put, List.setIfInBounds_toArray, List.set_cons_zero, List.set_cons_succ]
  try dsimp only
  refine take_at (i := 24) (v := undef) rfl (by kernel_rfl) (by kernel_rfl) (by kernel_rfl) (fun _ _ _ h => h) (Or.inr ⟨by rfl, rfl⟩) hHeld ?_
  try simp only [Act.put, List.setIfInBounds_toArray, List.set_cons_zero, List.set_cons_succ]
  try dsimp only
  refine take_at (i := 25) (v := undef) rfl (by kernel_rfl) (by kernel_rfl) (by kernel_rfl) (fun _ _ _ h => h) (Or.inr ⟨by rfl, rfl⟩) hHeld ?_
  try simp only [Act.put, List.setIfInBounds_toArray, List.set_cons_zero, List.set_cons_succ]
  try dsimp only
  refine take_at (i := 26) (v := undef) rfl (by kernel_rfl) (by kernel_rfl) (by kernel_rfl) (fun _ _ _ h => h) (Or.inr ⟨by rfl, rfl⟩) hHeld ?_
  try simp only [Act.put, List.setIfInBounds_toArray, List.set_cons_zero, List.set_cons_succ]
  try dsimp only
  refine take_at (i := 27) (v := undef) rfl (by kernel_rfl) (by kernel_rfl) (by kernel_rfl) (fun _ _ _ h => h) (Or.inr ⟨by rfl, rfl⟩) hHeld ?_
  try simp only [Act.put, List.setIfInBounds_toArray, List.set_cons_zero, List.set_cons_succ]
  try dsimp only
  refine take_at (i := 28) (v := undef) rfl (by kernel_rfl) (by kernel_rfl) (by kernel_rfl) (fun _ _ _ h => h) (Or.inr ⟨by rfl, rfl⟩) hHeld ?_
  try simp only [Act.put, List.setIfInBounds_toArray, List.set_cons_zero, List.set_cons_succ]
  try dsimp only
  refine take_at (i := 29) (v := undef) rfl (by kernel_rfl) (by kernel_rfl) (by kernel_rfl) (fun _ _ _ h => h) (Or.inr ⟨by rfl, rfl⟩) hHeld ?_
  try simp only [Act.put, List.setIfInBounds_toArray, List.set_cons_zero, List.set_cons_succ]
  try dsimp only
  refine take_at (i := 30) (v := ?_) rfl (by kernel_rfl) (by kernel_rfl) (by kernel_rfl) (fun _ _ _ h => h) (Or.inl ⟨by rfl, ?_⟩) hHeld ?_
  rotate_left
  · intro w hSw
    (try dsimp only at hSw)
    go_simp
    try with_reducible rfl
  try simp only [Act.put, List.setIfInBounds_toArray, List.set_cons_zero, List.set_cons_succ]
  try dsimp only
  refine take_at (i := 31) (v := ?_) rfl (by kernel_rfl) (by kernel_rfl) (by kernel_rfl) (fun _ _ _ h => h) (Or.inl ⟨by rfl, ?_⟩) hHeld ?_
  rotate_left
  · intro w hSw
    (try dsimp only at hSw)
    go_simp
    try with_reducible rfl
  try simp only [Act.put, List.setIfInBounds_toArray, List.set_cons_zero, List.set_cons_succ]
  try dsimp only
  refine take_at (i := 32) (v := ?_) rfl (by kernel_rfl) (by kernel_rfl) (by kernel_rfl) (fun _ _ _ h => h) (Or.inl ⟨by rfl, ?_⟩) hHeld ?_
  rotate_left
  · intro w hSw
    (try dsimp only at hSw)
    go_simp
    try with_reducible rfl
  try simp only [Act.put, List.setIfInBounds_toArray, List.set_cons_zero, List.set_cons_succ]
  try dsimp only
  refine take_at (i := 33) (v := ?_) rfl (by kernel_rfl) (by kernel_rfl) (by kernel_rfl) (fun _ _ _ h => h) (Or.inl ⟨by rfl, ?_⟩) hHeld ?_
  rotate_left
  · intro w hSw
    (try dsimp only at hSw)
    go_simp
    try with_reducible rfl
  try simp only [Act.put, List.setIfInBounds_toArray, List.set_cons_zero, List.set_cons_succ]
  try dsimp only
  refine wpAnyH_done (by kernel_rfl) ?_ _
  go_wp2_with fail
  go_ret
  exact ⟨rfl, HB3.out.drew.trans (b5.mono HB3.out.drew.size)⟩
end Go.Proofs.Ytlbbabojejimpaa
