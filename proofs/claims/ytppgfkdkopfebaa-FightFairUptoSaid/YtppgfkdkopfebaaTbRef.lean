/- joustref06: Kind, shared. -/
import Derived.Test.YtppgfkdkopfebaaTbPieces
namespace Go.Proofs.Ytppgfkdkopfebaa
open Go.RowKit Go.Lib

def sharedB (z : Nat) : Bool := z == 2 || z == 3 || z == 6
set_option maxHeartbeats 1000000 in
theorem rshared_any (z : Nat) (w : World) : Calls Try.prog 45 #[.int .u8 z] w fun e w' => e = .returned (.bool (sharedB z)) ∧ w = w' := by
  by_cases h2 : z = 2
  · subst h2
    go_enter Try.func45, Try.ntmps45
    go_wp2
    go_ret
    exact ⟨rfl, rfl⟩
  by_cases h3 : z = 3
  · subst h3
    go_enter Try.func45, Try.ntmps45
    go_wp2
    go_ret
    exact ⟨rfl, rfl⟩
  by_cases h6 : z = 6
  · subst h6
    go_enter Try.func45, Try.ntmps45
    go_wp2
    go_ret
    exact ⟨rfl, rfl⟩
  · have e2 : ((z : Int) == 2) = false := by simp; omega
    have e3 : ((z : Int) == 3) = false := by simp; omega
    have e6 : ((z : Int) == 6) = false := by simp; omega
    have e : sharedB z = false := by simp [sharedB, h2, h3, h6]
    rw [e]
    clear e h2 h3 h6
    go_enter Try.func45, Try.ntmps45
    go_wp2
    go_ret
    exact ⟨rfl, rfl⟩

set_option maxHeartbeats 1000000 in
theorem rkind_any (t : Tb) (xs : List Cd) (ps : List Pc) (i : Nat) (p : Pc) (w : World) (hT : TabIn w t xs ps) (hi : ps[i]? = some p) : Calls Try.prog 53 #[.agg t.row, .int .i64 i] w fun e w' => e = .returned (.int .u8 (kindI xs p.df)) ∧ Below w.heap.size w w' := by
  obtain ⟨g, o, hq, hg, hc⟩ := hT.piece hi
  have hil : i < t.np := by rw [hT.np.1]; exact (List.getElem?_eq_some_iff.1 hi).1
  have hnk := hT.nk.1
  have c0 := hc 0 _ rfl
  simp only [Nat.add_zero] at c0
  have i0 : (0 : Int) ≤ (i : Int) := by omega
  have i1 : ¬ ((i : Int) ≥ (t.np : Int)) := by omega
  have i2 : (i : Int) < (t.np : Int) := by omega
  have i3 : ¬ ((i : Int) < 0) := by omega
  have HT := Lib.hid hT
  clear hT hc hi
  simp only [Tb.row] at *
  rw [hq]
  by_cases h1 : p.df < 0
  · rw [kindI_neg h1]
    go_enter Try.func53, Try.ntmps53
    go_wp2
    go_ret
    exact ⟨rfl, (Below.refl _ _).alloc (Nat.le_refl _) _⟩
  by_cases h2 : p.df ≥ (t.nk : Int)
  · rw [kindI_out (by omega)]
    clear hnk
    go_enter Try.func53, Try.ntmps53
    go_wp2
    go_ret
    exact ⟨rfl, (Below.refl _ _).alloc (Nat.le_refl _) _⟩
  · obtain ⟨k, hk⟩ : ∃ k : Nat, p.df = k := ⟨p.df.toNat, by omega⟩
    rw [hk] at c0 h1 h2 ⊢
    obtain ⟨x, hx⟩ : ∃ x, xs[k]? = some x := ⟨xs[k]'(by omega), List.getElem?_eq_getElem _⟩
    obtain ⟨g', o', hq', hg', hc'⟩ := HT.out.kind hx
    rw [kindI_in hx, hq']
    have k1 : (k : Int) < (t.nk : Int) := by omega
    have k0 : (0 : Int) ≤ (k : Int) := by omega
    clear hnk hx hk
    go_enter Try.func53, Try.ntmps53
    go_wp2
    go_ret
    exact ⟨rfl, (Below.refl _ _).alloc (Nat.le_refl _) _⟩

/-- In a zone of a player; at a place there. -/
def inZ (h z : Nat) (p : Pc) : Bool := p.zn == z && p.hs == h
def inP (h z : Nat) (a : Int) (p : Pc) : Bool := inZ h z p && p.pl == a
theorem count_next (f : Pc → Bool) {ps : List Pc} {i : Nat} {p : Pc} (h : ps[i]? = some p) : (ps.take (i + 1)).countP f = (ps.take i).countP f + (if f p then 1 else 0) := by
  rw [List.take_add_one, h, List.countP_append]
  simp only [Option.toList, List.countP_cons, List.countP_nil, Nat.zero_add]
theorem count_take_le (f : Pc → Bool) (ps : List Pc) (i : Nat) : (ps.take i).countP f ≤ i := Nat.le_trans List.countP_le_length (by rw [List.length_take]; omega)

set_option maxHeartbeats 2000000 in
theorem rmany_any (t : Tb) (xs : List Cd) (ps : List Pc) (h z : Nat) (a : Int) (w : World) (hT : TabIn w t xs ps) :
    Calls Try.prog 44 #[.agg t.row, .int .u8 h, .int .u8 z, .int .i64 a] w fun e w' => e = .returned (.tuple #[.int .i64 (ps.countP (inZ h z)), .int .i64 (ps.countP (inP h z a))]) ∧ Below w.heap.size w w' := by
  have HN := Lib.hid hT.np
  have HT := Lib.hid hT
  clear hT
  obtain ⟨w0, hw0⟩ : ∃ w0, w0 = w.alloc (.cells t.row 28) := ⟨_, rfl⟩
  have hb0 : Below w.heap.size w w0 := by rw [hw0]; exact (Below.refl _ _).alloc (Nat.le_refl _) _
  have hx0 : w0.heap[w.heap.size]? = some (.cells t.row 28 (0, 0)) := by rw [hw0]; exact heap_alloc_new _ _
  have HB0 := Lib.hid hb0
  have HX0 := Lib.hid hx0
  have HW0 := Lib.hid hw0
  clear hb0 hx0 hw0
  simp only [Tb.row] at *
  go_enter Try.func44, Try.ntmps44
  go_wp2
  rw [← HW0.out]
  go_loopw [10, 11, 12] (fun va vt vi wr => ∃ k : Nat, vi = .int .i64 k ∧ k ≤ t.np ∧ va = .int .i64 ((ps.take k).countP (inZ h z)) ∧ vt = .int .i64 ((ps.take k).countP (inP h z a)) ∧ wr = w0) (fun _ _ vi _ => t.np - (RowKit.intOf vi).toNat)
  case atStart => exact ⟨0, by rfl, by omega, by simp, by simp, rfl⟩
  case round =>
    obtain ⟨k, rfl, hk, rfl, rfl, rfl⟩ := hrel
    have y1 := cell_blk (i := 1) HX0.out
    simp at y1
    have hlt0 := heap_lt HX0.out
    obtain ⟨A, hA⟩ : ∃ A, (ps.take k).countP (inZ h z) = A := ⟨_, rfl⟩
    obtain ⟨B, hB⟩ : ∃ B, (ps.take k).countP (inP h z a) = B := ⟨_, rfl⟩
    have hA1 : A ≤ k := by rw [← hA]; exact count_take_le _ _ _
    have hB1 : B ≤ k := by rw [← hB]; exact count_take_le _ _ _
    rw [hA, hB]
    have hm := HN.out.2
    have hnp := HN.out.1
    have hm1 : t.np ≤ 140737488355328 := by omega
    by_cases hlt : k < t.np
    · obtain ⟨p, hp⟩ : ∃ p, ps[k]? = some p := ⟨ps[k]'(by omega), List.getElem?_eq_getElem _⟩
      obtain ⟨g, o, hq, hg, hc⟩ := HT.out.piece hp
      have c4 := cell_later HB0.out (hc 4 _ rfl)
      have c5 := cell_later HB0.out (hc 5 _ rfl)
      have c6 := cell_later HB0.out (hc 6 _ rfl)
      have nz := count_next (inZ h z) hp
      have np := count_next (inP h z a) hp
      rw [hA] at nz
      rw [hB] at np
      have NZ := Lib.hid nz
      have NP := Lib.hid np
      rw [hq] at y1
      have i0 : (0 : Int) ≤ (k : Int) := by omega
      have i1 : (k : Int) < (t.np : Int) := by omega
      clear nz np hc hp hm hnp
      by_cases hz : p.zn = z
      · have e1 : ((p.zn : Int) == (z : Int)) = true := by simp [hz]
        by_cases hh : p.hs = h
        · have e2 : ((p.hs : Int) == (h : Int)) = true := by simp [hh]
          by_cases ha : p.pl = a
          · have e3 : (p.pl == a) = true := by simp [ha]
            have HE : Hid (inZ h z p = true ∧ inP h z a p = true) := Lib.hid (by simp [inZ, inP, hz, hh, ha])
            clear hz hh ha
            go_wp2
            go_roundw
            case rel => exact ⟨k + 1, by go_num, by omega, by rw [NZ.out, HE.out.1]; simp, by rw [NP.out, HE.out.2]; simp, by first | trivial | rfl⟩
            case measure => simp [RowKit.intOf]; omega
          · have e3 : (p.pl == a) = false := by simp [ha]
            have HE : Hid (inZ h z p = true ∧ inP h z a p = false) := Lib.hid (by simp [inZ, inP, hz, hh, ha])
            clear hz hh ha
            go_wp2
            go_roundw
            case rel => exact ⟨k + 1, by go_num, by omega, by rw [NZ.out, HE.out.1]; simp, by rw [NP.out, HE.out.2]; simp, by first | trivial | rfl⟩
            case measure => simp [RowKit.intOf]; omega
        · have e2 : ((p.hs : Int) == (h : Int)) = false := by simp; omega
          have HE : Hid (inZ h z p = false ∧ inP h z a p = false) := Lib.hid (by simp [inZ, inP, hz, hh])
          clear hz hh
          go_wp2
          go_roundw
          case rel => exact ⟨k + 1, by go_num, by omega, by rw [NZ.out, HE.out.1]; simp, by rw [NP.out, HE.out.2]; simp, by first | trivial | rfl⟩
          case measure => simp [RowKit.intOf]; omega
      · have e1 : ((p.zn : Int) == (z : Int)) = false := by simp; omega
        have HE : Hid (inZ h z p = false ∧ inP h z a p = false) := Lib.hid (by simp [inZ, inP, hz])
        clear hz
        go_wp2
        go_roundw
        case rel => exact ⟨k + 1, by go_num, by omega, by rw [NZ.out, HE.out.1]; simp, by rw [NP.out, HE.out.2]; simp, by first | trivial | rfl⟩
        case measure => simp [RowKit.intOf]; omega
    · obtain rfl : k = t.np := by omega
      rw [List.take_of_length_le (by omega)] at hA hB
      have HA := Lib.hid hA
      have HBB := Lib.hid hB
      clear hA hB hm hnp
      go_wp2
      refine bodyPost_ret (v := .tuple #[.int .i64 A, .int .i64 B]) (by simp [results, Try.results44, go_sem]) rfl ?_
      exact ⟨by rw [HA.out, HBB.out], HB0.out⟩
end Go.Proofs.Ytppgfkdkopfebaa
