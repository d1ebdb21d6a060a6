import Derived.Test.YtlbbabojejimpaaQTbA
/- joustref06: Kind, shared. -/
namespace Go.Proofs.Ytlbbabojejimpaa
open Go.RowKit Go.Lib

def sharedB (z : Nat) : Bool := z == 2 || z == 3 || z == 6
set_option maxHeartbeats 1000000 in
theorem rshared_any (z : Nat) (w : World) : Calls Try.prog 14 #[.int .u8 z] w fun e w' => e = .returned (.bool (sharedB z)) ∧ w = w' := by
  by_cases h2 : z = 2
  · subst h2
    go_enter Try.func14, Try.ntmps14
    go_wp2
    go_ret
    exact ⟨rfl, rfl⟩
  by_cases h3 : z = 3
  · subst h3
    go_enter Try.func14, Try.ntmps14
    go_wp2
    go_ret
    exact ⟨rfl, rfl⟩
  by_cases h6 : z = 6
  · subst h6
    go_enter Try.func14, Try.ntmps14
    go_wp2
    go_ret
    exact ⟨rfl, rfl⟩
  · have e2 : ((z : Int) == 2) = false := by simp; omega
    have e3 : ((z : Int) == 3) = false := by simp; omega
    have e6 : ((z : Int) == 6) = false := by simp; omega
    have e : sharedB z = false := by simp [sharedB, h2, h3, h6]
    rw [e]
    clear e h2 h3 h6
    go_enter Try.func14, Try.ntmps14
    go_wp2
    go_ret
    exact ⟨rfl, rfl⟩

set_option maxHeartbeats 1000000 in
theorem rkind_any (t : Tb) (xs : List Cd) (ps : List Pc) (i : Nat) (p : Pc) (w : World) (hT : TabIn w t xs ps) (hi : ps[i]? = some p) : Calls Try.prog 18 #[.agg t.row, .int .i64 i] w fun e w' => e = .returned (.int .u8 (kindI xs p.df)) ∧ Below w.heap.size w w' := by
  obtain ⟨g, o, hq, hg, hc⟩ := hT.piece hi
  have hil : i < t.np := by rw [hT.np.1]; exact (List.getElem?_eq_some_iff.1 hi).1
  have hnk := hT.nk.1
  have c0 := hc 0 _ rfl
  simp only [Nat.add_zero] at c0
  have i0 : (0 : Int) ≤ (i : Int) := by omega
  have i1 : ¬ ((i : Int) ≥ (t.np : Int)) := by omega
  have i2 : (i : Int) < (t.np : Int) := by omega
  have i3 : ¬ ((i : Int) < 0) := by omega
  have HT := Lib.hid hT
  clear hT hc hi
  simp only [Tb.row] at *
  rw [hq]
  by_cases h1 : p.df < 0
  · rw [kindI_neg h1]
    go_enter Try.func18, Try.ntmps18
    go_wp2
    go_ret
    exact ⟨rfl, (Below.refl _ _).alloc (Nat.le_refl _) _⟩
  by_cases h2 : p.df ≥ (t.nk : Int)
  · rw [kindI_out (by omega)]
    clear hnk
    go_enter Try.func18, Try.ntmps18
    go_wp2
    go_ret
    exact ⟨rfl, (Below.refl _ _).alloc (Nat.le_refl _) _⟩
  · obtain ⟨k, hk⟩ : ∃ k : Nat, p.df = k := ⟨p.df.toNat, by omega⟩
    rw [hk] at c0 h1 h2 ⊢
    obtain ⟨x, hx⟩ : ∃ x, xs[k]? = some x := ⟨xs[k]'(by omega), List.getElem?_eq_getElem _⟩
    obtain ⟨g', o', hq', hg', hc'⟩ := HT.out.kind hx
    rw [kindI_in hx, hq']
    have k1 : (k : Int) < (t.nk : Int) := by omega
    have k0 : (0 : Int) ≤ (k : Int) := by omega
    clear hnk hx hk
    go_enter Try.func18, Try.ntmps18
    go_wp2
    go_ret
    exact ⟨rfl, (Below.refl _ _).alloc (Nat.le_refl _) _⟩

/-- In a zone of a player; at a place there. -/
def inZ (h z : Nat) (p : Pc) : Bool := p.zn == z && p.hs == h
def inP (h z : Nat) (a : Int) (p : Pc) : Bool := inZ h z p && p.pl == a
theorem count_next (f : Pc → Bool) {ps : List Pc} {i : Nat} {p : Pc} (h : ps[i]? = some p) : (ps.take (i + 1)).countP f = (ps.take i).countP f + (if f p then 1 else 0) := by
  rw [List.take_add_one, h, List.countP_append]
  simp only [Option.toList, List.countP_cons, List.countP_nil, Nat.zero_add]
theorem count_take_le (f : Pc → Bool) (ps : List Pc) (i : Nat) : (ps.take i).countP f ≤ i := Nat.le_trans List.countP_le_length (by rw [List.length_take]; omega)

set_option maxHeartbeats 2000000 in
theorem rmany_any (t : Tb) (xs : List Cd) (ps : List Pc) (h z : Nat) (a : Int) (w : World) (hT : TabIn w t xs ps) :
    Calls Try.prog 13 #[.agg t.row, .int .u8 h, .int .u8 z, .int .i64 a] w fun e w' => e = .returned (.tuple #[.int .i64 (ps.countP (inZ h z)), .int .i64 (ps.countP (inP h z a))]) ∧ Below w.heap.size w w' := by
  have HN := Lib.hid hT.np
  have HT := Lib.hid hT
  clear hT
  obtain ⟨w0, hw0⟩ : ∃ w0, w0 = w.alloc (.cells t.row 28) := ⟨_, rfl⟩
  have hb0 : Below w.heap.size w w0 := by rw [hw0]; exact (Below.refl _ _).alloc (Nat.le_refl _) _
  have hx0 : w0.heap[w.heap.size]? = some (.cells t.row 28 (0, 0)) := by rw [hw0]; exact heap_alloc_new _ _
  have HB0 := Lib.hid hb0
  have HX0 := Lib.hid hx0
  have HW0 := Lib.hid hw0
  clear hb0 hx0 hw0
  simp only [Tb.row] at *
  go_enter Try.func13, Try.ntmps13
  go_wp2
  rw [← HW0.out]
  go_loopw [10, 11, 12] (fun va vt vi wr => ∃ k : Nat, vi = .int .i64 k ∧ k ≤ t.np ∧ va = .int .i64 ((ps.take k).countP (inZ h z)) ∧ vt = .int .i64 ((ps.take k).countP (inP h z a)) ∧ wr = w0) (fun _ _ vi _ => t.np - (RowKit.intOf vi).toNat)
  case atStart => exact ⟨0, by rfl, by omega, by simp, by simp, rfl⟩
  case round =>
    obtain ⟨k, rfl, hk, rfl, rfl, rfl⟩ := hrel
    have y1 := cell_blk (i := 1) HX0.out
    simp at y1
    have hlt0 := heap_lt HX0.out
    obtain ⟨A, hA⟩ : ∃ A, (ps.take k).countP (inZ h z) = A := ⟨_, rfl⟩
    obtain ⟨B, hB⟩ : ∃ B, (ps.take k).countP (inP h z a) = B := ⟨_, rfl⟩
    have hA1 : A ≤ k := by rw [← hA]; exact count_take_le _ _ _
    have hB1 : B ≤ k := by rw [← hB]; exact count_take_le _ _ _
    rw [hA, hB]
    have hm := HN.out.2
    have hnp := HN.out.1
    have hm1 : t.np ≤ 140737488355328 := by omega
    by_cases hlt : k < t.np
    · obtain ⟨p, hp⟩ : ∃ p, ps[k]? = some p := ⟨ps[k]'(by omega), List.getElem?_eq_getElem _⟩
      obtain ⟨g, o, hq, hg, hc⟩ := HT.out.piece hp
      have c4 := cell_later HB0.out (hc 4 _ rfl)
      have c5 := cell_later HB0.out (hc 5 _ rfl)
      have c6 := cell_later HB0.out (hc 6 _ rfl)
      have nz := count_next (inZ h z) hp
      have np := count_next (inP h z a) hp
      rw [hA] at nz
      rw [hB] at np
      have NZ := Lib.hid nz
      have NP := Lib.hid np
      rw [hq] at y1
      have i0 : (0 : Int) ≤ (k : Int) := by omega
      have i1 : (k : Int) < (t.np : Int) := by omega
      clear nz np hc hp hm hnp
      by_cases hz : p.zn = z
      · have e1 : ((p.zn : Int) == (z : Int)) = true := by simp [hz]
        by_cases hh : p.hs = h
        · have e2 : ((p.hs : Int) == (h : Int)) = true := by simp [hh]
          by_cases ha : p.pl = a
          · have e3 : (p.pl == a) = true := by simp [ha]
            have HE : Hid (inZ h z p = true ∧ inP h z a p = true) := Lib.hid (by simp [inZ, inP, hz, hh, ha])
            clear hz hh ha
            go_wp2
            go_roundw
            case rel => exact ⟨k + 1, by go_num, by omega, by rw [NZ.out, HE.out.1]; simp, by rw [NP.out, HE.out.2]; simp, by first | trivial | rfl⟩
            case measure => simp [RowKit.intOf]; omega
          · have e3 : (p.pl == a) = false := by simp [ha]
            have HE : Hid (inZ h z p = true ∧ inP h z a p = false) := Lib.hid (by simp [inZ, inP, hz, hh, ha])
            clear hz hh ha
            go_wp2
            go_roundw
            case rel => exact ⟨k + 1, by go_num, by omega, by rw [NZ.out, HE.out.1]; simp, by rw [NP.out, HE.out.2]; simp, by first | trivial | rfl⟩
            case measure => simp [RowKit.intOf]; omega
        · have e2 : ((p.hs : Int) == (h : Int)) = false := by simp; omega
          have HE : Hid (inZ h z p = false ∧ inP h z a p = false) := Lib.hid (by simp [inZ, inP, hz, hh])
          clear hz hh
          go_wp2
          go_roundw
          case rel => exact ⟨k + 1, by go_num, by omega, by rw [NZ.out, HE.out.1]; simp, by rw [NP.out, HE.out.2]; simp, by first | trivial | rfl⟩
          case measure => simp [RowKit.intOf]; omega
      · have e1 : ((p.zn : Int) == (z : Int)) = false := by simp; omega
        have HE : Hid (inZ h z p = false ∧ inP h z a p = false) := Lib.hid (by simp [inZ, inP, hz])
        clear hz
        go_wp2
        go_roundw
        case rel => exact ⟨k + 1, by go_num, by omega, by rw [NZ.out, HE.out.1]; simp, by rw [NP.out, HE.out.2]; simp, by first | trivial | rfl⟩
        case measure => simp [RowKit.intOf]; omega
    · obtain rfl : k = t.np := by omega
      rw [List.take_of_length_le (by omega)] at hA hB
      have HA := Lib.hid hA
      have HBB := Lib.hid hB
      clear hA hB hm hnp
      go_wp2
      refine bodyPost_ret (v := .tuple #[.int .i64 A, .int .i64 B]) (by simp [results, Try.results13, go_sem]) rfl ?_
      exact ⟨by rw [HA.out, HBB.out], HB0.out⟩
end Go.Proofs.Ytlbbabojejimpaa

/- joustref06: one: a piece that is told that it may be, by itself, is so. -/
namespace Go.Proofs.Ytlbbabojejimpaa
open Go.RowKit Go.Lib

/-- A piece may be, by itself. -/
structure OneP (xs : List Cd) (p : Pc) : Prop where
  df : -1 ≤ p.df ∧ p.df < xs.length
  ow : p.ow ≤ 1
  hs : p.hs ≤ 1
  zn : p.zn ≤ 7
  sh : p.ow = p.hs ∨ sharedB p.zn = true
  ak : 0 ≤ p.ak ∧ p.ak ≤ 99999
  gd : 0 ≤ p.gd ∧ p.gd ≤ 99999
  row : p.zn = 2 ∨ p.zn = 3 → 0 ≤ p.pl ∧ p.pl < 5
  nul : p.zn = 6 ∨ p.zn = 7 → p.pl = 0
  unit : p.zn = 2 ∨ p.zn = 6 → kindI xs p.df = 0
  back : p.zn = 3 → kindI xs p.df ≠ 0
  tok : p.df = -1 → p.zn = 2 ∨ p.zn = 7
  not : p.df ≠ -1 → p.zn ≠ 7
/-- What a call of one ends in. -/
def OneEnds (xs : List Cd) (p : Pc) (w : World) (e : Ending) (w' : World) : Prop := (∃ b, e = .returned (.bool b) ∧ (b = true → OneP xs p)) ∧ Below w.heap.size w w'
theorem one_no {xs : List Cd} {p : Pc} {w w' : World} (h : Below w.heap.size w w') : OneEnds xs p w (.returned (.bool false)) w' := ⟨⟨false, rfl, fun h => by cases h⟩, h⟩
theorem one_if {xs : List Cd} {p : Pc} {w w' : World} {b : Bool} (hb : b = true → OneP xs p) (h : Below w.heap.size w w') : OneEnds xs p w (.returned (.bool b)) w' := ⟨⟨b, rfl, hb⟩, h⟩

set_option maxHeartbeats 4000000 in
theorem rone_any (t : Tb) (xs : List Cd) (ps : List Pc) (i : Nat) (p : Pc) (w : World) (hT : TabIn w t xs ps) (hi : ps[i]? = some p) : Calls Try.prog 12 #[.agg t.row, .int .i64 i] w (OneEnds xs p w) := by
  have hk := Lib.hid fun (W : World) (hb : Below w.heap.size w W) => rkind_any t xs ps i p W (hT.below hb) hi
  obtain ⟨g, o, hq, hg, hc⟩ := hT.piece hi
  have hil : i < t.np := by rw [hT.np.1]; exact (List.getElem?_eq_some_iff.1 hi).1
  have hnk := hT.nk.1
  obtain ⟨K, hK⟩ : ∃ K, kindI xs p.df = K := ⟨_, rfl⟩
  rw [hK] at hk
  have HH : Hid (-1 ≤ p.df ∧ p.df < t.nk → p.ow ≤ 1 → p.hs ≤ 1 → p.zn ≤ 7 → (p.ow = p.hs ∨ sharedB p.zn = true) → (0 ≤ p.ak ∧ p.ak ≤ 99999) → (0 ≤ p.gd ∧ p.gd ≤ 99999) → (p.zn = 2 ∨ p.zn = 3 → 0 ≤ p.pl ∧ p.pl < 5) → (p.zn = 6 ∨ p.zn = 7 → p.pl = 0) → (p.zn = 2 ∨ p.zn = 6 → K = 0) → (p.zn = 3 → K ≠ 0) → (p.df = -1 → p.zn = 2 ∨ p.zn = 7) → (p.df ≠ -1 → p.zn ≠ 7) → OneP xs p) := Lib.hid fun d1 d2 d3 d4 d5 d6 d7 b1 b2 b3 b4 b5 b6 => ⟨by omega, d2, d3, d4, d5, d6, d7, b1, b2, by rw [hK]; exact b3, by rw [hK]; exact b4, b5, b6⟩
  clear hK hnk
  have c0 := hc 0 _ rfl
  have c1 := hc 1 _ rfl
  have c2 := hc 2 _ rfl
  have c3 := hc 3 _ rfl
  have c4 := hc 4 _ rfl
  have c5 := hc 5 _ rfl
  have c6 := hc 6 _ rfl
  have c7 := hc 7 _ rfl
  have c8 := hc 8 _ rfl
  have c9 := hc 9 _ rfl
  have c10 := hc 10 _ rfl
  have c11 := hc 11 _ rfl
  have c12 := hc 12 _ rfl
  have c13 := hc 13 _ rfl
  simp only [Nat.add_zero] at c0
  have i0 : (0 : Int) ≤ (i : Int) := by omega
  have i2 : (i : Int) < (t.np : Int) := by omega
  clear hT hc hi
  simp only [Tb.row] at *
  rw [hq] at hk ⊢
  go_enter Try.func12, Try.ntmps12
  go_wp2_with fail
  all_goals (try (go_ret; exact one_no (((Below.refl _ _).alloc (Nat.le_refl _) _).alloc (by simp) _)))
  · skip
    refine (hk.out _ (((Below.refl _ _).alloc (Nat.le_refl _) _).alloc (by simp) _)).mono ?_
    rintro e w2 ⟨rfl, b2⟩
    have B2 := Lib.hid ((((Below.refl _ _).alloc (Nat.le_refl _) _).alloc (by simp) _ : Below w.heap.size w _).trans (b2.mono (by simp; omega)))
    have q0 := (b2.block (w.heap.size + 1) (by simp)).trans (heap_newer _ _ _ (by simp))
    have hq0 := heap_lt q0
    have y0 := cell_blk (i := 0) q0
    have y5 := cell_blk (i := 5) q0
    have y6 := cell_blk (i := 6) q0
    simp at y0 y5 y6
    clear q0 b2 c0 c1 c2 c3 c4 c5 c6 c7 c8 c9 c10 c11 c12 c13
    go_wp2_with fail
    all_goals go_ret
    all_goals (clear y0 y5 y6 hk)
    all_goals (try simp only [beq_iff_eq, beq_eq_false_iff_ne, ne_eq] at *)
    all_goals first
      | exact one_no B2.out
      | (refine one_if (fun hb => HH.out (by omega) (by omega) (by omega) (by omega) (.inl (by omega)) (by omega) (by omega) (by omega) (by omega) (by omega) (by omega) (by simp at hb; omega) (by simp at hb; omega)) B2.out)
  · refine (rshared_any _ _).mono ?_
    rintro e w1 ⟨rfl, rfl⟩
    have hne : ((p.ow : Int) != (p.hs : Int)) = true := by simp; omega
    cases hsh : sharedB p.zn with
    | false =>
      go_wp2_with fail
      go_ret
      exact one_no (((Below.refl _ _).alloc (Nat.le_refl _) _).alloc (by simp) _)
    | true =>
      go_wp2_with fail
      all_goals (try (go_ret; exact one_no (((Below.refl _ _).alloc (Nat.le_refl _) _).alloc (by simp) _)))
      refine (hk.out _ (((Below.refl _ _).alloc (Nat.le_refl _) _).alloc (by simp) _)).mono ?_
      rintro e w2 ⟨rfl, b2⟩
      have B2 := Lib.hid ((((Below.refl _ _).alloc (Nat.le_refl _) _).alloc (by simp) _ : Below w.heap.size w _).trans (b2.mono (by simp; omega)))
      have q0 := (b2.block (w.heap.size + 1) (by simp)).trans (heap_newer _ _ _ (by simp))
      have hq0 := heap_lt q0
      have y0 := cell_blk (i := 0) q0
      have y5 := cell_blk (i := 5) q0
      have y6 := cell_blk (i := 6) q0
      simp at y0 y5 y6
      clear q0 b2 c0 c1 c2 c3 c4 c5 c6 c7 c8 c9 c10 c11 c12 c13
      go_wp2_with fail
      all_goals go_ret
      all_goals (clear y0 y5 y6 hk)
      all_goals (try simp only [beq_iff_eq, beq_eq_false_iff_ne, ne_eq] at *)
      all_goals first
        | exact one_no B2.out
        | (refine one_if (fun hb => HH.out (by omega) (by omega) (by omega) (by omega) (.inr hsh) (by omega) (by omega) (by omega) (by omega) (by omega) (by omega) (by simp at hb; omega) (by simp at hb; omega)) B2.out)
end Go.Proofs.Ytlbbabojejimpaa

/- Plain: what a table that may be is. -/
namespace Go.Proofs.Ytlbbabojejimpaa
open Go.RowKit Go.Lib

/-- What is told of a table's pieces. -/
structure GoodB (xs : List Cd) (ps : List Pc) : Prop where
  few : ps.length ≤ 144
  one : ∀ p ∈ ps, OneP xs p
  uniq : ∀ p ∈ ps, p.zn ≠ 6 → p.zn ≠ 7 → ps.countP (inP p.hs p.zn p.pl) = 1
  pile : ∀ p ∈ ps, p.zn ≠ 6 → p.zn ≠ 7 → sharedB p.zn = false → 0 ≤ p.pl ∧ p.pl < ps.countP (inZ p.hs p.zn)
  limbo : ps.countP (fun p => p.zn == 6) ≤ 1
/-- What is told of the rest of a table. -/
structure LifeOk (t : Tb) : Prop where
  l0 : 0 ≤ t.l0 ∧ t.l0 ≤ 99999
  l1 : 0 ≤ t.l1 ∧ t.l1 ≤ 99999
  tn : 1 ≤ t.tn
  py : t.py ≤ 1
def bareP (p : Pc) : Pc := { p with up := false }
theorem OneP.bare {xs : List Cd} {p : Pc} (h : OneP xs p) : OneP xs (bareP p) := ⟨h.df, h.ow, h.hs, h.zn, h.sh, h.ak, h.gd, h.row, h.nul, h.unit, h.back, h.tok, h.not⟩
theorem OneP.unbare {xs : List Cd} {p : Pc} (h : OneP xs (bareP p)) : OneP xs p := ⟨h.df, h.ow, h.hs, h.zn, h.sh, h.ak, h.gd, h.row, h.nul, h.unit, h.back, h.tok, h.not⟩
theorem count_bare (f : Pc → Bool) (hf : ∀ p, f (bareP p) = f p) (ps : List Pc) : (ps.map bareP).countP f = ps.countP f := by
  rw [List.countP_map]
  congr 1
  funext p
  exact hf p
theorem GoodB.bare {xs : List Cd} {ps : List Pc} (h : GoodB xs ps) : GoodB xs (ps.map bareP) := by
  refine ⟨by rw [List.length_map]; exact h.few, ?_, ?_, ?_, by rw [count_bare (fun p => p.zn == 6) fun p => rfl]; exact h.limbo⟩
  · intro q hq
    obtain ⟨p, hp, rfl⟩ := List.mem_map.1 hq
    exact (h.one p hp).bare
  · intro q hq h6 h7
    obtain ⟨p, hp, rfl⟩ := List.mem_map.1 hq
    rw [count_bare _ fun p => rfl]
    exact h.uniq p hp h6 h7
  · intro q hq h6 h7 hs
    obtain ⟨p, hp, rfl⟩ := List.mem_map.1 hq
    rw [count_bare _ fun p => rfl]
    exact h.pile p hp h6 h7 hs
theorem GoodB.unbare {xs : List Cd} {ps : List Pc} (h : GoodB xs (ps.map bareP)) : GoodB xs ps := by
  refine ⟨by have := h.few; rwa [List.length_map] at this, ?_, ?_, ?_, by have := h.limbo; rwa [count_bare (fun p => p.zn == 6) fun p => rfl] at this⟩
  · intro p hp
    exact (h.one _ (List.mem_map_of_mem hp)).unbare
  · intro p hp h6 h7
    have := h.uniq _ (List.mem_map_of_mem hp) h6 h7
    rwa [count_bare _ fun p => rfl] at this
  · intro p hp h6 h7 hs
    have := h.pile _ (List.mem_map_of_mem hp) h6 h7 hs
    rwa [count_bare _ fun p => rfl] at this
/-- Which pieces are Up doesn't count. -/
theorem GoodB.ups {xs : List Cd} {ps qs : List Pc} (h : GoodB xs ps) (e : qs.map bareP = ps.map bareP) : GoodB xs qs := GoodB.unbare (by rw [e]; exact h.bare)

/-! ### so many places, so many pieces -/
theorem nodup_le : ∀ (n : Nat) (l : List Nat), (∀ x ∈ l, x < n) → l.Nodup → l.length ≤ n
  | 0, l, h, _ => by
    cases l with
    | nil => simp
    | cons x l => exact absurd (h x List.mem_cons_self) (by omega)
  | n + 1, l, h, hd => by
    have h1 := nodup_le n (l.erase n) (fun x hx => by
      have := (hd.mem_erase_iff).1 hx
      have := h x this.2
      omega) (hd.erase n)
    have h2 := List.length_erase_le (a := n) (l := l)
    by_cases hn : n ∈ l
    · have := List.length_erase_of_mem hn
      omega
    · rw [List.erase_of_not_mem hn] at h1
      omega
theorem all_there {n : Nat} {l : List Nat} (h : ∀ x ∈ l, x < n) (hd : l.Nodup) (hl : l.length = n) {a : Nat} (ha : a < n) : a ∈ l := by
  apply Decidable.byContradiction
  intro hn
  have := nodup_le n (a :: l) (by
    intro x hx
    rcases List.mem_cons.1 hx with rfl | hx
    · exact ha
    · exact h x hx) (List.nodup_cons.2 ⟨hn, hd⟩)
  simp at this
  omega
theorem nodup_of_count {l : List Pc} {h z : Nat} (hu : ∀ p ∈ l, p.hs = h → p.zn = z → l.countP (inP h z p.pl) = 1) : ((l.filter (inZ h z)).map (·.pl)).Nodup := by
  rw [List.nodup_iff_count]
  intro a
  rw [List.count_eq_countP, List.countP_map, List.countP_filter]
  by_cases hx : ∃ p ∈ l, p.hs = h ∧ p.zn = z ∧ p.pl = a
  · obtain ⟨p, hp, h1, h2, rfl⟩ := hx
    have := hu p hp h1 h2
    refine Nat.le_of_eq (Eq.trans ?_ this)
    congr 1
    funext q
    simp [inP, inZ, Bool.and_comm]
  · have : l.countP (fun q => ((fun b => b == a) ∘ fun x => x.pl) q && inZ h z q) = 0 := by
      rw [List.countP_eq_zero]
      intro q hq hc
      simp [inZ] at hc
      exact hx ⟨q, hq, hc.2.2, hc.2.1, hc.1⟩
    exact Nat.le_trans (Nat.le_of_eq this) (by omega)
/-- In a pile each place below how many lie there is taken. -/
theorem GoodB.full {xs : List Cd} {ps : List Pc} (h : GoodB xs ps) {w z : Nat} (h6 : z ≠ 6) (h7 : z ≠ 7) (hs : sharedB z = false) {a : Nat} (ha : a < ps.countP (inZ w z)) : ∃ p ∈ ps, p.hs = w ∧ p.zn = z ∧ p.pl = a := by
  have hd := nodup_of_count (l := ps) (h := w) (z := z) fun p hp h1 h2 => by
    have := h.uniq p hp (by omega) (by omega)
    rwa [h1, h2] at this
  obtain ⟨L, hL⟩ : ∃ L, L = ((ps.filter (inZ w z)).map fun p => p.pl.toNat) := ⟨_, rfl⟩
  have hin : ∀ p ∈ ps.filter (inZ w z), p ∈ ps ∧ p.hs = w ∧ p.zn = z ∧ 0 ≤ p.pl ∧ p.pl < ps.countP (inZ w z) := by
    intro p hp
    obtain ⟨hp, hi⟩ := List.mem_filter.1 hp
    simp only [inZ, Bool.and_eq_true, beq_iff_eq] at hi
    have := h.pile p hp (by omega) (by omega) (by rw [hi.1]; exact hs)
    rw [hi.1, hi.2] at this
    exact ⟨hp, hi.2, hi.1, this.1, this.2⟩
  have hall : a ∈ L := by
    refine all_there (n := ps.countP (inZ w z)) ?_ ?_ ?_ ha
    · intro x hx
      rw [hL] at hx
      obtain ⟨p, hp, rfl⟩ := List.mem_map.1 hx
      have := hin p hp
      omega
    · rw [hL, List.nodup_iff_pairwise_ne, List.pairwise_map]
      rw [List.nodup_iff_pairwise_ne, List.pairwise_map] at hd
      refine hd.imp_of_mem fun {p q} hp hq hne => ?_
      have := hin p hp
      have := hin q hq
      omega
    · rw [hL, List.length_map, List.countP_eq_length_filter]
  rw [hL] at hall
  obtain ⟨p, hp, hpa⟩ := List.mem_map.1 hall
  have := hin p hp
  exact ⟨p, this.1, this.2.1, this.2.2.1, by omega⟩
end Go.Proofs.Ytlbbabojejimpaa

/- joustref06: May: a table that is told that it may be is so. -/
namespace Go.Proofs.Ytlbbabojejimpaa
open Go.RowKit Go.Lib

/-- An answer of yes, if so. -/
def YesEnds (Q : Prop) (w : World) (e : Ending) (w' : World) : Prop := (∃ b, e = .returned (.bool b) ∧ (b = true → Q)) ∧ Below w.heap.size w w'
theorem yes_no {Q : Prop} {w w' : World} (h : Below w.heap.size w w') : YesEnds Q w (.returned (.bool false)) w' := ⟨⟨false, rfl, fun h => by cases h⟩, h⟩
theorem yes_if {Q : Prop} {w w' : World} {b : Bool} (hb : b = true → Q) (h : Below w.heap.size w w') : YesEnds Q w (.returned (.bool b)) w' := ⟨⟨b, rfl, hb⟩, h⟩
/-- What is known of the pieces ahead of a place. -/
structure SoFar (xs : List Cd) (ps : List Pc) (k : Nat) : Prop where
  one : ∀ j p, j < k → ps[j]? = some p → OneP xs p
  uniq : ∀ j p, j < k → ps[j]? = some p → p.zn ≠ 6 → p.zn ≠ 7 → ps.countP (inP p.hs p.zn p.pl) = 1
  pile : ∀ j p, j < k → ps[j]? = some p → p.zn ≠ 6 → p.zn ≠ 7 → sharedB p.zn = false → 0 ≤ p.pl ∧ p.pl < ps.countP (inZ p.hs p.zn)
theorem SoFar.next {xs : List Cd} {ps : List Pc} {k : Nat} {p : Pc} (h : SoFar xs ps k) (hp : ps[k]? = some p) (h1 : OneP xs p) (h2 : p.zn ≠ 6 → p.zn ≠ 7 → ps.countP (inP p.hs p.zn p.pl) = 1)
    (h3 : p.zn ≠ 6 → p.zn ≠ 7 → sharedB p.zn = false → 0 ≤ p.pl ∧ p.pl < ps.countP (inZ p.hs p.zn)) : SoFar xs ps (k + 1) := by
  refine ⟨fun j q hj hq => ?_, fun j q hj hq => ?_, fun j q hj hq => ?_⟩
  · by_cases hjk : j < k
    · exact h.one j q hjk hq
    · obtain rfl : j = k := by omega
      rw [hp] at hq; cases hq; exact h1
  · by_cases hjk : j < k
    · exact h.uniq j q hjk hq
    · obtain rfl : j = k := by omega
      rw [hp] at hq; cases hq; exact h2
  · by_cases hjk : j < k
    · exact h.pile j q hjk hq
    · obtain rfl : j = k := by omega
      rw [hp] at hq; cases hq; exact h3
theorem SoFar.good {xs : List Cd} {ps : List Pc} (h : SoFar xs ps ps.length) (hf : ps.length ≤ 144) (hl : ps.countP (fun p => p.zn == 6) ≤ 1) : GoodB xs ps := by
  have hat : ∀ p ∈ ps, ∃ j, j < ps.length ∧ ps[j]? = some p := fun p hp => by
    obtain ⟨j, hj⟩ := List.getElem?_of_mem hp
    exact ⟨j, (List.getElem?_eq_some_iff.1 hj).1, hj⟩
  refine ⟨hf, fun p hp => ?_, fun p hp => ?_, fun p hp => ?_, hl⟩
  · obtain ⟨j, h1, h2⟩ := hat p hp
    exact h.one j p h1 h2
  · obtain ⟨j, h1, h2⟩ := hat p hp
    exact h.uniq j p h1 h2
  · obtain ⟨j, h1, h2⟩ := hat p hp
    exact h.pile j p h1 h2

set_option maxHeartbeats 4000000 in
set_option maxRecDepth 100000 in
theorem rmay_out (t : Tb) (Q : Prop) (w : World) (h : ¬ (0 ≤ t.l0 ∧ t.l0 ≤ 99999 ∧ 0 ≤ t.l1 ∧ t.l1 ≤ 99999 ∧ 1 ≤ t.tn ∧ t.py ≤ 1 ∧ t.np ≤ 144)) : Calls Try.prog 6 #[.agg t.row] w (YesEnds Q w) := by
  simp only [Tb.row]
  go_enter Try.func6, Try.ntmps6
  go_wp2_with fail
  all_goals first
    | (go_ret; exact yes_no ((Below.refl _ _).alloc (Nat.le_refl _) _))
    | (exfalso; omega)

set_option maxHeartbeats 8000000 in
set_option maxRecDepth 100000 in
theorem rmay_in (t : Tb) (xs : List Cd) (ps : List Pc) (w : World) (hT : TabIn w t xs ps) (h : 0 ≤ t.l0 ∧ t.l0 ≤ 99999 ∧ 0 ≤ t.l1 ∧ t.l1 ≤ 99999 ∧ 1 ≤ t.tn ∧ t.py ≤ 1 ∧ t.np ≤ 144) : Calls Try.prog 6 #[.agg t.row] w (YesEnds (LifeOk t ∧ GoodB xs ps) w) := by
  have HL : Hid (LifeOk t) := Lib.hid ⟨by omega, by omega, by omega, by omega⟩
  have HN := Lib.hid hT.np
  have HT := Lib.hid hT
  have hone := Lib.hid fun (W : World) (hb : Below w.heap.size w W) (i : Nat) (p : Pc) (hi : ps[i]? = some p) => rone_any t xs ps i p W (hT.below hb) hi
  have hmany := Lib.hid fun (W : World) (hb : Below w.heap.size w W) (h z : Nat) (a : Int) => rmany_any t xs ps h z a W (hT.below hb)
  clear hT
  obtain ⟨w0, hw0⟩ : ∃ w0, w0 = w.alloc (.cells t.row 28) := ⟨_, rfl⟩
  have hb0 : Below w.heap.size w w0 := by rw [hw0]; exact (Below.refl _ _).alloc (Nat.le_refl _) _
  have hx0 : w0.heap[w.heap.size]? = some (.cells t.row 28 (0, 0)) := by rw [hw0]; exact heap_alloc_new _ _
  have HB0 := Lib.hid hb0
  have HX0 := Lib.hid hx0
  have HW0 := Lib.hid hw0
  clear hb0 hx0 hw0
  have h1 : ¬ t.l0 < 0 := by omega
  have h2 : ¬ t.l0 > 99999 := by omega
  have h3 : ¬ t.l1 < 0 := by omega
  have h4 : ¬ t.l1 > 99999 := by omega
  have h5 : ¬ t.tn < 1 := by omega
  have h6 : ¬ (t.py : Int) > 1 := by omega
  have h7 : ¬ (t.np : Int) > 144 := by omega
  simp only [Tb.row] at *
  go_enter Try.func6, Try.ntmps6
  go_wp2_with fail
  rw [← HW0.out]
  go_loopw [3, 4] (fun vl vi wr => ∃ k : Nat, vi = .int .i64 k ∧ k ≤ t.np ∧ vl = .int .i64 ((ps.take k).countP (fun p => p.zn == 6)) ∧ SoFar xs ps k ∧ Below w0.heap.size w0 wr) (fun _ vi _ => t.np - (RowKit.intOf vi).toNat)
  case atStart => exact ⟨0, by rfl, by omega, by simp, ⟨fun j p h => by omega, fun j p h => by omega, fun j p h => by omega⟩, Below.refl _ _⟩
  case round =>
    obtain ⟨k, rfl, hk, rfl, hso, hbw⟩ := hrel
    rename World => wA
    have hx1 := (hbw.block _ (heap_lt HX0.out)).trans HX0.out
    have hltA := heap_lt hx1
    have y1 := cell_blk (i := 1) hx1
    have y0 := cell_blk (i := 0) hx1
    have y2 := cell_blk (i := 2) hx1
    have y3 := cell_blk (i := 3) hx1
    have y4 := cell_blk (i := 4) hx1
    have y5 := cell_blk (i := 5) hx1
    have y6 := cell_blk (i := 6) hx1
    have y7 := cell_blk (i := 7) hx1
    have y8 := cell_blk (i := 8) hx1
    have y9 := cell_blk (i := 9) hx1
    simp at y0 y1 y2 y3 y4 y5 y6 y7 y8 y9
    obtain ⟨A, hA⟩ : ∃ A, (ps.take k).countP (fun p => p.zn == 6) = A := ⟨_, rfl⟩
    have hA1 : A ≤ k := by rw [← hA]; exact count_take_le _ _ _
    rw [hA]
    have HBW := Lib.hid hbw
    have HBw : Hid (Below w.heap.size w wA) := Lib.hid (HB0.out.trans (hbw.mono HB0.out.size))
    have HS := Lib.hid hso
    clear hx1 hbw hso
    by_cases hlt : k < t.np
    · obtain ⟨p, hp⟩ : ∃ p, ps[k]? = some p := ⟨ps[k]'(by have := HN.out; omega), List.getElem?_eq_getElem _⟩
      obtain ⟨g, o, hq, hg, hc⟩ := HT.out.piece hp
      have hcall := Lib.hid fun (W : World) (hb : Below w.heap.size w W) => hone.out W hb k p hp
      have hcm := Lib.hid fun (W : World) (hb : Below w.heap.size w W) => hmany.out W hb p.hs p.zn p.pl
      have nz := count_next (fun p => p.zn == 6) hp
      rw [hA] at nz
      have NZ := Lib.hid nz
      have HP := Lib.hid hp
      have i0 : (0 : Int) ≤ (k : Int) := by omega
      have i1 : (k : Int) < (t.np : Int) := by omega
      have HC := Lib.hid hc
      clear nz hp hA hc
      rw [hq] at y1 hcall hcm
      clear hq
      go_wp2_with fail
      refine (hcall.out _ HBw.out).mono ?_
      rintro e w2 ⟨⟨b, rfl, hb⟩, b2⟩
      have HB2 : Hid (Below w0.heap.size w0 w2) := Lib.hid (HBW.out.trans (b2.mono HBW.out.size))
      have HBw2 : Hid (Below w.heap.size w w2) := Lib.hid (HBw.out.trans (b2.mono HBw.out.size))
      have hz2 := b2.size
      replace y0 := below_cell' b2 y0 hltA
      replace y1 := below_cell' b2 y1 hltA
      replace y2 := below_cell' b2 y2 hltA
      replace y3 := below_cell' b2 y3 hltA
      replace y4 := below_cell' b2 y4 hltA
      replace y5 := below_cell' b2 y5 hltA
      replace y6 := below_cell' b2 y6 hltA
      replace y7 := below_cell' b2 y7 hltA
      replace y8 := below_cell' b2 y8 hltA
      replace y9 := below_cell' b2 y9 hltA
      have hlt2 : w.heap.size < w2.heap.size := by omega
      clear b2 hz2
      cases b with
      | false =>
        clear hb
        go_wp2_with fail
        go_ret
        exact yes_no HBw2.out
      | true =>
        have HO := Lib.hid (hb rfl)
        clear hb
        have hc := fun j u hu => cell_later HBw2.out (HC.out j u hu)
        have c0 := hc 0 _ rfl
        have c1 := hc 1 _ rfl
        have c2 := hc 2 _ rfl
        have c3 := hc 3 _ rfl
        have c4 := hc 4 _ rfl
        have c5 := hc 5 _ rfl
        have c6 := hc 6 _ rfl
        have c7 := hc 7 _ rfl
        have c8 := hc 8 _ rfl
        have c9 := hc 9 _ rfl
        have c10 := hc 10 _ rfl
        have c11 := hc 11 _ rfl
        have c12 := hc 12 _ rfl
        have c13 := hc 13 _ rfl
        simp only [Nat.add_zero] at c0
        clear hc
        go_wp2_with fail
        refine (hcm.out _ (HBw2.out.alloc HBw2.out.size _)).mono ?_
        rintro e w3 ⟨rfl, b3⟩
        have q0 := (b3.block w2.heap.size (by simp)).trans (heap_newer _ _ _ rfl)
        have hq0 := heap_lt q0
        have z5 := cell_blk (i := 5) q0
        have z6 := cell_blk (i := 6) q0
        simp at z5 z6
        have HB3 : Hid (Below w0.heap.size w0 w3) := Lib.hid ((HB2.out.alloc HB2.out.size _).trans (b3.mono (by have := HB2.out.size; simp; omega)))
        have HBw3 : Hid (Below w.heap.size w w3) := Lib.hid ((HBw2.out.alloc HBw2.out.size _).trans (b3.mono (by have := HBw2.out.size; simp; omega)))
        obtain ⟨M, hM⟩ : ∃ M, ps.countP (inZ p.hs p.zn) = M := ⟨_, rfl⟩
        obtain ⟨R, hR⟩ : ∃ R, ps.countP (inP p.hs p.zn p.pl) = R := ⟨_, rfl⟩
        rw [hM, hR]
        have HM := Lib.hid hM
        have HR := Lib.hid hR
        clear b3 q0 c0 c1 c2 c3 c4 c5 c6 c7 c8 c9 c10 c11 c12 c13 y0 y1 y2 y3 y4 y5 y6 y7 y8 y9 hM hR hcm hcall
        by_cases h6z : p.zn = 6
        · have e6 : ((p.zn : Int) == 6) = true := by simp [h6z]
          have HZ := Lib.hid h6z
          clear h6z
          go_wp2_with fail
          go_roundw
          case rel => exact ⟨k + 1, by go_num, by omega, by rw [NZ.out, HZ.out]; simp, HS.out.next HP.out HO.out (fun h => absurd HZ.out h) (fun h => absurd HZ.out h), HB3.out⟩
          case measure => simp [RowKit.intOf]; omega
        · have e6 : ((p.zn : Int) == 6) = false := by simp; omega
          have HZ := Lib.hid h6z
          clear h6z
          by_cases h7z : p.zn = 7
          · have e7 : ((p.zn : Int) != 7) = false := by simp [h7z]
            have HZ7 := Lib.hid h7z
            clear h7z
            go_wp2_with fail
            go_roundw
            case rel => exact ⟨k + 1, by go_num, by omega, by rw [NZ.out]; simp [HZ.out], HS.out.next HP.out HO.out (fun _ h => absurd HZ7.out h) (fun _ h => absurd HZ7.out h), HB3.out⟩
            case measure => simp [RowKit.intOf]; omega
          · have e7 : ((p.zn : Int) != 7) = true := by simp; omega
            clear h7z
            by_cases hR1 : R = 1
            · have e1 : ((R : Int) != 1) = false := by simp [hR1]
              have HR1 := Lib.hid hR1
              clear hR1
              go_wp2_with fail
              refine (rshared_any _ _).mono ?_
              rintro e w4 ⟨rfl, rfl⟩
              cases hsh : sharedB p.zn with
              | true =>
                go_wp2_with fail
                go_roundw
                case rel => exact ⟨k + 1, by go_num, by omega, by rw [NZ.out]; simp [HZ.out], HS.out.next HP.out HO.out (fun _ _ => by rw [HR.out, HR1.out]) (fun _ _ h => by rw [hsh] at h; cases h), HB3.out⟩
                case measure => simp [RowKit.intOf]; omega
              | false =>
                by_cases hl : p.pl < 0
                · go_wp2_with fail
                  go_ret
                  exact yes_no HBw3.out
                by_cases hl2 : p.pl ≥ (M : Int)
                · go_wp2_with fail
                  go_ret
                  exact yes_no HBw3.out
                · go_wp2_with fail
                  go_roundw
                  case rel => exact ⟨k + 1, by go_num, by omega, by rw [NZ.out]; simp [HZ.out], HS.out.next HP.out HO.out (fun _ _ => by rw [HR.out, HR1.out]) (fun _ _ _ => by rw [HM.out]; omega), HB3.out⟩
                  case measure => simp [RowKit.intOf]; omega
            · have e1 : ((R : Int) != 1) = true := by simp; omega
              clear hR1
              go_wp2_with fail
              go_ret
              exact yes_no HBw3.out
    · obtain rfl : k = t.np := by omega
      have hl := HN.out.1
      rw [List.take_of_length_le (by omega)] at hA
      have HA := Lib.hid hA
      have HLN := Lib.hid hl
      clear hA hl
      by_cases hA2 : (A : Int) ≤ 1
      · go_wp2_with fail
        go_ret
        exact yes_if (fun _ => ⟨HL.out, SoFar.good (by rw [← HLN.out]; exact HS.out) (by rw [← HLN.out]; omega) (by rw [HA.out]; omega)⟩) HBw.out
      · go_wp2_with fail
        go_ret
        exact yes_no HBw.out

theorem rmay_any (t : Tb) (xs : List Cd) (ps : List Pc) (w : World) (hT : TabIn w t xs ps) : Calls Try.prog 6 #[.agg t.row] w (YesEnds (LifeOk t ∧ GoodB xs ps) w) := by
  by_cases h : 0 ≤ t.l0 ∧ t.l0 ≤ 99999 ∧ 0 ≤ t.l1 ∧ t.l1 ≤ 99999 ∧ 1 ≤ t.tn ∧ t.py ≤ 1 ∧ t.np ≤ 144
  · exact rmay_in t xs ps w hT h
  · exact rmay_out t _ w h
end Go.Proofs.Ytlbbabojejimpaa

/- joustref06: one: a piece that may be, by itself, is told so. -/
namespace Go.Proofs.Ytlbbabojejimpaa
open Go.RowKit Go.Lib

def TrueEnds (w : World) (e : Ending) (w' : World) : Prop := e = .returned (.bool true) ∧ Below w.heap.size w w'
theorem true_if {w w' : World} {b : Bool} (hb : b = true) (h : Below w.heap.size w w') : TrueEnds w (.returned (.bool b)) w' := ⟨by rw [hb], h⟩

set_option maxHeartbeats 8000000 in
theorem rone_yes (t : Tb) (xs : List Cd) (ps : List Pc) (i : Nat) (p : Pc) (w : World) (hT : TabIn w t xs ps) (hi : ps[i]? = some p) (hO : OneP xs p) : Calls Try.prog 12 #[.agg t.row, .int .i64 i] w (TrueEnds w) := by
  have hk := Lib.hid fun (W : World) (hb : Below w.heap.size w W) => rkind_any t xs ps i p W (hT.below hb) hi
  obtain ⟨g, o, hq, hg, hc⟩ := hT.piece hi
  have hil : i < t.np := by rw [hT.np.1]; exact (List.getElem?_eq_some_iff.1 hi).1
  have hnk := hT.nk.1
  obtain ⟨K, hK⟩ : ∃ K, kindI xs p.df = K := ⟨_, rfl⟩
  rw [hK] at hk
  have d1 : ¬ p.df < -1 := by have := hO.df; omega
  have d2 : ¬ p.df ≥ (t.nk : Int) := by have := hO.df; omega
  have o1 : ¬ (p.ow : Int) > 1 := by have := hO.ow; omega
  have o2 : ¬ (p.hs : Int) > 1 := by have := hO.hs; omega
  have o3 : ¬ (p.zn : Int) > 7 := by have := hO.zn; omega
  have a1 : ¬ p.ak < 0 := by have := hO.ak; omega
  have a2 : ¬ p.ak > 99999 := by have := hO.ak; omega
  have a3 : ¬ p.gd < 0 := by have := hO.gd; omega
  have a4 : ¬ p.gd > 99999 := by have := hO.gd; omega
  have b1 := hO.row
  have b2 := hO.nul
  have b3 := hO.unit
  have b4 := hO.back
  have b5 := hO.tok
  have b6 := hO.not
  have b7 := hO.sh
  have b8 := hO.zn
  rw [hK] at b3 b4
  have HB := Lib.hid (And.intro b1 (And.intro b2 (And.intro b3 (And.intro b4 (And.intro b5 (And.intro b6 b8))))))
  clear hK hnk hO b1 b2 b3 b4 b5 b6 b8
  have c0 := hc 0 _ rfl
  have c1 := hc 1 _ rfl
  have c2 := hc 2 _ rfl
  have c3 := hc 3 _ rfl
  have c4 := hc 4 _ rfl
  have c5 := hc 5 _ rfl
  have c6 := hc 6 _ rfl
  have c7 := hc 7 _ rfl
  have c8 := hc 8 _ rfl
  have c9 := hc 9 _ rfl
  have c10 := hc 10 _ rfl
  have c11 := hc 11 _ rfl
  have c12 := hc 12 _ rfl
  have c13 := hc 13 _ rfl
  simp only [Nat.add_zero] at c0
  have i0 : (0 : Int) ≤ (i : Int) := by omega
  have i2 : (i : Int) < (t.np : Int) := by omega
  clear hT hc hi
  simp only [Tb.row] at *
  rw [hq] at hk ⊢
  by_cases hs : p.ow = p.hs
  · have hne : ((p.ow : Int) != (p.hs : Int)) = false := by simp [hs]
    clear hs b7
    go_enter Try.func12, Try.ntmps12
    go_wp2_with fail
    refine (hk.out _ (((Below.refl _ _).alloc (Nat.le_refl _) _).alloc (by simp) _)).mono ?_
    rintro e w2 ⟨rfl, b2⟩
    have B2 := Lib.hid ((((Below.refl _ _).alloc (Nat.le_refl _) _).alloc (by simp) _ : Below w.heap.size w _).trans (b2.mono (by simp; omega)))
    have q0 := (b2.block (w.heap.size + 1) (by simp)).trans (heap_newer _ _ _ (by simp))
    have hq0 := heap_lt q0
    have y0 := cell_blk (i := 0) q0
    have y5 := cell_blk (i := 5) q0
    have y6 := cell_blk (i := 6) q0
    simp at y0 y5 y6
    clear q0 b2 c0 c1 c2 c3 c4 c5 c6 c7 c8 c9 c10 c11 c12 c13
    go_wp2_with fail
    all_goals go_ret
    all_goals (clear y0 y5 y6 hk)
    all_goals (have hB := HB.out; clear HB)
    all_goals (try simp only [beq_iff_eq, beq_eq_false_iff_ne, ne_eq] at *)
    all_goals first
      | (exfalso; omega)
      | (refine true_if ?_ B2.out; first | rfl | (simp; omega))
  · have hne : ((p.ow : Int) != (p.hs : Int)) = true := by simp; omega
    have hsh := b7.resolve_left hs
    clear b7 hs
    go_enter Try.func12, Try.ntmps12
    go_wp2_with fail
    refine (rshared_any _ _).mono ?_
    rintro e w1 ⟨rfl, rfl⟩
    rw [hsh]
    go_wp2_with fail
    refine (hk.out _ (((Below.refl _ _).alloc (Nat.le_refl _) _).alloc (by simp) _)).mono ?_
    rintro e w2 ⟨rfl, b2⟩
    have B2 := Lib.hid ((((Below.refl _ _).alloc (Nat.le_refl _) _).alloc (by simp) _ : Below w.heap.size w _).trans (b2.mono (by simp; omega)))
    have q0 := (b2.block (w.heap.size + 1) (by simp)).trans (heap_newer _ _ _ (by simp))
    have hq0 := heap_lt q0
    have y0 := cell_blk (i := 0) q0
    have y5 := cell_blk (i := 5) q0
    have y6 := cell_blk (i := 6) q0
    simp at y0 y5 y6
    clear q0 b2 c0 c1 c2 c3 c4 c5 c6 c7 c8 c9 c10 c11 c12 c13
    go_wp2_with fail
    all_goals go_ret
    all_goals (clear y0 y5 y6 hk)
    all_goals (have hB := HB.out; clear HB)
    all_goals (try simp only [beq_iff_eq, beq_eq_false_iff_ne, ne_eq] at *)
    all_goals first
      | (exfalso; omega)
      | (refine true_if ?_ B2.out; first | rfl | (simp; omega))
end Go.Proofs.Ytlbbabojejimpaa

/- joustref06: May: a table that may be is told so. -/
namespace Go.Proofs.Ytlbbabojejimpaa
open Go.RowKit Go.Lib

set_option maxHeartbeats 8000000 in
set_option maxRecDepth 100000 in
theorem rmay_yes (t : Tb) (xs : List Cd) (ps : List Pc) (w : World) (hT : TabIn w t xs ps) (hL : LifeOk t) (hG : GoodB xs ps) : Calls Try.prog 6 #[.agg t.row] w (TrueEnds w) := by
  have h : 0 ≤ t.l0 ∧ t.l0 ≤ 99999 ∧ 0 ≤ t.l1 ∧ t.l1 ≤ 99999 ∧ 1 ≤ t.tn ∧ t.py ≤ 1 ∧ t.np ≤ 144 := ⟨hL.l0.1, hL.l0.2, hL.l1.1, hL.l1.2, hL.tn, hL.py, by rw [hT.np.1]; exact hG.few⟩
  have HN := Lib.hid hT.np
  have HT := Lib.hid hT
  have HG := Lib.hid hG
  have hone := Lib.hid fun (W : World) (hb : Below w.heap.size w W) (i : Nat) (p : Pc) (hi : ps[i]? = some p) => rone_yes t xs ps i p W (hT.below hb) hi (hG.one p (List.mem_of_getElem? hi))
  have hmany := Lib.hid fun (W : World) (hb : Below w.heap.size w W) (h z : Nat) (a : Int) => rmany_any t xs ps h z a W (hT.below hb)
  clear hT hL hG
  obtain ⟨w0, hw0⟩ : ∃ w0, w0 = w.alloc (.cells t.row 28) := ⟨_, rfl⟩
  have hb0 : Below w.heap.size w w0 := by rw [hw0]; exact (Below.refl _ _).alloc (Nat.le_refl _) _
  have hx0 : w0.heap[w.heap.size]? = some (.cells t.row 28 (0, 0)) := by rw [hw0]; exact heap_alloc_new _ _
  have HB0 := Lib.hid hb0
  have HX0 := Lib.hid hx0
  have HW0 := Lib.hid hw0
  clear hb0 hx0 hw0
  have h1 : ¬ t.l0 < 0 := by omega
  have h2 : ¬ t.l0 > 99999 := by omega
  have h3 : ¬ t.l1 < 0 := by omega
  have h4 : ¬ t.l1 > 99999 := by omega
  have h5 : ¬ t.tn < 1 := by omega
  have h6 : ¬ (t.py : Int) > 1 := by omega
  have h7 : ¬ (t.np : Int) > 144 := by omega
  simp only [Tb.row] at *
  go_enter Try.func6, Try.ntmps6
  go_wp2_with fail
  rw [← HW0.out]
  go_loopw [3, 4] (fun vl vi wr => ∃ k : Nat, vi = .int .i64 k ∧ k ≤ t.np ∧ vl = .int .i64 ((ps.take k).countP (fun p => p.zn == 6)) ∧ Below w0.heap.size w0 wr) (fun _ vi _ => t.np - (RowKit.intOf vi).toNat)
  case atStart => exact ⟨0, by rfl, by omega, by simp, Below.refl _ _⟩
  case round =>
    obtain ⟨k, rfl, hk, rfl, hbw⟩ := hrel
    rename World => wA
    have hx1 := (hbw.block _ (heap_lt HX0.out)).trans HX0.out
    have hltA := heap_lt hx1
    have y1 := cell_blk (i := 1) hx1
    have y0 := cell_blk (i := 0) hx1
    have y2 := cell_blk (i := 2) hx1
    have y3 := cell_blk (i := 3) hx1
    have y4 := cell_blk (i := 4) hx1
    have y5 := cell_blk (i := 5) hx1
    have y6 := cell_blk (i := 6) hx1
    have y7 := cell_blk (i := 7) hx1
    have y8 := cell_blk (i := 8) hx1
    have y9 := cell_blk (i := 9) hx1
    simp at y0 y1 y2 y3 y4 y5 y6 y7 y8 y9
    obtain ⟨A, hA⟩ : ∃ A, (ps.take k).countP (fun p => p.zn == 6) = A := ⟨_, rfl⟩
    have hA1 : A ≤ k := by rw [← hA]; exact count_take_le _ _ _
    rw [hA]
    have HBW := Lib.hid hbw
    have HBw : Hid (Below w.heap.size w wA) := Lib.hid (HB0.out.trans (hbw.mono HB0.out.size))
    clear hx1 hbw
    by_cases hlt : k < t.np
    · obtain ⟨p, hp⟩ : ∃ p, ps[k]? = some p := ⟨ps[k]'(by have := HN.out; omega), List.getElem?_eq_getElem _⟩
      obtain ⟨g, o, hq, hg, hc⟩ := HT.out.piece hp
      have hcall := Lib.hid fun (W : World) (hb : Below w.heap.size w W) => hone.out W hb k p hp
      have hcm := Lib.hid fun (W : World) (hb : Below w.heap.size w W) => hmany.out W hb p.hs p.zn p.pl
      have nz := count_next (fun p => p.zn == 6) hp
      rw [hA] at nz
      have NZ := Lib.hid nz
      have hpm := List.mem_of_getElem? hp
      have HU := Lib.hid (HG.out.uniq p hpm)
      have HPI := Lib.hid (HG.out.pile p hpm)
      have i0 : (0 : Int) ≤ (k : Int) := by omega
      have i1 : (k : Int) < (t.np : Int) := by omega
      have HC := Lib.hid hc
      clear nz hp hA hc hpm
      rw [hq] at y1 hcall hcm
      clear hq
      go_wp2_with fail
      refine (hcall.out _ HBw.out).mono ?_
      rintro e w2 ⟨rfl, b2⟩
      have HB2 : Hid (Below w0.heap.size w0 w2) := Lib.hid (HBW.out.trans (b2.mono HBW.out.size))
      have HBw2 : Hid (Below w.heap.size w w2) := Lib.hid (HBw.out.trans (b2.mono HBw.out.size))
      have hz2 := b2.size
      replace y0 := below_cell' b2 y0 hltA
      replace y1 := below_cell' b2 y1 hltA
      replace y2 := below_cell' b2 y2 hltA
      replace y3 := below_cell' b2 y3 hltA
      replace y4 := below_cell' b2 y4 hltA
      replace y5 := below_cell' b2 y5 hltA
      replace y6 := below_cell' b2 y6 hltA
      replace y7 := below_cell' b2 y7 hltA
      replace y8 := below_cell' b2 y8 hltA
      replace y9 := below_cell' b2 y9 hltA
      have hlt2 : w.heap.size < w2.heap.size := by omega
      clear b2 hz2
      have hc := fun j u hu => cell_later HBw2.out (HC.out j u hu)
      have c0 := hc 0 _ rfl
      have c1 := hc 1 _ rfl
      have c2 := hc 2 _ rfl
      have c3 := hc 3 _ rfl
      have c4 := hc 4 _ rfl
      have c5 := hc 5 _ rfl
      have c6 := hc 6 _ rfl
      have c7 := hc 7 _ rfl
      have c8 := hc 8 _ rfl
      have c9 := hc 9 _ rfl
      have c10 := hc 10 _ rfl
      have c11 := hc 11 _ rfl
      have c12 := hc 12 _ rfl
      have c13 := hc 13 _ rfl
      simp only [Nat.add_zero] at c0
      clear hc
      go_wp2_with fail
      refine (hcm.out _ (HBw2.out.alloc HBw2.out.size _)).mono ?_
      rintro e w3 ⟨rfl, b3⟩
      have q0 := (b3.block w2.heap.size (by simp)).trans (heap_newer _ _ _ rfl)
      have hq0 := heap_lt q0
      have z5 := cell_blk (i := 5) q0
      have z6 := cell_blk (i := 6) q0
      simp at z5 z6
      have HB3 : Hid (Below w0.heap.size w0 w3) := Lib.hid ((HB2.out.alloc HB2.out.size _).trans (b3.mono (by have := HB2.out.size; simp; omega)))
      obtain ⟨M, hM⟩ : ∃ M, ps.countP (inZ p.hs p.zn) = M := ⟨_, rfl⟩
      obtain ⟨R, hR⟩ : ∃ R, ps.countP (inP p.hs p.zn p.pl) = R := ⟨_, rfl⟩
      rw [hM] at HPI
      rw [hR] at HU
      rw [hM, hR]
      clear b3 q0 c0 c1 c2 c3 c4 c5 c6 c7 c8 c9 c10 c11 c12 c13 y0 y1 y2 y3 y4 y5 y6 y7 y8 y9 hM hR hcm hcall
      by_cases h6z : p.zn = 6
      · have e6 : ((p.zn : Int) == 6) = true := by simp [h6z]
        have HZ := Lib.hid h6z
        clear h6z
        go_wp2_with fail
        go_roundw
        case rel => exact ⟨k + 1, by go_num, by omega, by rw [NZ.out, HZ.out]; simp, HB3.out⟩
        case measure => simp [RowKit.intOf]; omega
      · have e6 : ((p.zn : Int) == 6) = false := by simp; omega
        have HZ := Lib.hid h6z
        clear h6z
        by_cases h7z : p.zn = 7
        · have e7 : ((p.zn : Int) != 7) = false := by simp [h7z]
          clear h7z
          go_wp2_with fail
          go_roundw
          case rel => exact ⟨k + 1, by go_num, by omega, by rw [NZ.out]; simp [HZ.out], HB3.out⟩
          case measure => simp [RowKit.intOf]; omega
        · have e7 : ((p.zn : Int) != 7) = true := by simp; omega
          have hR1 := HU.out HZ.out h7z
          have hPI := HPI.out HZ.out h7z
          clear h7z
          have e1 : ((R : Int) != 1) = false := by simp [hR1]
          clear hR1
          go_wp2_with fail
          refine (rshared_any _ _).mono ?_
          rintro e w4 ⟨rfl, rfl⟩
          cases hsh : sharedB p.zn with
          | true =>
            clear hPI
            go_wp2_with fail
            go_roundw
            case rel => exact ⟨k + 1, by go_num, by omega, by rw [NZ.out]; simp [HZ.out], HB3.out⟩
            case measure => simp [RowKit.intOf]; omega
          | false =>
            have hPI2 := hPI hsh
            clear hPI
            have hl : ¬ p.pl < 0 := by omega
            have hl2 : ¬ p.pl ≥ (M : Int) := by omega
            clear hPI2
            go_wp2_with fail
            go_roundw
            case rel => exact ⟨k + 1, by go_num, by omega, by rw [NZ.out]; simp [HZ.out], HB3.out⟩
            case measure => simp [RowKit.intOf]; omega
    · obtain rfl : k = t.np := by omega
      have hl := HN.out.1
      rw [List.take_of_length_le (by omega)] at hA
      have hA2 : (A : Int) ≤ 1 := by have := HG.out.limbo; omega
      clear hA hl
      go_wp2_with fail
      go_ret
      exact ⟨rfl, HBw.out⟩
end Go.Proofs.Ytlbbabojejimpaa
