import Derived.Test.YtlbbabojejimpaaQTbC
import Derived.Test.YtlbbabojejimpaaQTbPlacesNo
/- board: May says no of a table that may not be. -/
namespace Go.Proofs.Ytlbbabojejimpaa
open Go.RowKit Go.Lib
section
variable {P : Program} {l : List Oper} {Q : Exit → Act → World → Prop} {md : Region.Mode} {S : World → Prop}
theorem take_at {i : Nat} {oi : Oper} {v : Value} {fuel : Nat} {listed : Array Bool} {a : Act} {w : World} (hi : l[i]? = some oi)
    (hs : Region.noSelect l.toArray = true) (hf : Region.free md l.toArray listed i = true) (hr : (Region.ready md l.toArray listed).contains i = true)
    (hQ : ∀ c a w, Q (.panic c) (a.put oi.dst v) w → Q (.panic c) a w) (hy : YieldsIf P l.toArray S oi v a) (hS : S w)
    (h : wpAnyH P md l.toArray Q S fuel (listed.setIfInBounds i true) (a.put oi.dst v) w) : wpAnyH P md l.toArray Q S (fuel + 1) listed a w :=
  wpAnyH_take (by rw [List.getElem?_toArray]; exact hi) hs hf hr hQ hy hS h
theorem cons_at {fuel : Nat} {listed : Array Bool} {a : Act} {w : World} {i : Nat} {o : Oper} {rs : List Nat} (ho : l[i]? = some o)
    (h : ∀ K' : Act → World → Prop, Shut (∀ a w, S w → (S w → wpAnyH P md l.toArray Q S fuel (listed.setIfInBounds i true) a w) → K' a w) → if Region.wanted o (yielded l.toArray a.tmps) = true then Oper.wp P o a w K' Q else K' (a.put o.dst undef) w)
    (hs : AllReadyH P md l.toArray Q S fuel listed a w rs) : AllReadyH P md l.toArray Q S fuel listed a w (i :: rs) :=
  AllReadyH.cons (by rw [List.getElem?_toArray]; exact ho) h hs
end

set_option maxHeartbeats 2000000 in
theorem bpiece_q (p : Pc) (n : Nat) (w : World) (h : PieceQ n p) : Calls Try.prog 19 #[.agg (pcV p).toArray, .int .i64 n] w fun e w' => e = .returned (.bool true) ∧ Below w.heap.size w w' := by
  have d1 : p.df ≥ -1 := h.df.1
  have d2 : p.df < (n : Int) := by have := h.df.2; omega
  have o1 : (p.ow : Int) ≤ 1 := by have := h.ow; omega
  have o2 : (p.hs : Int) ≤ 1 := by have := h.hs; omega
  have o3 : (p.zn : Int) ≤ 7 := by have := h.zn; omega
  have A := Lib.hid fun W => bnumber_yes p.ak h.ak W
  have G := Lib.hid fun W => bnumber_yes p.gd h.gd W
  clear h
  simp only [pcV]
  go_enter Try.func19, Try.ntmps19
  go_wp2_with fail
  refine (A.out _).mono ?_
  rintro e w1 ⟨rfl, rfl⟩
  go_wp2_with fail
  refine (G.out _).mono ?_
  rintro e w1 ⟨rfl, rfl⟩
  go_wp2_with fail
  go_ret
  exact ⟨rfl, (Below.refl _ _).alloc (Nat.le_refl _) _⟩

set_option maxHeartbeats 4000000 in
theorem bzone_q (p : Pc) (K : Nat) (w : World) (h : ZoneQ K p) (hz8 : p.zn ≤ 7) : Calls Try.prog 20 #[.agg (pcV p).toArray, .int .u8 K] w fun e w' => e = .returned (.bool true) ∧ Below w.heap.size w w' := by
  have h1 := h.sh
  have h2 := h.unit
  have h3 := h.back
  have h4 := h.tok
  have h5 := h.not
  have h6 := hz8
  clear h hz8
  simp only [pcV]
  generalize p.zn = z at *
  by_cases hd : p.df = -1
  · have d1 : (p.df == -1) = true := by simp [hd]
    rcases h4 hd with rfl | rfl
    · clear h1 h2 h3 h4 h5 hd
      go_enter Try.func20, Try.ntmps20
      go_wp2_with fail
      go_ret
      exact ⟨rfl, (Below.refl _ _).alloc (Nat.le_refl _) _⟩
    · have e1 : ((p.hs : Int) == (p.ow : Int)) = true := by
        rcases h1 with h1 | h1
        · simp [h1]
        · simp [sharedB] at h1
      clear h1 h2 h3 h4 h5 hd
      go_enter Try.func20, Try.ntmps20
      go_wp2_with fail
      go_ret
      exact ⟨rfl, (Below.refl _ _).alloc (Nat.le_refl _) _⟩
  · have d1 : (p.df == -1) = false := by simp [hd]
    have h7 := h5 hd
    have hfit : fitsB K z = true := by
      unfold fitsB
      by_cases ha : z = 2 ∨ z = 6
      · rw [if_pos ha, h2 ha]; rfl
      · rw [if_neg ha]
        by_cases hb : z = 3
        · rw [if_pos hb]; simpa using h3 hb
        · rw [if_neg hb]
    have n7 : ((z : Int) != 7) = true := by simp; omega
    have hF := Lib.hid fun W => bfits_any K z h6 W
    have hP := Lib.hid fun W => bpile_any z h6 W
    rw [hfit] at hF
    by_cases hs : p.hs = p.ow
    · have e1 : ((p.hs : Int) == (p.ow : Int)) = true := by simp [hs]
      clear h1 h2 h3 h4 h5 hd hs hfit hP
      go_enter Try.func20, Try.ntmps20
      go_wp2_with fail
      refine (hF.out _).mono ?_
      rintro e w1 ⟨rfl, rfl⟩
      go_wp2_with fail
      go_ret
      exact ⟨rfl, (Below.refl _ _).alloc (Nat.le_refl _) _⟩
    · have e1 : ((p.hs : Int) == (p.ow : Int)) = false := by simp; omega
      have hpl : pileB z = false := by
        rcases h1 with h1 | h1
        · exact absurd h1.symm hs
        · rcases eight h6 with rfl | rfl | rfl | rfl | rfl | rfl | rfl | rfl <;> first | rfl | (simp [sharedB] at h1)
      rw [hpl] at hP
      clear h1 h2 h3 h4 h5 hd hs hfit hpl
      go_enter Try.func20, Try.ntmps20
      go_wp2_with fail
      refine (hF.out _).mono ?_
      rintro e w1 ⟨rfl, rfl⟩
      go_wp2_with fail
      refine (hP.out _).mono ?_
      rintro e w1 ⟨rfl, rfl⟩
      go_wp2_with fail
      go_ret
      exact ⟨rfl, (Below.refl _ _).alloc (Nat.le_refl _) _⟩
set_option maxHeartbeats 8000000 in
set_option maxRecDepth 100000 in
theorem bmay_no_in (t : Tb) (xs : List Cd) (ps : List Pc) (w : World) (hT : TabIn w t xs ps) (hB1 : ¬ t.tn < 1) (hB2 : ¬ (t.py : Int) > 1) (hB3 : ¬ (t.np : Int) > 144) (hN : ¬ (LifeOk t ∧ GoodB xs ps)) : Calls Try.prog 15 #[.agg t.row] w fun e w' => e = .returned (.bool false) ∧ Below w.heap.size w w' := by
  obtain ⟨qk, nk, ck, qp, np, cp, vl0, vl1, tn, py, mo, qe, ne, ce, vb0, vb1⟩ := t
  have HN := Lib.hid hT.np
  have HK := Lib.hid hT.nk
  have HT := Lib.hid hT
  have hpl := Lib.hid fun (W : World) (hb : Below w.heap.size w W) (hP : ∀ p ∈ ps, p.hs ≤ 1 ∧ p.zn ≤ 7) (hF : ps.length ≤ 144) (hN : ¬ (SeatQ ps ∧ FullQ ps 0 ∧ FullQ ps 1)) => bplaces_no ⟨qk, nk, ck, qp, np, cp, vl0, vl1, tn, py, mo, qe, ne, ce, vb0, vb1⟩ xs ps W (hT.below hb) hP hF hN
  have hko := Lib.hid fun (W : World) (hb : Below w.heap.size w W) (d : Int) => bkindOf_any ⟨qk, nk, ck, qp, np, cp, vl0, vl1, tn, py, mo, qe, ne, ce, vb0, vb1⟩ xs ps d W (hT.below hb)
  dsimp only at HN HK hpl hko
  have h1 : ¬ tn < 1 := hB1
  have h2 : ¬ (py : Int) > 1 := hB2
  have h3 : ¬ (np : Int) > 144 := hB3
  have h4 : np ≤ 144 := by omega
  have HNO := Lib.hid (fun (a : 0 ≤ vl0 ∧ vl0 ≤ 99999) (b : 0 ≤ vl1 ∧ vl1 ≤ 99999) (g : GoodB xs ps) => hN ⟨⟨a, b, by dsimp only; omega, by dsimp only; omega⟩, g⟩)
  clear hT hN hB1 hB2 hB3
  obtain ⟨w0, hw0⟩ : ∃ w0, w0 = w.alloc (.cells (Tb.row ⟨qk, nk, ck, qp, np, cp, vl0, vl1, tn, py, mo, qe, ne, ce, vb0, vb1⟩) 28) := ⟨_, rfl⟩
  have hb0 : Below w.heap.size w w0 := by rw [hw0]; exact (Below.refl _ _).alloc (Nat.le_refl _) _
  have hx0 : w0.heap[w.heap.size]? = some (.cells (Tb.row ⟨qk, nk, ck, qp, np, cp, vl0, vl1, tn, py, mo, qe, ne, ce, vb0, vb1⟩) 28 (0, 0)) := by rw [hw0]; exact heap_alloc_new _ _
  have HB0 := Lib.hid hb0
  have HX0 := Lib.hid hx0
  have HW0 := Lib.hid hw0
  clear hb0 hx0 hw0
  simp only [Tb.row] at *
  have hix0 : ∀ W : World, (Instr.index 24 (.agg #[.int .i64 vl0, .int .i64 vl1]) (.int .i64 0)).run Try.prog W = .ok (.int .i64 vl0) W := fun W => by kernel_rfl
  have hix1 : ∀ W : World, (Instr.index 24 (.agg #[.int .i64 vl0, .int .i64 vl1]) (.int .i64 1)).run Try.prog W = .ok (.int .i64 vl1) W := fun W => by kernel_rfl
  go_enter Try.func15, Try.ntmps15
  go_wp2_with fail
  rw [← HW0.out]
  go_loopw [23] (fun vi wr => (vi = .int .i64 0 ∨ (vi = .int .i64 1 ∧ 0 ≤ vl0 ∧ vl0 ≤ 99999) ∨ (vi = .int .i64 2 ∧ (0 ≤ vl0 ∧ vl0 ≤ 99999) ∧ 0 ≤ vl1 ∧ vl1 ≤ 99999)) ∧ wr = w0) (fun vi _ => 2 - (RowKit.intOf vi).toNat)
  case atStart => exact ⟨.inl rfl, rfl⟩
  case round =>
    obtain ⟨hk3, rfl⟩ := hrel
    rcases hk3 with rfl | ⟨rfl, hl0⟩ | ⟨rfl, hl0, hl1⟩
    · by_cases l0 : vl0 < 0
      · go_wp2_with fail
        go_ret
        exact ⟨rfl, HB0.out⟩
      by_cases l1 : vl0 > 99999
      · go_wp2_with fail
        go_ret
        exact ⟨rfl, HB0.out⟩
      · go_wp2_with fail
        go_roundw
        case rel => exact ⟨.inr (.inl ⟨rfl, by omega, by omega⟩), by first | trivial | rfl⟩
        case measure => simp [RowKit.intOf]
    · have HL0 := Lib.hid hl0
      clear hl0
      by_cases l0 : vl1 < 0
      · go_wp2_with fail
        go_ret
        exact ⟨rfl, HB0.out⟩
      by_cases l1 : vl1 > 99999
      · go_wp2_with fail
        go_ret
        exact ⟨rfl, HB0.out⟩
      · go_wp2_with fail
        go_roundw
        case rel => exact ⟨.inr (.inr ⟨rfl, HL0.out, by omega, by omega⟩), by first | trivial | rfl⟩
        case measure => simp [RowKit.intOf]
    · have y1 := cell_blk (i := 1) HX0.out
      simp at y1
      have hlt0 := heap_lt HX0.out
      have HNG := Lib.hid fun g => HNO.out hl0 hl1 g
      clear hix0 hix1 hl0 hl1 HNO
      go_wp2_with fail
      rename World => w0
      go_loopw [36] (fun vi wr => ∃ k : Nat, vi = .int .i64 k ∧ k ≤ np ∧ (∀ j p, j < k → ps[j]? = some p → PieceQ xs.length p ∧ ZoneQ (kindI xs p.df) p) ∧ Below w0.heap.size w0 wr) (fun vi _ => np - (RowKit.intOf vi).toNat)
      case atStart => exact ⟨0, by rfl, by omega, fun j p h => by omega, Below.refl _ _⟩
      case round =>
        obtain ⟨k, rfl, hk, hso, hbw⟩ := hrel
        have HSO := Lib.hid hso
        clear hso
        rename World => wA
        have hx1 := (hbw.block _ (heap_lt HX0.out)).trans HX0.out
        have hltA := heap_lt hx1
        have z0 := cell_blk (i := 0) hx1
        have z1 := cell_blk (i := 1) hx1
        simp at z0 z1
        have HBW := Lib.hid hbw
        have HBw : Hid (Below w.heap.size w wA) := Lib.hid (HB0.out.trans (hbw.mono HB0.out.size))
        clear hx1 hbw
        by_cases hlt : k < np
        · obtain ⟨p, hp⟩ : ∃ p, ps[k]? = some p := ⟨ps[k]'(by have := HN.out; omega), List.getElem?_eq_getElem _⟩
          obtain ⟨g, o, hq, hg, hc⟩ := HT.out.piece hp
          dsimp only at hq
          subst hq
          have hc := fun j u hu => cell_later HBw.out (hc j u hu)
          have c0 := hc 0 _ rfl
          have c1 := hc 1 _ rfl
          have c2 := hc 2 _ rfl
          have c3 := hc 3 _ rfl
          have c4 := hc 4 _ rfl
          have c5 := hc 5 _ rfl
          have c6 := hc 6 _ rfl
          have c7 := hc 7 _ rfl
          have c8 := hc 8 _ rfl
          have c9 := hc 9 _ rfl
          have c10 := hc 10 _ rfl
          have c11 := hc 11 _ rfl
          have c12 := hc 12 _ rfl
          have c13 := hc 13 _ rfl
          simp only [Nat.add_zero] at c0
          have i0 : (0 : Int) ≤ (k : Int) := by omega
          have i1 : (k : Int) < (np : Int) := by omega
          have HP := Lib.hid hp
          have hnk := HK.out.1
          clear hc hp
          by_cases hpq : PieceQ xs.length p
          · by_cases hzq : ZoneQ (kindI xs p.df) p
            · have HPM := Lib.hid fun W => bpiece_q p nk W (by rw [hnk]; exact hpq)
              have HZM := Lib.hid fun W => bzone_q p _ W hzq hpq.zn
              simp only [pcV] at HPM HZM
              have HQ := Lib.hid (And.intro hpq hzq)
              clear hpq hzq hnk
              go_wp2_with fail
              go_region_held3 (fun w' => w'.cell? ⟨wA.heap.size, 0, none⟩ = some (.int .i64 p.df) ∧ w'.cell? ⟨wA.heap.size, 1, none⟩ = some (.int .i64 p.ak) ∧ w'.cell? ⟨wA.heap.size, 2, none⟩ = some (.int .i64 p.gd) ∧ w'.cell? ⟨wA.heap.size, 3, none⟩ = some (.int .u8 p.ow) ∧ w'.cell? ⟨wA.heap.size, 4, none⟩ = some (.int .u8 p.hs) ∧ w'.cell? ⟨wA.heap.size, 5, none⟩ = some (.int .u8 p.zn) ∧ w'.cell? ⟨wA.heap.size, 6, none⟩ = some (.int .i64 p.pl) ∧ w'.cell? ⟨wA.heap.size, 7, none⟩ = some (.bool p.up) ∧ w'.cell? ⟨wA.heap.size, 8, none⟩ = some (.bool p.lw) ∧ w'.cell? ⟨wA.heap.size, 9, none⟩ = some (.int .i64 p.sc) ∧ w'.cell? ⟨wA.heap.size, 10, none⟩ = some (.int .u8 p.us) ∧ w'.cell? ⟨wA.heap.size, 11, none⟩ = some (.bool p.sk) ∧ w'.cell? ⟨wA.heap.size, 12, none⟩ = some (.bool p.tu) ∧ w'.cell? ⟨wA.heap.size, 13, none⟩ = some (.int .i64 p.bo) ∧ w'.cell? ⟨w.heap.size, 0, none⟩ = some (.slice qk nk ck))
                (first
                  | go_keep
                  | ((repeat' apply And.intro) <;> (refine cell_later b5 ?_) <;> first | assumption | go_keep | simp_all))
                (first
                  | (go_at_call 19; refine (HPM.out _).mono ?_; rintro e w5 ⟨rfl, b5⟩; have B5 : Below w0.heap.size w0 w5 := ((by repeat (first | (with_reducible exact HBW.out) | (with_reducible exact B5) | ((with_reducible refine Below.alloc ?_ ?_ _); rotate_left; focus (have := HBW.out.size; first | omega | (simp; omega))) | (with_reducible refine Below.drew ?_))) : Below w0.heap.size w0 _).trans (b5.mono (by have := HBW.out.size; simp; omega)))
                  | (go_at_call 21; refine (hko.out _ (HB0.out.trans (((by repeat (first | (with_reducible exact HBW.out) | (with_reducible exact B5) | ((with_reducible refine Below.alloc ?_ ?_ _); rotate_left; focus (have := HBW.out.size; first | omega | (simp; omega))) | (with_reducible refine Below.drew ?_))) : Below w0.heap.size w0 _).mono HB0.out.size)) _).mono ?_; rintro e w5 ⟨rfl, rfl⟩)
                  | (go_at_call 20; refine (HZM.out _).mono ?_; rintro e w5 ⟨rfl, b5⟩; have B6 : Below w0.heap.size w0 w5 := ((by repeat (first | (with_reducible exact HBW.out) | (with_reducible exact B5) | ((with_reducible refine Below.alloc ?_ ?_ _); rotate_left; focus (have := HBW.out.size; first | omega | (simp; omega))) | (with_reducible refine Below.drew ?_))) : Below w0.heap.size w0 _).trans (b5.mono (by have := B5.size; simp; omega))))
              go_wp2_with fail
              go_roundw
              case rel => exact ⟨k + 1, by go_num, by omega, fun j q hj hq => by
                by_cases hjk : j < k
                · exact HSO.out j q hjk hq
                · obtain rfl : j = k := by omega
                  rw [HP.out] at hq; cases hq; exact HQ.out, by first | exact B6 | exact B6.drew⟩
              case measure => simp [RowKit.intOf]; omega
            · have HPM := Lib.hid fun W => bpiece_q p nk W (by rw [hnk]; exact hpq)
              have HZM := Lib.hid fun W => bzone_no p (kindI xs p.df) W hpq.zn (fun h => kindI_neg (by omega)) hzq
              simp only [pcV] at HPM HZM
              clear hpq hzq hnk
              go_wp2_with fail
              go_region_held3 (fun w' => w'.cell? ⟨wA.heap.size, 0, none⟩ = some (.int .i64 p.df) ∧ w'.cell? ⟨wA.heap.size, 1, none⟩ = some (.int .i64 p.ak) ∧ w'.cell? ⟨wA.heap.size, 2, none⟩ = some (.int .i64 p.gd) ∧ w'.cell? ⟨wA.heap.size, 3, none⟩ = some (.int .u8 p.ow) ∧ w'.cell? ⟨wA.heap.size, 4, none⟩ = some (.int .u8 p.hs) ∧ w'.cell? ⟨wA.heap.size, 5, none⟩ = some (.int .u8 p.zn) ∧ w'.cell? ⟨wA.heap.size, 6, none⟩ = some (.int .i64 p.pl) ∧ w'.cell? ⟨wA.heap.size, 7, none⟩ = some (.bool p.up) ∧ w'.cell? ⟨wA.heap.size, 8, none⟩ = some (.bool p.lw) ∧ w'.cell? ⟨wA.heap.size, 9, none⟩ = some (.int .i64 p.sc) ∧ w'.cell? ⟨wA.heap.size, 10, none⟩ = some (.int .u8 p.us) ∧ w'.cell? ⟨wA.heap.size, 11, none⟩ = some (.bool p.sk) ∧ w'.cell? ⟨wA.heap.size, 12, none⟩ = some (.bool p.tu) ∧ w'.cell? ⟨wA.heap.size, 13, none⟩ = some (.int .i64 p.bo) ∧ w'.cell? ⟨w.heap.size, 0, none⟩ = some (.slice qk nk ck))
                (first
                  | go_keep
                  | ((repeat' apply And.intro) <;> (refine cell_later b5 ?_) <;> first | assumption | go_keep | simp_all))
                (first
                  | (go_at_call 19; refine (HPM.out _).mono ?_; rintro e w5 ⟨rfl, b5⟩; have B5 : Below w0.heap.size w0 w5 := ((by repeat (first | (with_reducible exact HBW.out) | (with_reducible exact B5) | ((with_reducible refine Below.alloc ?_ ?_ _); rotate_left; focus (have := HBW.out.size; first | omega | (simp; omega))) | (with_reducible refine Below.drew ?_))) : Below w0.heap.size w0 _).trans (b5.mono (by have := HBW.out.size; simp; omega)))
                  | (go_at_call 21; refine (hko.out _ (HB0.out.trans (((by repeat (first | (with_reducible exact HBW.out) | (with_reducible exact B5) | ((with_reducible refine Below.alloc ?_ ?_ _); rotate_left; focus (have := HBW.out.size; first | omega | (simp; omega))) | (with_reducible refine Below.drew ?_))) : Below w0.heap.size w0 _).mono HB0.out.size)) _).mono ?_; rintro e w5 ⟨rfl, rfl⟩)
                  | (go_at_call 20; refine (HZM.out _).mono ?_; rintro e w5 ⟨rfl, b5⟩; have B6 : Below w0.heap.size w0 w5 := ((by repeat (first | (with_reducible exact HBW.out) | (with_reducible exact B5) | ((with_reducible refine Below.alloc ?_ ?_ _); rotate_left; focus (have := HBW.out.size; first | omega | (simp; omega))) | (with_reducible refine Below.drew ?_))) : Below w0.heap.size w0 _).trans (b5.mono (by have := B5.size; simp; omega))))
              go_wp2_with fail
              go_ret
              exact ⟨rfl, HB0.out.trans ((by first | exact B6 | exact B6.drew : Below w0.heap.size w0 _).mono HB0.out.size)⟩
          · have HPM := Lib.hid fun W => bpiece_no p nk W (by rw [hnk]; exact hpq)
            simp only [pcV] at HPM
            clear hpq hnk
            go_wp2_with fail
            refine wp_region_held_drew (S := fun w' => w'.cell? ⟨wA.heap.size, 0, none⟩ = some (.int .i64 p.df) ∧ w'.cell? ⟨wA.heap.size, 1, none⟩ = some (.int .i64 p.ak) ∧ w'.cell? ⟨wA.heap.size, 2, none⟩ = some (.int .i64 p.gd) ∧ w'.cell? ⟨wA.heap.size, 3, none⟩ = some (.int .u8 p.ow) ∧ w'.cell? ⟨wA.heap.size, 4, none⟩ = some (.int .u8 p.hs) ∧ w'.cell? ⟨wA.heap.size, 5, none⟩ = some (.int .u8 p.zn) ∧ w'.cell? ⟨wA.heap.size, 6, none⟩ = some (.int .i64 p.pl) ∧ w'.cell? ⟨wA.heap.size, 7, none⟩ = some (.bool p.up) ∧ w'.cell? ⟨wA.heap.size, 8, none⟩ = some (.bool p.lw) ∧ w'.cell? ⟨wA.heap.size, 9, none⟩ = some (.int .i64 p.sc) ∧ w'.cell? ⟨wA.heap.size, 10, none⟩ = some (.int .u8 p.us) ∧ w'.cell? ⟨wA.heap.size, 11, none⟩ = some (.bool p.sk) ∧ w'.cell? ⟨wA.heap.size, 12, none⟩ = some (.bool p.tu) ∧ w'.cell? ⟨wA.heap.size, 13, none⟩ = some (.int .i64 p.bo) ∧ w'.cell? ⟨w.heap.size, 0, none⟩ = some (.slice qk nk ck)) (by kernel_rfl) (by (repeat' apply And.intro) <;> go_keep) (fun hHeld => ?_)
            refine take_at (i := 0) (v := ?_) rfl (by kernel_rfl) (by kernel_rfl) (by kernel_rfl) (fun _ _ _ h => h) (Or.inl ⟨by rfl, ?_⟩) hHeld ?_
            rotate_left
            · intro w hSw
              (try dsimp only at hSw)
              go_simp
              try with_reducible rfl
            try simp only [Act.put, List.setIfInBounds_toArray, List.set_cons_zero, List.set_cons_succ]
            try dsimp only
            refine take_at (i := 1) (v := ?_) rfl (by kernel_rfl) (by kernel_rfl) (by kernel_rfl) (fun _ _ _ h => h) (Or.inl ⟨by rfl, ?_⟩) hHeld ?_
            rotate_left
            · intro w hSw
              (try dsimp only at hSw)
              go_simp
              try with_reducible rfl
            try simp only [Act.put, List.setIfInBounds_toArray, List.set_cons_zero, List.set_cons_succ]
            try dsimp only
            refine take_at (i := 2) (v := ?_) rfl (by kernel_rfl) (by kernel_rfl) (by kernel_rfl) (fun _ _ _ h => h) (Or.inl ⟨by rfl, ?_⟩) hHeld ?_
            rotate_left
            · intro w hSw
              (try dsimp only at hSw)
              go_simp
              try with_reducible rfl
            try simp only [Act.put, List.setIfInBounds_toArray, List.set_cons_zero, List.set_cons_succ]
            try dsimp only
            refine take_at (i := 3) (v := ?_) rfl (by kernel_rfl) (by kernel_rfl) (by kernel_rfl) (fun _ _ _ h => h) (Or.inl ⟨by rfl, ?_⟩) hHeld ?_
            rotate_left
            · intro w hSw
              (try dsimp only at hSw)
              go_simp
              try with_reducible rfl
            try simp only [Act.put, List.setIfInBounds_toArray, List.set_cons_zero, List.set_cons_succ]
            try dsimp only
            refine wpAnyH_ready (rs := [4]) (by kernel_rfl) (by simp) ?_
            refine cons_at rfl (fun K hK => ?_) AllReadyH.nil
            go_simp
            refine (HPM.out _).mono ?_
            rintro e w5 ⟨rfl, b5⟩
            refine hK.out _ _ ⟨cell_later b5 hHeld.1, cell_later b5 hHeld.2.1, cell_later b5 hHeld.2.2.1, cell_later b5 hHeld.2.2.2.1, cell_later b5 hHeld.2.2.2.2.1, cell_later b5 hHeld.2.2.2.2.2.1, cell_later b5 hHeld.2.2.2.2.2.2.1, cell_later b5 hHeld.2.2.2.2.2.2.2.1, cell_later b5 hHeld.2.2.2.2.2.2.2.2.1, cell_later b5 hHeld.2.2.2.2.2.2.2.2.2.1, cell_later b5 hHeld.2.2.2.2.2.2.2.2.2.2.1, cell_later b5 hHeld.2.2.2.2.2.2.2.2.2.2.2.1, cell_later b5 hHeld.2.2.2.2.2.2.2.2.2.2.2.2.1, cell_later b5 hHeld.2.2.2.2.2.2.2.2.2.2.2.2.2.1, cell_later b5 hHeld.2.2.2.2.2.2.2.2.2.2.2.2.2.2⟩ (fun hHeld => ?_)
            clear hK K
            try simp only [Act.put, List.setIfInBounds_toArray, List.set_cons_zero, List.set_cons_succ]
            try dsimp only
            refine take_at (i := 5) (v := ?_) rfl (by kernel_rfl) (by kernel_rfl) (by kernel_rfl) (fun _ _ _ h => h) (Or.inl ⟨by rfl, ?_⟩) hHeld ?_
            rotate_left
            · intro w hSw
              (try dsimp only at hSw)
              go_simp
              try with_reducible rfl
            try simp only [Act.put, List.setIfInBounds_toArray, List.set_cons_zero, List.set_cons_succ]
            try dsimp only
            refine take_at (i := 6) (v := ?_) rfl (by kernel_rfl) (by kernel_rfl) (by kernel_rfl) (fun _ _ _ h => h) (Or.inl ⟨by rfl, ?_⟩) hHeld ?_
            rotate_left
            · intro w hSw
              (try dsimp only at hSw)
              go_simp
              try with_reducible rfl
            try simp only [Act.put, List.setIfInBounds_toArray, List.set_cons_zero, List.set_cons_succ]
            try dsimp only
            refine take_at (i := 7) (v := undef) rfl (by kernel_rfl) (by kernel_rfl) (by kernel_rfl) (fun _ _ _ h => h) (Or.inr ⟨by rfl, rfl⟩) hHeld ?_
            try simp only [Act.put, List.setIfInBounds_toArray, List.set_cons_zero, List.set_cons_succ]
            try dsimp only
            refine take_at (i := 8) (v := undef) rfl (by kernel_rfl) (by kernel_rfl) (by kernel_rfl) (fun _ _ _ h => h) (Or.inr ⟨by rfl, rfl⟩) hHeld ?_
            try simp only [Act.put, List.setIfInBounds_toArray, List.set_cons_zero, List.set_cons_succ]
            try dsimp only
            refine take_at (i := 9) (v := undef) rfl (by kernel_rfl) (by kernel_rfl) (by kernel_rfl) (fun _ _ _ h => h) (Or.inr ⟨by rfl, rfl⟩) hHeld ?_
            try simp only [Act.put, List.setIfInBounds_toArray, List.set_cons_zero, List.set_cons_succ]
            try dsimp only
            refine take_at (i := 10) (v := undef) rfl (by kernel_rfl) (by kernel_rfl) (by kernel_rfl) (fun _ _ _ h => h) (Or.inr ⟨by rfl, rfl⟩) hHeld ?_
            try simp only [Act.put, List.setIfInBounds_toArray, List.set_cons_zero, List.set_cons_succ]
            try dsimp only
            refine take_at (i := 11) (v := undef) rfl (by kernel_rfl) (by kernel_rfl) (by kernel_rfl) (fun _ _ _ h => h) (Or.inr ⟨by rfl, rfl⟩) hHeld ?_
            try simp only [Act.put, List.setIfInBounds_toArray, List.set_cons_zero, List.set_cons_succ]
            try dsimp only
            refine take_at (i := 12) (v := undef) rfl (by kernel_rfl) (by kernel_rfl) (by kernel_rfl) (fun _ _ _ h => h) (Or.inr ⟨by rfl, rfl⟩) hHeld ?_
            try simp only [Act.put, List.setIfInBounds_toArray, List.set_cons_zero, List.set_cons_succ]
            try dsimp only
            refine take_at (i := 13) (v := undef) rfl (by kernel_rfl) (by kernel_rfl) (by kernel_rfl) (fun _ _ _ h => h) (Or.inr ⟨by rfl, rfl⟩) hHeld ?_
            try simp only [Act.put, List.setIfInBounds_toArray, List.set_cons_zero, List.set_cons_succ]
            try dsimp only
            refine take_at (i := 14) (v := undef) rfl (by kernel_rfl) (by kernel_rfl) (by kernel_rfl) (fun _ _ _ h => h) (Or.inr ⟨by rfl, rfl⟩) hHeld ?_
            try simp only [Act.put, List.setIfInBounds_toArray, List.set_cons_zero, List.set_cons_succ]
            try dsimp only
            refine take_at (i := 15) (v := ?_) rfl (by kernel_rfl) (by kernel_rfl) (by kernel_rfl) (fun _ _ _ h => h) (Or.inl ⟨by rfl, ?_⟩) hHeld ?_
            rotate_left
            · intro w hSw
              (try dsimp only at hSw)
              go_simp
              try with_reducible rfl
            try simp only [Act.put, List.setIfInBounds_toArray, List.set_cons_zero, List.set_cons_succ]
            try dsimp only
            refine wpAnyH_done (by kernel_rfl) ?_ _
            go_wp2_with fail
            go_ret
            exact ⟨rfl, HB0.out.trans ((((HBW.out.alloc HBW.out.size _).drew).trans (b5.mono (by have := HBW.out.size; simp; omega))).mono HB0.out.size)⟩
        · obtain rfl : k = np := by omega
          have hall : ∀ p ∈ ps, PieceQ xs.length p ∧ ZoneQ (kindI xs p.df) p := fun p hp => by
            obtain ⟨j, hj⟩ := List.getElem?_of_mem hp
            have hl := (List.getElem?_eq_some_iff.1 hj).1
            exact HSO.out j p (by rw [HN.out.1]; exact hl) hj
          have hf : ps.length ≤ 144 := by have := HN.out.1; omega
          have HC := Lib.hid (hpl.out _ HBw.out (fun p hp => ⟨(hall p hp).1.hs, (hall p hp).1.zn⟩) hf (fun h => HNG.out (good_of hf (fun p hp => (hall p hp).1) (fun p hp => (hall p hp).2) h.1 h.2.1 h.2.2)))
          clear hall hf
          go_wp2_with fail
          refine HC.out.mono ?_
          rintro e w2 ⟨rfl, b2⟩
          go_wp2_with fail
          go_ret
          exact ⟨rfl, HBw.out.trans (b2.mono HBw.out.size)⟩
set_option maxHeartbeats 2000000 in
set_option maxRecDepth 100000 in
theorem bmay_out (t : Tb) (w : World) (h : ¬ (¬ t.tn < 1 ∧ ¬ (t.py : Int) > 1 ∧ ¬ (t.np : Int) > 144)) : Calls Try.prog 15 #[.agg t.row] w fun e w' => e = .returned (.bool false) ∧ Below w.heap.size w w' := by
  simp only [Tb.row]
  by_cases h1 : t.tn < 1
  · clear h
    go_enter Try.func15, Try.ntmps15
    go_wp2_with fail
    go_ret
    exact ⟨rfl, (Below.refl _ _).alloc (Nat.le_refl _) _⟩
  by_cases h2 : (t.py : Int) > 1
  · clear h
    go_enter Try.func15, Try.ntmps15
    go_wp2_with fail
    go_ret
    exact ⟨rfl, (Below.refl _ _).alloc (Nat.le_refl _) _⟩
  have h3 : (t.np : Int) > 144 := by
    apply Decidable.byContradiction
    intro h3
    exact h ⟨h1, h2, h3⟩
  clear h
  go_enter Try.func15, Try.ntmps15
  go_wp2_with fail
  go_ret
  exact ⟨rfl, (Below.refl _ _).alloc (Nat.le_refl _) _⟩
theorem bmay_no (t : Tb) (xs : List Cd) (ps : List Pc) (w : World) (hT : TabIn w t xs ps) (h : ¬ (LifeOk t ∧ GoodB xs ps)) : Calls Try.prog 15 #[.agg t.row] w fun e w' => e = .returned (.bool false) ∧ Below w.heap.size w w' := by
  by_cases h0 : ¬ t.tn < 1 ∧ ¬ (t.py : Int) > 1 ∧ ¬ (t.np : Int) > 144
  · exact bmay_no_in t xs ps w hT h0.1 h0.2.1 h0.2.2 h
  · exact bmay_out t w h0
/-- The document's: no of a table that may not be. -/
theorem rmay_no (t : Tb) (xs : List Cd) (ps : List Pc) (w : World) (hT : TabIn w t xs ps) (h : ¬ (LifeOk t ∧ GoodB xs ps)) : Calls Try.prog 6 #[.agg t.row] w fun e w' => e = .returned (.bool false) ∧ Below w.heap.size w w' :=
  (rmay_any t xs ps w hT).mono fun e w' ⟨⟨b, he, hb⟩, hw⟩ => ⟨by
    cases b with
    | false => exact he
    | true => exact absurd (hb rfl) h, hw⟩
end Go.Proofs.Ytlbbabojejimpaa
