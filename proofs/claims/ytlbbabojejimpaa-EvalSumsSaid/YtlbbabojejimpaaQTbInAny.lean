import Derived.Test.YtlbbabojejimpaaQTbInFew
import Derived.Test.YtlbbabojejimpaaQTbSortAny
/- board.In of whatever zone, of a table that may be: the numbers of its pieces, by places. -/
namespace Go.Proofs.Ytlbbabojejimpaa
open Go.RowKit Go.Lib

set_option maxHeartbeats 8000000 in
set_option maxRecDepth 100000 in
theorem bin_any (t : Tb) (xs : List Cd) (ps : List Pc) (h z : Nat) (w : World) (hT : TabIn w t xs ps) (hL : LifeOk t) (hG : GoodB xs ps) :
    Calls Try.prog 36 #[.agg t.row, .int .u8 h, .int .u8 z] w (InEnds ps h z w.heap.size w) := by
  obtain ⟨i0, hi0, hz0, hz1, hz2⟩ := info_parts int_info
  have HN := Lib.hid hT.np
  have HT := Lib.hid hT
  have HPN := Lib.hid hG.few
  have hmay := Lib.hid fun (W : World) (hb : Below w.heap.size w W) => bmay_yes t xs ps W (hT.below hb) hL hG
  have hsort := Lib.hid fun (W : World) (hb : Below w.heap.size w W) (ids : List Nat) (g cap B : Nat) (cur : Array Value) => bsort_any t xs ps ids g cap B cur W (hT.below hb)
  clear hT hL hG
  obtain ⟨w0, hw0⟩ : ∃ w0, w0 = w.alloc (.cells t.row 28) := ⟨_, rfl⟩
  have hb0 : Below w.heap.size w w0 := by rw [hw0]; exact (Below.refl _ _).alloc (Nat.le_refl _) _
  have hx0 : w0.heap[w.heap.size]? = some (.cells t.row 28 (0, 0)) := by rw [hw0]; exact heap_alloc_new _ _
  have hs0 : w0.heap.size = w.heap.size + 1 := by rw [hw0]; simp
  have HB0 := Lib.hid hb0
  have HX0 := Lib.hid hx0
  have HW0 := Lib.hid hw0
  have HS0 := Lib.hid hs0
  clear hb0 hx0 hw0 hs0
  simp only [Tb.row] at *
  go_enter Try.func36, Try.ntmps36
  go_wp2_with fail
  rw [← HW0.out]
  refine (hmay.out _ HB0.out).mono ?_
  rintro e w1 ⟨rfl, b1⟩
  have HB1 := Lib.hid (show Below w0.heap.size w0 w1 from b1)
  have HX1 := Lib.hid ((b1.block _ (heap_lt HX0.out)).trans HX0.out)
  have y1 := cell_blk (i := 1) HX1.out
  simp at y1
  have hlt1 := heap_lt HX1.out
  clear b1
  go_wp2_with fail
  go_loopw [7, 16] (fun vl vi wr => ∃ (k : Nat) (a : Option Addr) (n c : Nat), vi = .int .i64 k ∧ k ≤ t.np ∧ vl = .slice a n c ∧ n = (idsTo ps h z k).length ∧ (n = 0 → Value.slice a n c = .slice none 0 0) ∧ NatsAt wr w0.heap.size (.slice a n c) (idsTo ps h z k) ∧ Below w0.heap.size w0 wr) (fun _ vi _ => t.np - (RowKit.intOf vi).toNat)
  case atStart => exact ⟨0, none, 0, 0, by rfl, by omega, rfl, by simp [idsTo], fun _ => rfl, by simp only [idsTo, List.range_zero, List.filter_nil]; exact World.ownsRow_nil _ _ _ _, HB1.out⟩
  case round =>
    obtain ⟨k, a, n, c, rfl, hk, rfl, hn, hnil, hown, hbw⟩ := hrel
    rename World => wA
    have HBW := Lib.hid hbw
    have HBw : Hid (Below w.heap.size w wA) := Lib.hid (HB0.out.trans (hbw.mono HB0.out.size))
    have hx1 := (hbw.block _ (heap_lt HX0.out)).trans HX0.out
    have hltA := heap_lt hx1
    have HXA := Lib.hid hx1
    have HO := Lib.hid hown
    have HNL := Lib.hid hn
    have HNIL := Lib.hid hnil
    clear hbw hx1 hown hn hnil
    have hm1 : t.np ≤ 144 := by have := HPN.out; have := HN.out.1; omega
    by_cases hlt : k < t.np
    · obtain ⟨p, hp⟩ : ∃ p, ps[k]? = some p := ⟨ps[k]'(by have := HN.out; omega), List.getElem?_eq_getElem _⟩
      obtain ⟨g, o, hq, hg, hc⟩ := HT.out.piece hp
      have hc := fun j u hu => cell_later HBw.out (hc j u hu)
      have c0 := hc 0 _ rfl
      have c1 := hc 1 _ rfl
      have c2 := hc 2 _ rfl
      have c3 := hc 3 _ rfl
      have c4 := hc 4 _ rfl
      have c5 := hc 5 _ rfl
      have c6 := hc 6 _ rfl
      have c7 := hc 7 _ rfl
      have c8 := hc 8 _ rfl
      have c9 := hc 9 _ rfl
      have c10 := hc 10 _ rfl
      have c11 := hc 11 _ rfl
      have c12 := hc 12 _ rfl
      have c13 := hc 13 _ rfl
      simp only [Nat.add_zero] at c0
      have NX := Lib.hid (idsTo_next (h := h) (z := z) hp)
      have i1 : (0 : Int) ≤ (k : Int) := by omega
      have i2 : (k : Int) < (t.np : Int) := by omega
      have hn145 : n ≤ 144 := by
        have := HNL.out
        have h2 := idsTo_len (ps := ps) (h := h) (z := z) k (by rw [← HN.out.1]; exact hk)
        have h3 := count_take_le (inZ h z) ps k
        have := HPN.out
        have := HN.out
        omega
      clear hc hp
      rw [hq] at *
      by_cases hh : p.hs = h
      · have e1 : ((p.hs : Int) == (h : Int)) = true := by simp [hh]
        by_cases hz : p.zn = z
        · have e2 : ((p.zn : Int) == (z : Int)) = true := by simp [hz]
          have HE : Hid (inZ h z p = true) := Lib.hid (by simp [inZ, hz, hh])
          clear hh hz
          obtain ⟨w2, hw2⟩ : ∃ w2, w2 = wA.alloc (.cells (pcV p).toArray 51) := ⟨_, rfl⟩
          have hal : Below w0.heap.size w0 w2 := by rw [hw2]; exact HBW.out.alloc HBW.out.size _
          have hown2 : NatsAt w2 w0.heap.size (.slice a n c) (idsTo ps h z k) := by rw [hw2]; exact HO.out.below ((Below.refl _ _).alloc (Nat.le_refl _) _)
          have hown3 : (w2.alloc (.cells #[.int .i64 k] 3)).ownsRow w0.heap.size 3 1 (.slice a n c) n ((idsTo ps h z k).map idV) := by
            have := hown2.below ((Below.refl _ _).alloc (Nat.le_refl _) (.cells #[.int .i64 k] 3))
            unfold NatsAt at this
            rwa [← HNL.out] at this
          have HAL := Lib.hid (hal.alloc hal.size (.cells #[.int .i64 k] 3))
          have HO3 := Lib.hid hown3
          have HW2 := Lib.hid hw2
          have HS2 : Hid (w2.heap.size = wA.heap.size + 1) := Lib.hid (by rw [hw2]; simp)
          have HBK : Hid (∀ j, (Value.slice a n c).ownBlock = some j → w0.heap.size ≤ j) := Lib.hid fun j hj => (World.ownsRow.lt hown3 j hj).1
          clear hal hown2 hown3 hw2
          simp only [pcV] at HW2
          go_wp2_with (at_builtin; rw [← HW2.out]; (refine wpList_append_lies _ rfl (.tmp 31) (.tmp 33) 65 rfl w0.heap.size 3 i0 _ 1 8 Try.underlying65 hi0 hz0 hz1 hz2 rfl (by omega) _ n ((idsTo ps h z k).map idV) rfl HO3.out ⟨wA.heap.size + 1, 0, none⟩ 1 1 [.int .i64 k] rfl rfl (World.news_of_block (cs := #[.int .i64 k]) (t := 3) (fr := (0, 0)) (heap_newer _ _ _ HS2.out)) (by simp [Value.oneCell']) (by omega) (by unfold maxLen; omega) (by omega) HAL.out.size _ rfl ?_; intro g4 cap w5 hown4 hgrow4 hat4 hlt4; have hgr4 : World.grownBy _ w5 (Value.slice a n c).ownBlock := hgrow4))
          have hB5 : Below w0.heap.size w0 w5 := HAL.out.grown hgr4 HAL.out.size (fun j hj => HBK.out j hj)
          have hl2 : (idsTo ps h z (k + 1)).length = n + 1 := by rw [NX.out, HE.out]; simp [HNL.out]
          have ho5 : NatsAt w5 w0.heap.size (.slice (some ⟨g4, 0, none⟩) (n + 1) cap) (idsTo ps h z (k + 1)) := by
            show World.ownsRow _ _ _ _ _ _ _
            rw [hl2, NX.out, HE.out]
            simpa [idV] using hown4
          have HO5 := Lib.hid ho5
          have HB5 := Lib.hid hB5
          have HL2 := Lib.hid hl2
          clear ho5 hB5 hl2 hown4 hgrow4 hgr4 hat4
          go_wp2_with fail
          go_roundw
          case rel => exact ⟨k + 1, _, n + 1, cap, by go_num, by omega, rfl, HL2.out.symm, (fun h => by omega), HO5.out, HB5.out⟩
          case measure => simp [RowKit.intOf]; omega
        · have e2 : ((p.zn : Int) == (z : Int)) = false := by simp; omega
          have HE : Hid (inZ h z p = false) := Lib.hid (by simp [inZ, hz])
          clear hh hz
          go_wp2_with fail
          go_roundw
          case rel => exact ⟨k + 1, a, n, c, by go_num, by omega, rfl, by rw [NX.out, HE.out]; simp [HNL.out], HNIL.out, by rw [NX.out, HE.out]; simpa using HO.out.below ((Below.refl _ _).alloc (Nat.le_refl _) _), HBW.out.alloc HBW.out.size _⟩
          case measure => simp [RowKit.intOf]; omega
      · have e1 : ((p.hs : Int) == (h : Int)) = false := by simp; omega
        have HE : Hid (inZ h z p = false) := Lib.hid (by simp [inZ, hh])
        clear hh
        go_wp2_with fail
        go_roundw
        case rel => exact ⟨k + 1, a, n, c, by go_num, by omega, rfl, by rw [NX.out, HE.out]; simp [HNL.out], HNIL.out, by rw [NX.out, HE.out]; simpa using HO.out.below ((Below.refl _ _).alloc (Nat.le_refl _) _), HBW.out.alloc HBW.out.size _⟩
        case measure => simp [RowKit.intOf]; omega
    · obtain rfl : k = t.np := by omega
      have hIT : idsTo ps h z t.np = idsIn ps h z := by unfold idsIn; rw [HN.out.1]
      have HIT := Lib.hid hIT
      clear hIT
      by_cases hn0 : n = 0
      · have hv := HNIL.out hn0
        simp only [Value.slice.injEq] at hv
        obtain ⟨rfl, -, rfl⟩ := hv
        subst hn0
        have hnil : idsIn ps h z = [] := by rw [← HIT.out]; exact List.eq_nil_of_length_eq_zero HNL.out.symm
        have HI := Lib.hid hnil
        have hs := Lib.hid (bsort_none w.heap.size wA)
        unfold keyV at hs
        clear hnil
        go_wp2_with fail
        refine hs.out.mono ?_
        rintro e w2 ⟨rfl, b2⟩
        have B2 := Lib.hid (HBw.out.trans (b2.mono HBw.out.size))
        clear b2
        go_wp2_with fail
        go_ret
        exact ⟨⟨_, [], rfl, World.ownsRow_nil _ _ _ _, by rw [HI.out], fun i j _ hj => by simp at hj⟩, B2.out⟩
      · have hne : idsTo ps h z t.np ≠ [] := fun e => hn0 (by rw [HNL.out, e]; rfl)
        rcases HO.out.2 with ⟨hv, h0⟩ | ⟨g, cap, cur, hv, hbg, hh, hnc, hcm, hsz, ht⟩
        · exact absurd (by rw [HNL.out]; exact h0) hn0
        have hz1 := cell_blk (i := 1) HXA.out
        simp at hz1
        have hlen : (idsTo ps h z t.np).length ≤ 1000000 := by rw [HIT.out, idsIn_len]; have h1 := List.countP_le_length (p := inZ h z) (l := ps); have := HPN.out; omega
        have hpz : ∃ p0, ps[0]? = some p0 := by
          cases hps : ps with
          | nil =>
            have := HN.out.1
            rw [hps] at this
            rw [this] at hne
            exact absurd rfl hne
          | cons p0 l => exact ⟨p0, rfl⟩
        obtain ⟨p0, hp0⟩ := hpz
        obtain ⟨gp, op, hqp, hgp, -⟩ := HT.out.piece hp0
        have hs0 := HS0.out
        have hs := hsort.out wA HBw.out (idsTo ps h z t.np) g cap w.heap.size cur (fun i hi => by have := idsTo_lt i hi; have := HN.out.1; omega) hne hlen hz1 (by omega) (fun a ha => by rw [hqp] at ha; cases ha; exact by show gp ≠ g; omega) hh (by rw [hsz]; omega) (by rw [Nat.mul_one] at ht; exact ht)
        rw [← HNL.out] at hs hv
        simp only [Value.slice.injEq, true_and] at hv
        obtain ⟨rfl, rfl⟩ := hv
        have hkb : ∀ w2, Kept g wA w2 → Below w.heap.size w w2 := fun w2 k2 => HBw.out.trans (k2.below (by have := HBw.out.size; omega) (by omega))
        have hfin : ∀ (w2 : World) (out : List Nat) (cur' : Array Value), out.Perm (idsTo ps h z t.np) → w2.heap[g]? = some (.cells cur' 3 (0, 0)) → cur'.size = cur.size → cur'.toList.take n = out.map idV → NatsAt w2 w.heap.size (.slice (some ⟨g, 0, none⟩) n c) out := fun w2 out cur' hp hh' hs' ht' => by
          have hol : out.length = n := by rw [hp.length_eq, HNL.out]
          refine ⟨by rw [List.length_map, Nat.mul_one], .inr ⟨g, c, cur', by rw [hol], by omega, hh', by rw [hol, HNL.out]; exact hnc, hcm, by rw [hs']; exact hsz, by rw [Nat.mul_one, hol]; exact ht'⟩⟩
        have HSO := Lib.hid hs
        have HKB := Lib.hid hkb
        have HFIN := Lib.hid hfin
        clear hs hkb hfin hz1 hh ht hsz hcm hnc hqp hp0 hne hlen hbg hs0 hgp
        unfold keyV at HSO
        go_wp2_with fail
        refine HSO.out.mono ?_
        rintro e w2 ⟨rfl, k2, out, cur', hperm, hsorted, hh2, hs2, ht2⟩
        have B2 := Lib.hid (HKB.out w2 k2)
        have N2 := Lib.hid (HFIN.out w2 out cur' hperm hh2 hs2 ht2)
        have P2 := Lib.hid (show out.Perm (idsIn ps h z) by rw [← HIT.out]; exact hperm)
        have S2 := Lib.hid (show ByPl ps out from hsorted)
        clear k2 hperm hsorted hh2 hs2 ht2
        go_wp2_with fail
        go_ret
        exact ⟨⟨_, out, rfl, N2.out, P2.out, S2.out⟩, B2.out⟩
end Go.Proofs.Ytlbbabojejimpaa
