/- Layer 5 (decks): DecksBack, for whatever text, decks and kinds. -/
import Derived.Test.YtanbkgifjlobgaaDoorDkLiv
import Derived.Test.YtanbkgifjlobgaaDoorDkBackM
namespace Go.Proofs.YtanbkgifjlobgaaDoor
open Go.RowKit Go.Lib

theorem read_fault {ns : List ByteArray} {s : ByteArray} {er : Nat} {sp : Int × Int} {ra rb : List Nat} (h : readOf ns s = ((er, sp), ra, rb)) (he : er ≠ 0) : ra = [] ∧ rb = [] := by
  unfold readOf at h
  by_cases h0 : (scanOf s).2.1 = 0
  · rw [if_pos h0] at h
    by_cases h1 : (twoDecks ns (ktsOf s)).1 = 0
    · rw [if_pos h1] at h; cases h; exact absurd rfl he
    · rw [if_neg h1] at h; cases h; exact ⟨rfl, rfl⟩
  · rw [if_neg h0] at h; simp only [Prod.mk.injEq] at h; exact ⟨h.2.1.symm, h.2.2.symm⟩
theorem count_next {l : List Nat} {m y x : Nat} (h : l[m]? = some y) : (l.take (m + 1)).count x = (l.take m).count x + (if y = x then 1 else 0) := by
  rw [List.take_add_one, h, List.count_append]
  by_cases e : y = x
  · subst e; simp
  · rw [if_neg e]; simp [e]
theorem ints_get {W : World} {q : Option Addr} {l : List Nat} (h : IntsAt W q (intsOf l)) {m y : Nat} (hy : l[m]? = some y) : ∃ a, q = some a ∧ W.cell? (a.add m) = some (.int .i64 (y : Nat)) :=
  h m _ (by unfold intsOf; rw [List.getElem?_map, hy]; rfl)
theorem nats_cap {w : World} {B : Nat} {p : Option Addr} {n c : Nat} {out : List Nat} (h : NatsAt w B (.slice p n c) out) : (intsOf out).length ≤ c ∧ c ≤ maxLen := by
  rw [intsOf_len]
  rcases h.2 with ⟨hv, h0⟩ | ⟨g, cap, cur, hv, _, _, h1, h2, _⟩
  · injection hv with e1 e2 e3
    subst e3
    exact ⟨by omega, Nat.zero_le _⟩
  · injection hv with e1 e2 e3
    subst e3
    exact ⟨by omega, by assumption⟩


set_option maxHeartbeats 1000000 in
set_option maxRecDepth 100000 in
theorem dback_text (s : ByteArray) (qa qb p : Option Addr) (la ca lb cb m c : Nat) (w : World) (h1 : ¬ ((s.size : Int) ≤ 3000)) (hT : Tabs w) :
    Calls Tryd.prog 3 #[.string s, .agg #[.slice qa la ca, .slice qb lb cb], .slice p m c] w fun e w' => e = .returned (.bool true) ∧ Below w.heap.size w w' := by
  have HT := Lib.hid hT
  clear hT
  go_enter Tryd.func3, Tryd.ntmps3
  go_wp2_with fail
  have hb1 : Below w.heap.size w (w.alloc (.cells #[.slice qa la ca, .slice qb lb cb] 23)) := (Below.refl _ _).alloc (Nat.le_refl _) _
  refine (lives_any _ (HT.out.below hb1)).mono ?_
  rintro e w2 ⟨rfl, b2⟩
  have HB2 := Lib.hid (hb1.trans (b2.mono hb1.size))
  clear b2 hb1
  go_wp2_with fail
  go_ret
  exact ⟨rfl, HB2.out⟩

set_option maxHeartbeats 1000000 in
set_option maxRecDepth 100000 in
theorem dback_kinds (s : ByteArray) (qa qb p : Option Addr) (la ca lb cb m c : Nat) (w : World) (h1 : (s.size : Int) ≤ 3000) (h2 : ¬ ((m : Int) ≤ 200)) (hT : Tabs w) :
    Calls Tryd.prog 3 #[.string s, .agg #[.slice qa la ca, .slice qb lb cb], .slice p m c] w fun e w' => e = .returned (.bool true) ∧ Below w.heap.size w w' := by
  have HT := Lib.hid hT
  clear hT
  go_enter Tryd.func3, Tryd.ntmps3
  go_wp2_with fail
  have hb1 : Below w.heap.size w (w.alloc (.cells #[.slice qa la ca, .slice qb lb cb] 23)) := (Below.refl _ _).alloc (Nat.le_refl _) _
  refine (lives_any _ (HT.out.below hb1)).mono ?_
  rintro e w2 ⟨rfl, b2⟩
  have HB2 := Lib.hid (hb1.trans (b2.mono hb1.size))
  clear b2 hb1
  go_wp2_with fail
  go_ret
  exact ⟨rfl, HB2.out⟩

set_option maxHeartbeats 1000000 in
set_option maxRecDepth 100000 in
theorem dback_decks (s : ByteArray) (qa qb p : Option Addr) (la ca lb cb m c : Nat) (w : World) (h1 : (s.size : Int) ≤ 3000) (h2 : (m : Int) ≤ 200) (h3 : ¬ (wrap64 ((la : Int) + (lb : Int)) ≤ 300)) (hT : Tabs w) :
    Calls Tryd.prog 3 #[.string s, .agg #[.slice qa la ca, .slice qb lb cb], .slice p m c] w fun e w' => e = .returned (.bool true) ∧ Below w.heap.size w w' := by
  have HT := Lib.hid hT
  clear hT
  have hix0 : ∀ W : World, (Instr.index 23 (.agg #[.slice qa la ca, .slice qb lb cb]) (.int .i64 0)).run Tryd.prog W = .ok (.slice qa la ca) W := fun W => by kernel_rfl
  have hix1 : ∀ W : World, (Instr.index 23 (.agg #[.slice qa la ca, .slice qb lb cb]) (.int .i64 1)).run Tryd.prog W = .ok (.slice qb lb cb) W := fun W => by kernel_rfl
  go_enter Tryd.func3, Tryd.ntmps3
  go_wp2_with fail
  have hb1 : Below w.heap.size w (w.alloc (.cells #[.slice qa la ca, .slice qb lb cb] 23)) := (Below.refl _ _).alloc (Nat.le_refl _) _
  refine (lives_any _ (HT.out.below hb1)).mono ?_
  rintro e w2 ⟨rfl, b2⟩
  have HB2 := Lib.hid (hb1.trans (b2.mono hb1.size))
  clear b2 hb1
  go_wp2_with fail
  go_ret
  exact ⟨rfl, HB2.out⟩

set_option maxHeartbeats 8000000 in
set_option maxRecDepth 100000 in
theorem dback_small (s : ByteArray) (qa qb p : Option Addr) (ca cb c : Nat) (da db : List Int) (ks : List KC) (w : World) (hs : (s.size : Int) ≤ 3000) (hm : (ks.length : Int) ≤ 200) (hsum : wrap64 ((da.length : Int) + (db.length : Int)) ≤ 300) (hda : IntsAt w qa da) (hdb : IntsAt w qb db) (hla : da.length ≤ ca ∧ ca ≤ maxLen) (hlb : db.length ≤ cb ∧ cb ≤ maxLen)
    (hK : KindsAt w p ks) (hn : ∀ k ∈ ks, k.name.size ≤ maxLen) (hT : Tabs w) :
    Calls Tryd.prog 3 #[.string s, .agg #[.slice qa da.length ca, .slice qb db.length cb], .slice p ks.length c] w fun e w' => e = .returned (.bool true) ∧ Below w.heap.size w w' := by
  obtain ⟨w0, hw0⟩ : ∃ w0, w0 = w.alloc (.cells #[.slice qa da.length ca, .slice qb db.length cb] 23) := ⟨_, rfl⟩
  have hb0 : Below w.heap.size w w0 := by rw [hw0]; exact (Below.refl _ _).alloc (Nat.le_refl _) _
  have hx0 : w0.heap[w.heap.size]? = some (.cells #[.slice qa da.length ca, .slice qb db.length cb] 23 (0, 0)) := by rw [hw0]; exact heap_alloc_new _ _
  have HT := Lib.hid (hT.below hb0)
  have HK := Lib.hid (hK.below hb0)
  have HN := Lib.hid hn
  have HDA := Lib.hid (hda.below hb0)
  have HDB := Lib.hid (hdb.below hb0)
  have HLA := Lib.hid hla
  have HLB := Lib.hid hlb
  have HM : Hid (ks.length ≤ 200) := Lib.hid (by omega)
  have HS : Hid (s.size ≤ 3000) := Lib.hid (by omega)
  have HX0 := Lib.hid hx0
  have HB0 := Lib.hid hb0
  have HW0 := Lib.hid hw0
  have hwr := writes_decks qa qb p ca cb c da db ks w0 HDA.out HDB.out ⟨hla.1, hla.2, Nat.le_trans hla.1 hla.2⟩ ⟨hlb.1, hlb.2, Nat.le_trans hlb.1 hlb.2⟩ HK.out (by omega) hn HT.out
  obtain ⟨ns, hns⟩ : ∃ ns, ns = ks.map (·.name) := ⟨_, rfl⟩
  have hnl : ns.length = ks.length := by rw [hns]; simp
  rw [← hns] at hwr
  have HNL := Lib.hid hnl
  have HNS := Lib.hid hns
  obtain ⟨x, r, hxr⟩ : ∃ x r, writeAns ns da db = (x, r) := ⟨_, _, rfl⟩
  rw [hxr] at hwr
  have HXR := Lib.hid hxr
  have HWR := Lib.hid hwr
  have hix0 : ∀ W : World, (Instr.index 23 (.agg #[.slice qa da.length ca, .slice qb db.length cb]) (.int .i64 0)).run Tryd.prog W = .ok (.slice qa da.length ca) W := fun W => by kernel_rfl
  have hix1 : ∀ W : World, (Instr.index 23 (.agg #[.slice qa da.length ca, .slice qb db.length cb]) (.int .i64 1)).run Tryd.prog W = .ok (.slice qb db.length cb) W := fun W => by kernel_rfl
  clear hda hdb hla hlb hK hn hT hb0 hx0 hw0 hns hnl hxr hwr
  generalize hlna : da.length = na at *
  generalize hlnb : db.length = nb at *
  generalize hlm : ks.length = km at *
  have HNA := Lib.hid hlna
  have HNB := Lib.hid hlnb
  have HKM := Lib.hid hlm
  clear hlna hlnb hlm
  go_enter Tryd.func3, Tryd.ntmps3
  go_wp2_with fail
  rw [← HW0.out]
  refine HWR.out.mono ?_
  rintro e w1 ⟨rfl, b1⟩
  have HB1 := Lib.hid b1
  clear b1
  by_cases hr0 : r = 0
  · subst hr0
    obtain ⟨ra, rb, ⟨sl, sc⟩, hrd, e1, e2, hxs⟩ := write_back HXR.out
    have hrd' := read_any x p c ks w1 (by unfold maxLen; omega) (HK.out.below HB1.out) (by rw [HKM.out]; have := HM.out; omega) HN.out (HT.out.below HB1.out)
    rw [← HNS.out, hrd] at hrd'
    have HRD := Lib.hid hrd'
    rw [HKM.out] at HRD
    have HE1 := Lib.hid e1
    have HE2 := Lib.hid e2
    clear hrd hrd' e1 e2 hxs
    go_wp2_with fail
    refine HRD.out.mono ?_
    rintro e w2 ⟨a, n, c0, a', n', c', rfl, hna, hnb, b2⟩
    simp only [] at hna hnb
    obtain ⟨hia, hn1⟩ := ints_of_nats hna
    obtain ⟨hib, hn2⟩ := ints_of_nats hnb
    rw [HE1.out] at hia hn1
    rw [HE2.out] at hib hn2
    have hb2 : Below w0.heap.size w0 w2 := HB1.out.trans (b2.mono HB1.out.size)
    have HB2 := Lib.hid hb2
    have HIA := Lib.hid hia
    have HIB := Lib.hid hib
    have HN1 := Lib.hid hn1
    have HN2 := Lib.hid hn2
    have h02 := (hb2.block _ (heap_lt HX0.out)).trans HX0.out
    have HX2 := Lib.hid h02
    clear hna hnb hia hib hn1 hn2 b2 hb2
    have hlt := heap_lt h02
    have x0 := cell_blk (i := 0) h02; have x1 := cell_blk (i := 1) h02; have xf0 := free_blk (i := 0) h02; have xf1 := free_blk (i := 1) h02; simp at x0 x1
    clear h02
    go_wp2_with fail
    obtain ⟨W3, hW3⟩ : ∃ W3, W3 = (w2.alloc (.cells #[.slice a n c0, .slice a' n' c'] 23)).alloc (.cells #[.int .i64 0, .int .i64 sl, .int .i64 sc] 32) := ⟨_, rfl⟩
    have hb3 : Below w2.heap.size w2 W3 := by rw [hW3]; exact ((Below.refl _ _).alloc (Nat.le_refl _) _).alloc (by simp) _
    have hd3 : W3.heap[w2.heap.size]? = some (.cells #[.slice a n c0, .slice a' n' c'] 23 (0, 0)) := by
      rw [hW3, heap_alloc_old _ _ (by simp)]; exact heap_alloc_new _ _
    have HB3 : Hid (Below w0.heap.size w0 W3) := Lib.hid (HB2.out.trans (hb3.mono HB2.out.size))
    have HD3 := Lib.hid hd3
    have HI3 := Lib.hid (HIB.out.below hb3)
    rw [← hW3]
    refine (ints_same W3 a qa n na c0 ca da (HIA.out.below hb3) (HDA.out.below HB3.out) HN1.out HNA.out.symm (Nat.le_trans (by rw [HNA.out]; exact HLA.out.1) HLA.out.2)).mono ?_
    rintro e w4 ⟨rfl, b4⟩
    have hb4 : Below w0.heap.size w0 w4 := HB3.out.trans (b4.mono HB3.out.size)
    have h04 := (hb4.block _ (heap_lt HX0.out)).trans HX0.out
    have h24 := (b4.block _ (heap_lt HD3.out)).trans HD3.out
    have HB4 := Lib.hid hb4
    have HI4 := Lib.hid (HI3.out.below b4)
    have hlt4 := heap_lt h24
    have hlt0 := heap_lt h04
    clear hW3 hb3 hd3 b4 hb4
    have x0 := cell_blk (i := 0) h04; have x1 := cell_blk (i := 1) h04; have xf0 := free_blk (i := 0) h04; have xf1 := free_blk (i := 1) h04; simp at x0 x1
    have y0 := cell_blk (i := 0) h24; have y1 := cell_blk (i := 1) h24; have yf0 := free_blk (i := 0) h24; have yf1 := free_blk (i := 1) h24; simp at y0 y1
    clear h04 h24
    go_wp2_with fail
    refine (ints_same w4 a' qb n' nb c' cb db HI4.out (HDB.out.below HB4.out) HN2.out HNB.out.symm (Nat.le_trans (by rw [HNB.out]; exact HLB.out.1) HLB.out.2)).mono ?_
    rintro e wA ⟨rfl, b5⟩
    have HA := Lib.hid (HB4.out.trans (b5.mono HB4.out.size))
    clear b5
    go_wp2_with fail
    obtain ⟨⟨⟨er, fl, fc⟩, ra, rb⟩, hR⟩ : ∃ r, readOf ns s = r := ⟨_, rfl⟩
    have hrd := read_any s p c ks wA (by unfold maxLen; have := HS.out; omega) (HK.out.below HA.out) (by rw [HKM.out]; have := HM.out; omega) HN.out (HT.out.below HA.out)
    rw [← HNS.out, hR, HKM.out] at hrd
    have HR := Lib.hid hR
    have HRD := Lib.hid hrd
    clear hR hrd
    refine HRD.out.mono ?_
    rintro e wB ⟨ga, gn, gc, ga', gn', gc', rfl, hna, hnb, b2⟩
    simp only [] at hna hnb
    obtain ⟨hia, hn1⟩ := ints_of_nats hna
    obtain ⟨hib, hn2⟩ := ints_of_nats hnb
    rw [intsOf_len] at hn1 hn2
    have hb2 := HA.out.trans (b2.mono HA.out.size)
    have HBB := Lib.hid hb2
    have HC1 := Lib.hid (nats_cap hna)
    have HC2 := Lib.hid (nats_cap hnb)
    clear hna hnb b2
    by_cases her : er = 0
    · subst her
      obtain ⟨fa, fb, y, hy1, hy2, hys⟩ := read_back _ _ _ _ _ HR.out
      obtain ⟨Wc, hWc⟩ : ∃ Wc, Wc = (wB.alloc (.cells #[.slice ga gn gc, .slice ga' gn' gc'] 23)).alloc (.cells #[.int .i64 0, .int .i64 fl, .int .i64 fc] 32) := ⟨_, rfl⟩
      have hbc : Below wB.heap.size wB Wc := by rw [hWc]; exact ((Below.refl _ _).alloc (Nat.le_refl _) _).alloc (by simp) _
      have hdc : Wc.heap[wB.heap.size]? = some (.cells #[.slice ga gn gc, .slice ga' gn' gc'] 23 (0, 0)) := by
        rw [hWc, heap_alloc_old _ _ (by simp)]; exact heap_alloc_new _ _
      have HG : Hid (∀ W, Below Wc.heap.size Wc W → W.heap[wB.heap.size]? = some (.cells #[.slice ga gn gc, .slice ga' gn' gc'] 23 (0, 0))) := Lib.hid (fun W h => (h.block _ (heap_lt hdc)).trans hdc)
      have HW0 : Hid (Below Wc.heap.size Wc Wc) := Lib.hid (Below.refl _ _)
      have HBC : Hid (Below w0.heap.size w0 Wc) := Lib.hid (hb2.trans (hbc.mono hb2.size))
      have HGA := Lib.hid (hia.below hbc)
      have HGB := Lib.hid (hib.below hbc)
      have HG1 := Lib.hid hn1
      have HG2 := Lib.hid hn2
      have HFA := Lib.hid fa
      have HFB := Lib.hid fb
      have HY1 := Lib.hid hy1
      have HY2 := Lib.hid hy2
      have HYS := Lib.hid hys
      have HWC := Lib.hid hWc
      clear hia hib hn1 hn2 hb2 fa fb hy1 hy2 hys hWc hbc hdc
      go_wp2_with fail
      rw [← HWC.out]
      refine wp_loop_rounds 3 ?_
      rw [rounds_succ]
      have hg0 := HG.out Wc HW0.out
      have x0_0 := cell_blk (i := 0) hg0; have x0_1 := cell_blk (i := 1) hg0; have x0_f0 := free_blk (i := 0) hg0; have x0_f1 := free_blk (i := 1) hg0; simp at x0_0 x0_1
      have hlt0 := heap_lt hg0
      clear hg0
      have i5 : (5 : Int) ≤ (gn : Int) := by have := HFA.out.few; have := HG1.out; omega
      have i40 : (gn : Int) ≤ 40 := by have := HFA.out.most; have := HG1.out; omega
      go_wp2_with fail
      go_loopw [116] (fun vi wr => ∃ j : Nat, vi = .int .i64 j ∧ j ≤ gn ∧ Below Wc.heap.size Wc wr) (fun vi _ => gn - (RowKit.intOf vi).toNat)
      case atStart => exact ⟨0, by rfl, Nat.zero_le _, HW0.out⟩
      case round =>
      obtain ⟨j, rfl, hj, hbw⟩ := hrel
      have HBW := Lib.hid hbw
      by_cases hlt : j < gn
      · obtain ⟨k, hk⟩ : ∃ k, ra[j]? = some k := ⟨ra[j]'(by have := HG1.out; omega), List.getElem?_eq_getElem _⟩
        obtain ⟨q, rfl, hq⟩ := ints_get (HGA.out.below hbw) hk
        have HK0 := Lib.hid hk
        have i1 : (j : Int) < (gn : Int) := by omega
        have i0 : (0 : Int) ≤ (j : Int) := by omega
        have hg := HG.out wr hbw
        have y0 := cell_blk (i := 0) hg; have y1 := cell_blk (i := 1) hg; have yf0 := free_blk (i := 0) hg; have yf1 := free_blk (i := 1) hg; simp at y0 y1
        have hlg := heap_lt hg
        clear hk hbw hg
        go_wp2_with fail
        go_loopw [16, 124] (fun vm vi wq => ∃ m : Nat, vm = .int .i64 ((ra.take m).count k : Nat) ∧ vi = .int .i64 m ∧ m ≤ gn ∧ Below Wc.heap.size Wc wq) (fun _ vi _ => gn - (RowKit.intOf vi).toNat)
        case atStart => exact ⟨0, by rfl, by rfl, Nat.zero_le _, HBW.out⟩
        case round =>
        obtain ⟨m, rfl, rfl, hm1, hbq⟩ := hrel
        have HBQ := Lib.hid hbq
        by_cases hlm : m < gn
        · obtain ⟨z, hz⟩ : ∃ z, ra[m]? = some z := ⟨ra[m]'(by have := HG1.out; omega), List.getElem?_eq_getElem _⟩
          obtain ⟨q', e', hq'⟩ := ints_get (HGA.out.below hbq) hz
          cases e'
          have HZ := Lib.hid (count_next (x := k) hz)
          have hcn : ((ra.take m).count k : Nat) ≤ 40 := Nat.le_trans List.count_le_length (by rw [List.length_take]; have := HG1.out; omega)
          have i2 : (m : Int) < (gn : Int) := by omega
          have i3 : (0 : Int) ≤ (m : Int) := by omega
          clear hz hbq
          by_cases hzk : z = k
          · subst hzk
            have q1 : ((z : Int) == (z : Int)) = true := by simp
            go_wp2_with fail
            go_roundw
            case rel => exact ⟨m + 1, by rw [HZ.out, if_pos rfl]; go_num, by go_num, hlm, HBQ.out⟩
            case measure => simp [RowKit.intOf]; omega
          · have q1 : ((z : Int) == (k : Int)) = false := by simp only [beq_eq_false_iff_ne, ne_eq]; omega
            have HZK := Lib.hid hzk
            clear hzk
            go_wp2_with fail
            go_roundw
            case rel => exact ⟨m + 1, by rw [HZ.out, if_neg HZK.out]; rfl, by go_num, hlm, HBQ.out⟩
            case measure => simp [RowKit.intOf]; omega
        · have i2 : ¬ ((m : Int) < (gn : Int)) := by omega
          have hmn : ra.take m = ra := List.take_of_length_le (by have := HG1.out; omega)
          rw [hmn]
          have hc3 : ((ra.count k : Nat) : Int) ≤ 3 := by have := HFA.out.count k; omega
          have hk0 : (0 : Int) ≤ (k : Int) := by omega
          have hkm : (k : Int) < (km : Int) := by have := HFA.out.in_ k (List.mem_of_getElem? HK0.out); rw [HNL.out] at this; omega
          clear hmn hbq
          go_wp2_with fail
          go_roundw
          case rel => exact ⟨j + 1, by go_num, hlt, HBQ.out⟩
          case measure => simp [RowKit.intOf]; omega
      · have i1 : ¬ ((j : Int) < (gn : Int)) := by omega
        obtain ⟨Wd, hWd⟩ : ∃ W, W = wr := ⟨_, rfl⟩
        have HW1 : Hid (Below Wc.heap.size Wc Wd) := Lib.hid (by rw [hWd]; exact hbw)
        rw [← hWd]
        clear hbw HBW hWd i5 i40
        clear x0_0 x0_1 x0_f0 x0_f1 hlt0
        go_wp2_with fail
        rw [rounds_succ]
        have hg1 := HG.out Wd HW1.out
        have x1_0 := cell_blk (i := 0) hg1; have x1_1 := cell_blk (i := 1) hg1; have x1_f0 := free_blk (i := 0) hg1; have x1_f1 := free_blk (i := 1) hg1; simp at x1_0 x1_1
        have hlt1 := heap_lt hg1
        clear hg1
        have i5 : (5 : Int) ≤ (gn' : Int) := by have := HFB.out.few; have := HG2.out; omega
        have i40 : (gn' : Int) ≤ 40 := by have := HFB.out.most; have := HG2.out; omega
        go_wp2_with fail
        go_loopw [116] (fun vi wr => ∃ j : Nat, vi = .int .i64 j ∧ j ≤ gn' ∧ Below Wc.heap.size Wc wr) (fun vi _ => gn' - (RowKit.intOf vi).toNat)
        case atStart => exact ⟨0, by rfl, Nat.zero_le _, HW1.out⟩
        case round =>
        obtain ⟨j, rfl, hj, hbw⟩ := hrel
        have HBW := Lib.hid hbw
        by_cases hlt : j < gn'
        · obtain ⟨k, hk⟩ : ∃ k, rb[j]? = some k := ⟨rb[j]'(by have := HG2.out; omega), List.getElem?_eq_getElem _⟩
          obtain ⟨q, rfl, hq⟩ := ints_get (HGB.out.below hbw) hk
          have HK0 := Lib.hid hk
          have i1 : (j : Int) < (gn' : Int) := by omega
          have i0 : (0 : Int) ≤ (j : Int) := by omega
          have hg := HG.out wr hbw
          have y0 := cell_blk (i := 0) hg; have y1 := cell_blk (i := 1) hg; have yf0 := free_blk (i := 0) hg; have yf1 := free_blk (i := 1) hg; simp at y0 y1
          have hlg := heap_lt hg
          clear hk hbw hg
          go_wp2_with fail
          go_loopw [16, 124] (fun vm vi wq => ∃ m : Nat, vm = .int .i64 ((rb.take m).count k : Nat) ∧ vi = .int .i64 m ∧ m ≤ gn' ∧ Below Wc.heap.size Wc wq) (fun _ vi _ => gn' - (RowKit.intOf vi).toNat)
          case atStart => exact ⟨0, by rfl, by rfl, Nat.zero_le _, HBW.out⟩
          case round =>
          obtain ⟨m, rfl, rfl, hm1, hbq⟩ := hrel
          have HBQ := Lib.hid hbq
          by_cases hlm : m < gn'
          · obtain ⟨z, hz⟩ : ∃ z, rb[m]? = some z := ⟨rb[m]'(by have := HG2.out; omega), List.getElem?_eq_getElem _⟩
            obtain ⟨q', e', hq'⟩ := ints_get (HGB.out.below hbq) hz
            cases e'
            have HZ := Lib.hid (count_next (x := k) hz)
            have hcn : ((rb.take m).count k : Nat) ≤ 40 := Nat.le_trans List.count_le_length (by rw [List.length_take]; have := HG2.out; omega)
            have i2 : (m : Int) < (gn' : Int) := by omega
            have i3 : (0 : Int) ≤ (m : Int) := by omega
            clear hz hbq
            by_cases hzk : z = k
            · subst hzk
              have q1 : ((z : Int) == (z : Int)) = true := by simp
              go_wp2_with fail
              go_roundw
              case rel => exact ⟨m + 1, by rw [HZ.out, if_pos rfl]; go_num, by go_num, hlm, HBQ.out⟩
              case measure => simp [RowKit.intOf]; omega
            · have q1 : ((z : Int) == (k : Int)) = false := by simp only [beq_eq_false_iff_ne, ne_eq]; omega
              have HZK := Lib.hid hzk
              clear hzk
              go_wp2_with fail
              go_roundw
              case rel => exact ⟨m + 1, by rw [HZ.out, if_neg HZK.out]; rfl, by go_num, hlm, HBQ.out⟩
              case measure => simp [RowKit.intOf]; omega
          · have i2 : ¬ ((m : Int) < (gn' : Int)) := by omega
            have hmn : rb.take m = rb := List.take_of_length_le (by have := HG2.out; omega)
            rw [hmn]
            have hc3 : ((rb.count k : Nat) : Int) ≤ 3 := by have := HFB.out.count k; omega
            have hk0 : (0 : Int) ≤ (k : Int) := by omega
            have hkm : (k : Int) < (km : Int) := by have := HFB.out.in_ k (List.mem_of_getElem? HK0.out); rw [HNL.out] at this; omega
            clear hmn hbq
            go_wp2_with fail
            go_roundw
            case rel => exact ⟨j + 1, by go_num, hlt, HBQ.out⟩
            case measure => simp [RowKit.intOf]; omega
        · have i1 : ¬ ((j : Int) < (gn' : Int)) := by omega
          obtain ⟨We, hWe⟩ : ∃ W, W = wr := ⟨_, rfl⟩
          have HW2 : Hid (Below Wc.heap.size Wc We) := Lib.hid (by rw [hWe]; exact hbw)
          rw [← hWe]
          clear hbw HBW hWe i5 i40
          clear x1_0 x1_1 x1_f0 x1_f1 hlt1
          go_wp2_with fail
          rw [rounds_succ]
          have hg2 := HG.out We HW2.out
          have hltg := heap_lt hg2
          have HBE : Hid (Below w0.heap.size w0 We) := Lib.hid (HBC.out.trans (HW2.out.mono HBC.out.size))
          have z0 := cell_blk (i := 0) hg2; have z1 := cell_blk (i := 1) hg2; have zf0 := free_blk (i := 0) hg2; have zf1 := free_blk (i := 1) hg2; simp at z0 z1
          clear hg2
          go_wp2_with fail
          have hwr2 := writes_decks ga ga' p gc gc' c (intsOf ra) (intsOf rb) ks We (HGA.out.below HW2.out) (HGB.out.below HW2.out) ⟨HC1.out.1, HC1.out.2, Nat.le_trans HC1.out.1 HC1.out.2⟩ ⟨HC2.out.1, HC2.out.2, Nat.le_trans HC2.out.1 HC2.out.2⟩ (HK.out.below HBE.out) (by rw [HKM.out]; have := HM.out; omega) HN.out (HT.out.below HBE.out)
          rw [← HNS.out, HY1.out, HKM.out, intsOf_len, intsOf_len, ← HG1.out, ← HG2.out] at hwr2
          have HWR2 := Lib.hid hwr2
          clear hwr2
          refine HWR2.out.mono ?_
          rintro e wF ⟨rfl, bF⟩
          have hbf : Below Wc.heap.size Wc wF := HW2.out.trans (bF.mono HW2.out.size)
          have HBF : Hid (Below Wc.heap.size Wc wF) := Lib.hid hbf
          have hrd2 := read_any y p c ks wF (by unfold maxLen; have := HYS.out; omega) (HK.out.below (HBC.out.trans (hbf.mono HBC.out.size))) (by rw [HKM.out]; have := HM.out; omega) HN.out (HT.out.below (HBC.out.trans (hbf.mono HBC.out.size)))
          rw [← HNS.out, HY2.out, HKM.out] at hrd2
          have HRD2 := Lib.hid hrd2
          clear hrd2 bF hbf
          go_wp2_with fail
          refine HRD2.out.mono ?_
          rintro e wG ⟨ha, hn, hc, ha', hn', hc', rfl, hna, hnb, bG⟩
          simp only [] at hna hnb
          obtain ⟨hia, hn1⟩ := ints_of_nats hna
          obtain ⟨hib, hn2⟩ := ints_of_nats hnb
          have hbg : Below Wc.heap.size Wc wG := HBF.out.trans (bG.mono HBF.out.size)
          obtain ⟨Wh, hWh⟩ : ∃ Wh, Wh = (wG.alloc (.cells #[.slice ha hn hc, .slice ha' hn' hc'] 23)).alloc (.cells #[.int .i64 0, .int .i64 0, .int .i64 0] 32) := ⟨_, rfl⟩
          have hbh : Below wG.heap.size wG Wh := by rw [hWh]; exact ((Below.refl _ _).alloc (Nat.le_refl _) _).alloc (by simp) _
          have hdh : Wh.heap[wG.heap.size]? = some (.cells #[.slice ha hn hc, .slice ha' hn' hc'] 23 (0, 0)) := by
            rw [hWh, heap_alloc_old _ _ (by simp)]; exact heap_alloc_new _ _
          have hgh := HG.out wG hbg
          have hbch : Below Wc.heap.size Wc Wh := hbg.trans (hbh.mono hbg.size)
          have HWH := Lib.hid hWh
          have HBH := Lib.hid hbch
          have HDH := Lib.hid hdh
          have HIA2 := Lib.hid (hia.below hbh)
          have HIB2 := Lib.hid (hib.below hbh)
          have HNH1 := Lib.hid hn1
          have HNH2 := Lib.hid hn2
          have hltk := heap_lt hgh
          have u0 := cell_blk (i := 0) hgh; have u1 := cell_blk (i := 1) hgh; have uf0 := free_blk (i := 0) hgh; have uf1 := free_blk (i := 1) hgh; simp at u0 u1
          clear hna hnb hia hib hn1 hn2 bG hbg hWh hbh hdh hgh hbch
          go_wp2_with fail
          rw [← HWH.out]
          refine (ints_same Wh ha ga hn gn hc gc (intsOf ra) HIA2.out (HGA.out.below HBH.out) HNH1.out (by rw [intsOf_len]; exact HG1.out) (Nat.le_trans HC1.out.1 HC1.out.2)).mono ?_
          rintro e wI ⟨rfl, bI⟩
          have hbi : Below Wc.heap.size Wc wI := HBH.out.trans (bI.mono HBH.out.size)
          have hgi := HG.out wI hbi
          have hdi := (bI.block _ (heap_lt HDH.out)).trans HDH.out
          have HBI := Lib.hid hbi
          have HIB3 := Lib.hid (HIB2.out.below bI)
          have hltm := heap_lt hgi
          have hltn := heap_lt hdi
          have t0 := cell_blk (i := 0) hgi; have t1 := cell_blk (i := 1) hgi; have tf0 := free_blk (i := 0) hgi; have tf1 := free_blk (i := 1) hgi; simp at t0 t1
          have r0 := cell_blk (i := 0) hdi; have r1 := cell_blk (i := 1) hdi; have rf0 := free_blk (i := 0) hdi; have rf1 := free_blk (i := 1) hdi; simp at r0 r1
          clear hbi hgi hdi bI
          go_wp2_with fail
          refine (ints_same wI ha' ga' hn' gn' hc' gc' (intsOf rb) HIB3.out (HGB.out.below HBI.out) HNH2.out (by rw [intsOf_len]; exact HG2.out) (Nat.le_trans HC2.out.1 HC2.out.2)).mono ?_
          rintro e wJ ⟨rfl, bJ⟩
          have HBJ : Hid (Below w0.heap.size w0 wJ) := Lib.hid (HBC.out.trans ((HBI.out.trans (bJ.mono HBI.out.size)).mono HBC.out.size))
          clear bJ
          go_wp2_with fail
          refine (lives_any wJ (HT.out.below HBJ.out)).mono ?_
          rintro e wK ⟨rfl, bK⟩
          have HBK : Hid (Below w0.heap.size w0 wK) := Lib.hid (HBJ.out.trans (bK.mono HBJ.out.size))
          clear bK
          go_wp2_with fail
          go_ret
          exact ⟨rfl, HB0.out.trans (HBK.out.mono HB0.out.size)⟩
    · obtain ⟨rfl, rfl⟩ := read_fault HR.out her
      have hn1' : gn = 0 := hn1
      have hn2' : gn' = 0 := hn2
      subst hn1' hn2'
      have hr1 : ((er : Int) == 0) = false := by simp only [beq_eq_false_iff_ne, ne_eq]; omega
      clear hia hib hn1 hn2
      have HBC : Hid (Below w0.heap.size w0 ((wB.alloc (.cells #[.slice ga 0 gc, .slice ga' 0 gc'] 23)).alloc (.cells #[.int .i64 er, .int .i64 fl, .int .i64 fc] 32))) := Lib.hid ((HBB.out.alloc (by have := HBB.out.size; omega) _).alloc (by have := HBB.out.size; simp; omega) _)
      go_wp2_with fail
      refine (lives_any _ (HT.out.below HBC.out)).mono ?_
      rintro e wC ⟨rfl, bC⟩
      have HBD : Hid (Below w0.heap.size w0 wC) := Lib.hid (HBC.out.trans (bC.mono HBC.out.size))
      clear bC
      go_wp2_with fail
      go_ret
      exact ⟨rfl, HB0.out.trans (HBD.out.mono HB0.out.size)⟩
  · have hx0 := write_none (ns := ns) (a := da) (b := db) (by rw [HXR.out]; exact hr0)
    rw [HXR.out] at hx0
    simp only [] at hx0
    subst hx0
    have hr1 : ((r : Int) == 0) = false := by simp only [beq_eq_false_iff_ne, ne_eq]; omega
    obtain ⟨wA, hwA⟩ : ∃ wA, wA = w1 := ⟨_, rfl⟩
    have HA := HB1
    go_wp2_with fail
    rw [← hwA] at HA ⊢
    clear hwA
    obtain ⟨⟨⟨er, fl, fc⟩, ra, rb⟩, hR⟩ : ∃ r, readOf ns s = r := ⟨_, rfl⟩
    have hrd := read_any s p c ks wA (by unfold maxLen; have := HS.out; omega) (HK.out.below HA.out) (by rw [HKM.out]; have := HM.out; omega) HN.out (HT.out.below HA.out)
    rw [← HNS.out, hR, HKM.out] at hrd
    have HR := Lib.hid hR
    have HRD := Lib.hid hrd
    clear hR hrd
    refine HRD.out.mono ?_
    rintro e wB ⟨ga, gn, gc, ga', gn', gc', rfl, hna, hnb, b2⟩
    simp only [] at hna hnb
    obtain ⟨hia, hn1⟩ := ints_of_nats hna
    obtain ⟨hib, hn2⟩ := ints_of_nats hnb
    rw [intsOf_len] at hn1 hn2
    have hb2 := HA.out.trans (b2.mono HA.out.size)
    have HBB := Lib.hid hb2
    have HC1 := Lib.hid (nats_cap hna)
    have HC2 := Lib.hid (nats_cap hnb)
    clear hna hnb b2
    by_cases her : er = 0
    · subst her
      obtain ⟨fa, fb, y, hy1, hy2, hys⟩ := read_back _ _ _ _ _ HR.out
      obtain ⟨Wc, hWc⟩ : ∃ Wc, Wc = (wB.alloc (.cells #[.slice ga gn gc, .slice ga' gn' gc'] 23)).alloc (.cells #[.int .i64 0, .int .i64 fl, .int .i64 fc] 32) := ⟨_, rfl⟩
      have hbc : Below wB.heap.size wB Wc := by rw [hWc]; exact ((Below.refl _ _).alloc (Nat.le_refl _) _).alloc (by simp) _
      have hdc : Wc.heap[wB.heap.size]? = some (.cells #[.slice ga gn gc, .slice ga' gn' gc'] 23 (0, 0)) := by
        rw [hWc, heap_alloc_old _ _ (by simp)]; exact heap_alloc_new _ _
      have HG : Hid (∀ W, Below Wc.heap.size Wc W → W.heap[wB.heap.size]? = some (.cells #[.slice ga gn gc, .slice ga' gn' gc'] 23 (0, 0))) := Lib.hid (fun W h => (h.block _ (heap_lt hdc)).trans hdc)
      have HW0 : Hid (Below Wc.heap.size Wc Wc) := Lib.hid (Below.refl _ _)
      have HBC : Hid (Below w0.heap.size w0 Wc) := Lib.hid (hb2.trans (hbc.mono hb2.size))
      have HGA := Lib.hid (hia.below hbc)
      have HGB := Lib.hid (hib.below hbc)
      have HG1 := Lib.hid hn1
      have HG2 := Lib.hid hn2
      have HFA := Lib.hid fa
      have HFB := Lib.hid fb
      have HY1 := Lib.hid hy1
      have HY2 := Lib.hid hy2
      have HYS := Lib.hid hys
      have HWC := Lib.hid hWc
      clear hia hib hn1 hn2 hb2 fa fb hy1 hy2 hys hWc hbc hdc
      go_wp2_with fail
      rw [← HWC.out]
      refine wp_loop_rounds 3 ?_
      rw [rounds_succ]
      have hg0 := HG.out Wc HW0.out
      have x0_0 := cell_blk (i := 0) hg0; have x0_1 := cell_blk (i := 1) hg0; have x0_f0 := free_blk (i := 0) hg0; have x0_f1 := free_blk (i := 1) hg0; simp at x0_0 x0_1
      have hlt0 := heap_lt hg0
      clear hg0
      have i5 : (5 : Int) ≤ (gn : Int) := by have := HFA.out.few; have := HG1.out; omega
      have i40 : (gn : Int) ≤ 40 := by have := HFA.out.most; have := HG1.out; omega
      go_wp2_with fail
      go_loopw [116] (fun vi wr => ∃ j : Nat, vi = .int .i64 j ∧ j ≤ gn ∧ Below Wc.heap.size Wc wr) (fun vi _ => gn - (RowKit.intOf vi).toNat)
      case atStart => exact ⟨0, by rfl, Nat.zero_le _, HW0.out⟩
      case round =>
      obtain ⟨j, rfl, hj, hbw⟩ := hrel
      have HBW := Lib.hid hbw
      by_cases hlt : j < gn
      · obtain ⟨k, hk⟩ : ∃ k, ra[j]? = some k := ⟨ra[j]'(by have := HG1.out; omega), List.getElem?_eq_getElem _⟩
        obtain ⟨q, rfl, hq⟩ := ints_get (HGA.out.below hbw) hk
        have HK0 := Lib.hid hk
        have i1 : (j : Int) < (gn : Int) := by omega
        have i0 : (0 : Int) ≤ (j : Int) := by omega
        have hg := HG.out wr hbw
        have y0 := cell_blk (i := 0) hg; have y1 := cell_blk (i := 1) hg; have yf0 := free_blk (i := 0) hg; have yf1 := free_blk (i := 1) hg; simp at y0 y1
        have hlg := heap_lt hg
        clear hk hbw hg
        go_wp2_with fail
        go_loopw [16, 124] (fun vm vi wq => ∃ m : Nat, vm = .int .i64 ((ra.take m).count k : Nat) ∧ vi = .int .i64 m ∧ m ≤ gn ∧ Below Wc.heap.size Wc wq) (fun _ vi _ => gn - (RowKit.intOf vi).toNat)
        case atStart => exact ⟨0, by rfl, by rfl, Nat.zero_le _, HBW.out⟩
        case round =>
        obtain ⟨m, rfl, rfl, hm1, hbq⟩ := hrel
        have HBQ := Lib.hid hbq
        by_cases hlm : m < gn
        · obtain ⟨z, hz⟩ : ∃ z, ra[m]? = some z := ⟨ra[m]'(by have := HG1.out; omega), List.getElem?_eq_getElem _⟩
          obtain ⟨q', e', hq'⟩ := ints_get (HGA.out.below hbq) hz
          cases e'
          have HZ := Lib.hid (count_next (x := k) hz)
          have hcn : ((ra.take m).count k : Nat) ≤ 40 := Nat.le_trans List.count_le_length (by rw [List.length_take]; have := HG1.out; omega)
          have i2 : (m : Int) < (gn : Int) := by omega
          have i3 : (0 : Int) ≤ (m : Int) := by omega
          clear hz hbq
          by_cases hzk : z = k
          · subst hzk
            have q1 : ((z : Int) == (z : Int)) = true := by simp
            go_wp2_with fail
            go_roundw
            case rel => exact ⟨m + 1, by rw [HZ.out, if_pos rfl]; go_num, by go_num, hlm, HBQ.out⟩
            case measure => simp [RowKit.intOf]; omega
          · have q1 : ((z : Int) == (k : Int)) = false := by simp only [beq_eq_false_iff_ne, ne_eq]; omega
            have HZK := Lib.hid hzk
            clear hzk
            go_wp2_with fail
            go_roundw
            case rel => exact ⟨m + 1, by rw [HZ.out, if_neg HZK.out]; rfl, by go_num, hlm, HBQ.out⟩
            case measure => simp [RowKit.intOf]; omega
        · have i2 : ¬ ((m : Int) < (gn : Int)) := by omega
          have hmn : ra.take m = ra := List.take_of_length_le (by have := HG1.out; omega)
          rw [hmn]
          have hc3 : ((ra.count k : Nat) : Int) ≤ 3 := by have := HFA.out.count k; omega
          have hk0 : (0 : Int) ≤ (k : Int) := by omega
          have hkm : (k : Int) < (km : Int) := by have := HFA.out.in_ k (List.mem_of_getElem? HK0.out); rw [HNL.out] at this; omega
          clear hmn hbq
          go_wp2_with fail
          go_roundw
          case rel => exact ⟨j + 1, by go_num, hlt, HBQ.out⟩
          case measure => simp [RowKit.intOf]; omega
      · have i1 : ¬ ((j : Int) < (gn : Int)) := by omega
        obtain ⟨Wd, hWd⟩ : ∃ W, W = wr := ⟨_, rfl⟩
        have HW1 : Hid (Below Wc.heap.size Wc Wd) := Lib.hid (by rw [hWd]; exact hbw)
        rw [← hWd]
        clear hbw HBW hWd i5 i40
        clear x0_0 x0_1 x0_f0 x0_f1 hlt0
        go_wp2_with fail
        rw [rounds_succ]
        have hg1 := HG.out Wd HW1.out
        have x1_0 := cell_blk (i := 0) hg1; have x1_1 := cell_blk (i := 1) hg1; have x1_f0 := free_blk (i := 0) hg1; have x1_f1 := free_blk (i := 1) hg1; simp at x1_0 x1_1
        have hlt1 := heap_lt hg1
        clear hg1
        have i5 : (5 : Int) ≤ (gn' : Int) := by have := HFB.out.few; have := HG2.out; omega
        have i40 : (gn' : Int) ≤ 40 := by have := HFB.out.most; have := HG2.out; omega
        go_wp2_with fail
        go_loopw [116] (fun vi wr => ∃ j : Nat, vi = .int .i64 j ∧ j ≤ gn' ∧ Below Wc.heap.size Wc wr) (fun vi _ => gn' - (RowKit.intOf vi).toNat)
        case atStart => exact ⟨0, by rfl, Nat.zero_le _, HW1.out⟩
        case round =>
        obtain ⟨j, rfl, hj, hbw⟩ := hrel
        have HBW := Lib.hid hbw
        by_cases hlt : j < gn'
        · obtain ⟨k, hk⟩ : ∃ k, rb[j]? = some k := ⟨rb[j]'(by have := HG2.out; omega), List.getElem?_eq_getElem _⟩
          obtain ⟨q, rfl, hq⟩ := ints_get (HGB.out.below hbw) hk
          have HK0 := Lib.hid hk
          have i1 : (j : Int) < (gn' : Int) := by omega
          have i0 : (0 : Int) ≤ (j : Int) := by omega
          have hg := HG.out wr hbw
          have y0 := cell_blk (i := 0) hg; have y1 := cell_blk (i := 1) hg; have yf0 := free_blk (i := 0) hg; have yf1 := free_blk (i := 1) hg; simp at y0 y1
          have hlg := heap_lt hg
          clear hk hbw hg
          go_wp2_with fail
          go_loopw [16, 124] (fun vm vi wq => ∃ m : Nat, vm = .int .i64 ((rb.take m).count k : Nat) ∧ vi = .int .i64 m ∧ m ≤ gn' ∧ Below Wc.heap.size Wc wq) (fun _ vi _ => gn' - (RowKit.intOf vi).toNat)
          case atStart => exact ⟨0, by rfl, by rfl, Nat.zero_le _, HBW.out⟩
          case round =>
          obtain ⟨m, rfl, rfl, hm1, hbq⟩ := hrel
          have HBQ := Lib.hid hbq
          by_cases hlm : m < gn'
          · obtain ⟨z, hz⟩ : ∃ z, rb[m]? = some z := ⟨rb[m]'(by have := HG2.out; omega), List.getElem?_eq_getElem _⟩
            obtain ⟨q', e', hq'⟩ := ints_get (HGB.out.below hbq) hz
            cases e'
            have HZ := Lib.hid (count_next (x := k) hz)
            have hcn : ((rb.take m).count k : Nat) ≤ 40 := Nat.le_trans List.count_le_length (by rw [List.length_take]; have := HG2.out; omega)
            have i2 : (m : Int) < (gn' : Int) := by omega
            have i3 : (0 : Int) ≤ (m : Int) := by omega
            clear hz hbq
            by_cases hzk : z = k
            · subst hzk
              have q1 : ((z : Int) == (z : Int)) = true := by simp
              go_wp2_with fail
              go_roundw
              case rel => exact ⟨m + 1, by rw [HZ.out, if_pos rfl]; go_num, by go_num, hlm, HBQ.out⟩
              case measure => simp [RowKit.intOf]; omega
            · have q1 : ((z : Int) == (k : Int)) = false := by simp only [beq_eq_false_iff_ne, ne_eq]; omega
              have HZK := Lib.hid hzk
              clear hzk
              go_wp2_with fail
              go_roundw
              case rel => exact ⟨m + 1, by rw [HZ.out, if_neg HZK.out]; rfl, by go_num, hlm, HBQ.out⟩
              case measure => simp [RowKit.intOf]; omega
          · have i2 : ¬ ((m : Int) < (gn' : Int)) := by omega
            have hmn : rb.take m = rb := List.take_of_length_le (by have := HG2.out; omega)
            rw [hmn]
            have hc3 : ((rb.count k : Nat) : Int) ≤ 3 := by have := HFB.out.count k; omega
            have hk0 : (0 : Int) ≤ (k : Int) := by omega
            have hkm : (k : Int) < (km : Int) := by have := HFB.out.in_ k (List.mem_of_getElem? HK0.out); rw [HNL.out] at this; omega
            clear hmn hbq
            go_wp2_with fail
            go_roundw
            case rel => exact ⟨j + 1, by go_num, hlt, HBQ.out⟩
            case measure => simp [RowKit.intOf]; omega
        · have i1 : ¬ ((j : Int) < (gn' : Int)) := by omega
          obtain ⟨We, hWe⟩ : ∃ W, W = wr := ⟨_, rfl⟩
          have HW2 : Hid (Below Wc.heap.size Wc We) := Lib.hid (by rw [hWe]; exact hbw)
          rw [← hWe]
          clear hbw HBW hWe i5 i40
          clear x1_0 x1_1 x1_f0 x1_f1 hlt1
          go_wp2_with fail
          rw [rounds_succ]
          have hg2 := HG.out We HW2.out
          have hltg := heap_lt hg2
          have HBE : Hid (Below w0.heap.size w0 We) := Lib.hid (HBC.out.trans (HW2.out.mono HBC.out.size))
          have z0 := cell_blk (i := 0) hg2; have z1 := cell_blk (i := 1) hg2; have zf0 := free_blk (i := 0) hg2; have zf1 := free_blk (i := 1) hg2; simp at z0 z1
          clear hg2
          go_wp2_with fail
          have hwr2 := writes_decks ga ga' p gc gc' c (intsOf ra) (intsOf rb) ks We (HGA.out.below HW2.out) (HGB.out.below HW2.out) ⟨HC1.out.1, HC1.out.2, Nat.le_trans HC1.out.1 HC1.out.2⟩ ⟨HC2.out.1, HC2.out.2, Nat.le_trans HC2.out.1 HC2.out.2⟩ (HK.out.below HBE.out) (by rw [HKM.out]; have := HM.out; omega) HN.out (HT.out.below HBE.out)
          rw [← HNS.out, HY1.out, HKM.out, intsOf_len, intsOf_len, ← HG1.out, ← HG2.out] at hwr2
          have HWR2 := Lib.hid hwr2
          clear hwr2
          refine HWR2.out.mono ?_
          rintro e wF ⟨rfl, bF⟩
          have hbf : Below Wc.heap.size Wc wF := HW2.out.trans (bF.mono HW2.out.size)
          have HBF : Hid (Below Wc.heap.size Wc wF) := Lib.hid hbf
          have hrd2 := read_any y p c ks wF (by unfold maxLen; have := HYS.out; omega) (HK.out.below (HBC.out.trans (hbf.mono HBC.out.size))) (by rw [HKM.out]; have := HM.out; omega) HN.out (HT.out.below (HBC.out.trans (hbf.mono HBC.out.size)))
          rw [← HNS.out, HY2.out, HKM.out] at hrd2
          have HRD2 := Lib.hid hrd2
          clear hrd2 bF hbf
          go_wp2_with fail
          refine HRD2.out.mono ?_
          rintro e wG ⟨ha, hn, hc, ha', hn', hc', rfl, hna, hnb, bG⟩
          simp only [] at hna hnb
          obtain ⟨hia, hn1⟩ := ints_of_nats hna
          obtain ⟨hib, hn2⟩ := ints_of_nats hnb
          have hbg : Below Wc.heap.size Wc wG := HBF.out.trans (bG.mono HBF.out.size)
          obtain ⟨Wh, hWh⟩ : ∃ Wh, Wh = (wG.alloc (.cells #[.slice ha hn hc, .slice ha' hn' hc'] 23)).alloc (.cells #[.int .i64 0, .int .i64 0, .int .i64 0] 32) := ⟨_, rfl⟩
          have hbh : Below wG.heap.size wG Wh := by rw [hWh]; exact ((Below.refl _ _).alloc (Nat.le_refl _) _).alloc (by simp) _
          have hdh : Wh.heap[wG.heap.size]? = some (.cells #[.slice ha hn hc, .slice ha' hn' hc'] 23 (0, 0)) := by
            rw [hWh, heap_alloc_old _ _ (by simp)]; exact heap_alloc_new _ _
          have hgh := HG.out wG hbg
          have hbch : Below Wc.heap.size Wc Wh := hbg.trans (hbh.mono hbg.size)
          have HWH := Lib.hid hWh
          have HBH := Lib.hid hbch
          have HDH := Lib.hid hdh
          have HIA2 := Lib.hid (hia.below hbh)
          have HIB2 := Lib.hid (hib.below hbh)
          have HNH1 := Lib.hid hn1
          have HNH2 := Lib.hid hn2
          have hltk := heap_lt hgh
          have u0 := cell_blk (i := 0) hgh; have u1 := cell_blk (i := 1) hgh; have uf0 := free_blk (i := 0) hgh; have uf1 := free_blk (i := 1) hgh; simp at u0 u1
          clear hna hnb hia hib hn1 hn2 bG hbg hWh hbh hdh hgh hbch
          go_wp2_with fail
          rw [← HWH.out]
          refine (ints_same Wh ha ga hn gn hc gc (intsOf ra) HIA2.out (HGA.out.below HBH.out) HNH1.out (by rw [intsOf_len]; exact HG1.out) (Nat.le_trans HC1.out.1 HC1.out.2)).mono ?_
          rintro e wI ⟨rfl, bI⟩
          have hbi : Below Wc.heap.size Wc wI := HBH.out.trans (bI.mono HBH.out.size)
          have hgi := HG.out wI hbi
          have hdi := (bI.block _ (heap_lt HDH.out)).trans HDH.out
          have HBI := Lib.hid hbi
          have HIB3 := Lib.hid (HIB2.out.below bI)
          have hltm := heap_lt hgi
          have hltn := heap_lt hdi
          have t0 := cell_blk (i := 0) hgi; have t1 := cell_blk (i := 1) hgi; have tf0 := free_blk (i := 0) hgi; have tf1 := free_blk (i := 1) hgi; simp at t0 t1
          have r0 := cell_blk (i := 0) hdi; have r1 := cell_blk (i := 1) hdi; have rf0 := free_blk (i := 0) hdi; have rf1 := free_blk (i := 1) hdi; simp at r0 r1
          clear hbi hgi hdi bI
          go_wp2_with fail
          refine (ints_same wI ha' ga' hn' gn' hc' gc' (intsOf rb) HIB3.out (HGB.out.below HBI.out) HNH2.out (by rw [intsOf_len]; exact HG2.out) (Nat.le_trans HC2.out.1 HC2.out.2)).mono ?_
          rintro e wJ ⟨rfl, bJ⟩
          have HBJ : Hid (Below w0.heap.size w0 wJ) := Lib.hid (HBC.out.trans ((HBI.out.trans (bJ.mono HBI.out.size)).mono HBC.out.size))
          clear bJ
          go_wp2_with fail
          refine (lives_any wJ (HT.out.below HBJ.out)).mono ?_
          rintro e wK ⟨rfl, bK⟩
          have HBK : Hid (Below w0.heap.size w0 wK) := Lib.hid (HBJ.out.trans (bK.mono HBJ.out.size))
          clear bK
          go_wp2_with fail
          go_ret
          exact ⟨rfl, HB0.out.trans (HBK.out.mono HB0.out.size)⟩
    · obtain ⟨rfl, rfl⟩ := read_fault HR.out her
      have hn1' : gn = 0 := hn1
      have hn2' : gn' = 0 := hn2
      subst hn1' hn2'
      have hr1 : ((er : Int) == 0) = false := by simp only [beq_eq_false_iff_ne, ne_eq]; omega
      clear hia hib hn1 hn2
      have HBC : Hid (Below w0.heap.size w0 ((wB.alloc (.cells #[.slice ga 0 gc, .slice ga' 0 gc'] 23)).alloc (.cells #[.int .i64 er, .int .i64 fl, .int .i64 fc] 32))) := Lib.hid ((HBB.out.alloc (by have := HBB.out.size; omega) _).alloc (by have := HBB.out.size; simp; omega) _)
      go_wp2_with fail
      refine (lives_any _ (HT.out.below HBC.out)).mono ?_
      rintro e wC ⟨rfl, bC⟩
      have HBD : Hid (Below w0.heap.size w0 wC) := Lib.hid (HBC.out.trans (bC.mono HBC.out.size))
      clear bC
      go_wp2_with fail
      go_ret
      exact ⟨rfl, HB0.out.trans (HBD.out.mono HB0.out.size)⟩
end Go.Proofs.YtanbkgifjlobgaaDoor
