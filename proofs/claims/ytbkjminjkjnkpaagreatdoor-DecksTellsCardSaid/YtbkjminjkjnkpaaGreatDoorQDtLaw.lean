import Derived.Test.YtbkjminjkjnkpaaGreatDoorQDtKinds
import Derived.Test.YtbkjminjkjnkpaaGreatDoorQDkLiv
import Derived.Test.YtbkjminjkjnkpaaGreatDoorQDkWhole
import Derived.Test.YtbkjminjkjnkpaaGreatDoorQRdkWrite
import Derived.Test.YtbkjminjkjnkpaaGreatDoorQDeepSame
import Derived.Test.YtbkjminjkjnkpaaGreatDoorQDeepCards
/- Layer 5 (decks): DecksTells, for whatever text, decks and kinds. -/
namespace Go.Proofs.YtbkjminjkjnkpaaGreatDoor
open Go.RowKit Go.Lib

theorem nats_cap {w : World} {B : Nat} {p : Option Addr} {n c : Nat} {out : List Nat} (h : NatsAt w B (.slice p n c) out) : (intsOf out).length ≤ c ∧ c ≤ maxLen := by
  rw [intsOf_len]
  rcases h.2 with ⟨hv, h0⟩ | ⟨g, cap, cur, hv, _, _, h1, h2, _⟩
  · injection hv with e1 e2 e3
    subst e3
    exact ⟨by omega, Nat.zero_le _⟩
  · injection hv with e1 e2 e3
    subst e3
    exact ⟨by omega, by assumption⟩


set_option maxHeartbeats 1000000 in
set_option maxRecDepth 100000 in
theorem dt_text (s : ByteArray) (qa qb p : Option Addr) (la ca lb cb m c : Nat) (w : World) (h1 : ¬ ((s.size : Int) ≤ 3000)) (hT : Tabs w) :
    Calls Tryz.prog 3 #[.string s, .agg #[.slice qa la ca, .slice qb lb cb], .slice p m c] w fun e w' => e = .returned (.bool true) ∧ Below w.heap.size w w' := by
  have HT := Lib.hid hT
  clear hT
  go_enter Tryz.func3, Tryz.ntmps3
  go_wp2_with fail
  have hb1 : Below w.heap.size w (w.alloc (.cells #[.slice qa la ca, .slice qb lb cb] 23)) := (Below.refl _ _).alloc (Nat.le_refl _) _
  refine (lives_any _ (HT.out.below hb1)).mono ?_
  rintro e w2 ⟨rfl, b2⟩
  have HB2 := Lib.hid (hb1.trans (b2.mono hb1.size))
  clear b2 hb1
  go_wp2_with fail
  go_ret
  exact ⟨rfl, HB2.out⟩

set_option maxHeartbeats 1000000 in
set_option maxRecDepth 100000 in
theorem dt_kinds (s : ByteArray) (qa qb p : Option Addr) (la ca lb cb m c : Nat) (w : World) (h1 : (s.size : Int) ≤ 3000) (h2 : ¬ ((m : Int) ≤ 200)) (hT : Tabs w) :
    Calls Tryz.prog 3 #[.string s, .agg #[.slice qa la ca, .slice qb lb cb], .slice p m c] w fun e w' => e = .returned (.bool true) ∧ Below w.heap.size w w' := by
  have HT := Lib.hid hT
  clear hT
  go_enter Tryz.func3, Tryz.ntmps3
  go_wp2_with fail
  have hb1 : Below w.heap.size w (w.alloc (.cells #[.slice qa la ca, .slice qb lb cb] 23)) := (Below.refl _ _).alloc (Nat.le_refl _) _
  refine (lives_any _ (HT.out.below hb1)).mono ?_
  rintro e w2 ⟨rfl, b2⟩
  have HB2 := Lib.hid (hb1.trans (b2.mono hb1.size))
  clear b2 hb1
  go_wp2_with fail
  go_ret
  exact ⟨rfl, HB2.out⟩

set_option maxHeartbeats 1000000 in
set_option maxRecDepth 100000 in
theorem dt_decks (s : ByteArray) (qa qb p : Option Addr) (la ca lb cb m c : Nat) (w : World) (h1 : (s.size : Int) ≤ 3000) (h2 : (m : Int) ≤ 200) (h3 : ¬ (wrap64 ((la : Int) + (lb : Int)) ≤ 300)) (hT : Tabs w) :
    Calls Tryz.prog 3 #[.string s, .agg #[.slice qa la ca, .slice qb lb cb], .slice p m c] w fun e w' => e = .returned (.bool true) ∧ Below w.heap.size w w' := by
  have HT := Lib.hid hT
  clear hT
  have hix0 : ∀ W : World, (Instr.index 23 (.agg #[.slice qa la ca, .slice qb lb cb]) (.int .i64 0)).run Tryz.prog W = .ok (.slice qa la ca) W := fun W => by kernel_rfl
  have hix1 : ∀ W : World, (Instr.index 23 (.agg #[.slice qa la ca, .slice qb lb cb]) (.int .i64 1)).run Tryz.prog W = .ok (.slice qb lb cb) W := fun W => by kernel_rfl
  go_enter Tryz.func3, Tryz.ntmps3
  go_wp2_with fail
  have hb1 : Below w.heap.size w (w.alloc (.cells #[.slice qa la ca, .slice qb lb cb] 23)) := (Below.refl _ _).alloc (Nat.le_refl _) _
  refine (lives_any _ (HT.out.below hb1)).mono ?_
  rintro e w2 ⟨rfl, b2⟩
  have HB2 := Lib.hid (hb1.trans (b2.mono hb1.size))
  clear b2 hb1
  go_wp2_with fail
  go_ret
  exact ⟨rfl, HB2.out⟩

set_option maxHeartbeats 8000000 in
set_option maxRecDepth 100000 in
theorem dt_small (s : ByteArray) (qa qb p : Option Addr) (ca cb c D : Nat) (da db : List Int) (xs : List Cd) (w : World) (hs : (s.size : Int) ≤ 3000) (hm : (xs.length : Int) ≤ 200) (hsum : wrap64 ((da.length : Int) + (db.length : Int)) ≤ 300) (hda : IntsAt w qa da) (hdb : IntsAt w qb db) (hla : da.length ≤ ca ∧ ca ≤ maxLen) (hlb : db.length ≤ cb ∧ cb ≤ maxLen)
    (hR : RowIn w 6 72 (CdIn 1 D) (.slice p xs.length c) xs) (hT : Tabs w) :
    Calls Tryz.prog 3 #[.string s, .agg #[.slice qa da.length ca, .slice qb db.length cb], .slice p xs.length c] w fun e w' => e = .returned (.bool true) ∧ Below w.heap.size w w' := by
  obtain ⟨w0, hw0⟩ : ∃ w0, w0 = w.alloc (.cells #[.slice qa da.length ca, .slice qb db.length cb] 23) := ⟨_, rfl⟩
  have hb0 : Below w.heap.size w w0 := by rw [hw0]; exact (Below.refl _ _).alloc (Nat.le_refl _) _
  have hx0 : w0.heap[w.heap.size]? = some (.cells #[.slice qa da.length ca, .slice qb db.length cb] 23 (0, 0)) := by rw [hw0]; exact heap_alloc_new _ _
  have HT := Lib.hid (hT.below hb0)
  have hR0 := hR.below (CdIn.stays 1 D) hb0
  obtain ⟨ks, hkl, hkn, hK, hn⟩ := kinds_in hR0
  obtain ⟨ns, hns⟩ : ∃ ns, ns = xs.map (·.name) := ⟨_, rfl⟩
  rw [← hns] at hkn
  have HK := Lib.hid hK
  have HN := Lib.hid hn
  have HKL := Lib.hid hkl
  have HKN := Lib.hid hkn
  have HNS := Lib.hid hns
  have HR := Lib.hid hR0
  have HDA := Lib.hid (hda.below hb0)
  have HDB := Lib.hid (hdb.below hb0)
  have HLA := Lib.hid hla
  have HLB := Lib.hid hlb
  have HM : Hid (xs.length ≤ 200) := Lib.hid (by omega)
  have HS : Hid (s.size ≤ 3000) := Lib.hid (by omega)
  have HX0 := Lib.hid hx0
  have HB0 := Lib.hid hb0
  have HW0 := Lib.hid hw0
  have hcp := Lib.hid (copied_any D w0 _ xs hR0)
  have hix0 : ∀ W : World, (Instr.index 23 (.agg #[.slice qa da.length ca, .slice qb db.length cb]) (.int .i64 0)).run Tryz.prog W = .ok (.slice qa da.length ca) W := fun W => by kernel_rfl
  have hix1 : ∀ W : World, (Instr.index 23 (.agg #[.slice qa da.length ca, .slice qb db.length cb]) (.int .i64 1)).run Tryz.prog W = .ok (.slice qb db.length cb) W := fun W => by kernel_rfl
  clear hda hdb hla hlb hR hR0 hT hb0 hx0 hw0 hkl hkn hK hn hns
  generalize hlna : da.length = na at *
  generalize hlnb : db.length = nb at *
  generalize hlm : xs.length = km at *
  have HNA := Lib.hid hlna
  have HNB := Lib.hid hlnb
  have HKM := Lib.hid hlm
  clear hlna hlnb hlm
  go_enter Tryz.func3, Tryz.ntmps3
  go_wp2_with fail
  rw [← HW0.out]
  refine hcp.out.mono ?_
  rintro e w1 ⟨oa, oc, rfl, hr1, b1⟩
  rw [HKM.out] at hr1 ⊢
  have hin1 := CdD.toIn hr1
  obtain ⟨k1, hl1, hn1, hK1, hs1⟩ := kinds_in hin1
  rw [← HNS.out] at hn1
  rw [HKM.out] at hl1
  have HIN := Lib.hid hin1
  have HB1 := Lib.hid b1
  have HK1 := Lib.hid hK1
  have HN1 := Lib.hid hn1
  have HS1 := Lib.hid hs1
  have HL1 := Lib.hid hl1
  clear hcp hr1 hin1 b1 hK1 hn1 hs1 hl1
  have hrd : Hid (∀ W, Below w1.heap.size w1 W → Calls Tryz.prog 6 #[.string s, .slice oa km oc] W (ReadEnds W (readOf ns s))) := Lib.hid fun W hb => by
    have h := read_any s oa oc k1 W (by have := HS.out; unfold maxLen; omega) (HK1.out.below hb) (by rw [HL1.out]; have := HM.out; omega) HS1.out (HT.out.below (HB1.out.trans (hb.mono HB1.out.size)))
    rwa [HL1.out, HN1.out] at h
  have hrr : Hid (∀ W, Below w0.heap.size w0 W → Calls Tryz.prog 7 #[.string s, .slice p km c] W (ReadEnds W (readOf ns s))) := Lib.hid fun W hb => by
    have h := rread_any s p c ks W (by have := HS.out; unfold maxLen; omega) (HK.out.below hb) (by rw [HKL.out]; have := HM.out; omega) (HT.out.below hb)
    rwa [HKL.out, HKN.out] at h
  have hwd : Hid (∀ W, Below w1.heap.size w1 W → Calls Tryz.prog 9 #[.agg #[.slice qa na ca, .slice qb nb cb], .slice oa km oc] W fun e w' => e = .returned (.tuple #[.string (writeAns ns da db).1, .int .i64 (writeAns ns da db).2]) ∧ Below W.heap.size W w') := Lib.hid fun W hb => by
    have h := writes_decks qa qb oa ca cb oc da db k1 W (HDA.out.below (HB1.out.trans (hb.mono HB1.out.size))) (HDB.out.below (HB1.out.trans (hb.mono HB1.out.size))) (by rw [HNA.out]; exact ⟨HLA.out.1, HLA.out.2, Nat.le_trans HLA.out.1 HLA.out.2⟩) (by rw [HNB.out]; exact ⟨HLB.out.1, HLB.out.2, Nat.le_trans HLB.out.1 HLB.out.2⟩) (HK1.out.below hb) (by rw [HL1.out]; have := HM.out; omega) HS1.out (HT.out.below (HB1.out.trans (hb.mono HB1.out.size)))
    rwa [HL1.out, HN1.out, HNA.out, HNB.out] at h
  have hwr : Hid (∀ W, Below w0.heap.size w0 W → Calls Tryz.prog 10 #[.agg #[.slice qa na ca, .slice qb nb cb], .slice p km c] W fun e w' => e = .returned (.tuple #[.string (writeAns ns da db).1, .int .i64 (writeAns ns da db).2]) ∧ Below W.heap.size W w') := Lib.hid fun W hb => by
    have h := rwrite_any qa qb p ca cb c da db ks W (HDA.out.below hb) (HDB.out.below hb) (by rw [HNA.out]; exact Nat.le_trans HLA.out.1 HLA.out.2) (by rw [HNB.out]; exact Nat.le_trans HLB.out.1 HLB.out.2) (HK.out.below hb) (by rw [HKL.out]; have := HM.out; omega) HN.out (HT.out.below hb)
    rwa [HKL.out, HKN.out, HNA.out, HNB.out] at h
  have hca : Hid (∀ W, Below w1.heap.size w1 W → Calls Tryz.prog 11 #[.slice oa km oc, .slice p km c] W fun e w' => e = .returned (.bool true) ∧ Below W.heap.size W w') := Lib.hid fun W hb => by
    refine cards_in (D + 1) W _ _ xs (HIN.out.below (CdIn.stays 0 _) hb) (((HR.out.below (CdIn.stays 1 D) (HB1.out.trans (hb.mono HB1.out.size)))).mono (Nat.zero_le _) fun _ _ k => (k.any).up (Nat.le_succ _))
  obtain ⟨⟨⟨er, fl, fc⟩, ra, rb⟩, hR⟩ : ∃ r, readOf ns s = r := ⟨_, rfl⟩
  obtain ⟨x, r, hxr⟩ : ∃ x r, writeAns ns da db = (x, r) := ⟨_, _, rfl⟩
  rw [hR] at hrd hrr
  rw [hxr] at hwd hwr
  clear hR hxr
  go_wp2_with fail
  refine (hrd.out _ (Below.refl _ _)).mono ?_
  rintro e w2 ⟨a, n, c0, a', n', c', rfl, hna, hnb, b2⟩
  simp only [] at hna hnb
  obtain ⟨hia, hn1⟩ := ints_of_nats hna
  obtain ⟨hib, hn2⟩ := ints_of_nats hnb
  have HC1 := Lib.hid (nats_cap hna)
  have HC2 := Lib.hid (nats_cap hnb)
  obtain ⟨W3, hW3⟩ : ∃ W3, W3 = (w2.alloc (.cells #[.slice a n c0, .slice a' n' c'] 23)).alloc (.cells #[.int .i64 er, .int .i64 fl, .int .i64 fc] 31) := ⟨_, rfl⟩
  have hb3 : Below w2.heap.size w2 W3 := by rw [hW3]; exact ((Below.refl _ _).alloc (Nat.le_refl _) _).alloc (by simp) _
  have hd3 : W3.heap[w2.heap.size]? = some (.cells #[.slice a n c0, .slice a' n' c'] 23 (0, 0)) := by
    rw [hW3, heap_alloc_old _ _ (by simp)]; exact heap_alloc_new _ _
  have hf3 : W3.heap[w2.heap.size + 1]? = some (.cells #[.int .i64 er, .int .i64 fl, .int .i64 fc] 31 (0, 0)) := by
    rw [hW3]
    have := heap_alloc_new (w2.alloc (.cells #[.slice a n c0, .slice a' n' c'] 23)) (.cells #[.int .i64 er, .int .i64 fl, .int .i64 fc] 31)
    simpa using this
  have h13 : Below w1.heap.size w1 W3 := b2.trans (hb3.mono b2.size)
  have HB3 : Hid (Below w1.heap.size w1 W3) := Lib.hid h13
  have HB03 : Hid (Below w0.heap.size w0 W3) := Lib.hid (HB1.out.trans (h13.mono HB1.out.size))
  have HIA := Lib.hid (hia.below hb3)
  have HIB := Lib.hid (hib.below hb3)
  have HN3 := Lib.hid hn1
  have HN4 := Lib.hid hn2
  have HD3 := Lib.hid hd3
  have HF3 := Lib.hid hf3
  have HW3 := Lib.hid hW3
  have HS3 := Lib.hid (show W3.heap.size = w2.heap.size + 1 + 1 by rw [hW3]; simp)
  clear hna hnb hia hib hn1 hn2 b2 hb3 hd3 hf3 hW3 h13
  go_wp2_with fail
  rw [← HW3.out]
  refine (hrr.out _ HB03.out).mono ?_
  rintro e w4 ⟨ga, gn, gc, ga', gn', gc', rfl, hna, hnb, b4⟩
  simp only [] at hna hnb
  obtain ⟨hia, hn1⟩ := ints_of_nats hna
  obtain ⟨hib, hn2⟩ := ints_of_nats hnb
  have hd4 := (b4.block _ (heap_lt HD3.out)).trans HD3.out
  have hf4 := (b4.block _ (heap_lt HF3.out)).trans HF3.out
  obtain ⟨W5, hW5⟩ : ∃ W5, W5 = (w4.alloc (.cells #[.slice ga gn gc, .slice ga' gn' gc'] 23)).alloc (.cells #[.int .i64 er, .int .i64 fl, .int .i64 fc] 31) := ⟨_, rfl⟩
  have hb5 : Below w4.heap.size w4 W5 := by rw [hW5]; exact ((Below.refl _ _).alloc (Nat.le_refl _) _).alloc (by simp) _
  have hg5 : W5.heap[w4.heap.size]? = some (.cells #[.slice ga gn gc, .slice ga' gn' gc'] 23 (0, 0)) := by
    rw [hW5, heap_alloc_old _ _ (by simp)]; exact heap_alloc_new _ _
  have hh5 : W5.heap[w4.heap.size + 1]? = some (.cells #[.int .i64 er, .int .i64 fl, .int .i64 fc] 31 (0, 0)) := by
    rw [hW5]
    have := heap_alloc_new (w4.alloc (.cells #[.slice ga gn gc, .slice ga' gn' gc'] 23)) (.cells #[.int .i64 er, .int .i64 fl, .int .i64 fc] 31)
    simpa using this
  have hd5 := (hb5.block _ (heap_lt hd4)).trans hd4
  have hf5 := (hb5.block _ (heap_lt hf4)).trans hf4
  have h35 : Below W3.heap.size W3 W5 := b4.trans (hb5.mono b4.size)
  have HB5 : Hid (Below w1.heap.size w1 W5) := Lib.hid (HB3.out.trans (h35.mono HB3.out.size))
  have HIA5 := Lib.hid (HIA.out.below h35)
  have HIB5 := Lib.hid (HIB.out.below h35)
  have HGA5 := Lib.hid (hia.below hb5)
  have HGB5 := Lib.hid (hib.below hb5)
  have HG1 := Lib.hid hn1
  have HG2 := Lib.hid hn2
  have HD5 := Lib.hid hd5
  have HF5 := Lib.hid hf5
  have HE5 := Lib.hid hg5
  have HH5 := Lib.hid hh5
  have HW5 := Lib.hid hW5
  have hl1 := heap_lt hd4
  have hl2 := heap_lt hf4
  have x0 := cell_blk (i := 0) hd4; have x1 := cell_blk (i := 1) hd4; have xf0 := free_blk (i := 0) hd4; have xf1 := free_blk (i := 1) hd4; simp at x0 x1
  have y0 := cell_blk (i := 0) hf4; have y1 := cell_blk (i := 1) hf4; have y2 := cell_blk (i := 2) hf4; have yf0 := free_blk (i := 0) hf4; have yf1 := free_blk (i := 1) hf4; have yf2 := free_blk (i := 2) hf4; simp at y0 y1 y2
  clear hna hnb hia hib hn1 hn2 b4 hd4 hf4 hb5 hg5 hh5 hd5 hf5 hW5 h35
  go_wp2_with fail
  rw [← HW5.out]
  refine (ints_same W5 a ga n gn c0 gc _ HIA5.out HGA5.out HN3.out HG1.out (Nat.le_trans HC1.out.1 HC1.out.2)).mono ?_
  rintro e w6 ⟨rfl, b6⟩
  have hd6 := (b6.block _ (heap_lt HD5.out)).trans HD5.out
  have hf6 := (b6.block _ (heap_lt HF5.out)).trans HF5.out
  have he6 := (b6.block _ (heap_lt HE5.out)).trans HE5.out
  have hh6 := (b6.block _ (heap_lt HH5.out)).trans HH5.out
  have HB6 : Hid (Below w1.heap.size w1 w6) := Lib.hid (HB5.out.trans (b6.mono HB5.out.size))
  have HIB6 := Lib.hid (HIB5.out.below b6)
  have HGB6 := Lib.hid (HGB5.out.below b6)
  have HD6 := Lib.hid hd6
  have HF6 := Lib.hid hf6
  have HE6 := Lib.hid he6
  have HH6 := Lib.hid hh6
  have hl1 := heap_lt hd6
  have hl2 := heap_lt hf6
  have hl3 := heap_lt he6
  have hl4 := heap_lt hh6
  have x0 := cell_blk (i := 0) hd6; have x1 := cell_blk (i := 1) hd6; have xf0 := free_blk (i := 0) hd6; have xf1 := free_blk (i := 1) hd6; simp at x0 x1
  have z0 := cell_blk (i := 0) he6; have z1 := cell_blk (i := 1) he6; have zf0 := free_blk (i := 0) he6; have zf1 := free_blk (i := 1) he6; simp at z0 z1
  clear b6 hd6 hf6 he6 hh6 y0 y1 y2 yf0 yf1 yf2
  go_wp2_with fail
  refine (ints_same w6 a' ga' n' gn' c' gc' _ HIB6.out HGB6.out HN4.out HG2.out (Nat.le_trans HC2.out.1 HC2.out.2)).mono ?_
  rintro e w7 ⟨rfl, b7⟩
  have hf7 := (b7.block _ (heap_lt HF6.out)).trans HF6.out
  have hh7 := (b7.block _ (heap_lt HH6.out)).trans HH6.out
  have HB7 : Hid (Below w1.heap.size w1 w7) := Lib.hid (HB6.out.trans (b7.mono HB6.out.size))
  have hx7 := ((HB1.out.trans (HB7.out.mono HB1.out.size)).block _ (heap_lt HX0.out)).trans HX0.out
  have hl5 := heap_lt hf7
  have hl6 := heap_lt hh7
  have hl7 := heap_lt hx7
  have y0 := cell_blk (i := 0) hf7; have y1 := cell_blk (i := 1) hf7; have y2 := cell_blk (i := 2) hf7; have yf0 := free_blk (i := 0) hf7; have yf1 := free_blk (i := 1) hf7; have yf2 := free_blk (i := 2) hf7; simp at y0 y1 y2
  have v0 := cell_blk (i := 0) hh7; have v1 := cell_blk (i := 1) hh7; have v2 := cell_blk (i := 2) hh7; have vf0 := free_blk (i := 0) hh7; have vf1 := free_blk (i := 1) hh7; have vf2 := free_blk (i := 2) hh7; simp at v0 v1 v2
  have u0 := cell_blk (i := 0) hx7; have u1 := cell_blk (i := 1) hx7; have uf0 := free_blk (i := 0) hx7; have uf1 := free_blk (i := 1) hx7; simp at u0 u1
  clear b7 hf7 hh7 hx7 x0 x1 xf0 xf1 z0 z1 zf0 zf1
  go_wp2_with fail
  refine (hwd.out _ HB7.out).mono ?_
  rintro e w8 ⟨rfl, b8⟩
  have HB8 : Hid (Below w1.heap.size w1 w8) := Lib.hid (HB7.out.trans (b8.mono HB7.out.size))
  have hx8 := ((HB1.out.trans (HB8.out.mono HB1.out.size)).block _ (heap_lt HX0.out)).trans HX0.out
  have hl8 := heap_lt hx8
  clear b8 u0 u1 uf0 uf1 y0 y1 y2 yf0 yf1 yf2 v0 v1 v2 vf0 vf1 vf2
  have u0 := cell_blk (i := 0) hx8; have u1 := cell_blk (i := 1) hx8; have uf0 := free_blk (i := 0) hx8; have uf1 := free_blk (i := 1) hx8; simp at u0 u1
  clear hx8
  go_wp2_with fail
  refine (hwr.out _ (HB1.out.trans (HB8.out.mono HB1.out.size))).mono ?_
  rintro e w9 ⟨rfl, b9⟩
  have HB9 : Hid (Below w1.heap.size w1 w9) := Lib.hid (HB8.out.trans (b9.mono HB8.out.size))
  clear b9 u0 u1 uf0 uf1
  go_wp2_with fail
  refine (hca.out _ HB9.out).mono ?_
  rintro e wa ⟨rfl, ba⟩
  have HBa : Hid (Below w1.heap.size w1 wa) := Lib.hid (HB9.out.trans (ba.mono HB9.out.size))
  have h0a : Hid (Below w0.heap.size w0 wa) := Lib.hid (HB1.out.trans (HBa.out.mono HB1.out.size))
  clear ba
  go_wp2_with fail
  refine (lives_any _ (HT.out.below h0a.out)).mono ?_
  rintro e wb ⟨rfl, bb⟩
  have HBb := Lib.hid (HB0.out.trans ((h0a.out.trans (bb.mono h0a.out.size)).mono HB0.out.size))
  clear bb
  go_wp2_with fail
  go_ret
  exact ⟨rfl, HBb.out⟩
end Go.Proofs.YtbkjminjkjnkpaaGreatDoor
