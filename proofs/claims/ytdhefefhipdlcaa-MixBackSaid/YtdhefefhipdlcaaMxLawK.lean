/- joustlaw27.MixBack: the whole law, walked: a theorem for each way through its two tests. -/
import Derived.Test.YtdhefefhipdlcaaMxLives
namespace Go.Proofs.Ytdhefefhipdlcaa
open Go.RowKit Go.Lib

theorem of_miss (p : Option Addr) (n c : Nat) (xs : List Int) (w : World) (hx : IntsAt w p xs) (hn : xs.length = n) (hl : xs.length ≤ 1000) (hr : ofI (upI xs.length) xs = none) :
    Calls Try.prog 22 #[.slice p n c] w fun e w' => ∃ q d, e = .returned (.tuple #[.slice q 0 d, .int .i64 2]) ∧ Below w.heap.size w w' := by
  subst hn
  refine (of_any p c xs w hx hl).mono fun e w' ⟨v, he, hi, hb⟩ => ?_
  rw [hr] at he hi
  obtain ⟨q, d, rfl, h⟩ := hi.ints
  exact ⟨q, d, he, hb⟩
/-- Which numbers were seen. -/
def SeenAt (w : World) (S k : Nat) (l : List Int) : Prop := ∃ cur : Array Value, w.heap[S]? = some (.cells cur 4 (0, 0)) ∧ cur.size = k ∧ ∀ j, j < k → cur[j]? = some (.bool (l.contains (j : Int)))
theorem make_seen (k : Nat) (h : k ≤ 100000) (w : World) : (Instr.makeSlice 42 (.int .i64 (k : Int)) (.int .i64 (k : Int))).run Try.prog w = .ok (.slice (some ⟨w.heap.size, 0, none⟩) k k) (w.alloc (.cells (madeCells #[.bool false] k) 4)) := by
  obtain ⟨i, hi, hz, hs, hb⟩ : ∃ i : TypeInfo, Try.prog.info? 4 = some i ∧ i.zero = some (.bool false) ∧ i.size = 1 ∧ i.bytes = 1 := by
    have e : (Try.prog.info? 4).map (fun i => (i.zero, i.size, i.bytes)) = some (some (.bool false), 1, 1) := by kernel_rfl
    cases hh : Try.prog.info? 4 with
    | none => rw [hh] at e; cases e
    | some i => rw [hh] at e; simp at e; exact ⟨i, rfl, e.1, e.2.1, e.2.2⟩
  have hr := run_make (P := Try.prog) w 42 4 i (.bool false) Try.underlying42 hi hz .i64 .i64 k k (by omega) (Int.le_refl _) (by rw [hb]; omega) (by omega)
  simpa [hs, Value.cells] using hr
theorem SeenAt.made (w : World) (k : Nat) : SeenAt (w.alloc (.cells (madeCells #[.bool false] k) 4)) w.heap.size k [] :=
  ⟨_, heap_alloc_new _ _, size_madeCells _ _, fun j hj => by
    rw [← Array.getElem?_toList, toList_madeCells_one]
    simp [hj]⟩
theorem SeenAt.cell {w : World} {S k : Nat} {l : List Int} (h : SeenAt w S k l) {j : Nat} (hj : j < k) : w.cell? ⟨S, j, none⟩ = some (.bool (l.contains (j : Int))) := by
  obtain ⟨cur, hb, hs, hc⟩ := h
  rw [cell_blk hb]; exact hc j hj
theorem SeenAt.free {w : World} {S k : Nat} {l : List Int} (h : SeenAt w S k l) (j : Nat) : w.frozen? ⟨S, j, none⟩ = false := by
  obtain ⟨cur, hb, -⟩ := h
  exact free_blk hb
theorem SeenAt.see {w : World} {S k : Nat} {l : List Int} (h : SeenAt w S k l) {j : Nat} (hj : j < k) : SeenAt (w.setCell ⟨S, j, none⟩ (.bool true)) S k (l ++ [(j : Int)]) := by
  obtain ⟨cur, hb, hs, hc⟩ := h
  refine ⟨_, heap_set hb (.bool true), by simp [hs], fun i hi => ?_⟩
  rw [Array.getElem?_setIfInBounds]
  by_cases he : j = i
  · subst he; rw [if_pos rfl, if_pos (by omega)]; simp
  · rw [if_neg he, hc i hi]
    have : ¬ (i : Int) = (j : Int) := by omega
    simp [this]
theorem take_snoc {l : List Int} {i : Nat} {x : Int} (h : l[i]? = some x) : l.take (i + 1) = l.take i ++ [x] := by
  rw [List.take_add_one, h]; rfl
theorem not_seen {n : Nat} {l : List Int} (h : Good n l) {i : Nat} {x : Int} (hx : l[i]? = some x) : (l.take i).contains x = false := by
  cases hc : (l.take i).contains x with
  | false => rfl
  | true =>
    have hm : x ∈ l.take i := by simpa using hc
    obtain ⟨k, hk⟩ := List.getElem?_of_mem hm
    have hlt := (List.getElem?_eq_some_iff.1 hk).1
    rw [List.length_take] at hlt
    rw [List.getElem?_take_of_lt (by omega)] at hk
    have := h.one _ _ _ hk hx
    omega
theorem lots_order (seed k : Nat) : ∃ r, lotsI (upI k) (orderL seed k) = some r ∧ r.length = k ∧ ∀ (i : Nat) (y : Int), r[i]? = some y → 0 ≤ y ∧ y < (k : Int) - i := by
  have hg := orderL_good seed k
  obtain ⟨r, hr⟩ := lots_yes (upI_sorted k) hg.nodup (fun x hx => upI_mem.2 (hg.bd x hx))
  have hb := lots_bd (upI_sorted k) hr
  rw [hg.len, upI_length] at hb
  exact ⟨r, hr, hb.1, hb.2⟩

theorem mixback_long (q : Option Addr) (n c seed m : Nat) (hn : 300 < n) (w : World) :
    Calls Try.prog 5 #[.slice q n c, .int .u64 (seed : Int), .int .u16 (m : Int)] w fun e w' => e = .returned (.bool true) ∧ Below w.heap.size w w' := by
  go_enter Try.func5, Try.ntmps5
  go_wp2_with (go_at_call 8; refine (lives_any _).mono ?_; rintro e w2 ⟨rfl, hb⟩; have HB2 := Lib.hid hb; clear hb)
  go_ret
  exact ⟨rfl, HB2.out⟩

set_option maxHeartbeats 8000000 in
set_option maxRecDepth 100000 in
theorem mixback_nn (q : Option Addr) (n c seed m : Nat) (xs : List Int) (w : World) (hx : IntsAt w q xs) (hn : xs.length = n) (hl : n ≤ 300) (hm : m < 65536) (hA : lotsI (upI xs.length) xs = none) (hB : ofI (upI xs.length) xs = none) :
    Calls Try.prog 5 #[.slice q n c, .int .u64 (seed : Int), .int .u16 (m : Int)] w fun e w' => e = .returned (.bool true) ∧ Below w.heap.size w w' := by
  have HA1 := Lib.hid (fun (w : World) (h : IntsAt w q xs) => lots_miss q n c xs w h hn (by omega) hA)
  have HB1 := Lib.hid (fun (w : World) (h : IntsAt w q xs) => of_miss q n c xs w h hn (by omega) hB)
  have HSM := Lib.hid (fun (w : World) (p : Option Addr) (d : Nat) (h : IntsAt w p xs) (h' : IntsAt w q xs) => same_fit w p q d c n n xs h h' hn hn (by omega))
  have HX := Lib.hid hx
  obtain ⟨k, hk⟩ : ∃ k, k = m % 300 := ⟨_, rfl⟩
  have k1 : (m : Int) % 300 = (k : Int) := by omega
  have hk3 : k < 300 := by omega
  obtain ⟨r, hr, hrl, hrb⟩ := lots_order seed k
  have hgd := orderL_good seed k
  have hol := orderL_length seed k
  have HO := Lib.hid (fun w => order_any seed k (by omega) w)
  have HLO := Lib.hid (fun (w : World) (p : Option Addr) (d : Nat) (h : IntsAt w p (orderL seed k)) => lots_fit p k d (orderL seed k) r w h hol (by omega) (by rw [hol]; exact hr))
  rw [hrl] at HLO
  generalize orderL seed k = l at *
  have HGD := Lib.hid hgd
  have HOL := Lib.hid hol
  have HRL := Lib.hid hrl
  have HRB := Lib.hid hrb
  have hmk := make_seen k (by omega)
  clear hx hn hm hA hB hr hrl hrb hgd hol hk
  go_enter Try.func5, Try.ntmps5
  go_wp2_with fail
  with_reducible refine (HA1.out _ HX.out).mono ?_
  rintro e w3 ⟨p1, d1, rfl, b1⟩
  have HX := Lib.hid (HX.out.below b1)
  have HB := Lib.hid b1
  clear b1
  go_wp2_with fail
  with_reducible refine (HB1.out _ HX.out).mono ?_
  rintro e w6 ⟨p4, d4, rfl, b4⟩
  have HB := Lib.hid (HB.out.trans (b4.mono HB.out.size))
  clear b4
  go_wp2_with fail
  with_reducible refine (HO.out _).mono ?_
  rintro e w7 ⟨rfl, hig, b7⟩
  have hio := hig.ints
  go_wp2_with fail
  with_reducible refine (HLO.out _ _ _ hio).mono ?_
  rintro e w8 ⟨p8, d8, rfl, i8, b8⟩
  have IO := Lib.hid (hio.below b8)
  have I8 := Lib.hid i8
  have HB := Lib.hid (HB.out.trans ((b7.trans (b8.mono b7.size)).mono HB.out.size))
  clear hig hio b7 b8 i8
  obtain ⟨W9, hW9⟩ : ∃ W9, w8.alloc (.cells (madeCells #[.bool false] k) 4) = W9 := ⟨_, rfl⟩
  have mk8 := hmk w8
  have hs9 := SeenAt.made w8 k
  have hb9 : Below w8.heap.size w8 W9 := by rw [← hW9]; exact (Below.refl _ _).alloc (Nat.le_refl _) _
  rw [hW9] at mk8 hs9
  have HS9 := Lib.hid hs9
  have HB9 := Lib.hid hb9
  clear hs9 hb9 hW9 hmk
  go_wp2_with fail
  go_loopw [103] (fun vi wr => ∃ i : Nat, vi = .int .i64 (i : Int) ∧ i ≤ k ∧ Below w8.heap.size w8 wr ∧ SeenAt wr w8.heap.size k (l.take i)) (fun vi _ => k - (RowKit.intOf vi).toNat)
  case atStart => exact ⟨0, by rfl, Nat.zero_le _, HB9.out, by simpa using HS9.out⟩
  case round =>
    obtain ⟨i, rfl, hi, hbw, hsw⟩ := hrel
    rename World => wA
    by_cases hlt : i < k
    · obtain ⟨x, hx⟩ : ∃ x, l[i]? = some x := ⟨l[i]'(by have := HOL.out; omega), List.getElem?_eq_getElem _⟩
      obtain ⟨y, hy⟩ : ∃ y, r[i]? = some y := ⟨r[i]'(by have := HRL.out; omega), List.getElem?_eq_getElem _⟩
      obtain ⟨a, ha, hac⟩ := (IO.out.below hbw) i x hx
      obtain ⟨b, hb, hbc⟩ := (I8.out.below hbw) i y hy
      obtain ⟨x0, x1⟩ := HGD.out.bd x (List.mem_of_getElem? hx)
      obtain ⟨y0, y1⟩ := HRB.out i y hy
      have hns := not_seen HGD.out hx
      have hsn := take_snoc hx
      obtain ⟨j, rfl⟩ : ∃ j : Nat, x = (j : Int) := ⟨x.toNat, by omega⟩
      have c1 := hsw.cell (j := j) (by omega)
      rw [hns] at c1
      have f1 := hsw.free j
      have HS := Lib.hid (show SeenAt (wA.setCell ⟨w8.heap.size, j, none⟩ (.bool true)) w8.heap.size k (l.take (i + 1)) from by rw [hsn]; exact hsw.see (by omega))
      have HBW := Lib.hid (hbw.setCell (p := ⟨w8.heap.size, j, none⟩) (Nat.le_refl _) (.bool true))
      subst hb
      cases ha
      rw [add_iv] at hac
      obtain ⟨t, ht⟩ : ∃ t : Nat, t = k - i := ⟨_, rfl⟩
      have e1 : IntKind.i64.wrap ((k : Int) - (i : Int)) = (t : Int) := by rw [IntKind.wrap_i64]; omega
      have e2 : wrap64 ((k : Int) - (i : Int)) = (t : Int) := by unfold wrap64; omega
      have i0 : (0 : Int) ≤ (i : Int) := by omega
      have i1 : (i : Int) < (k : Int) := by omega
      have j0 : ¬ (j : Int) < 0 := by omega
      have j1 : ¬ (k : Int) ≤ (j : Int) := by omega
      have j2 : (0 : Int) ≤ (j : Int) := by omega
      have y2 : ¬ y < 0 := by omega
      have y3 : ¬ (t : Int) ≤ y := by omega
      clear hx hy hns hsn hsw hbw ht
      go_wp2
      go_roundw
      case rel => exact ⟨i + 1, by go_num, by omega, HBW.out, HS.out⟩
      case measure => simp [RowKit.intOf]; omega
    · obtain rfl : i = k := by omega
      have HBW := Lib.hid (HB.out.trans (hbw.mono HB.out.size))
      clear hbw hsw
      go_wp2_with (go_at_call 8; refine (lives_any _).mono ?_; rintro e w2 ⟨rfl, hb⟩; have HB2 := Lib.hid hb; clear hb)
      go_ret
      exact ⟨rfl, HBW.out.trans (HB2.out.mono HBW.out.size)⟩

set_option maxHeartbeats 8000000 in
set_option maxRecDepth 100000 in
theorem mixback_ny (q : Option Addr) (n c seed m : Nat) (xs : List Int) (w : World) (hx : IntsAt w q xs) (hn : xs.length = n) (hl : n ≤ 300) (hm : m < 65536) (hA : lotsI (upI xs.length) xs = none) (rb : List Int) (hB : ofI (upI xs.length) xs = some rb) :
    Calls Try.prog 5 #[.slice q n c, .int .u64 (seed : Int), .int .u16 (m : Int)] w fun e w' => e = .returned (.bool true) ∧ Below w.heap.size w w' := by
  have HA1 := Lib.hid (fun (w : World) (h : IntsAt w q xs) => lots_miss q n c xs w h hn (by omega) hA)
  have hb2 := lots_of (upI_sorted _) hB
  have hb3 := of_length hB
  have HB1 := Lib.hid (fun (w : World) (h : IntsAt w q xs) => of_fit q n c xs rb w h hn (by omega) hB)
  have HB2 := Lib.hid (fun (w : World) (p : Option Addr) (d : Nat) (h : IntsAt w p rb) => lots_fit p n d rb xs w h (by omega) (by omega) (by rw [hb3]; exact hb2))
  rw [show rb.length = n by omega] at HB1
  rw [hn] at HB2
  have HSM := Lib.hid (fun (w : World) (p : Option Addr) (d : Nat) (h : IntsAt w p xs) (h' : IntsAt w q xs) => same_fit w p q d c n n xs h h' hn hn (by omega))
  have HX := Lib.hid hx
  obtain ⟨k, hk⟩ : ∃ k, k = m % 300 := ⟨_, rfl⟩
  have k1 : (m : Int) % 300 = (k : Int) := by omega
  have hk3 : k < 300 := by omega
  obtain ⟨r, hr, hrl, hrb⟩ := lots_order seed k
  have hgd := orderL_good seed k
  have hol := orderL_length seed k
  have HO := Lib.hid (fun w => order_any seed k (by omega) w)
  have HLO := Lib.hid (fun (w : World) (p : Option Addr) (d : Nat) (h : IntsAt w p (orderL seed k)) => lots_fit p k d (orderL seed k) r w h hol (by omega) (by rw [hol]; exact hr))
  rw [hrl] at HLO
  generalize orderL seed k = l at *
  have HGD := Lib.hid hgd
  have HOL := Lib.hid hol
  have HRL := Lib.hid hrl
  have HRB := Lib.hid hrb
  have hmk := make_seen k (by omega)
  clear hx hn hm hA hB hr hrl hrb hgd hol hk hb2 hb3
  go_enter Try.func5, Try.ntmps5
  go_wp2_with fail
  with_reducible refine (HA1.out _ HX.out).mono ?_
  rintro e w3 ⟨p1, d1, rfl, b1⟩
  have HX := Lib.hid (HX.out.below b1)
  have HB := Lib.hid b1
  clear b1
  go_wp2_with fail
  with_reducible refine (HB1.out _ HX.out).mono ?_
  rintro e w4 ⟨p4, d4, rfl, i4, b4⟩
  go_wp2_with fail
  with_reducible refine (HB2.out _ _ _ i4).mono ?_
  rintro e w5 ⟨p5, d5, rfl, i5, b5⟩
  have X5 := HX.out.below (b4.trans (b5.mono b4.size))
  have B5 := b4.trans (b5.mono b4.size)
  clear i4 b4 b5
  go_wp2_with fail
  with_reducible refine (HSM.out _ _ _ i5 X5).mono ?_
  rintro e w6 ⟨rfl, b6⟩
  have b7 := B5.trans (b6.mono B5.size)
  have HB := Lib.hid (HB.out.trans (b7.mono HB.out.size))
  clear i5 X5 B5 b6 b7
  go_wp2_with fail
  with_reducible refine (HO.out _).mono ?_
  rintro e w7 ⟨rfl, hig, b7⟩
  have hio := hig.ints
  go_wp2_with fail
  with_reducible refine (HLO.out _ _ _ hio).mono ?_
  rintro e w8 ⟨p8, d8, rfl, i8, b8⟩
  have IO := Lib.hid (hio.below b8)
  have I8 := Lib.hid i8
  have HB := Lib.hid (HB.out.trans ((b7.trans (b8.mono b7.size)).mono HB.out.size))
  clear hig hio b7 b8 i8
  obtain ⟨W9, hW9⟩ : ∃ W9, w8.alloc (.cells (madeCells #[.bool false] k) 4) = W9 := ⟨_, rfl⟩
  have mk8 := hmk w8
  have hs9 := SeenAt.made w8 k
  have hb9 : Below w8.heap.size w8 W9 := by rw [← hW9]; exact (Below.refl _ _).alloc (Nat.le_refl _) _
  rw [hW9] at mk8 hs9
  have HS9 := Lib.hid hs9
  have HB9 := Lib.hid hb9
  clear hs9 hb9 hW9 hmk
  go_wp2_with fail
  go_loopw [103] (fun vi wr => ∃ i : Nat, vi = .int .i64 (i : Int) ∧ i ≤ k ∧ Below w8.heap.size w8 wr ∧ SeenAt wr w8.heap.size k (l.take i)) (fun vi _ => k - (RowKit.intOf vi).toNat)
  case atStart => exact ⟨0, by rfl, Nat.zero_le _, HB9.out, by simpa using HS9.out⟩
  case round =>
    obtain ⟨i, rfl, hi, hbw, hsw⟩ := hrel
    rename World => wA
    by_cases hlt : i < k
    · obtain ⟨x, hx⟩ : ∃ x, l[i]? = some x := ⟨l[i]'(by have := HOL.out; omega), List.getElem?_eq_getElem _⟩
      obtain ⟨y, hy⟩ : ∃ y, r[i]? = some y := ⟨r[i]'(by have := HRL.out; omega), List.getElem?_eq_getElem _⟩
      obtain ⟨a, ha, hac⟩ := (IO.out.below hbw) i x hx
      obtain ⟨b, hb, hbc⟩ := (I8.out.below hbw) i y hy
      obtain ⟨x0, x1⟩ := HGD.out.bd x (List.mem_of_getElem? hx)
      obtain ⟨y0, y1⟩ := HRB.out i y hy
      have hns := not_seen HGD.out hx
      have hsn := take_snoc hx
      obtain ⟨j, rfl⟩ : ∃ j : Nat, x = (j : Int) := ⟨x.toNat, by omega⟩
      have c1 := hsw.cell (j := j) (by omega)
      rw [hns] at c1
      have f1 := hsw.free j
      have HS := Lib.hid (show SeenAt (wA.setCell ⟨w8.heap.size, j, none⟩ (.bool true)) w8.heap.size k (l.take (i + 1)) from by rw [hsn]; exact hsw.see (by omega))
      have HBW := Lib.hid (hbw.setCell (p := ⟨w8.heap.size, j, none⟩) (Nat.le_refl _) (.bool true))
      subst hb
      cases ha
      rw [add_iv] at hac
      obtain ⟨t, ht⟩ : ∃ t : Nat, t = k - i := ⟨_, rfl⟩
      have e1 : IntKind.i64.wrap ((k : Int) - (i : Int)) = (t : Int) := by rw [IntKind.wrap_i64]; omega
      have e2 : wrap64 ((k : Int) - (i : Int)) = (t : Int) := by unfold wrap64; omega
      have i0 : (0 : Int) ≤ (i : Int) := by omega
      have i1 : (i : Int) < (k : Int) := by omega
      have j0 : ¬ (j : Int) < 0 := by omega
      have j1 : ¬ (k : Int) ≤ (j : Int) := by omega
      have j2 : (0 : Int) ≤ (j : Int) := by omega
      have y2 : ¬ y < 0 := by omega
      have y3 : ¬ (t : Int) ≤ y := by omega
      clear hx hy hns hsn hsw hbw ht
      go_wp2
      go_roundw
      case rel => exact ⟨i + 1, by go_num, by omega, HBW.out, HS.out⟩
      case measure => simp [RowKit.intOf]; omega
    · obtain rfl : i = k := by omega
      have HBW := Lib.hid (HB.out.trans (hbw.mono HB.out.size))
      clear hbw hsw
      go_wp2_with (go_at_call 8; refine (lives_any _).mono ?_; rintro e w2 ⟨rfl, hb⟩; have HB2 := Lib.hid hb; clear hb)
      go_ret
      exact ⟨rfl, HBW.out.trans (HB2.out.mono HBW.out.size)⟩

set_option maxHeartbeats 8000000 in
set_option maxRecDepth 100000 in
theorem mixback_yn (q : Option Addr) (n c seed m : Nat) (xs : List Int) (w : World) (hx : IntsAt w q xs) (hn : xs.length = n) (hl : n ≤ 300) (hm : m < 65536) (ra : List Int) (hA : lotsI (upI xs.length) xs = some ra) (hB : ofI (upI xs.length) xs = none) :
    Calls Try.prog 5 #[.slice q n c, .int .u64 (seed : Int), .int .u16 (m : Int)] w fun e w' => e = .returned (.bool true) ∧ Below w.heap.size w w' := by
  have ha2 := of_lots (upI_sorted _) hA
  have ha3 := (lots_bd (upI_sorted _) hA).1
  have HA1 := Lib.hid (fun (w : World) (h : IntsAt w q xs) => lots_fit q n c xs ra w h hn (by omega) hA)
  have HA2 := Lib.hid (fun (w : World) (p : Option Addr) (d : Nat) (h : IntsAt w p ra) => of_fit p n d ra xs w h (by omega) (by omega) (by rw [ha3]; exact ha2))
  rw [show ra.length = n by omega] at HA1
  rw [hn] at HA2
  have HB1 := Lib.hid (fun (w : World) (h : IntsAt w q xs) => of_miss q n c xs w h hn (by omega) hB)
  have HSM := Lib.hid (fun (w : World) (p : Option Addr) (d : Nat) (h : IntsAt w p xs) (h' : IntsAt w q xs) => same_fit w p q d c n n xs h h' hn hn (by omega))
  have HX := Lib.hid hx
  obtain ⟨k, hk⟩ : ∃ k, k = m % 300 := ⟨_, rfl⟩
  have k1 : (m : Int) % 300 = (k : Int) := by omega
  have hk3 : k < 300 := by omega
  obtain ⟨r, hr, hrl, hrb⟩ := lots_order seed k
  have hgd := orderL_good seed k
  have hol := orderL_length seed k
  have HO := Lib.hid (fun w => order_any seed k (by omega) w)
  have HLO := Lib.hid (fun (w : World) (p : Option Addr) (d : Nat) (h : IntsAt w p (orderL seed k)) => lots_fit p k d (orderL seed k) r w h hol (by omega) (by rw [hol]; exact hr))
  rw [hrl] at HLO
  generalize orderL seed k = l at *
  have HGD := Lib.hid hgd
  have HOL := Lib.hid hol
  have HRL := Lib.hid hrl
  have HRB := Lib.hid hrb
  have hmk := make_seen k (by omega)
  clear hx hn hm hA hB hr hrl hrb hgd hol hk ha2 ha3
  go_enter Try.func5, Try.ntmps5
  go_wp2_with fail
  with_reducible refine (HA1.out _ HX.out).mono ?_
  rintro e w1 ⟨p1, d1, rfl, i1, b1⟩
  go_wp2_with fail
  with_reducible refine (HA2.out _ _ _ i1).mono ?_
  rintro e w2 ⟨p2, d2, rfl, i2, b2⟩
  have X2 := HX.out.below (b1.trans (b2.mono b1.size))
  have B2 := b1.trans (b2.mono b1.size)
  clear i1 b1 b2
  go_wp2_with fail
  with_reducible refine (HSM.out _ _ _ i2 X2).mono ?_
  rintro e w3 ⟨rfl, b3⟩
  have HX := Lib.hid (X2.below b3)
  have HB := Lib.hid (B2.trans (b3.mono B2.size))
  clear i2 X2 B2 b3
  go_wp2_with fail
  with_reducible refine (HB1.out _ HX.out).mono ?_
  rintro e w6 ⟨p4, d4, rfl, b4⟩
  have HB := Lib.hid (HB.out.trans (b4.mono HB.out.size))
  clear b4
  go_wp2_with fail
  with_reducible refine (HO.out _).mono ?_
  rintro e w7 ⟨rfl, hig, b7⟩
  have hio := hig.ints
  go_wp2_with fail
  with_reducible refine (HLO.out _ _ _ hio).mono ?_
  rintro e w8 ⟨p8, d8, rfl, i8, b8⟩
  have IO := Lib.hid (hio.below b8)
  have I8 := Lib.hid i8
  have HB := Lib.hid (HB.out.trans ((b7.trans (b8.mono b7.size)).mono HB.out.size))
  clear hig hio b7 b8 i8
  obtain ⟨W9, hW9⟩ : ∃ W9, w8.alloc (.cells (madeCells #[.bool false] k) 4) = W9 := ⟨_, rfl⟩
  have mk8 := hmk w8
  have hs9 := SeenAt.made w8 k
  have hb9 : Below w8.heap.size w8 W9 := by rw [← hW9]; exact (Below.refl _ _).alloc (Nat.le_refl _) _
  rw [hW9] at mk8 hs9
  have HS9 := Lib.hid hs9
  have HB9 := Lib.hid hb9
  clear hs9 hb9 hW9 hmk
  go_wp2_with fail
  go_loopw [103] (fun vi wr => ∃ i : Nat, vi = .int .i64 (i : Int) ∧ i ≤ k ∧ Below w8.heap.size w8 wr ∧ SeenAt wr w8.heap.size k (l.take i)) (fun vi _ => k - (RowKit.intOf vi).toNat)
  case atStart => exact ⟨0, by rfl, Nat.zero_le _, HB9.out, by simpa using HS9.out⟩
  case round =>
    obtain ⟨i, rfl, hi, hbw, hsw⟩ := hrel
    rename World => wA
    by_cases hlt : i < k
    · obtain ⟨x, hx⟩ : ∃ x, l[i]? = some x := ⟨l[i]'(by have := HOL.out; omega), List.getElem?_eq_getElem _⟩
      obtain ⟨y, hy⟩ : ∃ y, r[i]? = some y := ⟨r[i]'(by have := HRL.out; omega), List.getElem?_eq_getElem _⟩
      obtain ⟨a, ha, hac⟩ := (IO.out.below hbw) i x hx
      obtain ⟨b, hb, hbc⟩ := (I8.out.below hbw) i y hy
      obtain ⟨x0, x1⟩ := HGD.out.bd x (List.mem_of_getElem? hx)
      obtain ⟨y0, y1⟩ := HRB.out i y hy
      have hns := not_seen HGD.out hx
      have hsn := take_snoc hx
      obtain ⟨j, rfl⟩ : ∃ j : Nat, x = (j : Int) := ⟨x.toNat, by omega⟩
      have c1 := hsw.cell (j := j) (by omega)
      rw [hns] at c1
      have f1 := hsw.free j
      have HS := Lib.hid (show SeenAt (wA.setCell ⟨w8.heap.size, j, none⟩ (.bool true)) w8.heap.size k (l.take (i + 1)) from by rw [hsn]; exact hsw.see (by omega))
      have HBW := Lib.hid (hbw.setCell (p := ⟨w8.heap.size, j, none⟩) (Nat.le_refl _) (.bool true))
      subst hb
      cases ha
      rw [add_iv] at hac
      obtain ⟨t, ht⟩ : ∃ t : Nat, t = k - i := ⟨_, rfl⟩
      have e1 : IntKind.i64.wrap ((k : Int) - (i : Int)) = (t : Int) := by rw [IntKind.wrap_i64]; omega
      have e2 : wrap64 ((k : Int) - (i : Int)) = (t : Int) := by unfold wrap64; omega
      have i0 : (0 : Int) ≤ (i : Int) := by omega
      have i1 : (i : Int) < (k : Int) := by omega
      have j0 : ¬ (j : Int) < 0 := by omega
      have j1 : ¬ (k : Int) ≤ (j : Int) := by omega
      have j2 : (0 : Int) ≤ (j : Int) := by omega
      have y2 : ¬ y < 0 := by omega
      have y3 : ¬ (t : Int) ≤ y := by omega
      clear hx hy hns hsn hsw hbw ht
      go_wp2
      go_roundw
      case rel => exact ⟨i + 1, by go_num, by omega, HBW.out, HS.out⟩
      case measure => simp [RowKit.intOf]; omega
    · obtain rfl : i = k := by omega
      have HBW := Lib.hid (HB.out.trans (hbw.mono HB.out.size))
      clear hbw hsw
      go_wp2_with (go_at_call 8; refine (lives_any _).mono ?_; rintro e w2 ⟨rfl, hb⟩; have HB2 := Lib.hid hb; clear hb)
      go_ret
      exact ⟨rfl, HBW.out.trans (HB2.out.mono HBW.out.size)⟩

set_option maxHeartbeats 8000000 in
set_option maxRecDepth 100000 in
theorem mixback_yy (q : Option Addr) (n c seed m : Nat) (xs : List Int) (w : World) (hx : IntsAt w q xs) (hn : xs.length = n) (hl : n ≤ 300) (hm : m < 65536) (ra : List Int) (hA : lotsI (upI xs.length) xs = some ra) (rb : List Int) (hB : ofI (upI xs.length) xs = some rb) :
    Calls Try.prog 5 #[.slice q n c, .int .u64 (seed : Int), .int .u16 (m : Int)] w fun e w' => e = .returned (.bool true) ∧ Below w.heap.size w w' := by
  have ha2 := of_lots (upI_sorted _) hA
  have ha3 := (lots_bd (upI_sorted _) hA).1
  have HA1 := Lib.hid (fun (w : World) (h : IntsAt w q xs) => lots_fit q n c xs ra w h hn (by omega) hA)
  have HA2 := Lib.hid (fun (w : World) (p : Option Addr) (d : Nat) (h : IntsAt w p ra) => of_fit p n d ra xs w h (by omega) (by omega) (by rw [ha3]; exact ha2))
  rw [show ra.length = n by omega] at HA1
  rw [hn] at HA2
  have hb2 := lots_of (upI_sorted _) hB
  have hb3 := of_length hB
  have HB1 := Lib.hid (fun (w : World) (h : IntsAt w q xs) => of_fit q n c xs rb w h hn (by omega) hB)
  have HB2 := Lib.hid (fun (w : World) (p : Option Addr) (d : Nat) (h : IntsAt w p rb) => lots_fit p n d rb xs w h (by omega) (by omega) (by rw [hb3]; exact hb2))
  rw [show rb.length = n by omega] at HB1
  rw [hn] at HB2
  have HSM := Lib.hid (fun (w : World) (p : Option Addr) (d : Nat) (h : IntsAt w p xs) (h' : IntsAt w q xs) => same_fit w p q d c n n xs h h' hn hn (by omega))
  have HX := Lib.hid hx
  obtain ⟨k, hk⟩ : ∃ k, k = m % 300 := ⟨_, rfl⟩
  have k1 : (m : Int) % 300 = (k : Int) := by omega
  have hk3 : k < 300 := by omega
  obtain ⟨r, hr, hrl, hrb⟩ := lots_order seed k
  have hgd := orderL_good seed k
  have hol := orderL_length seed k
  have HO := Lib.hid (fun w => order_any seed k (by omega) w)
  have HLO := Lib.hid (fun (w : World) (p : Option Addr) (d : Nat) (h : IntsAt w p (orderL seed k)) => lots_fit p k d (orderL seed k) r w h hol (by omega) (by rw [hol]; exact hr))
  rw [hrl] at HLO
  generalize orderL seed k = l at *
  have HGD := Lib.hid hgd
  have HOL := Lib.hid hol
  have HRL := Lib.hid hrl
  have HRB := Lib.hid hrb
  have hmk := make_seen k (by omega)
  clear hx hn hm hA hB hr hrl hrb hgd hol hk ha2 ha3 hb2 hb3
  go_enter Try.func5, Try.ntmps5
  go_wp2_with fail
  with_reducible refine (HA1.out _ HX.out).mono ?_
  rintro e w1 ⟨p1, d1, rfl, i1, b1⟩
  go_wp2_with fail
  with_reducible refine (HA2.out _ _ _ i1).mono ?_
  rintro e w2 ⟨p2, d2, rfl, i2, b2⟩
  have X2 := HX.out.below (b1.trans (b2.mono b1.size))
  have B2 := b1.trans (b2.mono b1.size)
  clear i1 b1 b2
  go_wp2_with fail
  with_reducible refine (HSM.out _ _ _ i2 X2).mono ?_
  rintro e w3 ⟨rfl, b3⟩
  have HX := Lib.hid (X2.below b3)
  have HB := Lib.hid (B2.trans (b3.mono B2.size))
  clear i2 X2 B2 b3
  go_wp2_with fail
  with_reducible refine (HB1.out _ HX.out).mono ?_
  rintro e w4 ⟨p4, d4, rfl, i4, b4⟩
  go_wp2_with fail
  with_reducible refine (HB2.out _ _ _ i4).mono ?_
  rintro e w5 ⟨p5, d5, rfl, i5, b5⟩
  have X5 := HX.out.below (b4.trans (b5.mono b4.size))
  have B5 := b4.trans (b5.mono b4.size)
  clear i4 b4 b5
  go_wp2_with fail
  with_reducible refine (HSM.out _ _ _ i5 X5).mono ?_
  rintro e w6 ⟨rfl, b6⟩
  have b7 := B5.trans (b6.mono B5.size)
  have HB := Lib.hid (HB.out.trans (b7.mono HB.out.size))
  clear i5 X5 B5 b6 b7
  go_wp2_with fail
  with_reducible refine (HO.out _).mono ?_
  rintro e w7 ⟨rfl, hig, b7⟩
  have hio := hig.ints
  go_wp2_with fail
  with_reducible refine (HLO.out _ _ _ hio).mono ?_
  rintro e w8 ⟨p8, d8, rfl, i8, b8⟩
  have IO := Lib.hid (hio.below b8)
  have I8 := Lib.hid i8
  have HB := Lib.hid (HB.out.trans ((b7.trans (b8.mono b7.size)).mono HB.out.size))
  clear hig hio b7 b8 i8
  obtain ⟨W9, hW9⟩ : ∃ W9, w8.alloc (.cells (madeCells #[.bool false] k) 4) = W9 := ⟨_, rfl⟩
  have mk8 := hmk w8
  have hs9 := SeenAt.made w8 k
  have hb9 : Below w8.heap.size w8 W9 := by rw [← hW9]; exact (Below.refl _ _).alloc (Nat.le_refl _) _
  rw [hW9] at mk8 hs9
  have HS9 := Lib.hid hs9
  have HB9 := Lib.hid hb9
  clear hs9 hb9 hW9 hmk
  go_wp2_with fail
  go_loopw [103] (fun vi wr => ∃ i : Nat, vi = .int .i64 (i : Int) ∧ i ≤ k ∧ Below w8.heap.size w8 wr ∧ SeenAt wr w8.heap.size k (l.take i)) (fun vi _ => k - (RowKit.intOf vi).toNat)
  case atStart => exact ⟨0, by rfl, Nat.zero_le _, HB9.out, by simpa using HS9.out⟩
  case round =>
    obtain ⟨i, rfl, hi, hbw, hsw⟩ := hrel
    rename World => wA
    by_cases hlt : i < k
    · obtain ⟨x, hx⟩ : ∃ x, l[i]? = some x := ⟨l[i]'(by have := HOL.out; omega), List.getElem?_eq_getElem _⟩
      obtain ⟨y, hy⟩ : ∃ y, r[i]? = some y := ⟨r[i]'(by have := HRL.out; omega), List.getElem?_eq_getElem _⟩
      obtain ⟨a, ha, hac⟩ := (IO.out.below hbw) i x hx
      obtain ⟨b, hb, hbc⟩ := (I8.out.below hbw) i y hy
      obtain ⟨x0, x1⟩ := HGD.out.bd x (List.mem_of_getElem? hx)
      obtain ⟨y0, y1⟩ := HRB.out i y hy
      have hns := not_seen HGD.out hx
      have hsn := take_snoc hx
      obtain ⟨j, rfl⟩ : ∃ j : Nat, x = (j : Int) := ⟨x.toNat, by omega⟩
      have c1 := hsw.cell (j := j) (by omega)
      rw [hns] at c1
      have f1 := hsw.free j
      have HS := Lib.hid (show SeenAt (wA.setCell ⟨w8.heap.size, j, none⟩ (.bool true)) w8.heap.size k (l.take (i + 1)) from by rw [hsn]; exact hsw.see (by omega))
      have HBW := Lib.hid (hbw.setCell (p := ⟨w8.heap.size, j, none⟩) (Nat.le_refl _) (.bool true))
      subst hb
      cases ha
      rw [add_iv] at hac
      obtain ⟨t, ht⟩ : ∃ t : Nat, t = k - i := ⟨_, rfl⟩
      have e1 : IntKind.i64.wrap ((k : Int) - (i : Int)) = (t : Int) := by rw [IntKind.wrap_i64]; omega
      have e2 : wrap64 ((k : Int) - (i : Int)) = (t : Int) := by unfold wrap64; omega
      have i0 : (0 : Int) ≤ (i : Int) := by omega
      have i1 : (i : Int) < (k : Int) := by omega
      have j0 : ¬ (j : Int) < 0 := by omega
      have j1 : ¬ (k : Int) ≤ (j : Int) := by omega
      have j2 : (0 : Int) ≤ (j : Int) := by omega
      have y2 : ¬ y < 0 := by omega
      have y3 : ¬ (t : Int) ≤ y := by omega
      clear hx hy hns hsn hsw hbw ht
      go_wp2
      go_roundw
      case rel => exact ⟨i + 1, by go_num, by omega, HBW.out, HS.out⟩
      case measure => simp [RowKit.intOf]; omega
    · obtain rfl : i = k := by omega
      have HBW := Lib.hid (HB.out.trans (hbw.mono HB.out.size))
      clear hbw hsw
      go_wp2_with (go_at_call 8; refine (lives_any _).mono ?_; rintro e w2 ⟨rfl, hb⟩; have HB2 := Lib.hid hb; clear hb)
      go_ret
      exact ⟨rfl, HBW.out.trans (HB2.out.mono HBW.out.size)⟩

theorem mixback_any (q : Option Addr) (c : Nat) (xs : List Int) (seed m : Nat) (w : World) (hx : IntsAt w q xs) (hm : m < 65536) :
    Calls Try.prog 5 #[.slice q xs.length c, .int .u64 (seed : Int), .int .u16 (m : Int)] w fun e w' => e = .returned (.bool true) ∧ Below w.heap.size w w' := by
  by_cases hl : 300 < xs.length
  · exact mixback_long q _ c seed m hl w
  · cases hA : lotsI (upI xs.length) xs with
    | none =>
      cases hB : ofI (upI xs.length) xs with
      | none => exact mixback_nn q _ c seed m xs w hx rfl (by omega) hm hA hB
      | some rb => exact mixback_ny q _ c seed m xs w hx rfl (by omega) hm hA rb hB
    | some ra =>
      cases hB : ofI (upI xs.length) xs with
      | none => exact mixback_yn q _ c seed m xs w hx rfl (by omega) hm ra hA hB
      | some rb => exact mixback_yy q _ c seed m xs w hx rfl (by omega) hm ra hA rb hB
end Go.Proofs.Ytdhefefhipdlcaa
