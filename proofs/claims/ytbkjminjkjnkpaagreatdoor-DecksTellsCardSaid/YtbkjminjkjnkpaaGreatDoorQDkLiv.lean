import Derived.Test.YtbkjminjkjnkpaaGreatDoorQDkWhole
/- Layer 5 (decks): the document's examples come out. -/
namespace Go.Proofs.YtbkjminjkjnkpaaGreatDoor
open Go.RowKit Go.Lib

def twoK : List KC := [⟨⟨#[111, 103, 114, 101]⟩, 0, 4, 0, 0, none, 0, 0⟩, ⟨⟨#[114, 97, 105, 110]⟩, 1, 0, 0, 0, none, 0, 0⟩]
def twoN : List ByteArray := [⟨#[111, 103, 114, 101]⟩, ⟨#[114, 97, 105, 110]⟩]
theorem liv0 : readOf twoN ⟨#[100, 101, 99, 107, 32, 123, 32, 51, 32, 111, 103, 114, 101, 32, 50, 32, 114, 97, 105, 110, 32, 125, 32, 100, 101, 99, 107, 32, 123, 32, 50, 32, 114, 97, 105, 110, 32, 51, 32, 111, 103, 114, 101, 32, 125]⟩ = ((0, (0, 0)), [0, 0, 0, 1, 1], [1, 1, 0, 0, 0]) := by kernel_rfl
theorem liv1 : readOf twoN ⟨#[100, 101, 99, 107, 32, 123, 32, 52, 32, 111, 103, 114, 101, 32, 125]⟩ = ((3, (1, 8)), [], []) := by kernel_rfl
theorem liv2 : readOf twoN ⟨#[100, 101, 99, 107, 32, 123, 32, 49, 32, 111, 103, 114, 101, 32, 49, 32, 111, 103, 114, 101, 32, 125]⟩ = ((7, (1, 17)), [], []) := by kernel_rfl
theorem liv3 : readOf twoN ⟨#[100, 101, 99, 107, 32, 123, 32, 51, 32, 111, 103, 114, 101, 32, 125]⟩ = ((9, (1, 15)), [], []) := by kernel_rfl

set_option maxHeartbeats 1000000 in
set_option maxRecDepth 100000 in
theorem kinds_any (w : World) : Calls Tryz.prog 12 #[] w fun e w' => e = .returned (.slice (some ⟨w.heap.size, 0, none⟩) twoK.length 2) ∧ KindsAt w' (some ⟨w.heap.size, 0, none⟩) twoK ∧ Below w.heap.size w w' := by
  go_enter Tryz.func12, Tryz.ntmps12
  go_wp2
  go_ret
  refine ⟨rfl, fun _ => ⟨_, 0, rfl, fun i k hk j u hu => ?_⟩, (Below.refl _ _).alloc (Nat.le_refl _) _⟩
  rw [cell_blk (heap_alloc_new w _)]
  have hi : i < 2 := by have := (List.getElem?_eq_some_iff.1 hk).1; simpa [twoK] using this
  match i, hi, hk with
  | 0, _, hk =>
    have hk' : k = ⟨⟨#[111, 103, 114, 101]⟩, 0, 4, 0, 0, none, 0, 0⟩ := by simpa [twoK] using hk.symm
    subst hk'
    have hj : j < 6 := by have := (Array.getElem?_eq_some_iff.1 hu).1; simpa [KC.row] using this
    match j, hj, hu with
    | 0, _, hu => exact hu
    | 1, _, hu => exact hu
    | 2, _, hu => exact hu
    | 3, _, hu => exact hu
    | 4, _, hu => exact hu
    | 5, _, hu => exact hu
  | 1, _, hk =>
    have hk' : k = ⟨⟨#[114, 97, 105, 110]⟩, 1, 0, 0, 0, none, 0, 0⟩ := by simpa [twoK] using hk.symm
    subst hk'
    have hj : j < 6 := by have := (Array.getElem?_eq_some_iff.1 hu).1; simpa [KC.row] using this
    match j, hj, hu with
    | 0, _, hu => exact hu
    | 1, _, hu => exact hu
    | 2, _, hu => exact hu
    | 3, _, hu => exact hu
    | 4, _, hu => exact hu
    | 5, _, hu => exact hu
theorem two_few : twoK.length ≤ 4611686018427387904 := by simp [twoK]
theorem two_names : twoK.map (·.name) = twoN := rfl
theorem two_small : ∀ k ∈ twoK, k.name.size ≤ maxLen := by
  intro k hk
  simp only [twoK, List.mem_cons, List.not_mem_nil, or_false] at hk
  unfold maxLen
  rcases hk with rfl | rfl <;> decide

theorem kinds_any' (w : World) : Calls Tryz.prog 12 #[] w fun e w' => ∃ P, e = .returned (.slice P twoK.length 2) ∧ KindsAt w' P twoK ∧ Below w.heap.size w w' :=
  (kinds_any w).mono fun _ _ ⟨h, hk, b⟩ => ⟨_, h, hk, b⟩

set_option maxHeartbeats 1000000 in
set_option maxRecDepth 100000 in
theorem fault_any (s : ByteArray) (w : World) (hs : s.size ≤ maxLen) (hT : Tabs w) (er : Nat) (l c : Int) (ra rb : List Nat) (hr : readOf twoN s = ((er, (l, c)), ra, rb)) :
    Calls Tryz.prog 13 #[.string s] w fun e w' => e = .returned (.agg #[.int .i64 er, .int .i64 l, .int .i64 c]) ∧ Below w.heap.size w w' := by
  have HT := Lib.hid hT
  have HS := Lib.hid hs
  have HR := Lib.hid hr
  clear hT hs hr
  obtain ⟨K, hK⟩ : ∃ K, K = twoK := ⟨_, rfl⟩
  have hki := fun W => kinds_any' W
  rw [← hK] at hki
  have HKI := Lib.hid hki
  have HK := Lib.hid hK
  clear hki hK
  go_enter Tryz.func13, Tryz.ntmps13
  go_wp2_with fail
  refine (HKI.out _).mono ?_
  rintro e w1 ⟨P, rfl, hk1, b1⟩
  have hb1 : Below w.heap.size w w1 := ((Below.refl _ _).alloc (Nat.le_refl _) _).trans (b1.mono (by simp))
  have h1 : w1.heap[w.heap.size]? = some (.cells #[.int .i64 0, .int .i64 0, .int .i64 0] 31 (0, 0)) := (b1.block _ (by simp)).trans (heap_alloc_new _ _)
  have hrd := read_any s _ 2 K w1 HS.out hk1 (by rw [HK.out]; exact two_few) (by rw [HK.out]; exact two_small) (HT.out.below hb1)
  rw [show K.map (·.name) = twoN by rw [HK.out]; exact two_names, HR.out] at hrd
  have HRD := Lib.hid hrd
  have HB1 := Lib.hid hb1
  have H1 := Lib.hid h1
  clear hrd hk1 b1 hb1 h1
  go_wp2_with fail
  refine HRD.out.mono ?_
  rintro e w2 ⟨a, n, c0, a', n', c', rfl, -, -, b2⟩
  have h2 := (b2.block _ (heap_lt H1.out)).trans H1.out
  have hlt := heap_lt h2
  have H2 := Lib.hid h2
  have x0 := cell_blk (i := 0) h2; have x1 := cell_blk (i := 1) h2; have x2 := cell_blk (i := 2) h2; have xf0 := free_blk (i := 0) h2; have xf1 := free_blk (i := 1) h2; have xf2 := free_blk (i := 2) h2; simp at x0 x1 x2
  have HB2 := Lib.hid (HB1.out.trans (b2.mono HB1.out.size))
  clear b2 h2
  go_wp2
  have e3 := heap_setCell_same _ w.heap.size 2 _ _ (.int .i64 c) (heap_setCell_same _ w.heap.size 1 _ _ (.int .i64 l) (heap_setCell_same _ w.heap.size 0 _ _ (.int .i64 er) H2.out))
  have hz : ∀ (X : World) (o o' : Obj) (g : Nat) (x : Obj), X.heap[g]? = some x → ((X.alloc o).alloc o').heap[g]? = some x := fun X o o' g x h => by
    have hl := heap_lt h
    rw [heap_alloc_old _ _ (by simp; omega), heap_alloc_old _ _ hl, h]
  refine bodyPost_ret (results_cell_row rfl _ _ w.heap.size _ _ _ _ rfl (hz _ _ _ _ _ e3) rfl rfl (by kernel_rfl)) rfl ?_
  refine ⟨rfl, (((((HB2.out.setCell (p := ⟨w.heap.size, 0, none⟩) (Nat.le_refl _) _).setCell (p := ⟨w.heap.size, 1, none⟩) (Nat.le_refl _) _).setCell (p := ⟨w.heap.size, 2, none⟩) (Nat.le_refl _) _).alloc (by simp; omega) _).alloc (by simp; omega) _)⟩


set_option maxHeartbeats 1000000 in
set_option maxRecDepth 100000 in
theorem at_any (k : IntKind) (x col : Int) (w : World) : Calls Tryz.prog 14 #[.int k x, .int .i64 col] w fun e w' => e = .returned (.agg #[.int k x, .int .i64 1, .int .i64 col]) ∧ Below w.heap.size w w' := by
  go_enter Tryz.func14, Tryz.ntmps14
  go_wp2
  refine bodyPost_ret (results_cell_row rfl _ _ w.heap.size _ _ _ _ rfl (heap_alloc_new _ _) rfl rfl (by kernel_rfl)) rfl ?_
  exact ⟨rfl, (Below.refl _ _).alloc (Nat.le_refl _) _⟩

theorem ints_new (w : World) (g : Nat) (x0 x1 x2 x3 x4 : Int) (t : TypeId) (h : w.heap[g]? = some (.cells #[.int .i64 x0, .int .i64 x1, .int .i64 x2, .int .i64 x3, .int .i64 x4] t (0, 0))) : IntsAt w (some ⟨g, 0, none⟩) [x0, x1, x2, x3, x4] := by
  intro i x hx
  have hi : i < 5 := by have := (List.getElem?_eq_some_iff.1 hx).1; simpa using this
  refine ⟨_, rfl, ?_⟩
  match i, hi, hx with
  | 0, _, hx => cases hx; show w.cell? ⟨g, 0, none⟩ = _; rw [cell_blk h]; rfl
  | 1, _, hx => cases hx; show w.cell? ⟨g, 1, none⟩ = _; rw [cell_blk h]; rfl
  | 2, _, hx => cases hx; show w.cell? ⟨g, 2, none⟩ = _; rw [cell_blk h]; rfl
  | 3, _, hx => cases hx; show w.cell? ⟨g, 3, none⟩ = _; rw [cell_blk h]; rfl
  | 4, _, hx => cases hx; show w.cell? ⟨g, 4, none⟩ = _; rw [cell_blk h]; rfl
theorem ints_same (w : World) (p q : Option Addr) (n m c d : Nat) (xs : List Int) (hx : IntsAt w p xs) (hy : IntsAt w q xs) (hn : n = xs.length) (hm : m = xs.length) (hs : xs.length ≤ maxLen) :
    Calls Tryz.prog 8 #[.slice p n c, .slice q m d] w fun e w' => e = .returned (.bool true) ∧ Below w.heap.size w w' := by
  subst hn hm
  have h := ints_any w p q c d xs xs hx hy hs hs
  rwa [show sameB xs xs = true by simp [sameB]] at h

def faultV (er : Nat) (c : Int) : Value := .agg #[.int .i64 er, .int .i64 1, .int .i64 c]
theorem fl1 (w : World) (hT : Tabs w) : Calls Tryz.prog 13 #[.string ⟨#[100, 101, 99, 107, 32, 123, 32, 52, 32, 111, 103, 114, 101, 32, 125]⟩] w fun e w' => e = .returned (.agg #[.int .i64 3, .int .i64 1, .int .i64 8]) ∧ Below w.heap.size w w' :=
  fault_any _ w (by unfold maxLen; decide) hT 3 1 8 _ _ liv1
theorem fl2 (w : World) (hT : Tabs w) : Calls Tryz.prog 13 #[.string ⟨#[100, 101, 99, 107, 32, 123, 32, 49, 32, 111, 103, 114, 101, 32, 49, 32, 111, 103, 114, 101, 32, 125]⟩] w fun e w' => e = .returned (.agg #[.int .i64 7, .int .i64 1, .int .i64 17]) ∧ Below w.heap.size w w' :=
  fault_any _ w (by unfold maxLen; decide) hT 7 1 17 _ _ liv2
theorem fl3 (w : World) (hT : Tabs w) : Calls Tryz.prog 13 #[.string ⟨#[100, 101, 99, 107, 32, 123, 32, 51, 32, 111, 103, 114, 101, 32, 125]⟩] w fun e w' => e = .returned (.agg #[.int .i64 9, .int .i64 1, .int .i64 15]) ∧ Below w.heap.size w w' :=
  fault_any _ w (by unfold maxLen; decide) hT 9 1 15 _ _ liv3

set_option maxHeartbeats 1000000 in
set_option maxRecDepth 100000 in
theorem lives_any (w : World) (hT : Tabs w) : Calls Tryz.prog 4 #[] w fun e w' => e = .returned (.bool true) ∧ Below w.heap.size w w' := by
  have HT := Lib.hid hT
  clear hT
  obtain ⟨K, hK⟩ : ∃ K, K = twoK := ⟨_, rfl⟩
  have hki := fun W => kinds_any' W
  rw [← hK] at hki
  have HKI := Lib.hid hki
  have HK := Lib.hid hK
  clear hki hK
  go_enter Tryz.func4, Tryz.ntmps4
  go_wp2_with fail
  refine (HKI.out _).mono ?_
  rintro e w1 ⟨P, rfl, hk1, hb1⟩
  have hrd := read_any ⟨#[100, 101, 99, 107, 32, 123, 32, 51, 32, 111, 103, 114, 101, 32, 50, 32, 114, 97, 105, 110, 32, 125, 32, 100, 101, 99, 107, 32, 123, 32, 50, 32, 114, 97, 105, 110, 32, 51, 32, 111, 103, 114, 101, 32, 125]⟩ P 2 K w1 (by unfold maxLen; decide) hk1 (by rw [HK.out]; exact two_few) (by rw [HK.out]; exact two_small) (HT.out.below hb1)
  rw [show K.map (·.name) = twoN by rw [HK.out]; exact two_names, liv0] at hrd
  have HRD := Lib.hid hrd
  have HB1 := Lib.hid hb1
  clear hrd hk1 hb1
  go_wp2_with fail
  refine HRD.out.mono ?_
  rintro e w2 ⟨a, n, c0, a', n', c', rfl, hna, hnb, b2⟩
  obtain ⟨hia, hn⟩ := ints_of_nats hna
  obtain ⟨hib, hn'⟩ := ints_of_nats hnb
  have HIA : Hid (IntsAt w2 a [0, 0, 0, 1, 1]) := Lib.hid hia
  have HIB : Hid (IntsAt w2 a' [1, 1, 0, 0, 0]) := Lib.hid hib
  have HN := Lib.hid hn
  have HN' := Lib.hid hn'
  have HB2 := Lib.hid (HB1.out.trans (b2.mono HB1.out.size))
  clear hna hnb b2 hia hib hn hn'
  go_wp2_with fail
  obtain ⟨W3, hW3⟩ : ∃ W3, W3 = (((w2.alloc (.cells #[.slice a n c0, .slice a' n' c'] 23)).alloc (.cells #[.int .i64 0, .int .i64 0, .int .i64 0] 31)).alloc (.cells #[.int .i64 0, .int .i64 0, .int .i64 0, .int .i64 1, .int .i64 1] 3)) := ⟨_, rfl⟩
  have hb3 : Below w2.heap.size w2 W3 := by rw [hW3]; exact (((Below.refl _ _).alloc (Nat.le_refl _) _).alloc (by simp) _).alloc (by simp; omega) _
  have hd3 : W3.heap[w2.heap.size]? = some (.cells #[.slice a n c0, .slice a' n' c'] 23 (0, 0)) := by
    rw [hW3, heap_alloc_old _ _ (by simp; omega), heap_alloc_old _ _ (by simp)]; exact heap_alloc_new _ _
  have hn3 : W3.heap[w2.heap.size + 1 + 1]? = some (.cells #[.int .i64 0, .int .i64 0, .int .i64 0, .int .i64 1, .int .i64 1] 3 (0, 0)) := by
    rw [hW3]; have := heap_alloc_new ((w2.alloc (.cells #[.slice a n c0, .slice a' n' c'] 23)).alloc (.cells #[.int .i64 0, .int .i64 0, .int .i64 0] 31)) (.cells #[.int .i64 0, .int .i64 0, .int .i64 0, .int .i64 1, .int .i64 1] 3)
    rwa [show ((w2.alloc (.cells #[.slice a n c0, .slice a' n' c'] 23)).alloc (.cells #[.int .i64 0, .int .i64 0, .int .i64 0] 31)).heap.size = w2.heap.size + 1 + 1 by simp] at this
  rw [← hW3]
  refine (ints_same W3 a _ n 5 c0 5 [0, 0, 0, 1, 1] (HIA.out.below hb3) (ints_new W3 _ 0 0 0 1 1 _ hn3) HN.out rfl (by unfold maxLen; decide)).mono ?_
  rintro e w4 ⟨rfl, b4⟩
  have h4 := (b4.block _ (heap_lt hd3)).trans hd3
  have HB4 : Hid (Below w.heap.size w w4) := Lib.hid (HB2.out.trans (hb3.mono HB2.out.size) |>.trans (b4.mono (by have := HB2.out.size; have := hb3.size; omega)))
  have HIB4 := Lib.hid ((HIB.out.below hb3).below b4)
  have HX4 := Lib.hid h4
  clear hW3 hb3 hd3 hn3 b4
  have x0 := cell_blk (i := 0) h4; have x1 := cell_blk (i := 1) h4; have xf0 := free_blk (i := 0) h4; have xf1 := free_blk (i := 1) h4; simp at x0 x1
  clear h4
  go_wp2_with fail
  have hi4 : Below w4.heap.size w4 (w4.alloc (.cells #[.int .i64 1, .int .i64 1, .int .i64 0, .int .i64 0, .int .i64 0] 3)) := (Below.refl _ _).alloc (Nat.le_refl _) _
  refine (ints_same _ a' _ n' 5 c' 5 [1, 1, 0, 0, 0] (HIB4.out.below hi4) (ints_new _ _ 1 1 0 0 0 _ (heap_alloc_new _ _)) HN'.out rfl (by unfold maxLen; decide)).mono ?_
  rintro e w5 ⟨rfl, b5⟩
  have HB5 : Hid (Below w.heap.size w w5) := Lib.hid (HB4.out.trans (hi4.mono HB4.out.size) |>.trans (b5.mono (by have := HB4.out.size; simp; omega)))
  clear hi4 b5
  go_wp2_with fail
  refine (fl1 w5 (HT.out.below HB5.out)).mono ?_
  rintro e w6 ⟨rfl, b6⟩
  have HB6 := Lib.hid (HB5.out.trans (b6.mono HB5.out.size))
  clear b6
  go_wp2_with fail
  refine (at_any _ _ _ w6).mono ?_
  rintro e w7 ⟨rfl, b7⟩
  have HB7 := Lib.hid (HB6.out.trans (b7.mono HB6.out.size))
  clear b7
  go_wp2_with fail
  refine (fl2 w7 (HT.out.below HB7.out)).mono ?_
  rintro e w8 ⟨rfl, b8⟩
  have HB8 := Lib.hid (HB7.out.trans (b8.mono HB7.out.size))
  clear b8
  go_wp2_with fail
  refine (at_any _ _ _ w8).mono ?_
  rintro e w9 ⟨rfl, b9⟩
  have HB9 := Lib.hid (HB8.out.trans (b9.mono HB8.out.size))
  clear b9
  go_wp2_with fail
  refine (fl3 w9 (HT.out.below HB9.out)).mono ?_
  rintro e w10 ⟨rfl, b10⟩
  have HB10 := Lib.hid (HB9.out.trans (b10.mono HB9.out.size))
  clear b10
  go_wp2_with fail
  refine (at_any _ _ _ w10).mono ?_
  rintro e w11 ⟨rfl, b11⟩
  have HB11 := Lib.hid (HB10.out.trans (b11.mono HB10.out.size))
  clear b11
  go_wp2_with fail
  go_ret
  exact ⟨rfl, HB11.out⟩
end Go.Proofs.YtbkjminjkjnkpaaGreatDoor
