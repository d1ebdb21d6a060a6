import Derived.Test.YtlbbabojejimpaaQEsA
import Derived.Test.YtlbbabojejimpaaQEsTable
import Derived.Deep.RegionHeld3
/- joustlaw08.lives: the expressions that the document tells of come to what it tells. -/
namespace Go.Proofs.Ytlbbabojejimpaa
open Go.RowKit Go.Lib

theorem three_good : GoodB twoX threeP := by
  refine ⟨by decide, ?_, ?_, ?_, by decide⟩
  · intro p hp
    simp [threeP] at hp
    rcases hp with rfl | rfl | rfl <;> exact ⟨by decide, by decide, by decide, by decide, by decide, by decide, by decide, by decide, by decide, by decide, by decide, by decide, by decide⟩
  · intro p hp _ _
    simp [threeP] at hp
    rcases hp with rfl | rfl | rfl <;> decide
  · intro p hp _ _ _
    simp [threeP] at hp
    rcases hp with rfl | rfl | rfl <;> decide
theorem two_few : FewIn twoX := by
  intro x hx
  simp [twoX] at hx
  rcases hx with rfl | rfl
  · exact ⟨by decide, fun e he => by simp at he; subst he; decide⟩
  · exact ⟨by decide, fun e he => by simp at he⟩
def attE : Ex := .mk 3 0 0 ⟨0, 0, 0⟩ []
def allE : Ex := .mk 2 0 0 ⟨2, 2, 0⟩ []
theorem attI0 : attI twoX threeP 0 = 1300 := by decide
theorem cnt3 : (cntL twoX threeP 0 0 ⟨2, 2, 0⟩).length = 3 := by decide
theorem v_att (t : Tb) : valE t twoX threeP 0 0 6 attE = some 1300 := by
  have hp : partsN attE.op = 0 := rfl
  rw [valE, hp, if_neg (by simp), if_pos rfl]
  show leafV t twoX threeP 0 0 attE = _
  unfold leafV
  rw [if_neg (by decide), if_neg (by decide), if_neg (by decide), if_pos (by decide), attI0]
  rfl
theorem v_all (t : Tb) : valE t twoX threeP 0 0 6 allE = some 3 := by
  have hp : partsN allE.op = 0 := rfl
  rw [valE, hp, if_neg (by simp), if_pos rfl]
  show leafV t twoX threeP 0 0 allE = _
  unfold leafV
  rw [if_neg (by decide), if_neg (by decide), if_pos (by decide), show allE.sel = ⟨2, 2, 0⟩ from rfl, cnt3]
  rfl
theorem v_mul (t : Tb) : valE t twoX threeP 0 0 6 (bothE 6 99999 99999) = some 99999 := by rw [bothE_val _ _ _ _ _ _ _ _ _ (by omega)]; rfl
theorem v_sub (t : Tb) : valE t twoX threeP 0 0 6 (bothE 5 1 2) = some (-1) := by rw [bothE_val _ _ _ _ _ _ _ _ _ (by omega)]; rfl
theorem v_not (t : Tb) : valE t twoX threeP 0 0 6 (notE 0) = some 1 := by rw [notE_val]; rfl
theorem leafE_C {x : Ex} (h : x.args = []) (w : World) : ExC 1 w (exV x (.slice none 0 0)) x := ⟨none, 0, by rw [h]; rfl, by rw [h]; exact Nat.le_refl _, by rw [h]; exact Nat.zero_le _, fun i p hp => by simp [h] at hp⟩
/-- One number in memory. -/
theorem notE_C {w : World} {g : Nat} {a : Int} {ty : TypeId} {cs : Array Value} (hb : w.heap[g]? = some (.cells cs ty (0, 0))) (hc : cs = (exV (numE a) (.slice none 0 0)).toArray) : ExC 2 w (exV (notE a) (.slice (some ⟨g, 0, none⟩) 1 1)) (notE a) := by
  subst hc
  refine ⟨some ⟨g, 0, none⟩, 1, rfl, Nat.le_refl _, (by show 1 ≤ maxLen; decide), fun i p h => ?_⟩
  match i, h with
  | 0, h =>
    simp [notE, Ex.args] at h; subst h
    refine ⟨g, 0, rfl, _, rfl, numE_C a w, fun j u hu => ?_⟩
    have hj : j < 7 := (List.getElem?_eq_some_iff.1 hu).1
    rw [cell_blk hb, List.getElem?_toArray, show 0 + 0 * 7 + j = j by omega]
    exact hu
  | i + 1, h => simp [notE, Ex.args] at h

set_option maxHeartbeats 16000000 in
set_option maxRecDepth 100000 in
theorem elives_any (w : World) : Calls Try.prog 9 #[] w fun e w' => e = .returned (.bool true) ∧ Below w.heap.size w w' := by
  have htab := Lib.hid (table_any w)
  have hnum := Lib.hid fun W => number_any 0 W
  simp only [numE, exV, Ex.op, Ex.n, Ex.side, Ex.sel] at hnum
  go_enter Try.func9, Try.ntmps9
  go_wp2_with fail
  refine htab.out.mono ?_
  rintro e w0 ⟨⟨t, rfl, hT0, hL⟩, b0⟩
  obtain ⟨w1, hw1⟩ : ∃ w1, w1 = (w0.alloc (.cells t.row 28)).alloc (.cells #[.int .u8 2, .int .i64 0, .int .u8 0, .int .u8 2, .int .u8 2, .int .u8 0, .slice none 0 0] 33) := ⟨_, rfl⟩
  have b1 : Below w0.heap.size w0 w1 := by rw [hw1]; exact ((Below.refl _ _).alloc (Nat.le_refl _) _).alloc (by simp) _
  have hx1 : w1.heap[w0.heap.size]? = some (.cells t.row 28 (0, 0)) := by rw [hw1]; exact heap_older (heap_alloc_new _ _)
  have hl1 : w1.heap[w0.heap.size + 1]? = some (.cells #[.int .u8 2, .int .i64 0, .int .u8 0, .int .u8 2, .int .u8 2, .int .u8 0, .slice none 0 0] 33 (0, 0)) := by rw [hw1]; exact heap_newer _ _ _ (by simp)
  have HT0 := Lib.hid hT0
  have HL := Lib.hid hL
  have HB0 := Lib.hid b0
  have HB1 := Lib.hid b1
  have HX1 := Lib.hid hx1
  have HL1 := Lib.hid hl1
  have HW1 := Lib.hid hw1
  clear hT0 hL b0 b1 hx1 hl1 hw1
  simp only [Tb.row] at *
  go_wp2_with fail
  rw [← HW1.out]
  refine (hnum.out w1).mono ?_
  rintro e w2 ⟨rfl, b2⟩
  obtain ⟨w3, hw3⟩ : ∃ w3, w3 = (w2.alloc (.cells #[.int .u8 0, .int .i64 0, .int .u8 0, .int .u8 0, .int .u8 0, .int .u8 0, .slice none 0 0] 33)).alloc (.cells #[.int .u8 11, .int .i64 0, .int .u8 0, .int .u8 0, .int .u8 0, .int .u8 0, .slice (some ⟨w2.heap.size, 0, none⟩) 1 1] 33) := ⟨_, rfl⟩
  have b3 : Below w2.heap.size w2 w3 := by rw [hw3]; exact ((Below.refl _ _).alloc (Nat.le_refl _) _).alloc (by simp) _
  have b13 := b2.trans (b3.mono b2.size)
  have HG3 : Hid (w3.heap[w2.heap.size]? = some (.cells #[.int .u8 0, .int .i64 0, .int .u8 0, .int .u8 0, .int .u8 0, .int .u8 0, .slice none 0 0] 33 (0, 0))) := Lib.hid (by rw [hw3]; exact heap_older (heap_alloc_new _ _))
  have HN3 : Hid (w3.heap[w2.heap.size + 1]? = some (.cells #[.int .u8 11, .int .i64 0, .int .u8 0, .int .u8 0, .int .u8 0, .int .u8 0, .slice (some ⟨w2.heap.size, 0, none⟩) 1 1] 33 (0, 0))) := Lib.hid (by rw [hw3]; exact heap_newer _ _ _ (by simp))
  have HT3 := Lib.hid ((b13.block _ (heap_lt HX1.out)).trans HX1.out)
  have HL3 := Lib.hid ((b13.block _ (heap_lt HL1.out)).trans HL1.out)
  have HW3 := Lib.hid hw3
  have B03 := Lib.hid (HB1.out.trans (b13.mono HB1.out.size))
  have BW3 := Lib.hid (HB0.out.trans (B03.out.mono HB0.out.size))
  clear b2 b3 b13 hw3
  go_wp2_with fail
  rw [← HW3.out]
  have hT := Lib.hid (HT0.out.below B03.out)
  have hv1 := Lib.hid fun (W : World) (hb : Below w3.heap.size w3 W) => Value_yes t twoX threeP 0 0 attE none 0 0 W (hT.out.below hb) HL.out three_good two_few (by decide) 1 (fun W' _ => leafE_C rfl W')
  have hv2 := Lib.hid fun (W : World) (hb : Below w3.heap.size w3 W) => Value_yes t twoX threeP 0 0 allE none 0 0 W (hT.out.below hb) HL.out three_good two_few (by decide) 1 (fun W' _ => leafE_C rfl W')
  have hv5 := Lib.hid fun (W : World) (hb : Below w3.heap.size w3 W) => Value_yes t twoX threeP 0 0 (notE 0) (some ⟨w2.heap.size, 0, none⟩) 1 1 W (hT.out.below hb) HL.out three_good two_few (by decide) 2 (fun W' hb' => notE_C (a := 0) (((hb.trans (hb'.mono hb.size)).block _ (heap_lt HG3.out)).trans HG3.out) rfl)
  rw [v_att] at hv1
  rw [v_all] at hv2
  rw [v_not] at hv5
  simp only [Tb.row, exV, attE, allE, notE, Ex.op, Ex.n, Ex.side, Ex.sel, Option.getD_some, Int.natCast_zero, Int.cast_ofNat_Int] at hv1 hv2 hv5
  have hv3 := Lib.hid fun (W : World) (hb : Below w3.heap.size w3 W) (g : Nat) (hx : ExC 2 W (exV (bothE 6 99999 99999) (.slice (some ⟨g, 0, none⟩) 2 2)) (bothE 6 99999 99999)) => Value_yes t twoX threeP 0 0 (bothE 6 99999 99999) (some ⟨g, 0, none⟩) 2 2 W (hT.out.below hb) HL.out three_good two_few (by decide) 2 (fun W' hb' => ExC.stays _ _ _ _ _ hx hb')
  have hv4 := Lib.hid fun (W : World) (hb : Below w3.heap.size w3 W) (g : Nat) (hx : ExC 2 W (exV (bothE 5 1 2) (.slice (some ⟨g, 0, none⟩) 2 2)) (bothE 5 1 2)) => Value_yes t twoX threeP 0 0 (bothE 5 1 2) (some ⟨g, 0, none⟩) 2 2 W (hT.out.below hb) HL.out three_good two_few (by decide) 2 (fun W' hb' => ExC.stays _ _ _ _ _ hx hb')
  rw [v_mul] at hv3
  rw [v_sub] at hv4
  simp only [Tb.row, Option.getD_some, Int.natCast_zero, Int.cast_ofNat_Int] at hv3 hv4
  have hn := Lib.hid fun (k : Int) (W : World) => number_any k W
  have hb1 := Lib.hid fun (W : World) => both_any 6 99999 99999 W (by omega)
  have hb2 := Lib.hid fun (W : World) => both_any 5 1 2 W (by omega)
  simp only [Int.cast_ofNat_Int] at hb1 hb2
  refine wp_region_held_drew (S := fun w' => w'.cell? ⟨w0.heap.size, 0, none⟩ = some (.slice t.qk t.nk t.ck) ∧ w'.cell? ⟨w0.heap.size, 1, none⟩ = some (.slice t.qp t.np t.cp) ∧ w'.cell? ⟨w0.heap.size, 2, none⟩ = some (.int .i64 t.l0) ∧ w'.cell? ⟨w0.heap.size, 3, none⟩ = some (.int .i64 t.l1) ∧ w'.cell? ⟨w0.heap.size, 4, none⟩ = some (.int .i64 t.tn) ∧ w'.cell? ⟨w0.heap.size, 5, none⟩ = some (.int .u8 t.py) ∧ w'.cell? ⟨w0.heap.size, 6, none⟩ = some (.int .i64 t.mo) ∧ w'.cell? ⟨w0.heap.size, 7, none⟩ = some (.slice t.qe t.ne t.ce) ∧ w'.cell? ⟨w0.heap.size, 8, none⟩ = some (.bool t.b0) ∧ w'.cell? ⟨w0.heap.size, 9, none⟩ = some (.bool t.b1) ∧ w'.cell? ⟨(w0.heap.size + 1), 0, none⟩ = some (.int .u8 2) ∧ w'.cell? ⟨(w0.heap.size + 1), 1, none⟩ = some (.int .i64 0) ∧ w'.cell? ⟨(w0.heap.size + 1), 2, none⟩ = some (.int .u8 0) ∧ w'.cell? ⟨(w0.heap.size + 1), 3, none⟩ = some (.int .u8 2) ∧ w'.cell? ⟨(w0.heap.size + 1), 4, none⟩ = some (.int .u8 2) ∧ w'.cell? ⟨(w0.heap.size + 1), 5, none⟩ = some (.int .u8 0) ∧ w'.cell? ⟨(w0.heap.size + 1), 6, none⟩ = some (.slice none 0 0) ∧ w'.cell? ⟨(w2.heap.size + 1), 0, none⟩ = some (.int .u8 11) ∧ w'.cell? ⟨(w2.heap.size + 1), 1, none⟩ = some (.int .i64 0) ∧ w'.cell? ⟨(w2.heap.size + 1), 2, none⟩ = some (.int .u8 0) ∧ w'.cell? ⟨(w2.heap.size + 1), 3, none⟩ = some (.int .u8 0) ∧ w'.cell? ⟨(w2.heap.size + 1), 4, none⟩ = some (.int .u8 0) ∧ w'.cell? ⟨(w2.heap.size + 1), 5, none⟩ = some (.int .u8 0) ∧ w'.cell? ⟨(w2.heap.size + 1), 6, none⟩ = some (.slice (some ⟨w2.heap.size, 0, none⟩) 1 1) ∧ Below w3.heap.size w3 w') (by kernel_rfl) ⟨(by have := cell_blk (i := 0) HT3.out; simpa using this), (by have := cell_blk (i := 1) HT3.out; simpa using this), (by have := cell_blk (i := 2) HT3.out; simpa using this), (by have := cell_blk (i := 3) HT3.out; simpa using this), (by have := cell_blk (i := 4) HT3.out; simpa using this), (by have := cell_blk (i := 5) HT3.out; simpa using this), (by have := cell_blk (i := 6) HT3.out; simpa using this), (by have := cell_blk (i := 7) HT3.out; simpa using this), (by have := cell_blk (i := 8) HT3.out; simpa using this), (by have := cell_blk (i := 9) HT3.out; simpa using this), (by have := cell_blk (i := 0) HL3.out; simpa using this), (by have := cell_blk (i := 1) HL3.out; simpa using this), (by have := cell_blk (i := 2) HL3.out; simpa using this), (by have := cell_blk (i := 3) HL3.out; simpa using this), (by have := cell_blk (i := 4) HL3.out; simpa using this), (by have := cell_blk (i := 5) HL3.out; simpa using this), (by have := cell_blk (i := 6) HL3.out; simpa using this), (by have := cell_blk (i := 0) HN3.out; simpa using this), (by have := cell_blk (i := 1) HN3.out; simpa using this), (by have := cell_blk (i := 2) HN3.out; simpa using this), (by have := cell_blk (i := 3) HN3.out; simpa using this), (by have := cell_blk (i := 4) HN3.out; simpa using this), (by have := cell_blk (i := 5) HN3.out; simpa using this), (by have := cell_blk (i := 6) HN3.out; simpa using this), (Below.refl _ _).drew⟩ (fun hHeld => ?_)
  refine take_at (i := 0) (v := ?_) rfl (by kernel_rfl) (by kernel_rfl) (by kernel_rfl) (fun _ _ _ h => h) (Or.inl ⟨by rfl, ?_⟩) hHeld ?_
  rotate_left
  · intro w hSw
    (try dsimp only at hSw)
    go_simp
    try with_reducible rfl
  try simp only [Act.put, List.setIfInBounds_toArray, List.set_cons_zero, List.set_cons_succ]
  try dsimp only
  refine take_at (i := 1) (v := ?_) rfl (by kernel_rfl) (by kernel_rfl) (by kernel_rfl) (fun _ _ _ h => h) (Or.inl ⟨by rfl, ?_⟩) hHeld ?_
  rotate_left
  · intro w hSw
    (try dsimp only at hSw)
    go_simp
    try with_reducible rfl
  try simp only [Act.put, List.setIfInBounds_toArray, List.set_cons_zero, List.set_cons_succ]
  try dsimp only
  refine wpAnyH_ready (rs := [2]) (by kernel_rfl) (by simp) ?_
  refine cons_at rfl (fun K hK => ?_) AllReadyH.nil
  go_simp
  refine (hv1.out _ hHeld.2.2.2.2.2.2.2.2.2.2.2.2.2.2.2.2.2.2.2.2.2.2.2.2).mono ?_
  rintro e v1 ⟨rfl, d1⟩
  refine hK.out _ _ ⟨cell_later d1 hHeld.1, cell_later d1 hHeld.2.1, cell_later d1 hHeld.2.2.1, cell_later d1 hHeld.2.2.2.1, cell_later d1 hHeld.2.2.2.2.1, cell_later d1 hHeld.2.2.2.2.2.1, cell_later d1 hHeld.2.2.2.2.2.2.1, cell_later d1 hHeld.2.2.2.2.2.2.2.1, cell_later d1 hHeld.2.2.2.2.2.2.2.2.1, cell_later d1 hHeld.2.2.2.2.2.2.2.2.2.1, cell_later d1 hHeld.2.2.2.2.2.2.2.2.2.2.1, cell_later d1 hHeld.2.2.2.2.2.2.2.2.2.2.2.1, cell_later d1 hHeld.2.2.2.2.2.2.2.2.2.2.2.2.1, cell_later d1 hHeld.2.2.2.2.2.2.2.2.2.2.2.2.2.1, cell_later d1 hHeld.2.2.2.2.2.2.2.2.2.2.2.2.2.2.1, cell_later d1 hHeld.2.2.2.2.2.2.2.2.2.2.2.2.2.2.2.1, cell_later d1 hHeld.2.2.2.2.2.2.2.2.2.2.2.2.2.2.2.2.1, cell_later d1 hHeld.2.2.2.2.2.2.2.2.2.2.2.2.2.2.2.2.2.1, cell_later d1 hHeld.2.2.2.2.2.2.2.2.2.2.2.2.2.2.2.2.2.2.1, cell_later d1 hHeld.2.2.2.2.2.2.2.2.2.2.2.2.2.2.2.2.2.2.2.1, cell_later d1 hHeld.2.2.2.2.2.2.2.2.2.2.2.2.2.2.2.2.2.2.2.2.1, cell_later d1 hHeld.2.2.2.2.2.2.2.2.2.2.2.2.2.2.2.2.2.2.2.2.2.1, cell_later d1 hHeld.2.2.2.2.2.2.2.2.2.2.2.2.2.2.2.2.2.2.2.2.2.2.1, cell_later d1 hHeld.2.2.2.2.2.2.2.2.2.2.2.2.2.2.2.2.2.2.2.2.2.2.2.1, Below.trans hHeld.2.2.2.2.2.2.2.2.2.2.2.2.2.2.2.2.2.2.2.2.2.2.2.2 (d1.mono hHeld.2.2.2.2.2.2.2.2.2.2.2.2.2.2.2.2.2.2.2.2.2.2.2.2.size)⟩ (fun hHeld => ?_)
  clear hK K
  try simp only [Act.put, List.setIfInBounds_toArray, List.set_cons_zero, List.set_cons_succ]
  try dsimp only
  refine take_at (i := 3) (v := ?_) rfl (by kernel_rfl) (by kernel_rfl) (by kernel_rfl) (fun _ _ _ h => h) (Or.inl ⟨by rfl, ?_⟩) hHeld ?_
  rotate_left
  · intro w hSw
    (try dsimp only at hSw)
    go_simp
    try with_reducible rfl
  try simp only [Act.put, List.setIfInBounds_toArray, List.set_cons_zero, List.set_cons_succ]
  try dsimp only
  refine take_at (i := 4) (v := ?_) rfl (by kernel_rfl) (by kernel_rfl) (by kernel_rfl) (fun _ _ _ h => h) (Or.inl ⟨by rfl, ?_⟩) hHeld ?_
  rotate_left
  · intro w hSw
    (try dsimp only at hSw)
    go_simp
    try with_reducible rfl
  try simp only [Act.put, List.setIfInBounds_toArray, List.set_cons_zero, List.set_cons_succ]
  try dsimp only
  refine take_at (i := 5) (v := ?_) rfl (by kernel_rfl) (by kernel_rfl) (by kernel_rfl) (fun _ _ _ h => h) (Or.inl ⟨by rfl, ?_⟩) hHeld ?_
  rotate_left
  · intro w hSw
    (try dsimp only at hSw)
    go_simp
    try with_reducible rfl
  try simp only [Act.put, List.setIfInBounds_toArray, List.set_cons_zero, List.set_cons_succ]
  try dsimp only
  refine take_at (i := 6) (v := ?_) rfl (by kernel_rfl) (by kernel_rfl) (by kernel_rfl) (fun _ _ _ h => h) (Or.inl ⟨by rfl, ?_⟩) hHeld ?_
  rotate_left
  · intro w hSw
    (try dsimp only at hSw)
    go_simp
    try with_reducible rfl
  try simp only [Act.put, List.setIfInBounds_toArray, List.set_cons_zero, List.set_cons_succ]
  try dsimp only
  refine wpAnyH_ready (rs := [7]) (by kernel_rfl) (by simp) ?_
  refine cons_at rfl (fun K hK => ?_) AllReadyH.nil
  go_simp
  refine (hv2.out _ hHeld.2.2.2.2.2.2.2.2.2.2.2.2.2.2.2.2.2.2.2.2.2.2.2.2).mono ?_
  rintro e v2 ⟨rfl, d2⟩
  refine hK.out _ _ ⟨cell_later d2 hHeld.1, cell_later d2 hHeld.2.1, cell_later d2 hHeld.2.2.1, cell_later d2 hHeld.2.2.2.1, cell_later d2 hHeld.2.2.2.2.1, cell_later d2 hHeld.2.2.2.2.2.1, cell_later d2 hHeld.2.2.2.2.2.2.1, cell_later d2 hHeld.2.2.2.2.2.2.2.1, cell_later d2 hHeld.2.2.2.2.2.2.2.2.1, cell_later d2 hHeld.2.2.2.2.2.2.2.2.2.1, cell_later d2 hHeld.2.2.2.2.2.2.2.2.2.2.1, cell_later d2 hHeld.2.2.2.2.2.2.2.2.2.2.2.1, cell_later d2 hHeld.2.2.2.2.2.2.2.2.2.2.2.2.1, cell_later d2 hHeld.2.2.2.2.2.2.2.2.2.2.2.2.2.1, cell_later d2 hHeld.2.2.2.2.2.2.2.2.2.2.2.2.2.2.1, cell_later d2 hHeld.2.2.2.2.2.2.2.2.2.2.2.2.2.2.2.1, cell_later d2 hHeld.2.2.2.2.2.2.2.2.2.2.2.2.2.2.2.2.1, cell_later d2 hHeld.2.2.2.2.2.2.2.2.2.2.2.2.2.2.2.2.2.1, cell_later d2 hHeld.2.2.2.2.2.2.2.2.2.2.2.2.2.2.2.2.2.2.1, cell_later d2 hHeld.2.2.2.2.2.2.2.2.2.2.2.2.2.2.2.2.2.2.2.1, cell_later d2 hHeld.2.2.2.2.2.2.2.2.2.2.2.2.2.2.2.2.2.2.2.2.1, cell_later d2 hHeld.2.2.2.2.2.2.2.2.2.2.2.2.2.2.2.2.2.2.2.2.2.1, cell_later d2 hHeld.2.2.2.2.2.2.2.2.2.2.2.2.2.2.2.2.2.2.2.2.2.2.1, cell_later d2 hHeld.2.2.2.2.2.2.2.2.2.2.2.2.2.2.2.2.2.2.2.2.2.2.2.1, Below.trans hHeld.2.2.2.2.2.2.2.2.2.2.2.2.2.2.2.2.2.2.2.2.2.2.2.2 (d2.mono hHeld.2.2.2.2.2.2.2.2.2.2.2.2.2.2.2.2.2.2.2.2.2.2.2.2.size)⟩ (fun hHeld => ?_)
  clear hK K
  try simp only [Act.put, List.setIfInBounds_toArray, List.set_cons_zero, List.set_cons_succ]
  try dsimp only
  refine take_at (i := 8) (v := ?_) rfl (by kernel_rfl) (by kernel_rfl) (by kernel_rfl) (fun _ _ _ h => h) (Or.inl ⟨by rfl, ?_⟩) hHeld ?_
  rotate_left
  · intro w hSw
    (try dsimp only at hSw)
    go_simp
    try with_reducible rfl
  try simp only [Act.put, List.setIfInBounds_toArray, List.set_cons_zero, List.set_cons_succ]
  try dsimp only
  refine take_at (i := 9) (v := ?_) rfl (by kernel_rfl) (by kernel_rfl) (by kernel_rfl) (fun _ _ _ h => h) (Or.inl ⟨by rfl, ?_⟩) hHeld ?_
  rotate_left
  · intro w hSw
    (try dsimp only at hSw)
    go_simp
    try with_reducible rfl
  try simp only [Act.put, List.setIfInBounds_toArray, List.set_cons_zero, List.set_cons_succ]
  try dsimp only
  refine take_at (i := 10) (v := ?_) rfl (by kernel_rfl) (by kernel_rfl) (by kernel_rfl) (fun _ _ _ h => h) (Or.inl ⟨by rfl, ?_⟩) hHeld ?_
  rotate_left
  · intro w hSw
    (try dsimp only at hSw)
    go_simp
    try with_reducible rfl
  try simp only [Act.put, List.setIfInBounds_toArray, List.set_cons_zero, List.set_cons_succ]
  try dsimp only
  refine take_at (i := 11) (v := ?_) rfl (by kernel_rfl) (by kernel_rfl) (by kernel_rfl) (fun _ _ _ h => h) (Or.inl ⟨by rfl, ?_⟩) hHeld ?_
  rotate_left
  · intro w hSw
    (try dsimp only at hSw)
    go_simp
    try with_reducible rfl
  try simp only [Act.put, List.setIfInBounds_toArray, List.set_cons_zero, List.set_cons_succ]
  try dsimp only
  refine wpAnyH_ready (rs := [12]) (by kernel_rfl) (by simp) ?_
  refine cons_at rfl (fun K hK => ?_) AllReadyH.nil
  go_simp
  refine (hn.out 99999 _).mono ?_
  rintro e v3 ⟨rfl, d3⟩
  refine hK.out _ _ ⟨cell_later d3 hHeld.1, cell_later d3 hHeld.2.1, cell_later d3 hHeld.2.2.1, cell_later d3 hHeld.2.2.2.1, cell_later d3 hHeld.2.2.2.2.1, cell_later d3 hHeld.2.2.2.2.2.1, cell_later d3 hHeld.2.2.2.2.2.2.1, cell_later d3 hHeld.2.2.2.2.2.2.2.1, cell_later d3 hHeld.2.2.2.2.2.2.2.2.1, cell_later d3 hHeld.2.2.2.2.2.2.2.2.2.1, cell_later d3 hHeld.2.2.2.2.2.2.2.2.2.2.1, cell_later d3 hHeld.2.2.2.2.2.2.2.2.2.2.2.1, cell_later d3 hHeld.2.2.2.2.2.2.2.2.2.2.2.2.1, cell_later d3 hHeld.2.2.2.2.2.2.2.2.2.2.2.2.2.1, cell_later d3 hHeld.2.2.2.2.2.2.2.2.2.2.2.2.2.2.1, cell_later d3 hHeld.2.2.2.2.2.2.2.2.2.2.2.2.2.2.2.1, cell_later d3 hHeld.2.2.2.2.2.2.2.2.2.2.2.2.2.2.2.2.1, cell_later d3 hHeld.2.2.2.2.2.2.2.2.2.2.2.2.2.2.2.2.2.1, cell_later d3 hHeld.2.2.2.2.2.2.2.2.2.2.2.2.2.2.2.2.2.2.1, cell_later d3 hHeld.2.2.2.2.2.2.2.2.2.2.2.2.2.2.2.2.2.2.2.1, cell_later d3 hHeld.2.2.2.2.2.2.2.2.2.2.2.2.2.2.2.2.2.2.2.2.1, cell_later d3 hHeld.2.2.2.2.2.2.2.2.2.2.2.2.2.2.2.2.2.2.2.2.2.1, cell_later d3 hHeld.2.2.2.2.2.2.2.2.2.2.2.2.2.2.2.2.2.2.2.2.2.2.1, cell_later d3 hHeld.2.2.2.2.2.2.2.2.2.2.2.2.2.2.2.2.2.2.2.2.2.2.2.1, Below.trans hHeld.2.2.2.2.2.2.2.2.2.2.2.2.2.2.2.2.2.2.2.2.2.2.2.2 (d3.mono hHeld.2.2.2.2.2.2.2.2.2.2.2.2.2.2.2.2.2.2.2.2.2.2.2.2.size)⟩ (fun hHeld => ?_)
  clear hK K
  try simp only [Act.put, List.setIfInBounds_toArray, List.set_cons_zero, List.set_cons_succ]
  try dsimp only
  refine wpAnyH_ready (rs := [13]) (by kernel_rfl) (by simp) ?_
  refine cons_at rfl (fun K hK => ?_) AllReadyH.nil
  go_simp
  refine (hn.out 99999 _).mono ?_
  rintro e v4 ⟨rfl, d4⟩
  refine hK.out _ _ ⟨cell_later d4 hHeld.1, cell_later d4 hHeld.2.1, cell_later d4 hHeld.2.2.1, cell_later d4 hHeld.2.2.2.1, cell_later d4 hHeld.2.2.2.2.1, cell_later d4 hHeld.2.2.2.2.2.1, cell_later d4 hHeld.2.2.2.2.2.2.1, cell_later d4 hHeld.2.2.2.2.2.2.2.1, cell_later d4 hHeld.2.2.2.2.2.2.2.2.1, cell_later d4 hHeld.2.2.2.2.2.2.2.2.2.1, cell_later d4 hHeld.2.2.2.2.2.2.2.2.2.2.1, cell_later d4 hHeld.2.2.2.2.2.2.2.2.2.2.2.1, cell_later d4 hHeld.2.2.2.2.2.2.2.2.2.2.2.2.1, cell_later d4 hHeld.2.2.2.2.2.2.2.2.2.2.2.2.2.1, cell_later d4 hHeld.2.2.2.2.2.2.2.2.2.2.2.2.2.2.1, cell_later d4 hHeld.2.2.2.2.2.2.2.2.2.2.2.2.2.2.2.1, cell_later d4 hHeld.2.2.2.2.2.2.2.2.2.2.2.2.2.2.2.2.1, cell_later d4 hHeld.2.2.2.2.2.2.2.2.2.2.2.2.2.2.2.2.2.1, cell_later d4 hHeld.2.2.2.2.2.2.2.2.2.2.2.2.2.2.2.2.2.2.1, cell_later d4 hHeld.2.2.2.2.2.2.2.2.2.2.2.2.2.2.2.2.2.2.2.1, cell_later d4 hHeld.2.2.2.2.2.2.2.2.2.2.2.2.2.2.2.2.2.2.2.2.1, cell_later d4 hHeld.2.2.2.2.2.2.2.2.2.2.2.2.2.2.2.2.2.2.2.2.2.1, cell_later d4 hHeld.2.2.2.2.2.2.2.2.2.2.2.2.2.2.2.2.2.2.2.2.2.2.1, cell_later d4 hHeld.2.2.2.2.2.2.2.2.2.2.2.2.2.2.2.2.2.2.2.2.2.2.2.1, Below.trans hHeld.2.2.2.2.2.2.2.2.2.2.2.2.2.2.2.2.2.2.2.2.2.2.2.2 (d4.mono hHeld.2.2.2.2.2.2.2.2.2.2.2.2.2.2.2.2.2.2.2.2.2.2.2.2.size)⟩ (fun hHeld => ?_)
  clear hK K
  try simp only [Act.put, List.setIfInBounds_toArray, List.set_cons_zero, List.set_cons_succ]
  try dsimp only
  refine wpAnyH_ready (rs := [14]) (by kernel_rfl) (by simp) ?_
  refine cons_at rfl (fun K hK => ?_) AllReadyH.nil
  go_simp
  refine (hb1.out _).mono ?_
  rintro e v5 ⟨⟨g5, rfl, hx5⟩, d5⟩
  refine hK.out _ _ ⟨cell_later d5 hHeld.1, cell_later d5 hHeld.2.1, cell_later d5 hHeld.2.2.1, cell_later d5 hHeld.2.2.2.1, cell_later d5 hHeld.2.2.2.2.1, cell_later d5 hHeld.2.2.2.2.2.1, cell_later d5 hHeld.2.2.2.2.2.2.1, cell_later d5 hHeld.2.2.2.2.2.2.2.1, cell_later d5 hHeld.2.2.2.2.2.2.2.2.1, cell_later d5 hHeld.2.2.2.2.2.2.2.2.2.1, cell_later d5 hHeld.2.2.2.2.2.2.2.2.2.2.1, cell_later d5 hHeld.2.2.2.2.2.2.2.2.2.2.2.1, cell_later d5 hHeld.2.2.2.2.2.2.2.2.2.2.2.2.1, cell_later d5 hHeld.2.2.2.2.2.2.2.2.2.2.2.2.2.1, cell_later d5 hHeld.2.2.2.2.2.2.2.2.2.2.2.2.2.2.1, cell_later d5 hHeld.2.2.2.2.2.2.2.2.2.2.2.2.2.2.2.1, cell_later d5 hHeld.2.2.2.2.2.2.2.2.2.2.2.2.2.2.2.2.1, cell_later d5 hHeld.2.2.2.2.2.2.2.2.2.2.2.2.2.2.2.2.2.1, cell_later d5 hHeld.2.2.2.2.2.2.2.2.2.2.2.2.2.2.2.2.2.2.1, cell_later d5 hHeld.2.2.2.2.2.2.2.2.2.2.2.2.2.2.2.2.2.2.2.1, cell_later d5 hHeld.2.2.2.2.2.2.2.2.2.2.2.2.2.2.2.2.2.2.2.2.1, cell_later d5 hHeld.2.2.2.2.2.2.2.2.2.2.2.2.2.2.2.2.2.2.2.2.2.1, cell_later d5 hHeld.2.2.2.2.2.2.2.2.2.2.2.2.2.2.2.2.2.2.2.2.2.2.1, cell_later d5 hHeld.2.2.2.2.2.2.2.2.2.2.2.2.2.2.2.2.2.2.2.2.2.2.2.1, Below.trans hHeld.2.2.2.2.2.2.2.2.2.2.2.2.2.2.2.2.2.2.2.2.2.2.2.2 (d5.mono hHeld.2.2.2.2.2.2.2.2.2.2.2.2.2.2.2.2.2.2.2.2.2.2.2.2.size)⟩ (fun hHeld => ?_)
  clear hK K
  try simp only [Act.put, List.setIfInBounds_toArray, List.set_cons_zero, List.set_cons_succ]
  try dsimp only
  refine wpAnyH_ready (rs := [15]) (by kernel_rfl) (by simp) ?_
  refine cons_at rfl (fun K hK => ?_) AllReadyH.nil
  go_simp
  refine (hv3.out _ hHeld.2.2.2.2.2.2.2.2.2.2.2.2.2.2.2.2.2.2.2.2.2.2.2.2 g5 hx5).mono ?_
  rintro e v6 ⟨rfl, d6⟩
  refine hK.out _ _ ⟨cell_later d6 hHeld.1, cell_later d6 hHeld.2.1, cell_later d6 hHeld.2.2.1, cell_later d6 hHeld.2.2.2.1, cell_later d6 hHeld.2.2.2.2.1, cell_later d6 hHeld.2.2.2.2.2.1, cell_later d6 hHeld.2.2.2.2.2.2.1, cell_later d6 hHeld.2.2.2.2.2.2.2.1, cell_later d6 hHeld.2.2.2.2.2.2.2.2.1, cell_later d6 hHeld.2.2.2.2.2.2.2.2.2.1, cell_later d6 hHeld.2.2.2.2.2.2.2.2.2.2.1, cell_later d6 hHeld.2.2.2.2.2.2.2.2.2.2.2.1, cell_later d6 hHeld.2.2.2.2.2.2.2.2.2.2.2.2.1, cell_later d6 hHeld.2.2.2.2.2.2.2.2.2.2.2.2.2.1, cell_later d6 hHeld.2.2.2.2.2.2.2.2.2.2.2.2.2.2.1, cell_later d6 hHeld.2.2.2.2.2.2.2.2.2.2.2.2.2.2.2.1, cell_later d6 hHeld.2.2.2.2.2.2.2.2.2.2.2.2.2.2.2.2.1, cell_later d6 hHeld.2.2.2.2.2.2.2.2.2.2.2.2.2.2.2.2.2.1, cell_later d6 hHeld.2.2.2.2.2.2.2.2.2.2.2.2.2.2.2.2.2.2.1, cell_later d6 hHeld.2.2.2.2.2.2.2.2.2.2.2.2.2.2.2.2.2.2.2.1, cell_later d6 hHeld.2.2.2.2.2.2.2.2.2.2.2.2.2.2.2.2.2.2.2.2.1, cell_later d6 hHeld.2.2.2.2.2.2.2.2.2.2.2.2.2.2.2.2.2.2.2.2.2.1, cell_later d6 hHeld.2.2.2.2.2.2.2.2.2.2.2.2.2.2.2.2.2.2.2.2.2.2.1, cell_later d6 hHeld.2.2.2.2.2.2.2.2.2.2.2.2.2.2.2.2.2.2.2.2.2.2.2.1, Below.trans hHeld.2.2.2.2.2.2.2.2.2.2.2.2.2.2.2.2.2.2.2.2.2.2.2.2 (d6.mono hHeld.2.2.2.2.2.2.2.2.2.2.2.2.2.2.2.2.2.2.2.2.2.2.2.2.size)⟩ (fun hHeld => ?_)
  clear hK K
  try simp only [Act.put, List.setIfInBounds_toArray, List.set_cons_zero, List.set_cons_succ]
  try dsimp only
  refine take_at (i := 16) (v := ?_) rfl (by kernel_rfl) (by kernel_rfl) (by kernel_rfl) (fun _ _ _ h => h) (Or.inl ⟨by rfl, ?_⟩) hHeld ?_
  rotate_left
  · intro w hSw
    (try dsimp only at hSw)
    go_simp
    try with_reducible rfl
  try simp only [Act.put, List.setIfInBounds_toArray, List.set_cons_zero, List.set_cons_succ]
  try dsimp only
  refine take_at (i := 17) (v := ?_) rfl (by kernel_rfl) (by kernel_rfl) (by kernel_rfl) (fun _ _ _ h => h) (Or.inl ⟨by rfl, ?_⟩) hHeld ?_
  rotate_left
  · intro w hSw
    (try dsimp only at hSw)
    go_simp
    try with_reducible rfl
  try simp only [Act.put, List.setIfInBounds_toArray, List.set_cons_zero, List.set_cons_succ]
  try dsimp only
  refine take_at (i := 18) (v := ?_) rfl (by kernel_rfl) (by kernel_rfl) (by kernel_rfl) (fun _ _ _ h => h) (Or.inl ⟨by rfl, ?_⟩) hHeld ?_
  rotate_left
  · intro w hSw
    (try dsimp only at hSw)
    go_simp
    try with_reducible rfl
  try simp only [Act.put, List.setIfInBounds_toArray, List.set_cons_zero, List.set_cons_succ]
  try dsimp only
  refine take_at (i := 19) (v := ?_) rfl (by kernel_rfl) (by kernel_rfl) (by kernel_rfl) (fun _ _ _ h => h) (Or.inl ⟨by rfl, ?_⟩) hHeld ?_
  rotate_left
  · intro w hSw
    (try dsimp only at hSw)
    go_simp
    try with_reducible rfl
  try simp only [Act.put, List.setIfInBounds_toArray, List.set_cons_zero, List.set_cons_succ]
  try dsimp only
  refine wpAnyH_ready (rs := [20]) (by kernel_rfl) (by simp) ?_
  refine cons_at rfl (fun K hK => ?_) AllReadyH.nil
  go_simp
  refine (hn.out 1 _).mono ?_
  rintro e v7 ⟨rfl, d7⟩
  refine hK.out _ _ ⟨cell_later d7 hHeld.1, cell_later d7 hHeld.2.1, cell_later d7 hHeld.2.2.1, cell_later d7 hHeld.2.2.2.1, cell_later d7 hHeld.2.2.2.2.1, cell_later d7 hHeld.2.2.2.2.2.1, cell_later d7 hHeld.2.2.2.2.2.2.1, cell_later d7 hHeld.2.2.2.2.2.2.2.1, cell_later d7 hHeld.2.2.2.2.2.2.2.2.1, cell_later d7 hHeld.2.2.2.2.2.2.2.2.2.1, cell_later d7 hHeld.2.2.2.2.2.2.2.2.2.2.1, cell_later d7 hHeld.2.2.2.2.2.2.2.2.2.2.2.1, cell_later d7 hHeld.2.2.2.2.2.2.2.2.2.2.2.2.1, cell_later d7 hHeld.2.2.2.2.2.2.2.2.2.2.2.2.2.1, cell_later d7 hHeld.2.2.2.2.2.2.2.2.2.2.2.2.2.2.1, cell_later d7 hHeld.2.2.2.2.2.2.2.2.2.2.2.2.2.2.2.1, cell_later d7 hHeld.2.2.2.2.2.2.2.2.2.2.2.2.2.2.2.2.1, cell_later d7 hHeld.2.2.2.2.2.2.2.2.2.2.2.2.2.2.2.2.2.1, cell_later d7 hHeld.2.2.2.2.2.2.2.2.2.2.2.2.2.2.2.2.2.2.1, cell_later d7 hHeld.2.2.2.2.2.2.2.2.2.2.2.2.2.2.2.2.2.2.2.1, cell_later d7 hHeld.2.2.2.2.2.2.2.2.2.2.2.2.2.2.2.2.2.2.2.2.1, cell_later d7 hHeld.2.2.2.2.2.2.2.2.2.2.2.2.2.2.2.2.2.2.2.2.2.1, cell_later d7 hHeld.2.2.2.2.2.2.2.2.2.2.2.2.2.2.2.2.2.2.2.2.2.2.1, cell_later d7 hHeld.2.2.2.2.2.2.2.2.2.2.2.2.2.2.2.2.2.2.2.2.2.2.2.1, Below.trans hHeld.2.2.2.2.2.2.2.2.2.2.2.2.2.2.2.2.2.2.2.2.2.2.2.2 (d7.mono hHeld.2.2.2.2.2.2.2.2.2.2.2.2.2.2.2.2.2.2.2.2.2.2.2.2.size)⟩ (fun hHeld => ?_)
  clear hK K
  try simp only [Act.put, List.setIfInBounds_toArray, List.set_cons_zero, List.set_cons_succ]
  try dsimp only
  refine wpAnyH_ready (rs := [21]) (by kernel_rfl) (by simp) ?_
  refine cons_at rfl (fun K hK => ?_) AllReadyH.nil
  go_simp
  refine (hn.out 2 _).mono ?_
  rintro e v8 ⟨rfl, d8⟩
  refine hK.out _ _ ⟨cell_later d8 hHeld.1, cell_later d8 hHeld.2.1, cell_later d8 hHeld.2.2.1, cell_later d8 hHeld.2.2.2.1, cell_later d8 hHeld.2.2.2.2.1, cell_later d8 hHeld.2.2.2.2.2.1, cell_later d8 hHeld.2.2.2.2.2.2.1, cell_later d8 hHeld.2.2.2.2.2.2.2.1, cell_later d8 hHeld.2.2.2.2.2.2.2.2.1, cell_later d8 hHeld.2.2.2.2.2.2.2.2.2.1, cell_later d8 hHeld.2.2.2.2.2.2.2.2.2.2.1, cell_later d8 hHeld.2.2.2.2.2.2.2.2.2.2.2.1, cell_later d8 hHeld.2.2.2.2.2.2.2.2.2.2.2.2.1, cell_later d8 hHeld.2.2.2.2.2.2.2.2.2.2.2.2.2.1, cell_later d8 hHeld.2.2.2.2.2.2.2.2.2.2.2.2.2.2.1, cell_later d8 hHeld.2.2.2.2.2.2.2.2.2.2.2.2.2.2.2.1, cell_later d8 hHeld.2.2.2.2.2.2.2.2.2.2.2.2.2.2.2.2.1, cell_later d8 hHeld.2.2.2.2.2.2.2.2.2.2.2.2.2.2.2.2.2.1, cell_later d8 hHeld.2.2.2.2.2.2.2.2.2.2.2.2.2.2.2.2.2.2.1, cell_later d8 hHeld.2.2.2.2.2.2.2.2.2.2.2.2.2.2.2.2.2.2.2.1, cell_later d8 hHeld.2.2.2.2.2.2.2.2.2.2.2.2.2.2.2.2.2.2.2.2.1, cell_later d8 hHeld.2.2.2.2.2.2.2.2.2.2.2.2.2.2.2.2.2.2.2.2.2.1, cell_later d8 hHeld.2.2.2.2.2.2.2.2.2.2.2.2.2.2.2.2.2.2.2.2.2.2.1, cell_later d8 hHeld.2.2.2.2.2.2.2.2.2.2.2.2.2.2.2.2.2.2.2.2.2.2.2.1, Below.trans hHeld.2.2.2.2.2.2.2.2.2.2.2.2.2.2.2.2.2.2.2.2.2.2.2.2 (d8.mono hHeld.2.2.2.2.2.2.2.2.2.2.2.2.2.2.2.2.2.2.2.2.2.2.2.2.size)⟩ (fun hHeld => ?_)
  clear hK K
  try simp only [Act.put, List.setIfInBounds_toArray, List.set_cons_zero, List.set_cons_succ]
  try dsimp only
  refine wpAnyH_ready (rs := [22]) (by kernel_rfl) (by simp) ?_
  refine cons_at rfl (fun K hK => ?_) AllReadyH.nil
  go_simp
  refine (hb2.out _).mono ?_
  rintro e v9 ⟨⟨g9, rfl, hx9⟩, d9⟩
  refine hK.out _ _ ⟨cell_later d9 hHeld.1, cell_later d9 hHeld.2.1, cell_later d9 hHeld.2.2.1, cell_later d9 hHeld.2.2.2.1, cell_later d9 hHeld.2.2.2.2.1, cell_later d9 hHeld.2.2.2.2.2.1, cell_later d9 hHeld.2.2.2.2.2.2.1, cell_later d9 hHeld.2.2.2.2.2.2.2.1, cell_later d9 hHeld.2.2.2.2.2.2.2.2.1, cell_later d9 hHeld.2.2.2.2.2.2.2.2.2.1, cell_later d9 hHeld.2.2.2.2.2.2.2.2.2.2.1, cell_later d9 hHeld.2.2.2.2.2.2.2.2.2.2.2.1, cell_later d9 hHeld.2.2.2.2.2.2.2.2.2.2.2.2.1, cell_later d9 hHeld.2.2.2.2.2.2.2.2.2.2.2.2.2.1, cell_later d9 hHeld.2.2.2.2.2.2.2.2.2.2.2.2.2.2.1, cell_later d9 hHeld.2.2.2.2.2.2.2.2.2.2.2.2.2.2.2.1, cell_later d9 hHeld.2.2.2.2.2.2.2.2.2.2.2.2.2.2.2.2.1, cell_later d9 hHeld.2.2.2.2.2.2.2.2.2.2.2.2.2.2.2.2.2.1, cell_later d9 hHeld.2.2.2.2.2.2.2.2.2.2.2.2.2.2.2.2.2.2.1, cell_later d9 hHeld.2.2.2.2.2.2.2.2.2.2.2.2.2.2.2.2.2.2.2.1, cell_later d9 hHeld.2.2.2.2.2.2.2.2.2.2.2.2.2.2.2.2.2.2.2.2.1, cell_later d9 hHeld.2.2.2.2.2.2.2.2.2.2.2.2.2.2.2.2.2.2.2.2.2.1, cell_later d9 hHeld.2.2.2.2.2.2.2.2.2.2.2.2.2.2.2.2.2.2.2.2.2.2.1, cell_later d9 hHeld.2.2.2.2.2.2.2.2.2.2.2.2.2.2.2.2.2.2.2.2.2.2.2.1, Below.trans hHeld.2.2.2.2.2.2.2.2.2.2.2.2.2.2.2.2.2.2.2.2.2.2.2.2 (d9.mono hHeld.2.2.2.2.2.2.2.2.2.2.2.2.2.2.2.2.2.2.2.2.2.2.2.2.size)⟩ (fun hHeld => ?_)
  clear hK K
  try simp only [Act.put, List.setIfInBounds_toArray, List.set_cons_zero, List.set_cons_succ]
  try dsimp only
  refine wpAnyH_ready (rs := [23]) (by kernel_rfl) (by simp) ?_
  refine cons_at rfl (fun K hK => ?_) AllReadyH.nil
  go_simp
  refine (hv4.out _ hHeld.2.2.2.2.2.2.2.2.2.2.2.2.2.2.2.2.2.2.2.2.2.2.2.2 g9 hx9).mono ?_
  rintro e v10 ⟨rfl, d10⟩
  refine hK.out _ _ ⟨cell_later d10 hHeld.1, cell_later d10 hHeld.2.1, cell_later d10 hHeld.2.2.1, cell_later d10 hHeld.2.2.2.1, cell_later d10 hHeld.2.2.2.2.1, cell_later d10 hHeld.2.2.2.2.2.1, cell_later d10 hHeld.2.2.2.2.2.2.1, cell_later d10 hHeld.2.2.2.2.2.2.2.1, cell_later d10 hHeld.2.2.2.2.2.2.2.2.1, cell_later d10 hHeld.2.2.2.2.2.2.2.2.2.1, cell_later d10 hHeld.2.2.2.2.2.2.2.2.2.2.1, cell_later d10 hHeld.2.2.2.2.2.2.2.2.2.2.2.1, cell_later d10 hHeld.2.2.2.2.2.2.2.2.2.2.2.2.1, cell_later d10 hHeld.2.2.2.2.2.2.2.2.2.2.2.2.2.1, cell_later d10 hHeld.2.2.2.2.2.2.2.2.2.2.2.2.2.2.1, cell_later d10 hHeld.2.2.2.2.2.2.2.2.2.2.2.2.2.2.2.1, cell_later d10 hHeld.2.2.2.2.2.2.2.2.2.2.2.2.2.2.2.2.1, cell_later d10 hHeld.2.2.2.2.2.2.2.2.2.2.2.2.2.2.2.2.2.1, cell_later d10 hHeld.2.2.2.2.2.2.2.2.2.2.2.2.2.2.2.2.2.2.1, cell_later d10 hHeld.2.2.2.2.2.2.2.2.2.2.2.2.2.2.2.2.2.2.2.1, cell_later d10 hHeld.2.2.2.2.2.2.2.2.2.2.2.2.2.2.2.2.2.2.2.2.1, cell_later d10 hHeld.2.2.2.2.2.2.2.2.2.2.2.2.2.2.2.2.2.2.2.2.2.1, cell_later d10 hHeld.2.2.2.2.2.2.2.2.2.2.2.2.2.2.2.2.2.2.2.2.2.2.1, cell_later d10 hHeld.2.2.2.2.2.2.2.2.2.2.2.2.2.2.2.2.2.2.2.2.2.2.2.1, Below.trans hHeld.2.2.2.2.2.2.2.2.2.2.2.2.2.2.2.2.2.2.2.2.2.2.2.2 (d10.mono hHeld.2.2.2.2.2.2.2.2.2.2.2.2.2.2.2.2.2.2.2.2.2.2.2.2.size)⟩ (fun hHeld => ?_)
  clear hK K
  try simp only [Act.put, List.setIfInBounds_toArray, List.set_cons_zero, List.set_cons_succ]
  try dsimp only
  refine take_at (i := 24) (v := ?_) rfl (by kernel_rfl) (by kernel_rfl) (by kernel_rfl) (fun _ _ _ h => h) (Or.inl ⟨by rfl, ?_⟩) hHeld ?_
  rotate_left
  · intro w hSw
    (try dsimp only at hSw)
    go_simp
    try with_reducible rfl
  try simp only [Act.put, List.setIfInBounds_toArray, List.set_cons_zero, List.set_cons_succ]
  try dsimp only
  refine take_at (i := 25) (v := ?_) rfl (by kernel_rfl) (by kernel_rfl) (by kernel_rfl) (fun _ _ _ h => h) (Or.inl ⟨by rfl, ?_⟩) hHeld ?_
  rotate_left
  · intro w hSw
    (try dsimp only at hSw)
    go_simp
    try with_reducible rfl
  try simp only [Act.put, List.setIfInBounds_toArray, List.set_cons_zero, List.set_cons_succ]
  try dsimp only
  refine take_at (i := 26) (v := ?_) rfl (by kernel_rfl) (by kernel_rfl) (by kernel_rfl) (fun _ _ _ h => h) (Or.inl ⟨by rfl, ?_⟩) hHeld ?_
  rotate_left
  · intro w hSw
    (try dsimp only at hSw)
    go_simp
    try with_reducible rfl
  try simp only [Act.put, List.setIfInBounds_toArray, List.set_cons_zero, List.set_cons_succ]
  try dsimp only
  refine take_at (i := 27) (v := ?_) rfl (by kernel_rfl) (by kernel_rfl) (by kernel_rfl) (fun _ _ _ h => h) (Or.inl ⟨by rfl, ?_⟩) hHeld ?_
  rotate_left
  · intro w hSw
    (try dsimp only at hSw)
    go_simp
    try with_reducible rfl
  try simp only [Act.put, List.setIfInBounds_toArray, List.set_cons_zero, List.set_cons_succ]
  try dsimp only
  refine take_at (i := 28) (v := ?_) rfl (by kernel_rfl) (by kernel_rfl) (by kernel_rfl) (fun _ _ _ h => h) (Or.inl ⟨by rfl, ?_⟩) hHeld ?_
  rotate_left
  · intro w hSw
    (try dsimp only at hSw)
    go_simp
    try with_reducible rfl
  try simp only [Act.put, List.setIfInBounds_toArray, List.set_cons_zero, List.set_cons_succ]
  try dsimp only
  refine wpAnyH_ready (rs := [29]) (by kernel_rfl) (by simp) ?_
  refine cons_at rfl (fun K hK => ?_) AllReadyH.nil
  go_simp
  refine (hv5.out _ hHeld.2.2.2.2.2.2.2.2.2.2.2.2.2.2.2.2.2.2.2.2.2.2.2.2).mono ?_
  rintro e v11 ⟨rfl, d11⟩
  refine hK.out _ _ ⟨cell_later d11 hHeld.1, cell_later d11 hHeld.2.1, cell_later d11 hHeld.2.2.1, cell_later d11 hHeld.2.2.2.1, cell_later d11 hHeld.2.2.2.2.1, cell_later d11 hHeld.2.2.2.2.2.1, cell_later d11 hHeld.2.2.2.2.2.2.1, cell_later d11 hHeld.2.2.2.2.2.2.2.1, cell_later d11 hHeld.2.2.2.2.2.2.2.2.1, cell_later d11 hHeld.2.2.2.2.2.2.2.2.2.1, cell_later d11 hHeld.2.2.2.2.2.2.2.2.2.2.1, cell_later d11 hHeld.2.2.2.2.2.2.2.2.2.2.2.1, cell_later d11 hHeld.2.2.2.2.2.2.2.2.2.2.2.2.1, cell_later d11 hHeld.2.2.2.2.2.2.2.2.2.2.2.2.2.1, cell_later d11 hHeld.2.2.2.2.2.2.2.2.2.2.2.2.2.2.1, cell_later d11 hHeld.2.2.2.2.2.2.2.2.2.2.2.2.2.2.2.1, cell_later d11 hHeld.2.2.2.2.2.2.2.2.2.2.2.2.2.2.2.2.1, cell_later d11 hHeld.2.2.2.2.2.2.2.2.2.2.2.2.2.2.2.2.2.1, cell_later d11 hHeld.2.2.2.2.2.2.2.2.2.2.2.2.2.2.2.2.2.2.1, cell_later d11 hHeld.2.2.2.2.2.2.2.2.2.2.2.2.2.2.2.2.2.2.2.1, cell_later d11 hHeld.2.2.2.2.2.2.2.2.2.2.2.2.2.2.2.2.2.2.2.2.1, cell_later d11 hHeld.2.2.2.2.2.2.2.2.2.2.2.2.2.2.2.2.2.2.2.2.2.1, cell_later d11 hHeld.2.2.2.2.2.2.2.2.2.2.2.2.2.2.2.2.2.2.2.2.2.2.1, cell_later d11 hHeld.2.2.2.2.2.2.2.2.2.2.2.2.2.2.2.2.2.2.2.2.2.2.2.1, Below.trans hHeld.2.2.2.2.2.2.2.2.2.2.2.2.2.2.2.2.2.2.2.2.2.2.2.2 (d11.mono hHeld.2.2.2.2.2.2.2.2.2.2.2.2.2.2.2.2.2.2.2.2.2.2.2.2.size)⟩ (fun hHeld => ?_)
  clear hK K
  try simp only [Act.put, List.setIfInBounds_toArray, List.set_cons_zero, List.set_cons_succ]
  try dsimp only
  refine take_at (i := 30) (v := ?_) rfl (by kernel_rfl) (by kernel_rfl) (by kernel_rfl) (fun _ _ _ h => h) (Or.inl ⟨by rfl, ?_⟩) hHeld ?_
  rotate_left
  · intro w hSw
    (try dsimp only at hSw)
    go_simp
    try with_reducible rfl
  try simp only [Act.put, List.setIfInBounds_toArray, List.set_cons_zero, List.set_cons_succ]
  try dsimp only
  refine take_at (i := 31) (v := ?_) rfl (by kernel_rfl) (by kernel_rfl) (by kernel_rfl) (fun _ _ _ h => h) (Or.inl ⟨by rfl, ?_⟩) hHeld ?_
  rotate_left
  · intro w hSw
    (try dsimp only at hSw)
    go_simp
    try with_reducible rfl
  try simp only [Act.put, List.setIfInBounds_toArray, List.set_cons_zero, List.set_cons_succ]
  try dsimp only
  refine take_at (i := 32) (v := ?_) rfl (by kernel_rfl) (by kernel_rfl) (by kernel_rfl) (fun _ _ _ h => h) (Or.inl ⟨by rfl, ?_⟩) hHeld ?_
  rotate_left
  · intro w hSw
    (try dsimp only at hSw)
    go_simp
    try with_reducible rfl
  try simp only [Act.put, List.setIfInBounds_toArray, List.set_cons_zero, List.set_cons_succ]
  try dsimp only
  refine wpAnyH_done (by kernel_rfl) ?_ _
  go_wp2_with fail
  go_ret
  exact ⟨rfl, BW3.out.trans (hHeld.2.2.2.2.2.2.2.2.2.2.2.2.2.2.2.2.2.2.2.2.2.2.2.2.mono BW3.out.size)⟩
end Go.Proofs.Ytlbbabojejimpaa
