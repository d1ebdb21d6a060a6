import Derived.Test.YtlbbabojejimpaaQEsLives
import Derived.Test.YtlbbabojejimpaaQEsGreat
import Derived.Test.YtlbbabojejimpaaQTbB
/- EvalSums of any table and expressions. -/
namespace Go.Proofs.Ytlbbabojejimpaa
open Go.RowKit Go.Lib

theorem getD_bd {t : Tb} {xs : List Cd} {ps : List Pc} {who : Nat} {i : Int} {d : Nat} {x : Ex} : -99999 ≤ (valE t xs ps who i d x).getD 0 ∧ (valE t xs ps who i d x).getD 0 ≤ 99999 := by
  cases h : valE t xs ps who i d x with
  | none => exact ⟨by simp, by simp⟩
  | some n => exact valE_bd h
theorem bndI_in {a : Int} (h : -99999 ≤ a ∧ a ≤ 99999) : bndI a = a := by unfold bndI; omega
def Gives (r : Int) (w : World) (e : Ending) (w' : World) : Prop := e = .returned (.int .i64 r) ∧ Below w.heap.size w w'
def Says (b : Bool) (w : World) (e : Ending) (w' : World) : Prop := e = .returned (.bool b) ∧ Below w.heap.size w w'
theorem value_two (t : Tb) (xs : List Cd) (ps : List Pc) (i : Int) (W : World) (hT : TabIn W t xs ps) : Calls Try.prog 7 #[.agg t.row, .int .u8 2, .int .i64 i, .agg (exV (numE 1) (.slice none 0 0)).toArray] W (Gives 0 W) := by
  by_cases hm : LifeOk t ∧ GoodB xs ps
  · exact Value_who t xs ps 2 i (numE 1) none 0 0 W hT hm.1 hm.2 (by omega)
  · exact Value_no t xs ps 2 i (numE 1) none 0 0 W hT hm
theorem may_some (t : Tb) (xs : List Cd) (ps : List Pc) (who : Nat) (i : Int) (w : World) (hT : TabIn w t xs ps) (hf : FewIn xs) : ∃ bm : Bool, Hid (∀ W, Below w.heap.size w W → Calls Try.prog 6 #[.agg t.row] W (Says bm W)) ∧
    Hid (bm = true → who ≤ 1 → ∀ W, Below w.heap.size w W → ∀ (D : Nat) (z : Ex) (q : Option Addr) (n c : Nat), ExC D W (exV z (.slice q n c)) z → Calls Try.prog 7 #[.agg t.row, .int .u8 who, .int .i64 i, .agg (exV z (.slice q n c)).toArray] W (Gives ((valE t xs ps who i 6 z).getD 0) W)) := by
  by_cases hm : LifeOk t ∧ GoodB xs ps
  · exact ⟨true, Lib.hid fun W hb => rmay_yes t xs ps W (hT.below hb) hm.1 hm.2, Lib.hid fun _ hw W hb D z q n c hz => Value_yes t xs ps who i z q n c W (hT.below hb) hm.1 hm.2 hf hw D fun W' hb' => ExC.stays _ _ _ _ _ hz hb'⟩
  · exact ⟨false, Lib.hid fun W hb => rmay_no t xs ps W (hT.below hb) hm, Lib.hid fun h => by cases h⟩
theorem bne_dec (b : Int) : (b != 0) = decide (b ≠ 0) := by
  by_cases h : b = 0
  · subst h; rfl
  · rw [decide_eq_true h]; simpa using h
theorem rows_cell {w : World} {g : Nat} {a b c8 c9 c10 : Int} {ty : TypeId} (hb : w.heap[g]? = some (.cells #[.int .i64 4, .int .i64 (a + b), .int .i64 5, .int .i64 (a - b), .int .i64 6, .int .i64 (a * b), .int .i64 7, .int .i64 (oneI (decide (a < b))), .int .i64 8, .int .i64 c8, .int .i64 9, .int .i64 c9, .int .i64 10, .int .i64 c10] ty (0, 0))) (h8 : c8 = rawV 8 a b) (h9 : c9 = rawV 9 a b) (h10 : c10 = rawV 10 a b) (k : Nat) (hk : k < 7) :
    w.cell? ⟨g, k * 2, none⟩ = some (.int .i64 ((4 + k : Nat) : Int)) ∧ w.cell? ⟨g, k * 2 + 1, none⟩ = some (.int .i64 (rawV (4 + k) a b)) := by
  subst h8 h9 h10
  rw [cell_blk hb, cell_blk hb]
  rcases (show k = 0 ∨ k = 1 ∨ k = 2 ∨ k = 3 ∨ k = 4 ∨ k = 5 ∨ k = 6 by omega) with rfl | rfl | rfl | rfl | rfl | rfl | rfl
  all_goals exact ⟨rfl, by first | rfl | (simp [rawV]; try omega)⟩
theorem oneI_cases (b : Bool) : oneI b = 0 ∨ oneI b = 1 := by cases b <;> simp [oneI]

set_option maxHeartbeats 32000000 in
set_option maxRecDepth 100000 in
theorem lawsums_any (t : Tb) (xs : List Cd) (ps : List Pc) (who : Nat) (i : Int) (x y : Ex) (xq yq : Option Addr) (xn xc yn yc D : Nat) (w : World) (hT : TabIn w t xs ps) (hf : FewIn xs) (hx : ExC D w (exV x (.slice xq xn xc)) x) (hy : ExC D w (exV y (.slice yq yn yc)) y) :
    Calls Try.prog 3 #[.agg t.row, .int .u8 who, .int .i64 i, .agg (exV x (.slice xq xn xc)).toArray, .agg (exV y (.slice yq yn yc)).toArray] w fun e w' => e = .returned (.bool true) ∧ Below w.heap.size w w' := by
  obtain ⟨w0, hw0⟩ : ∃ w0, w0 = ((w.alloc (.cells t.row 28)).alloc (.cells (exV x (.slice xq xn xc)).toArray 33)).alloc (.cells (exV y (.slice yq yn yc)).toArray 33) := ⟨_, rfl⟩
  have hb0 : Below w.heap.size w w0 := by rw [hw0]; exact (((Below.refl _ _).alloc (Nat.le_refl _) _).alloc (by simp) _).alloc (by simp; omega) _
  have HX0 : Hid (w0.heap[w.heap.size]? = some (.cells t.row 28 (0, 0))) := Lib.hid (by rw [hw0]; exact heap_older (heap_older (heap_alloc_new _ _)))
  have HY0 : Hid (w0.heap[w.heap.size + 1]? = some (.cells (exV x (.slice xq xn xc)).toArray 33 (0, 0))) := Lib.hid (by rw [hw0]; exact heap_older (heap_newer _ _ _ (by simp)))
  have HZ0 : Hid (w0.heap[w.heap.size + 1 + 1]? = some (.cells (exV y (.slice yq yn yc)).toArray 33 (0, 0))) := Lib.hid (by rw [hw0]; exact heap_newer _ _ _ (by simp))
  replace hT := hT.below hb0
  replace hx := ExC.stays _ _ _ _ _ hx hb0
  replace hy := ExC.stays _ _ _ _ _ hy hb0
  have hgr := Lib.hid fun (W : World) (hb : Below w0.heap.size w0 W) => great_any t xs ps W (hT.below hb)
  have hwx := Lib.hid fun (W : World) (hb : Below w0.heap.size w0 W) => wide_any 6 (by omega) D x _ W (ExC.stays _ _ _ _ _ hx hb)
  have hwy := Lib.hid fun (W : World) (hb : Below w0.heap.size w0 W) => wide_any 6 (by omega) D y _ W (ExC.stays _ _ _ _ _ hy hb)
  have htwo := Lib.hid fun (W : World) (hb : Below w0.heap.size w0 W) => value_two t xs ps i W (hT.below hb)
  have hliv := Lib.hid fun W => elives_any W
  have hn1 := Lib.hid fun W => number_any 1 W
  obtain ⟨bm, hmay, hval⟩ := may_some t xs ps who i w0 hT hf
  have hvx := Lib.hid fun (h1 : bm = true) (h2 : who ≤ 1) (W : World) (hb : Below w0.heap.size w0 W) => hval.out h1 h2 W hb D x xq xn xc (ExC.stays _ _ _ _ _ hx hb)
  have hvy := Lib.hid fun (h1 : bm = true) (h2 : who ≤ 1) (W : World) (hb : Below w0.heap.size w0 W) => hval.out h1 h2 W hb D y yq yn yc (ExC.stays _ _ _ _ _ hy hb)
  have hva := getD_bd (t := t) (xs := xs) (ps := ps) (who := who) (i := i) (d := 6) (x := x)
  have hvb := getD_bd (t := t) (xs := xs) (ps := ps) (who := who) (i := i) (d := 6) (x := y)
  generalize (valE t xs ps who i 6 x).getD 0 = a at hvx hva
  generalize (valE t xs ps who i 6 y).getD 0 = b at hvy hvb
  have hboth : Hid (∀ (o : Nat) (W : World), 4 ≤ o → o ≤ 10 → Calls Try.prog 11 #[.int .u8 o, .agg #[.int .u8 0, .int .i64 a, .int .u8 0, .int .u8 0, .int .u8 0, .int .u8 0, .slice none 0 0], .agg #[.int .u8 0, .int .i64 b, .int .u8 0, .int .u8 0, .int .u8 0, .int .u8 0, .slice none 0 0]] W fun e w' => (∃ g, e = .returned (.agg (exV (bothE o a b) (.slice (some ⟨g, 0, none⟩) 2 2)).toArray) ∧ ExC 2 w' (exV (bothE o a b) (.slice (some ⟨g, 0, none⟩) 2 2)) (bothE o a b)) ∧ Below W.heap.size W w') := Lib.hid fun o W _ h2 => both_any o a b W (by omega)
  have hvo : Hid (bm = true → who ≤ 1 → ∀ (o : Nat) (W : World) (g : Nat), 4 ≤ o → o ≤ 10 → Below w0.heap.size w0 W → ExC 2 W (exV (bothE o a b) (.slice (some ⟨g, 0, none⟩) 2 2)) (bothE o a b) → Calls Try.prog 7 #[.agg t.row, .int .u8 who, .int .i64 i, .agg (exV (bothE o a b) (.slice (some ⟨g, 0, none⟩) 2 2)).toArray] W (Gives (bndI (rawV o a b)) W)) := Lib.hid fun h1 h2 o W g h3 h4 hb hz => by
    have h := hval.out h1 h2 W hb 2 _ _ _ _ hz
    rw [bothE_val _ _ _ _ _ _ _ _ _ ⟨h3, h4⟩, bndI_in hva, bndI_in hvb] at h
    exact h
  have hvn : Hid (bm = true → who ≤ 1 → ∀ (W : World) (g : Nat), Below w0.heap.size w0 W → ExC 2 W (exV (notE a) (.slice (some ⟨g, 0, none⟩) 1 1)) (notE a) → Calls Try.prog 7 #[.agg t.row, .int .u8 who, .int .i64 i, .agg (exV (notE a) (.slice (some ⟨g, 0, none⟩) 1 1)).toArray] W (Gives (oneI (decide (a = 0))) W)) := Lib.hid fun h1 h2 W g hb hz => by
    have h := hval.out h1 h2 W hb 2 _ _ _ _ hz
    rw [notE_val, bndI_in hva, show rawV 11 a 0 = oneI (decide (a = 0)) from rfl, bndI_in (by rcases oneI_cases (decide (a = 0)) with h | h <;> omega)] at h
    exact h
  have HB0 := Lib.hid hb0
  have HW0 := Lib.hid hw0
  have hbit := Lib.hid fun b W => bit_any b W
  have hnum := Lib.hid fun k W => number_any k W
  have HVA := Lib.hid hva
  have HVB := Lib.hid hvb
  have B0 := Lib.hid (Below.refl w0.heap.size w0)
  clear hT hx hy hb0 hw0 hf hval hva hvb
  obtain ⟨xo, xm, xd, ⟨xe, xf, xg⟩, xa⟩ := x
  obtain ⟨yo, ym, yd, ⟨ye, yf, yg⟩, ya⟩ := y
  simp only [Tb.row, exV, numE, notE, Ex.op, Ex.n, Ex.side, Ex.sel, Int.natCast_zero, Int.cast_ofNat_Int] at htwo hn1 hnum hvx hvy hvn hgr hwx hwy hmay HX0 HY0 HZ0 HW0 ⊢
  simp only [Tb.row] at hvo
  go_enter Try.func3, Try.ntmps3
  go_wp2_with fail
  rw [← HW0.out]
  (with_reducible refine (hgr.out _ B0.out).mono ?_)
  rintro e w1 ⟨⟨bg, rfl⟩, b1⟩
  have HX1 := Lib.hid ((b1.block _ (heap_lt HX0.out)).trans HX0.out)
  have HY1 := Lib.hid ((b1.block _ (heap_lt HY0.out)).trans HY0.out)
  have HZ1 := Lib.hid ((b1.block _ (heap_lt HZ0.out)).trans HZ0.out)
  have HB1 := Lib.hid b1
  clear b1
  cases bg with
  | true =>
    go_wp2_with fail
    refine wp_region_held_drew (S := fun w' => w'.cell? ⟨w.heap.size, 0, none⟩ = some (.slice t.qk t.nk t.ck) ∧ w'.cell? ⟨w.heap.size, 1, none⟩ = some (.slice t.qp t.np t.cp) ∧ w'.cell? ⟨w.heap.size, 2, none⟩ = some (.int .i64 t.l0) ∧ w'.cell? ⟨w.heap.size, 3, none⟩ = some (.int .i64 t.l1) ∧ w'.cell? ⟨w.heap.size, 4, none⟩ = some (.int .i64 t.tn) ∧ w'.cell? ⟨w.heap.size, 5, none⟩ = some (.int .u8 t.py) ∧ w'.cell? ⟨w.heap.size, 6, none⟩ = some (.int .i64 t.mo) ∧ w'.cell? ⟨w.heap.size, 7, none⟩ = some (.slice t.qe t.ne t.ce) ∧ w'.cell? ⟨w.heap.size, 8, none⟩ = some (.bool t.b0) ∧ w'.cell? ⟨w.heap.size, 9, none⟩ = some (.bool t.b1) ∧ Below w0.heap.size w0 w') (by kernel_rfl) ⟨(by have := cell_blk (i := 0) HX1.out; simpa using this), (by have := cell_blk (i := 1) HX1.out; simpa using this), (by have := cell_blk (i := 2) HX1.out; simpa using this), (by have := cell_blk (i := 3) HX1.out; simpa using this), (by have := cell_blk (i := 4) HX1.out; simpa using this), (by have := cell_blk (i := 5) HX1.out; simpa using this), (by have := cell_blk (i := 6) HX1.out; simpa using this), (by have := cell_blk (i := 7) HX1.out; simpa using this), (by have := cell_blk (i := 8) HX1.out; simpa using this), (by have := cell_blk (i := 9) HX1.out; simpa using this), HB1.out.drew⟩ (fun hHeld => ?_)
    refine take_at (i := 0) (v := ?_) rfl (by kernel_rfl) (by kernel_rfl) (by kernel_rfl) (fun _ _ _ h => h) (Or.inl ⟨by rfl, ?_⟩) hHeld ?_
    rotate_left
    · intro w hSw
      (try dsimp only at hSw)
      go_simp
      try with_reducible rfl
    try simp only [Act.put, List.setIfInBounds_toArray, List.set_cons_zero, List.set_cons_succ]
    try dsimp only
    refine take_at (i := 1) (v := ?_) rfl (by kernel_rfl) (by kernel_rfl) (by kernel_rfl) (fun _ _ _ h => h) (Or.inl ⟨by rfl, ?_⟩) hHeld ?_
    rotate_left
    · intro w hSw
      (try dsimp only at hSw)
      go_simp
      try with_reducible rfl
    try simp only [Act.put, List.setIfInBounds_toArray, List.set_cons_zero, List.set_cons_succ]
    try dsimp only
    refine wpAnyH_ready (rs := [2]) (by kernel_rfl) (by simp) ?_
    refine cons_at rfl (fun K hK => ?_) AllReadyH.nil
    go_simp
    (with_reducible refine (hn1.out _).mono ?_)
    rintro e v31 ⟨rfl, d31⟩
    refine hK.out _ _ ⟨cell_later d31 hHeld.1, cell_later d31 hHeld.2.1, cell_later d31 hHeld.2.2.1, cell_later d31 hHeld.2.2.2.1, cell_later d31 hHeld.2.2.2.2.1, cell_later d31 hHeld.2.2.2.2.2.1, cell_later d31 hHeld.2.2.2.2.2.2.1, cell_later d31 hHeld.2.2.2.2.2.2.2.1, cell_later d31 hHeld.2.2.2.2.2.2.2.2.1, cell_later d31 hHeld.2.2.2.2.2.2.2.2.2.1, Below.trans hHeld.2.2.2.2.2.2.2.2.2.2 (d31.mono (Below.size hHeld.2.2.2.2.2.2.2.2.2.2))⟩ (fun hHeld => ?_)
    clear hK K
    try simp only [Act.put, List.setIfInBounds_toArray, List.set_cons_zero, List.set_cons_succ]
    try dsimp only
    refine wpAnyH_ready (rs := [3]) (by kernel_rfl) (by simp) ?_
    refine cons_at rfl (fun K hK => ?_) AllReadyH.nil
    go_simp
    (with_reducible refine (htwo.out _ hHeld.2.2.2.2.2.2.2.2.2.2).mono ?_)
    rintro e v32 ⟨rfl, d32⟩
    refine hK.out _ _ ⟨cell_later d32 hHeld.1, cell_later d32 hHeld.2.1, cell_later d32 hHeld.2.2.1, cell_later d32 hHeld.2.2.2.1, cell_later d32 hHeld.2.2.2.2.1, cell_later d32 hHeld.2.2.2.2.2.1, cell_later d32 hHeld.2.2.2.2.2.2.1, cell_later d32 hHeld.2.2.2.2.2.2.2.1, cell_later d32 hHeld.2.2.2.2.2.2.2.2.1, cell_later d32 hHeld.2.2.2.2.2.2.2.2.2.1, Below.trans hHeld.2.2.2.2.2.2.2.2.2.2 (d32.mono (Below.size hHeld.2.2.2.2.2.2.2.2.2.2))⟩ (fun hHeld => ?_)
    clear hK K
    try simp only [Act.put, List.setIfInBounds_toArray, List.set_cons_zero, List.set_cons_succ]
    try dsimp only
    refine take_at (i := 4) (v := ?_) rfl (by kernel_rfl) (by kernel_rfl) (by kernel_rfl) (fun _ _ _ h => h) (Or.inl ⟨by rfl, ?_⟩) hHeld ?_
    rotate_left
    · intro w hSw
      (try dsimp only at hSw)
      go_simp
      try with_reducible rfl
    try simp only [Act.put, List.setIfInBounds_toArray, List.set_cons_zero, List.set_cons_succ]
    try dsimp only
    refine take_at (i := 5) (v := ?_) rfl (by kernel_rfl) (by kernel_rfl) (by kernel_rfl) (fun _ _ _ h => h) (Or.inl ⟨by rfl, ?_⟩) hHeld ?_
    rotate_left
    · intro w hSw
      (try dsimp only at hSw)
      go_simp
      try with_reducible rfl
    try simp only [Act.put, List.setIfInBounds_toArray, List.set_cons_zero, List.set_cons_succ]
    try dsimp only
    refine wpAnyH_ready (rs := [6]) (by kernel_rfl) (by simp) ?_
    refine cons_at rfl (fun K hK => ?_) AllReadyH.nil
    go_simp
    (with_reducible refine (hliv.out _).mono ?_)
    rintro e v33 ⟨rfl, d33⟩
    refine hK.out _ _ ⟨cell_later d33 hHeld.1, cell_later d33 hHeld.2.1, cell_later d33 hHeld.2.2.1, cell_later d33 hHeld.2.2.2.1, cell_later d33 hHeld.2.2.2.2.1, cell_later d33 hHeld.2.2.2.2.2.1, cell_later d33 hHeld.2.2.2.2.2.2.1, cell_later d33 hHeld.2.2.2.2.2.2.2.1, cell_later d33 hHeld.2.2.2.2.2.2.2.2.1, cell_later d33 hHeld.2.2.2.2.2.2.2.2.2.1, Below.trans hHeld.2.2.2.2.2.2.2.2.2.2 (d33.mono (Below.size hHeld.2.2.2.2.2.2.2.2.2.2))⟩ (fun hHeld => ?_)
    clear hK K
    try simp only [Act.put, List.setIfInBounds_toArray, List.set_cons_zero, List.set_cons_succ]
    try dsimp only
    refine take_at (i := 7) (v := ?_) rfl (by kernel_rfl) (by kernel_rfl) (by kernel_rfl) (fun _ _ _ h => h) (Or.inl ⟨by rfl, ?_⟩) hHeld ?_
    rotate_left
    · intro w hSw
      (try dsimp only at hSw)
      go_simp
      try with_reducible rfl
    try simp only [Act.put, List.setIfInBounds_toArray, List.set_cons_zero, List.set_cons_succ]
    try dsimp only
    refine take_at (i := 8) (v := ?_) rfl (by kernel_rfl) (by kernel_rfl) (by kernel_rfl) (fun _ _ _ h => h) (Or.inl ⟨by rfl, ?_⟩) hHeld ?_
    rotate_left
    · intro w hSw
      (try dsimp only at hSw)
      go_simp
      try with_reducible rfl
    try simp only [Act.put, List.setIfInBounds_toArray, List.set_cons_zero, List.set_cons_succ]
    try dsimp only
    refine wpAnyH_done (by kernel_rfl) ?_ _
    go_wp2_with fail
    go_ret
    exact ⟨rfl, HB0.out.trans (hHeld.2.2.2.2.2.2.2.2.2.2.mono HB0.out.size)⟩
  | false =>
    have z0 := cell_blk (i := 0) HY1.out
    have z1 := cell_blk (i := 1) HY1.out
    have z2 := cell_blk (i := 2) HY1.out
    have z3 := cell_blk (i := 3) HY1.out
    have z4 := cell_blk (i := 4) HY1.out
    have z5 := cell_blk (i := 5) HY1.out
    have z6 := cell_blk (i := 6) HY1.out
    simp at z0 z1 z2 z3 z4 z5 z6
    go_wp2_with fail
    (with_reducible refine (hwx.out _ HB1.out).mono ?_)
    rintro e w2 ⟨⟨bx, rfl⟩, b2⟩
    have HX2 := Lib.hid ((b2.block _ (heap_lt HX1.out)).trans HX1.out)
    have HY2 := Lib.hid ((b2.block _ (heap_lt HY1.out)).trans HY1.out)
    have HZ2 := Lib.hid ((b2.block _ (heap_lt HZ1.out)).trans HZ1.out)
    have HB2 := Lib.hid (HB1.out.trans (b2.mono HB1.out.size))
    clear b2
    clear z0 z1 z2 z3 z4 z5 z6
    cases bx with
    | true =>
      go_wp2_with fail
      refine wp_region_held_drew (S := fun w' => w'.cell? ⟨w.heap.size, 0, none⟩ = some (.slice t.qk t.nk t.ck) ∧ w'.cell? ⟨w.heap.size, 1, none⟩ = some (.slice t.qp t.np t.cp) ∧ w'.cell? ⟨w.heap.size, 2, none⟩ = some (.int .i64 t.l0) ∧ w'.cell? ⟨w.heap.size, 3, none⟩ = some (.int .i64 t.l1) ∧ w'.cell? ⟨w.heap.size, 4, none⟩ = some (.int .i64 t.tn) ∧ w'.cell? ⟨w.heap.size, 5, none⟩ = some (.int .u8 t.py) ∧ w'.cell? ⟨w.heap.size, 6, none⟩ = some (.int .i64 t.mo) ∧ w'.cell? ⟨w.heap.size, 7, none⟩ = some (.slice t.qe t.ne t.ce) ∧ w'.cell? ⟨w.heap.size, 8, none⟩ = some (.bool t.b0) ∧ w'.cell? ⟨w.heap.size, 9, none⟩ = some (.bool t.b1) ∧ Below w0.heap.size w0 w') (by kernel_rfl) ⟨(by have := cell_blk (i := 0) HX2.out; simpa using this), (by have := cell_blk (i := 1) HX2.out; simpa using this), (by have := cell_blk (i := 2) HX2.out; simpa using this), (by have := cell_blk (i := 3) HX2.out; simpa using this), (by have := cell_blk (i := 4) HX2.out; simpa using this), (by have := cell_blk (i := 5) HX2.out; simpa using this), (by have := cell_blk (i := 6) HX2.out; simpa using this), (by have := cell_blk (i := 7) HX2.out; simpa using this), (by have := cell_blk (i := 8) HX2.out; simpa using this), (by have := cell_blk (i := 9) HX2.out; simpa using this), HB2.out.drew⟩ (fun hHeld => ?_)
      refine take_at (i := 0) (v := ?_) rfl (by kernel_rfl) (by kernel_rfl) (by kernel_rfl) (fun _ _ _ h => h) (Or.inl ⟨by rfl, ?_⟩) hHeld ?_
      rotate_left
      · intro w hSw
        (try dsimp only at hSw)
        go_simp
        try with_reducible rfl
      try simp only [Act.put, List.setIfInBounds_toArray, List.set_cons_zero, List.set_cons_succ]
      try dsimp only
      refine take_at (i := 1) (v := ?_) rfl (by kernel_rfl) (by kernel_rfl) (by kernel_rfl) (fun _ _ _ h => h) (Or.inl ⟨by rfl, ?_⟩) hHeld ?_
      rotate_left
      · intro w hSw
        (try dsimp only at hSw)
        go_simp
        try with_reducible rfl
      try simp only [Act.put, List.setIfInBounds_toArray, List.set_cons_zero, List.set_cons_succ]
      try dsimp only
      refine wpAnyH_ready (rs := [2]) (by kernel_rfl) (by simp) ?_
      refine cons_at rfl (fun K hK => ?_) AllReadyH.nil
      go_simp
      (with_reducible refine (hn1.out _).mono ?_)
      rintro e v31 ⟨rfl, d31⟩
      refine hK.out _ _ ⟨cell_later d31 hHeld.1, cell_later d31 hHeld.2.1, cell_later d31 hHeld.2.2.1, cell_later d31 hHeld.2.2.2.1, cell_later d31 hHeld.2.2.2.2.1, cell_later d31 hHeld.2.2.2.2.2.1, cell_later d31 hHeld.2.2.2.2.2.2.1, cell_later d31 hHeld.2.2.2.2.2.2.2.1, cell_later d31 hHeld.2.2.2.2.2.2.2.2.1, cell_later d31 hHeld.2.2.2.2.2.2.2.2.2.1, Below.trans hHeld.2.2.2.2.2.2.2.2.2.2 (d31.mono (Below.size hHeld.2.2.2.2.2.2.2.2.2.2))⟩ (fun hHeld => ?_)
      clear hK K
      try simp only [Act.put, List.setIfInBounds_toArray, List.set_cons_zero, List.set_cons_succ]
      try dsimp only
      refine wpAnyH_ready (rs := [3]) (by kernel_rfl) (by simp) ?_
      refine cons_at rfl (fun K hK => ?_) AllReadyH.nil
      go_simp
      (with_reducible refine (htwo.out _ hHeld.2.2.2.2.2.2.2.2.2.2).mono ?_)
      rintro e v32 ⟨rfl, d32⟩
      refine hK.out _ _ ⟨cell_later d32 hHeld.1, cell_later d32 hHeld.2.1, cell_later d32 hHeld.2.2.1, cell_later d32 hHeld.2.2.2.1, cell_later d32 hHeld.2.2.2.2.1, cell_later d32 hHeld.2.2.2.2.2.1, cell_later d32 hHeld.2.2.2.2.2.2.1, cell_later d32 hHeld.2.2.2.2.2.2.2.1, cell_later d32 hHeld.2.2.2.2.2.2.2.2.1, cell_later d32 hHeld.2.2.2.2.2.2.2.2.2.1, Below.trans hHeld.2.2.2.2.2.2.2.2.2.2 (d32.mono (Below.size hHeld.2.2.2.2.2.2.2.2.2.2))⟩ (fun hHeld => ?_)
      clear hK K
      try simp only [Act.put, List.setIfInBounds_toArray, List.set_cons_zero, List.set_cons_succ]
      try dsimp only
      refine take_at (i := 4) (v := ?_) rfl (by kernel_rfl) (by kernel_rfl) (by kernel_rfl) (fun _ _ _ h => h) (Or.inl ⟨by rfl, ?_⟩) hHeld ?_
      rotate_left
      · intro w hSw
        (try dsimp only at hSw)
        go_simp
        try with_reducible rfl
      try simp only [Act.put, List.setIfInBounds_toArray, List.set_cons_zero, List.set_cons_succ]
      try dsimp only
      refine take_at (i := 5) (v := ?_) rfl (by kernel_rfl) (by kernel_rfl) (by kernel_rfl) (fun _ _ _ h => h) (Or.inl ⟨by rfl, ?_⟩) hHeld ?_
      rotate_left
      · intro w hSw
        (try dsimp only at hSw)
        go_simp
        try with_reducible rfl
      try simp only [Act.put, List.setIfInBounds_toArray, List.set_cons_zero, List.set_cons_succ]
      try dsimp only
      refine wpAnyH_ready (rs := [6]) (by kernel_rfl) (by simp) ?_
      refine cons_at rfl (fun K hK => ?_) AllReadyH.nil
      go_simp
      (with_reducible refine (hliv.out _).mono ?_)
      rintro e v33 ⟨rfl, d33⟩
      refine hK.out _ _ ⟨cell_later d33 hHeld.1, cell_later d33 hHeld.2.1, cell_later d33 hHeld.2.2.1, cell_later d33 hHeld.2.2.2.1, cell_later d33 hHeld.2.2.2.2.1, cell_later d33 hHeld.2.2.2.2.2.1, cell_later d33 hHeld.2.2.2.2.2.2.1, cell_later d33 hHeld.2.2.2.2.2.2.2.1, cell_later d33 hHeld.2.2.2.2.2.2.2.2.1, cell_later d33 hHeld.2.2.2.2.2.2.2.2.2.1, Below.trans hHeld.2.2.2.2.2.2.2.2.2.2 (d33.mono (Below.size hHeld.2.2.2.2.2.2.2.2.2.2))⟩ (fun hHeld => ?_)
      clear hK K
      try simp only [Act.put, List.setIfInBounds_toArray, List.set_cons_zero, List.set_cons_succ]
      try dsimp only
      refine take_at (i := 7) (v := ?_) rfl (by kernel_rfl) (by kernel_rfl) (by kernel_rfl) (fun _ _ _ h => h) (Or.inl ⟨by rfl, ?_⟩) hHeld ?_
      rotate_left
      · intro w hSw
        (try dsimp only at hSw)
        go_simp
        try with_reducible rfl
      try simp only [Act.put, List.setIfInBounds_toArray, List.set_cons_zero, List.set_cons_succ]
      try dsimp only
      refine take_at (i := 8) (v := ?_) rfl (by kernel_rfl) (by kernel_rfl) (by kernel_rfl) (fun _ _ _ h => h) (Or.inl ⟨by rfl, ?_⟩) hHeld ?_
      rotate_left
      · intro w hSw
        (try dsimp only at hSw)
        go_simp
        try with_reducible rfl
      try simp only [Act.put, List.setIfInBounds_toArray, List.set_cons_zero, List.set_cons_succ]
      try dsimp only
      refine wpAnyH_done (by kernel_rfl) ?_ _
      go_wp2_with fail
      go_ret
      exact ⟨rfl, HB0.out.trans (hHeld.2.2.2.2.2.2.2.2.2.2.mono HB0.out.size)⟩
    | false =>
      have z0 := cell_blk (i := 0) HZ2.out
      have z1 := cell_blk (i := 1) HZ2.out
      have z2 := cell_blk (i := 2) HZ2.out
      have z3 := cell_blk (i := 3) HZ2.out
      have z4 := cell_blk (i := 4) HZ2.out
      have z5 := cell_blk (i := 5) HZ2.out
      have z6 := cell_blk (i := 6) HZ2.out
      simp at z0 z1 z2 z3 z4 z5 z6
      go_wp2_with fail
      (with_reducible refine (hwy.out _ HB2.out).mono ?_)
      rintro e w3 ⟨⟨bY, rfl⟩, b3⟩
      have HX3 := Lib.hid ((b3.block _ (heap_lt HX2.out)).trans HX2.out)
      have HY3 := Lib.hid ((b3.block _ (heap_lt HY2.out)).trans HY2.out)
      have HZ3 := Lib.hid ((b3.block _ (heap_lt HZ2.out)).trans HZ2.out)
      have HB3 := Lib.hid (HB2.out.trans (b3.mono HB2.out.size))
      clear b3
      clear z0 z1 z2 z3 z4 z5 z6
      cases bY with
      | true =>
        go_wp2_with fail
        refine wp_region_held_drew (S := fun w' => w'.cell? ⟨w.heap.size, 0, none⟩ = some (.slice t.qk t.nk t.ck) ∧ w'.cell? ⟨w.heap.size, 1, none⟩ = some (.slice t.qp t.np t.cp) ∧ w'.cell? ⟨w.heap.size, 2, none⟩ = some (.int .i64 t.l0) ∧ w'.cell? ⟨w.heap.size, 3, none⟩ = some (.int .i64 t.l1) ∧ w'.cell? ⟨w.heap.size, 4, none⟩ = some (.int .i64 t.tn) ∧ w'.cell? ⟨w.heap.size, 5, none⟩ = some (.int .u8 t.py) ∧ w'.cell? ⟨w.heap.size, 6, none⟩ = some (.int .i64 t.mo) ∧ w'.cell? ⟨w.heap.size, 7, none⟩ = some (.slice t.qe t.ne t.ce) ∧ w'.cell? ⟨w.heap.size, 8, none⟩ = some (.bool t.b0) ∧ w'.cell? ⟨w.heap.size, 9, none⟩ = some (.bool t.b1) ∧ Below w0.heap.size w0 w') (by kernel_rfl) ⟨(by have := cell_blk (i := 0) HX3.out; simpa using this), (by have := cell_blk (i := 1) HX3.out; simpa using this), (by have := cell_blk (i := 2) HX3.out; simpa using this), (by have := cell_blk (i := 3) HX3.out; simpa using this), (by have := cell_blk (i := 4) HX3.out; simpa using this), (by have := cell_blk (i := 5) HX3.out; simpa using this), (by have := cell_blk (i := 6) HX3.out; simpa using this), (by have := cell_blk (i := 7) HX3.out; simpa using this), (by have := cell_blk (i := 8) HX3.out; simpa using this), (by have := cell_blk (i := 9) HX3.out; simpa using this), HB3.out.drew⟩ (fun hHeld => ?_)
        refine take_at (i := 0) (v := ?_) rfl (by kernel_rfl) (by kernel_rfl) (by kernel_rfl) (fun _ _ _ h => h) (Or.inl ⟨by rfl, ?_⟩) hHeld ?_
        rotate_left
        · intro w hSw
          (try dsimp only at hSw)
          go_simp
          try with_reducible rfl
        try simp only [Act.put, List.setIfInBounds_toArray, List.set_cons_zero, List.set_cons_succ]
        try dsimp only
        refine take_at (i := 1) (v := ?_) rfl (by kernel_rfl) (by kernel_rfl) (by kernel_rfl) (fun _ _ _ h => h) (Or.inl ⟨by rfl, ?_⟩) hHeld ?_
        rotate_left
        · intro w hSw
          (try dsimp only at hSw)
          go_simp
          try with_reducible rfl
        try simp only [Act.put, List.setIfInBounds_toArray, List.set_cons_zero, List.set_cons_succ]
        try dsimp only
        refine wpAnyH_ready (rs := [2]) (by kernel_rfl) (by simp) ?_
        refine cons_at rfl (fun K hK => ?_) AllReadyH.nil
        go_simp
        (with_reducible refine (hn1.out _).mono ?_)
        rintro e v31 ⟨rfl, d31⟩
        refine hK.out _ _ ⟨cell_later d31 hHeld.1, cell_later d31 hHeld.2.1, cell_later d31 hHeld.2.2.1, cell_later d31 hHeld.2.2.2.1, cell_later d31 hHeld.2.2.2.2.1, cell_later d31 hHeld.2.2.2.2.2.1, cell_later d31 hHeld.2.2.2.2.2.2.1, cell_later d31 hHeld.2.2.2.2.2.2.2.1, cell_later d31 hHeld.2.2.2.2.2.2.2.2.1, cell_later d31 hHeld.2.2.2.2.2.2.2.2.2.1, Below.trans hHeld.2.2.2.2.2.2.2.2.2.2 (d31.mono (Below.size hHeld.2.2.2.2.2.2.2.2.2.2))⟩ (fun hHeld => ?_)
        clear hK K
        try simp only [Act.put, List.setIfInBounds_toArray, List.set_cons_zero, List.set_cons_succ]
        try dsimp only
        refine wpAnyH_ready (rs := [3]) (by kernel_rfl) (by simp) ?_
        refine cons_at rfl (fun K hK => ?_) AllReadyH.nil
        go_simp
        (with_reducible refine (htwo.out _ hHeld.2.2.2.2.2.2.2.2.2.2).mono ?_)
        rintro e v32 ⟨rfl, d32⟩
        refine hK.out _ _ ⟨cell_later d32 hHeld.1, cell_later d32 hHeld.2.1, cell_later d32 hHeld.2.2.1, cell_later d32 hHeld.2.2.2.1, cell_later d32 hHeld.2.2.2.2.1, cell_later d32 hHeld.2.2.2.2.2.1, cell_later d32 hHeld.2.2.2.2.2.2.1, cell_later d32 hHeld.2.2.2.2.2.2.2.1, cell_later d32 hHeld.2.2.2.2.2.2.2.2.1, cell_later d32 hHeld.2.2.2.2.2.2.2.2.2.1, Below.trans hHeld.2.2.2.2.2.2.2.2.2.2 (d32.mono (Below.size hHeld.2.2.2.2.2.2.2.2.2.2))⟩ (fun hHeld => ?_)
        clear hK K
        try simp only [Act.put, List.setIfInBounds_toArray, List.set_cons_zero, List.set_cons_succ]
        try dsimp only
        refine take_at (i := 4) (v := ?_) rfl (by kernel_rfl) (by kernel_rfl) (by kernel_rfl) (fun _ _ _ h => h) (Or.inl ⟨by rfl, ?_⟩) hHeld ?_
        rotate_left
        · intro w hSw
          (try dsimp only at hSw)
          go_simp
          try with_reducible rfl
        try simp only [Act.put, List.setIfInBounds_toArray, List.set_cons_zero, List.set_cons_succ]
        try dsimp only
        refine take_at (i := 5) (v := ?_) rfl (by kernel_rfl) (by kernel_rfl) (by kernel_rfl) (fun _ _ _ h => h) (Or.inl ⟨by rfl, ?_⟩) hHeld ?_
        rotate_left
        · intro w hSw
          (try dsimp only at hSw)
          go_simp
          try with_reducible rfl
        try simp only [Act.put, List.setIfInBounds_toArray, List.set_cons_zero, List.set_cons_succ]
        try dsimp only
        refine wpAnyH_ready (rs := [6]) (by kernel_rfl) (by simp) ?_
        refine cons_at rfl (fun K hK => ?_) AllReadyH.nil
        go_simp
        (with_reducible refine (hliv.out _).mono ?_)
        rintro e v33 ⟨rfl, d33⟩
        refine hK.out _ _ ⟨cell_later d33 hHeld.1, cell_later d33 hHeld.2.1, cell_later d33 hHeld.2.2.1, cell_later d33 hHeld.2.2.2.1, cell_later d33 hHeld.2.2.2.2.1, cell_later d33 hHeld.2.2.2.2.2.1, cell_later d33 hHeld.2.2.2.2.2.2.1, cell_later d33 hHeld.2.2.2.2.2.2.2.1, cell_later d33 hHeld.2.2.2.2.2.2.2.2.1, cell_later d33 hHeld.2.2.2.2.2.2.2.2.2.1, Below.trans hHeld.2.2.2.2.2.2.2.2.2.2 (d33.mono (Below.size hHeld.2.2.2.2.2.2.2.2.2.2))⟩ (fun hHeld => ?_)
        clear hK K
        try simp only [Act.put, List.setIfInBounds_toArray, List.set_cons_zero, List.set_cons_succ]
        try dsimp only
        refine take_at (i := 7) (v := ?_) rfl (by kernel_rfl) (by kernel_rfl) (by kernel_rfl) (fun _ _ _ h => h) (Or.inl ⟨by rfl, ?_⟩) hHeld ?_
        rotate_left
        · intro w hSw
          (try dsimp only at hSw)
          go_simp
          try with_reducible rfl
        try simp only [Act.put, List.setIfInBounds_toArray, List.set_cons_zero, List.set_cons_succ]
        try dsimp only
        refine take_at (i := 8) (v := ?_) rfl (by kernel_rfl) (by kernel_rfl) (by kernel_rfl) (fun _ _ _ h => h) (Or.inl ⟨by rfl, ?_⟩) hHeld ?_
        rotate_left
        · intro w hSw
          (try dsimp only at hSw)
          go_simp
          try with_reducible rfl
        try simp only [Act.put, List.setIfInBounds_toArray, List.set_cons_zero, List.set_cons_succ]
        try dsimp only
        refine wpAnyH_done (by kernel_rfl) ?_ _
        go_wp2_with fail
        go_ret
        exact ⟨rfl, HB0.out.trans (hHeld.2.2.2.2.2.2.2.2.2.2.mono HB0.out.size)⟩
      | false =>
        have z0 := cell_blk (i := 0) HX3.out
        have z1 := cell_blk (i := 1) HX3.out
        have z2 := cell_blk (i := 2) HX3.out
        have z3 := cell_blk (i := 3) HX3.out
        have z4 := cell_blk (i := 4) HX3.out
        have z5 := cell_blk (i := 5) HX3.out
        have z6 := cell_blk (i := 6) HX3.out
        have z7 := cell_blk (i := 7) HX3.out
        have z8 := cell_blk (i := 8) HX3.out
        have z9 := cell_blk (i := 9) HX3.out
        simp at z0 z1 z2 z3 z4 z5 z6 z7 z8 z9
        go_wp2_with fail
        (with_reducible refine (hmay.out _ HB3.out).mono ?_)
        rintro e w4 ⟨rfl, b4⟩
        have HX4 := Lib.hid ((b4.block _ (heap_lt HX3.out)).trans HX3.out)
        have HY4 := Lib.hid ((b4.block _ (heap_lt HY3.out)).trans HY3.out)
        have HZ4 := Lib.hid ((b4.block _ (heap_lt HZ3.out)).trans HZ3.out)
        have HB4 := Lib.hid (HB3.out.trans (b4.mono HB3.out.size))
        clear b4
        clear z0 z1 z2 z3 z4 z5 z6 z7 z8 z9
        cases bm with
        | false =>
          go_wp2_with fail
          refine wp_region_held_drew (S := fun w' => w'.cell? ⟨w.heap.size, 0, none⟩ = some (.slice t.qk t.nk t.ck) ∧ w'.cell? ⟨w.heap.size, 1, none⟩ = some (.slice t.qp t.np t.cp) ∧ w'.cell? ⟨w.heap.size, 2, none⟩ = some (.int .i64 t.l0) ∧ w'.cell? ⟨w.heap.size, 3, none⟩ = some (.int .i64 t.l1) ∧ w'.cell? ⟨w.heap.size, 4, none⟩ = some (.int .i64 t.tn) ∧ w'.cell? ⟨w.heap.size, 5, none⟩ = some (.int .u8 t.py) ∧ w'.cell? ⟨w.heap.size, 6, none⟩ = some (.int .i64 t.mo) ∧ w'.cell? ⟨w.heap.size, 7, none⟩ = some (.slice t.qe t.ne t.ce) ∧ w'.cell? ⟨w.heap.size, 8, none⟩ = some (.bool t.b0) ∧ w'.cell? ⟨w.heap.size, 9, none⟩ = some (.bool t.b1) ∧ Below w0.heap.size w0 w') (by kernel_rfl) ⟨(by have := cell_blk (i := 0) HX4.out; simpa using this), (by have := cell_blk (i := 1) HX4.out; simpa using this), (by have := cell_blk (i := 2) HX4.out; simpa using this), (by have := cell_blk (i := 3) HX4.out; simpa using this), (by have := cell_blk (i := 4) HX4.out; simpa using this), (by have := cell_blk (i := 5) HX4.out; simpa using this), (by have := cell_blk (i := 6) HX4.out; simpa using this), (by have := cell_blk (i := 7) HX4.out; simpa using this), (by have := cell_blk (i := 8) HX4.out; simpa using this), (by have := cell_blk (i := 9) HX4.out; simpa using this), HB4.out.drew⟩ (fun hHeld => ?_)
          refine take_at (i := 0) (v := ?_) rfl (by kernel_rfl) (by kernel_rfl) (by kernel_rfl) (fun _ _ _ h => h) (Or.inl ⟨by rfl, ?_⟩) hHeld ?_
          rotate_left
          · intro w hSw
            (try dsimp only at hSw)
            go_simp
            try with_reducible rfl
          try simp only [Act.put, List.setIfInBounds_toArray, List.set_cons_zero, List.set_cons_succ]
          try dsimp only
          refine take_at (i := 1) (v := ?_) rfl (by kernel_rfl) (by kernel_rfl) (by kernel_rfl) (fun _ _ _ h => h) (Or.inl ⟨by rfl, ?_⟩) hHeld ?_
          rotate_left
          · intro w hSw
            (try dsimp only at hSw)
            go_simp
            try with_reducible rfl
          try simp only [Act.put, List.setIfInBounds_toArray, List.set_cons_zero, List.set_cons_succ]
          try dsimp only
          refine wpAnyH_ready (rs := [2]) (by kernel_rfl) (by simp) ?_
          refine cons_at rfl (fun K hK => ?_) AllReadyH.nil
          go_simp
          (with_reducible refine (hn1.out _).mono ?_)
          rintro e v31 ⟨rfl, d31⟩
          refine hK.out _ _ ⟨cell_later d31 hHeld.1, cell_later d31 hHeld.2.1, cell_later d31 hHeld.2.2.1, cell_later d31 hHeld.2.2.2.1, cell_later d31 hHeld.2.2.2.2.1, cell_later d31 hHeld.2.2.2.2.2.1, cell_later d31 hHeld.2.2.2.2.2.2.1, cell_later d31 hHeld.2.2.2.2.2.2.2.1, cell_later d31 hHeld.2.2.2.2.2.2.2.2.1, cell_later d31 hHeld.2.2.2.2.2.2.2.2.2.1, Below.trans hHeld.2.2.2.2.2.2.2.2.2.2 (d31.mono (Below.size hHeld.2.2.2.2.2.2.2.2.2.2))⟩ (fun hHeld => ?_)
          clear hK K
          try simp only [Act.put, List.setIfInBounds_toArray, List.set_cons_zero, List.set_cons_succ]
          try dsimp only
          refine wpAnyH_ready (rs := [3]) (by kernel_rfl) (by simp) ?_
          refine cons_at rfl (fun K hK => ?_) AllReadyH.nil
          go_simp
          (with_reducible refine (htwo.out _ hHeld.2.2.2.2.2.2.2.2.2.2).mono ?_)
          rintro e v32 ⟨rfl, d32⟩
          refine hK.out _ _ ⟨cell_later d32 hHeld.1, cell_later d32 hHeld.2.1, cell_later d32 hHeld.2.2.1, cell_later d32 hHeld.2.2.2.1, cell_later d32 hHeld.2.2.2.2.1, cell_later d32 hHeld.2.2.2.2.2.1, cell_later d32 hHeld.2.2.2.2.2.2.1, cell_later d32 hHeld.2.2.2.2.2.2.2.1, cell_later d32 hHeld.2.2.2.2.2.2.2.2.1, cell_later d32 hHeld.2.2.2.2.2.2.2.2.2.1, Below.trans hHeld.2.2.2.2.2.2.2.2.2.2 (d32.mono (Below.size hHeld.2.2.2.2.2.2.2.2.2.2))⟩ (fun hHeld => ?_)
          clear hK K
          try simp only [Act.put, List.setIfInBounds_toArray, List.set_cons_zero, List.set_cons_succ]
          try dsimp only
          refine take_at (i := 4) (v := ?_) rfl (by kernel_rfl) (by kernel_rfl) (by kernel_rfl) (fun _ _ _ h => h) (Or.inl ⟨by rfl, ?_⟩) hHeld ?_
          rotate_left
          · intro w hSw
            (try dsimp only at hSw)
            go_simp
            try with_reducible rfl
          try simp only [Act.put, List.setIfInBounds_toArray, List.set_cons_zero, List.set_cons_succ]
          try dsimp only
          refine take_at (i := 5) (v := ?_) rfl (by kernel_rfl) (by kernel_rfl) (by kernel_rfl) (fun _ _ _ h => h) (Or.inl ⟨by rfl, ?_⟩) hHeld ?_
          rotate_left
          · intro w hSw
            (try dsimp only at hSw)
            go_simp
            try with_reducible rfl
          try simp only [Act.put, List.setIfInBounds_toArray, List.set_cons_zero, List.set_cons_succ]
          try dsimp only
          refine wpAnyH_ready (rs := [6]) (by kernel_rfl) (by simp) ?_
          refine cons_at rfl (fun K hK => ?_) AllReadyH.nil
          go_simp
          (with_reducible refine (hliv.out _).mono ?_)
          rintro e v33 ⟨rfl, d33⟩
          refine hK.out _ _ ⟨cell_later d33 hHeld.1, cell_later d33 hHeld.2.1, cell_later d33 hHeld.2.2.1, cell_later d33 hHeld.2.2.2.1, cell_later d33 hHeld.2.2.2.2.1, cell_later d33 hHeld.2.2.2.2.2.1, cell_later d33 hHeld.2.2.2.2.2.2.1, cell_later d33 hHeld.2.2.2.2.2.2.2.1, cell_later d33 hHeld.2.2.2.2.2.2.2.2.1, cell_later d33 hHeld.2.2.2.2.2.2.2.2.2.1, Below.trans hHeld.2.2.2.2.2.2.2.2.2.2 (d33.mono (Below.size hHeld.2.2.2.2.2.2.2.2.2.2))⟩ (fun hHeld => ?_)
          clear hK K
          try simp only [Act.put, List.setIfInBounds_toArray, List.set_cons_zero, List.set_cons_succ]
          try dsimp only
          refine take_at (i := 7) (v := ?_) rfl (by kernel_rfl) (by kernel_rfl) (by kernel_rfl) (fun _ _ _ h => h) (Or.inl ⟨by rfl, ?_⟩) hHeld ?_
          rotate_left
          · intro w hSw
            (try dsimp only at hSw)
            go_simp
            try with_reducible rfl
          try simp only [Act.put, List.setIfInBounds_toArray, List.set_cons_zero, List.set_cons_succ]
          try dsimp only
          refine take_at (i := 8) (v := ?_) rfl (by kernel_rfl) (by kernel_rfl) (by kernel_rfl) (fun _ _ _ h => h) (Or.inl ⟨by rfl, ?_⟩) hHeld ?_
          rotate_left
          · intro w hSw
            (try dsimp only at hSw)
            go_simp
            try with_reducible rfl
          try simp only [Act.put, List.setIfInBounds_toArray, List.set_cons_zero, List.set_cons_succ]
          try dsimp only
          refine wpAnyH_done (by kernel_rfl) ?_ _
          go_wp2_with fail
          go_ret
          exact ⟨rfl, HB0.out.trans (hHeld.2.2.2.2.2.2.2.2.2.2.mono HB0.out.size)⟩
        | true =>
          by_cases hw1 : (who : Int) > 1
          · go_wp2_with fail
            refine wp_region_held_drew (S := fun w' => w'.cell? ⟨w.heap.size, 0, none⟩ = some (.slice t.qk t.nk t.ck) ∧ w'.cell? ⟨w.heap.size, 1, none⟩ = some (.slice t.qp t.np t.cp) ∧ w'.cell? ⟨w.heap.size, 2, none⟩ = some (.int .i64 t.l0) ∧ w'.cell? ⟨w.heap.size, 3, none⟩ = some (.int .i64 t.l1) ∧ w'.cell? ⟨w.heap.size, 4, none⟩ = some (.int .i64 t.tn) ∧ w'.cell? ⟨w.heap.size, 5, none⟩ = some (.int .u8 t.py) ∧ w'.cell? ⟨w.heap.size, 6, none⟩ = some (.int .i64 t.mo) ∧ w'.cell? ⟨w.heap.size, 7, none⟩ = some (.slice t.qe t.ne t.ce) ∧ w'.cell? ⟨w.heap.size, 8, none⟩ = some (.bool t.b0) ∧ w'.cell? ⟨w.heap.size, 9, none⟩ = some (.bool t.b1) ∧ Below w0.heap.size w0 w') (by kernel_rfl) ⟨(by have := cell_blk (i := 0) HX4.out; simpa using this), (by have := cell_blk (i := 1) HX4.out; simpa using this), (by have := cell_blk (i := 2) HX4.out; simpa using this), (by have := cell_blk (i := 3) HX4.out; simpa using this), (by have := cell_blk (i := 4) HX4.out; simpa using this), (by have := cell_blk (i := 5) HX4.out; simpa using this), (by have := cell_blk (i := 6) HX4.out; simpa using this), (by have := cell_blk (i := 7) HX4.out; simpa using this), (by have := cell_blk (i := 8) HX4.out; simpa using this), (by have := cell_blk (i := 9) HX4.out; simpa using this), HB4.out.drew⟩ (fun hHeld => ?_)
            refine take_at (i := 0) (v := ?_) rfl (by kernel_rfl) (by kernel_rfl) (by kernel_rfl) (fun _ _ _ h => h) (Or.inl ⟨by rfl, ?_⟩) hHeld ?_
            rotate_left
            · intro w hSw
              (try dsimp only at hSw)
              go_simp
              try with_reducible rfl
            try simp only [Act.put, List.setIfInBounds_toArray, List.set_cons_zero, List.set_cons_succ]
            try dsimp only
            refine take_at (i := 1) (v := ?_) rfl (by kernel_rfl) (by kernel_rfl) (by kernel_rfl) (fun _ _ _ h => h) (Or.inl ⟨by rfl, ?_⟩) hHeld ?_
            rotate_left
            · intro w hSw
              (try dsimp only at hSw)
              go_simp
              try with_reducible rfl
            try simp only [Act.put, List.setIfInBounds_toArray, List.set_cons_zero, List.set_cons_succ]
            try dsimp only
            refine wpAnyH_ready (rs := [2]) (by kernel_rfl) (by simp) ?_
            refine cons_at rfl (fun K hK => ?_) AllReadyH.nil
            go_simp
            (with_reducible refine (hn1.out _).mono ?_)
            rintro e v31 ⟨rfl, d31⟩
            refine hK.out _ _ ⟨cell_later d31 hHeld.1, cell_later d31 hHeld.2.1, cell_later d31 hHeld.2.2.1, cell_later d31 hHeld.2.2.2.1, cell_later d31 hHeld.2.2.2.2.1, cell_later d31 hHeld.2.2.2.2.2.1, cell_later d31 hHeld.2.2.2.2.2.2.1, cell_later d31 hHeld.2.2.2.2.2.2.2.1, cell_later d31 hHeld.2.2.2.2.2.2.2.2.1, cell_later d31 hHeld.2.2.2.2.2.2.2.2.2.1, Below.trans hHeld.2.2.2.2.2.2.2.2.2.2 (d31.mono (Below.size hHeld.2.2.2.2.2.2.2.2.2.2))⟩ (fun hHeld => ?_)
            clear hK K
            try simp only [Act.put, List.setIfInBounds_toArray, List.set_cons_zero, List.set_cons_succ]
            try dsimp only
            refine wpAnyH_ready (rs := [3]) (by kernel_rfl) (by simp) ?_
            refine cons_at rfl (fun K hK => ?_) AllReadyH.nil
            go_simp
            (with_reducible refine (htwo.out _ hHeld.2.2.2.2.2.2.2.2.2.2).mono ?_)
            rintro e v32 ⟨rfl, d32⟩
            refine hK.out _ _ ⟨cell_later d32 hHeld.1, cell_later d32 hHeld.2.1, cell_later d32 hHeld.2.2.1, cell_later d32 hHeld.2.2.2.1, cell_later d32 hHeld.2.2.2.2.1, cell_later d32 hHeld.2.2.2.2.2.1, cell_later d32 hHeld.2.2.2.2.2.2.1, cell_later d32 hHeld.2.2.2.2.2.2.2.1, cell_later d32 hHeld.2.2.2.2.2.2.2.2.1, cell_later d32 hHeld.2.2.2.2.2.2.2.2.2.1, Below.trans hHeld.2.2.2.2.2.2.2.2.2.2 (d32.mono (Below.size hHeld.2.2.2.2.2.2.2.2.2.2))⟩ (fun hHeld => ?_)
            clear hK K
            try simp only [Act.put, List.setIfInBounds_toArray, List.set_cons_zero, List.set_cons_succ]
            try dsimp only
            refine take_at (i := 4) (v := ?_) rfl (by kernel_rfl) (by kernel_rfl) (by kernel_rfl) (fun _ _ _ h => h) (Or.inl ⟨by rfl, ?_⟩) hHeld ?_
            rotate_left
            · intro w hSw
              (try dsimp only at hSw)
              go_simp
              try with_reducible rfl
            try simp only [Act.put, List.setIfInBounds_toArray, List.set_cons_zero, List.set_cons_succ]
            try dsimp only
            refine take_at (i := 5) (v := ?_) rfl (by kernel_rfl) (by kernel_rfl) (by kernel_rfl) (fun _ _ _ h => h) (Or.inl ⟨by rfl, ?_⟩) hHeld ?_
            rotate_left
            · intro w hSw
              (try dsimp only at hSw)
              go_simp
              try with_reducible rfl
            try simp only [Act.put, List.setIfInBounds_toArray, List.set_cons_zero, List.set_cons_succ]
            try dsimp only
            refine wpAnyH_ready (rs := [6]) (by kernel_rfl) (by simp) ?_
            refine cons_at rfl (fun K hK => ?_) AllReadyH.nil
            go_simp
            (with_reducible refine (hliv.out _).mono ?_)
            rintro e v33 ⟨rfl, d33⟩
            refine hK.out _ _ ⟨cell_later d33 hHeld.1, cell_later d33 hHeld.2.1, cell_later d33 hHeld.2.2.1, cell_later d33 hHeld.2.2.2.1, cell_later d33 hHeld.2.2.2.2.1, cell_later d33 hHeld.2.2.2.2.2.1, cell_later d33 hHeld.2.2.2.2.2.2.1, cell_later d33 hHeld.2.2.2.2.2.2.2.1, cell_later d33 hHeld.2.2.2.2.2.2.2.2.1, cell_later d33 hHeld.2.2.2.2.2.2.2.2.2.1, Below.trans hHeld.2.2.2.2.2.2.2.2.2.2 (d33.mono (Below.size hHeld.2.2.2.2.2.2.2.2.2.2))⟩ (fun hHeld => ?_)
            clear hK K
            try simp only [Act.put, List.setIfInBounds_toArray, List.set_cons_zero, List.set_cons_succ]
            try dsimp only
            refine take_at (i := 7) (v := ?_) rfl (by kernel_rfl) (by kernel_rfl) (by kernel_rfl) (fun _ _ _ h => h) (Or.inl ⟨by rfl, ?_⟩) hHeld ?_
            rotate_left
            · intro w hSw
              (try dsimp only at hSw)
              go_simp
              try with_reducible rfl
            try simp only [Act.put, List.setIfInBounds_toArray, List.set_cons_zero, List.set_cons_succ]
            try dsimp only
            refine take_at (i := 8) (v := ?_) rfl (by kernel_rfl) (by kernel_rfl) (by kernel_rfl) (fun _ _ _ h => h) (Or.inl ⟨by rfl, ?_⟩) hHeld ?_
            rotate_left
            · intro w hSw
              (try dsimp only at hSw)
              go_simp
              try with_reducible rfl
            try simp only [Act.put, List.setIfInBounds_toArray, List.set_cons_zero, List.set_cons_succ]
            try dsimp only
            refine wpAnyH_done (by kernel_rfl) ?_ _
            go_wp2_with fail
            go_ret
            exact ⟨rfl, HB0.out.trans (hHeld.2.2.2.2.2.2.2.2.2.2.mono HB0.out.size)⟩
          · have hw2 : who ≤ 1 := by omega
            replace hvx := Lib.hid (hvx.out rfl hw2)
            replace hvy := Lib.hid (hvy.out rfl hw2)
            replace hvo := Lib.hid (hvo.out rfl hw2)
            replace hvn := Lib.hid (hvn.out rfl hw2)
            clear hgr hwx hwy htwo hmay hn1
            obtain ⟨ha1, ha2⟩ := HVA.out
            obtain ⟨hb1, hb2⟩ := HVB.out
            have c1 : ¬ a > 99999 := by omega
            have c2 : ¬ a < -99999 := by omega
            go_wp2_with fail
            refine wp_region_held_drew (S := fun w' => w'.cell? ⟨w.heap.size, 0, none⟩ = some (.slice t.qk t.nk t.ck) ∧ w'.cell? ⟨w.heap.size, 1, none⟩ = some (.slice t.qp t.np t.cp) ∧ w'.cell? ⟨w.heap.size, 2, none⟩ = some (.int .i64 t.l0) ∧ w'.cell? ⟨w.heap.size, 3, none⟩ = some (.int .i64 t.l1) ∧ w'.cell? ⟨w.heap.size, 4, none⟩ = some (.int .i64 t.tn) ∧ w'.cell? ⟨w.heap.size, 5, none⟩ = some (.int .u8 t.py) ∧ w'.cell? ⟨w.heap.size, 6, none⟩ = some (.int .i64 t.mo) ∧ w'.cell? ⟨w.heap.size, 7, none⟩ = some (.slice t.qe t.ne t.ce) ∧ w'.cell? ⟨w.heap.size, 8, none⟩ = some (.bool t.b0) ∧ w'.cell? ⟨w.heap.size, 9, none⟩ = some (.bool t.b1) ∧ w'.cell? ⟨(w.heap.size + 1), 0, none⟩ = some (.int .u8 xo) ∧ w'.cell? ⟨(w.heap.size + 1), 1, none⟩ = some (.int .i64 xm) ∧ w'.cell? ⟨(w.heap.size + 1), 2, none⟩ = some (.int .u8 xd) ∧ w'.cell? ⟨(w.heap.size + 1), 3, none⟩ = some (.int .u8 xe) ∧ w'.cell? ⟨(w.heap.size + 1), 4, none⟩ = some (.int .u8 xf) ∧ w'.cell? ⟨(w.heap.size + 1), 5, none⟩ = some (.int .u8 xg) ∧ w'.cell? ⟨(w.heap.size + 1), 6, none⟩ = some (.slice xq xn xc) ∧ w'.cell? ⟨(w.heap.size + 1 + 1), 0, none⟩ = some (.int .u8 yo) ∧ w'.cell? ⟨(w.heap.size + 1 + 1), 1, none⟩ = some (.int .i64 ym) ∧ w'.cell? ⟨(w.heap.size + 1 + 1), 2, none⟩ = some (.int .u8 yd) ∧ w'.cell? ⟨(w.heap.size + 1 + 1), 3, none⟩ = some (.int .u8 ye) ∧ w'.cell? ⟨(w.heap.size + 1 + 1), 4, none⟩ = some (.int .u8 yf) ∧ w'.cell? ⟨(w.heap.size + 1 + 1), 5, none⟩ = some (.int .u8 yg) ∧ w'.cell? ⟨(w.heap.size + 1 + 1), 6, none⟩ = some (.slice yq yn yc) ∧ Below w0.heap.size w0 w') (by kernel_rfl) ⟨(by have := cell_blk (i := 0) HX4.out; simpa using this), (by have := cell_blk (i := 1) HX4.out; simpa using this), (by have := cell_blk (i := 2) HX4.out; simpa using this), (by have := cell_blk (i := 3) HX4.out; simpa using this), (by have := cell_blk (i := 4) HX4.out; simpa using this), (by have := cell_blk (i := 5) HX4.out; simpa using this), (by have := cell_blk (i := 6) HX4.out; simpa using this), (by have := cell_blk (i := 7) HX4.out; simpa using this), (by have := cell_blk (i := 8) HX4.out; simpa using this), (by have := cell_blk (i := 9) HX4.out; simpa using this), (by have := cell_blk (i := 0) HY4.out; simpa using this), (by have := cell_blk (i := 1) HY4.out; simpa using this), (by have := cell_blk (i := 2) HY4.out; simpa using this), (by have := cell_blk (i := 3) HY4.out; simpa using this), (by have := cell_blk (i := 4) HY4.out; simpa using this), (by have := cell_blk (i := 5) HY4.out; simpa using this), (by have := cell_blk (i := 6) HY4.out; simpa using this), (by have := cell_blk (i := 0) HZ4.out; simpa using this), (by have := cell_blk (i := 1) HZ4.out; simpa using this), (by have := cell_blk (i := 2) HZ4.out; simpa using this), (by have := cell_blk (i := 3) HZ4.out; simpa using this), (by have := cell_blk (i := 4) HZ4.out; simpa using this), (by have := cell_blk (i := 5) HZ4.out; simpa using this), (by have := cell_blk (i := 6) HZ4.out; simpa using this), HB4.out.drew⟩ (fun hHeld => ?_)
            refine take_at (i := 0) (v := ?_) rfl (by kernel_rfl) (by kernel_rfl) (by kernel_rfl) (fun _ _ _ h => h) (Or.inl ⟨by rfl, ?_⟩) hHeld ?_
            rotate_left
            · intro w hSw
              (try dsimp only at hSw)
              go_simp
              try with_reducible rfl
            try simp only [Act.put, List.setIfInBounds_toArray, List.set_cons_zero, List.set_cons_succ]
            try dsimp only
            refine take_at (i := 1) (v := ?_) rfl (by kernel_rfl) (by kernel_rfl) (by kernel_rfl) (fun _ _ _ h => h) (Or.inl ⟨by rfl, ?_⟩) hHeld ?_
            rotate_left
            · intro w hSw
              (try dsimp only at hSw)
              go_simp
              try with_reducible rfl
            try simp only [Act.put, List.setIfInBounds_toArray, List.set_cons_zero, List.set_cons_succ]
            try dsimp only
            refine take_at (i := 2) (v := ?_) rfl (by kernel_rfl) (by kernel_rfl) (by kernel_rfl) (fun _ _ _ h => h) (Or.inl ⟨by rfl, ?_⟩) hHeld ?_
            rotate_left
            · intro w hSw
              (try dsimp only at hSw)
              go_simp
              try with_reducible rfl
            try simp only [Act.put, List.setIfInBounds_toArray, List.set_cons_zero, List.set_cons_succ]
            try dsimp only
            refine take_at (i := 3) (v := ?_) rfl (by kernel_rfl) (by kernel_rfl) (by kernel_rfl) (fun _ _ _ h => h) (Or.inl ⟨by rfl, ?_⟩) hHeld ?_
            rotate_left
            · intro w hSw
              (try dsimp only at hSw)
              go_simp
              try with_reducible rfl
            try simp only [Act.put, List.setIfInBounds_toArray, List.set_cons_zero, List.set_cons_succ]
            try dsimp only
            refine take_at (i := 5) (v := ?_) rfl (by kernel_rfl) (by kernel_rfl) (by kernel_rfl) (fun _ _ _ h => h) (Or.inl ⟨by rfl, ?_⟩) hHeld ?_
            rotate_left
            · intro w hSw
              (try dsimp only at hSw)
              go_simp
              try with_reducible rfl
            try simp only [Act.put, List.setIfInBounds_toArray, List.set_cons_zero, List.set_cons_succ]
            try dsimp only
            refine take_at (i := 6) (v := ?_) rfl (by kernel_rfl) (by kernel_rfl) (by kernel_rfl) (fun _ _ _ h => h) (Or.inl ⟨by rfl, ?_⟩) hHeld ?_
            rotate_left
            · intro w hSw
              (try dsimp only at hSw)
              go_simp
              try with_reducible rfl
            try simp only [Act.put, List.setIfInBounds_toArray, List.set_cons_zero, List.set_cons_succ]
            try dsimp only
            refine take_at (i := 7) (v := ?_) rfl (by kernel_rfl) (by kernel_rfl) (by kernel_rfl) (fun _ _ _ h => h) (Or.inl ⟨by rfl, ?_⟩) hHeld ?_
            rotate_left
            · intro w hSw
              (try dsimp only at hSw)
              go_simp
              try with_reducible rfl
            try simp only [Act.put, List.setIfInBounds_toArray, List.set_cons_zero, List.set_cons_succ]
            try dsimp only
            refine take_at (i := 8) (v := ?_) rfl (by kernel_rfl) (by kernel_rfl) (by kernel_rfl) (fun _ _ _ h => h) (Or.inl ⟨by rfl, ?_⟩) hHeld ?_
            rotate_left
            · intro w hSw
              (try dsimp only at hSw)
              go_simp
              try with_reducible rfl
            try simp only [Act.put, List.setIfInBounds_toArray, List.set_cons_zero, List.set_cons_succ]
            try dsimp only
            refine wpAnyH_ready (rs := [4]) (by kernel_rfl) (by simp) ?_
            refine cons_at rfl (fun K hK => ?_) AllReadyH.nil
            go_simp
            (with_reducible refine (hvx.out _ hHeld.2.2.2.2.2.2.2.2.2.2.2.2.2.2.2.2.2.2.2.2.2.2.2.2).mono ?_)
            rintro e v5 ⟨rfl, d5⟩
            refine hK.out _ _ ⟨cell_later d5 hHeld.1, cell_later d5 hHeld.2.1, cell_later d5 hHeld.2.2.1, cell_later d5 hHeld.2.2.2.1, cell_later d5 hHeld.2.2.2.2.1, cell_later d5 hHeld.2.2.2.2.2.1, cell_later d5 hHeld.2.2.2.2.2.2.1, cell_later d5 hHeld.2.2.2.2.2.2.2.1, cell_later d5 hHeld.2.2.2.2.2.2.2.2.1, cell_later d5 hHeld.2.2.2.2.2.2.2.2.2.1, cell_later d5 hHeld.2.2.2.2.2.2.2.2.2.2.1, cell_later d5 hHeld.2.2.2.2.2.2.2.2.2.2.2.1, cell_later d5 hHeld.2.2.2.2.2.2.2.2.2.2.2.2.1, cell_later d5 hHeld.2.2.2.2.2.2.2.2.2.2.2.2.2.1, cell_later d5 hHeld.2.2.2.2.2.2.2.2.2.2.2.2.2.2.1, cell_later d5 hHeld.2.2.2.2.2.2.2.2.2.2.2.2.2.2.2.1, cell_later d5 hHeld.2.2.2.2.2.2.2.2.2.2.2.2.2.2.2.2.1, cell_later d5 hHeld.2.2.2.2.2.2.2.2.2.2.2.2.2.2.2.2.2.1, cell_later d5 hHeld.2.2.2.2.2.2.2.2.2.2.2.2.2.2.2.2.2.2.1, cell_later d5 hHeld.2.2.2.2.2.2.2.2.2.2.2.2.2.2.2.2.2.2.2.1, cell_later d5 hHeld.2.2.2.2.2.2.2.2.2.2.2.2.2.2.2.2.2.2.2.2.1, cell_later d5 hHeld.2.2.2.2.2.2.2.2.2.2.2.2.2.2.2.2.2.2.2.2.2.1, cell_later d5 hHeld.2.2.2.2.2.2.2.2.2.2.2.2.2.2.2.2.2.2.2.2.2.2.1, cell_later d5 hHeld.2.2.2.2.2.2.2.2.2.2.2.2.2.2.2.2.2.2.2.2.2.2.2.1, Below.trans hHeld.2.2.2.2.2.2.2.2.2.2.2.2.2.2.2.2.2.2.2.2.2.2.2.2 (d5.mono (Below.size hHeld.2.2.2.2.2.2.2.2.2.2.2.2.2.2.2.2.2.2.2.2.2.2.2.2))⟩ (fun hHeld => ?_)
            clear hK K
            try simp only [Act.put, List.setIfInBounds_toArray, List.set_cons_zero, List.set_cons_succ]
            try dsimp only
            refine wpAnyH_ready (rs := [9]) (by kernel_rfl) (by simp) ?_
            refine cons_at rfl (fun K hK => ?_) AllReadyH.nil
            go_simp
            (with_reducible refine (hvy.out _ hHeld.2.2.2.2.2.2.2.2.2.2.2.2.2.2.2.2.2.2.2.2.2.2.2.2).mono ?_)
            rintro e v6 ⟨rfl, d6⟩
            refine hK.out _ _ ⟨cell_later d6 hHeld.1, cell_later d6 hHeld.2.1, cell_later d6 hHeld.2.2.1, cell_later d6 hHeld.2.2.2.1, cell_later d6 hHeld.2.2.2.2.1, cell_later d6 hHeld.2.2.2.2.2.1, cell_later d6 hHeld.2.2.2.2.2.2.1, cell_later d6 hHeld.2.2.2.2.2.2.2.1, cell_later d6 hHeld.2.2.2.2.2.2.2.2.1, cell_later d6 hHeld.2.2.2.2.2.2.2.2.2.1, cell_later d6 hHeld.2.2.2.2.2.2.2.2.2.2.1, cell_later d6 hHeld.2.2.2.2.2.2.2.2.2.2.2.1, cell_later d6 hHeld.2.2.2.2.2.2.2.2.2.2.2.2.1, cell_later d6 hHeld.2.2.2.2.2.2.2.2.2.2.2.2.2.1, cell_later d6 hHeld.2.2.2.2.2.2.2.2.2.2.2.2.2.2.1, cell_later d6 hHeld.2.2.2.2.2.2.2.2.2.2.2.2.2.2.2.1, cell_later d6 hHeld.2.2.2.2.2.2.2.2.2.2.2.2.2.2.2.2.1, cell_later d6 hHeld.2.2.2.2.2.2.2.2.2.2.2.2.2.2.2.2.2.1, cell_later d6 hHeld.2.2.2.2.2.2.2.2.2.2.2.2.2.2.2.2.2.2.1, cell_later d6 hHeld.2.2.2.2.2.2.2.2.2.2.2.2.2.2.2.2.2.2.2.1, cell_later d6 hHeld.2.2.2.2.2.2.2.2.2.2.2.2.2.2.2.2.2.2.2.2.1, cell_later d6 hHeld.2.2.2.2.2.2.2.2.2.2.2.2.2.2.2.2.2.2.2.2.2.1, cell_later d6 hHeld.2.2.2.2.2.2.2.2.2.2.2.2.2.2.2.2.2.2.2.2.2.2.1, cell_later d6 hHeld.2.2.2.2.2.2.2.2.2.2.2.2.2.2.2.2.2.2.2.2.2.2.2.1, Below.trans hHeld.2.2.2.2.2.2.2.2.2.2.2.2.2.2.2.2.2.2.2.2.2.2.2.2 (d6.mono (Below.size hHeld.2.2.2.2.2.2.2.2.2.2.2.2.2.2.2.2.2.2.2.2.2.2.2.2))⟩ (fun hHeld => ?_)
            clear hK K
            try simp only [Act.put, List.setIfInBounds_toArray, List.set_cons_zero, List.set_cons_succ]
            try dsimp only
            refine take_at (i := 10) (v := ?_) rfl (by kernel_rfl) (by kernel_rfl) (by kernel_rfl) (fun _ _ _ h => h) (Or.inl ⟨by rfl, ?_⟩) hHeld ?_
            rotate_left
            · intro w hSw
              (try dsimp only at hSw)
              go_simp
              try with_reducible rfl
            try simp only [Act.put, List.setIfInBounds_toArray, List.set_cons_zero, List.set_cons_succ]
            try dsimp only
            refine take_at (i := 11) (v := ?_) rfl (by kernel_rfl) (by kernel_rfl) (by kernel_rfl) (fun _ _ _ h => h) (Or.inl ⟨by rfl, ?_⟩) hHeld ?_
            rotate_left
            · intro w hSw
              (try dsimp only at hSw)
              go_simp
              try with_reducible rfl
            try simp only [Act.put, List.setIfInBounds_toArray, List.set_cons_zero, List.set_cons_succ]
            try dsimp only
            refine wpAnyH_done (by kernel_rfl) ?_ _
            have HB6 := Lib.hid hHeld.2.2.2.2.2.2.2.2.2.2.2.2.2.2.2.2.2.2.2.2.2.2.2.2
            clear hHeld d5 d6
            have HX6 := Lib.hid ((HB6.out.block _ (heap_lt HX0.out)).trans HX0.out)
            have HY6 := Lib.hid ((HB6.out.block _ (heap_lt HY0.out)).trans HY0.out)
            have HZ6 := Lib.hid ((HB6.out.block _ (heap_lt HZ0.out)).trans HZ0.out)
            go_wp2_with fail
            (with_reducible refine (hnum.out a _).mono ?_)
            rintro e w7 ⟨rfl, b7⟩
            have HX7 := Lib.hid ((b7.block _ (heap_lt HX6.out)).trans HX6.out)
            have HY7 := Lib.hid ((b7.block _ (heap_lt HY6.out)).trans HY6.out)
            have HZ7 := Lib.hid ((b7.block _ (heap_lt HZ6.out)).trans HZ6.out)
            have HB7 := Lib.hid (HB6.out.trans (b7.mono HB6.out.size))
            clear b7
            go_wp2_with fail
            (with_reducible refine (hnum.out b _).mono ?_)
            rintro e w8 ⟨rfl, b8⟩
            have HX8 := Lib.hid ((b8.block _ (heap_lt HX7.out)).trans HX7.out)
            have HY8 := Lib.hid ((b8.block _ (heap_lt HY7.out)).trans HY7.out)
            have HZ8 := Lib.hid ((b8.block _ (heap_lt HZ7.out)).trans HZ7.out)
            have HB8 := Lib.hid (HB7.out.trans (b8.mono HB7.out.size))
            clear b8
            have s1 : IntKind.i64.wrap (a + b) = a + b := IntWalk.i64_in _ (by omega)
            have s2 : IntKind.i64.wrap (a - b) = a - b := IntWalk.i64_in _ (by omega)
            have hm1 : -9999800001 ≤ a * b ∧ a * b ≤ 9999800001 := mul_bd HVA.out HVB.out
            have s3 : IntKind.i64.wrap (a * b) = a * b := IntWalk.i64_in _ (by omega)
            clear hm1
            obtain ⟨w9, hw9⟩ : ∃ w9, w9 = (w8.alloc (.cells #[.int .u8 0, .int .i64 a, .int .u8 0, .int .u8 0, .int .u8 0, .int .u8 0, .slice none 0 0] 33)).alloc (.cells #[.int .u8 0, .int .i64 b, .int .u8 0, .int .u8 0, .int .u8 0, .int .u8 0, .slice none 0 0] 33) := ⟨_, rfl⟩
            have b9 : Below w8.heap.size w8 w9 := by rw [hw9]; exact ((Below.refl _ _).alloc (Nat.le_refl _) _).alloc (by simp) _
            have HX9 := Lib.hid ((b9.block _ (heap_lt HX8.out)).trans HX8.out)
            have HY9 := Lib.hid ((b9.block _ (heap_lt HY8.out)).trans HY8.out)
            have HZ9 := Lib.hid ((b9.block _ (heap_lt HZ8.out)).trans HZ8.out)
            have HP9 : Hid (w9.heap[w8.heap.size]? = some (.cells #[.int .u8 0, .int .i64 a, .int .u8 0, .int .u8 0, .int .u8 0, .int .u8 0, .slice none 0 0] 33 (0, 0))) := Lib.hid (by rw [hw9]; exact heap_older (heap_alloc_new _ _))
            have HQ9 : Hid (w9.heap[w8.heap.size + 1]? = some (.cells #[.int .u8 0, .int .i64 b, .int .u8 0, .int .u8 0, .int .u8 0, .int .u8 0, .slice none 0 0] 33 (0, 0))) := Lib.hid (by rw [hw9]; exact heap_newer _ _ _ (by simp))
            have HB9 := Lib.hid (HB8.out.trans (b9.mono HB8.out.size))
            have HW9 := Lib.hid hw9
            clear b9 hw9
            by_cases ha0 : a = 0
            · have k0 : (a == 0) = true := by simp [ha0]
              have k1 : (a != 0) = false := by simp [ha0]
              have HA0 := Lib.hid ha0
              clear c1 c2 ha0
              go_wp2_with fail
              rw [← HW9.out]
              (with_reducible refine (hbit.out _ _).mono ?_)
              rintro e w' ⟨rfl, hw'⟩
              replace hw' := hw'.symm
              subst hw'
              go_wp2_with fail
              (with_reducible refine (hbit.out _ _).mono ?_)
              rintro e w' ⟨rfl, hw'⟩
              replace hw' := hw'.symm
              subst hw'
              go_wp2_with fail
              (with_reducible refine (hbit.out _ _).mono ?_)
              rintro e w' ⟨rfl, hw'⟩
              replace hw' := hw'.symm
              subst hw'
              go_wp2_with fail
              (with_reducible refine (hbit.out _ _).mono ?_)
              rintro e w' ⟨rfl, hw'⟩
              replace hw' := hw'.symm
              subst hw'
              go_wp2_with fail
              obtain ⟨w10, hw10⟩ : ∃ w10, w10 = w9.alloc (.cells #[.int .i64 4, .int .i64 (a + b), .int .i64 5, .int .i64 (a - b), .int .i64 6, .int .i64 (a * b), .int .i64 7, .int .i64 (oneI (decide (a < b))), .int .i64 8, .int .i64 (oneI (a == b)), .int .i64 9, .int .i64 (oneI false), .int .i64 10, .int .i64 (oneI (b != 0))] 24) := ⟨_, rfl⟩
              have b10 : Below w9.heap.size w9 w10 := by rw [hw10]; exact (Below.refl _ _).alloc (Nat.le_refl _) _
              have HR := Lib.hid (rows_cell (w := w10) (g := w9.heap.size) (a := a) (b := b) (by rw [hw10]; exact heap_alloc_new _ _) rfl (by rw [HA0.out]; rfl) (by rw [bne_dec, HA0.out]; rfl))
              have HX10 := Lib.hid ((b10.block _ (heap_lt HX9.out)).trans HX9.out)
              have HP10 := Lib.hid ((b10.block _ (heap_lt HP9.out)).trans HP9.out)
              have HQ10 := Lib.hid ((b10.block _ (heap_lt HQ9.out)).trans HQ9.out)
              have HB10 := Lib.hid (HB9.out.trans (b10.mono HB9.out.size))
              have HW10 := Lib.hid hw10
              have HF := Lib.hid (heap_lt HP9.out)
              clear b10 hw10 k1 s1 s2 s3 ha1 ha2 hb1 hb2
              rw [← HW10.out]
              go_loopw [106] (fun vk wr => ∃ k : Nat, vk = .int .i64 k ∧ k ≤ 7 ∧ Below w10.heap.size w10 wr) (fun vk _ => 7 - (RowKit.intOf vk).toNat)
              case atStart => exact ⟨0, by rfl, by omega, Below.refl _ _⟩
              case round =>
                obtain ⟨k, rfl, hk, hbw⟩ := hrel
                rename World => wA
                have HBA := Lib.hid hbw
                have HBW := Lib.hid (HB10.out.trans (hbw.mono HB10.out.size))
                have HXA := Lib.hid ((hbw.block _ (heap_lt HX10.out)).trans HX10.out)
                have HPA := Lib.hid ((hbw.block _ (heap_lt HP10.out)).trans HP10.out)
                have HQA := Lib.hid ((hbw.block _ (heap_lt HQ10.out)).trans HQ10.out)
                by_cases hlt : k < 7
                · obtain ⟨o, ho⟩ : ∃ o, o = 4 + k := ⟨_, rfl⟩
                  obtain ⟨q0, q1⟩ := HR.out k hlt
                  rw [← ho] at q0 q1
                  replace q0 := cell_later hbw q0
                  replace q1 := cell_later hbw q1
                  have hv := Lib.hid fun (W : World) (g : Nat) hb hz => hvo.out o W g (by omega) (by omega) hb hz
                  have hbo := Lib.hid fun (W : World) => hboth.out o W (by omega) (by omega)
                  generalize rawV o a b = r at q1 hv
                  have hm : min (max r (-99999)) 99999 = bndI r := by unfold bndI; omega
                  have hm' : max (-99999) (min r 99999) = bndI r := by unfold bndI; omega
                  generalize bndI r = m at hv hm hm'
                  have u0 : IntKind.u8.wrap (o : Int) = (o : Int) := IntWalk.u8_in _ (by omega)
                  have i0 : (0 : Int) ≤ (k : Int) := by omega
                  have i1 : (k : Int) < (7 : Int) := by omega
                  clear hbw ho hk
                  go_wp2_with fail
                  refine wp_region_held_drew (S := fun w' => w'.cell? ⟨w.heap.size, 0, none⟩ = some (.slice t.qk t.nk t.ck) ∧ w'.cell? ⟨w.heap.size, 1, none⟩ = some (.slice t.qp t.np t.cp) ∧ w'.cell? ⟨w.heap.size, 2, none⟩ = some (.int .i64 t.l0) ∧ w'.cell? ⟨w.heap.size, 3, none⟩ = some (.int .i64 t.l1) ∧ w'.cell? ⟨w.heap.size, 4, none⟩ = some (.int .i64 t.tn) ∧ w'.cell? ⟨w.heap.size, 5, none⟩ = some (.int .u8 t.py) ∧ w'.cell? ⟨w.heap.size, 6, none⟩ = some (.int .i64 t.mo) ∧ w'.cell? ⟨w.heap.size, 7, none⟩ = some (.slice t.qe t.ne t.ce) ∧ w'.cell? ⟨w.heap.size, 8, none⟩ = some (.bool t.b0) ∧ w'.cell? ⟨w.heap.size, 9, none⟩ = some (.bool t.b1) ∧ w'.cell? ⟨w8.heap.size, 0, none⟩ = some (.int .u8 0) ∧ w'.cell? ⟨w8.heap.size, 1, none⟩ = some (.int .i64 a) ∧ w'.cell? ⟨w8.heap.size, 2, none⟩ = some (.int .u8 0) ∧ w'.cell? ⟨w8.heap.size, 3, none⟩ = some (.int .u8 0) ∧ w'.cell? ⟨w8.heap.size, 4, none⟩ = some (.int .u8 0) ∧ w'.cell? ⟨w8.heap.size, 5, none⟩ = some (.int .u8 0) ∧ w'.cell? ⟨w8.heap.size, 6, none⟩ = some (.slice none 0 0) ∧ w'.cell? ⟨(w8.heap.size + 1), 0, none⟩ = some (.int .u8 0) ∧ w'.cell? ⟨(w8.heap.size + 1), 1, none⟩ = some (.int .i64 b) ∧ w'.cell? ⟨(w8.heap.size + 1), 2, none⟩ = some (.int .u8 0) ∧ w'.cell? ⟨(w8.heap.size + 1), 3, none⟩ = some (.int .u8 0) ∧ w'.cell? ⟨(w8.heap.size + 1), 4, none⟩ = some (.int .u8 0) ∧ w'.cell? ⟨(w8.heap.size + 1), 5, none⟩ = some (.int .u8 0) ∧ w'.cell? ⟨(w8.heap.size + 1), 6, none⟩ = some (.slice none 0 0) ∧ w'.cell? ⟨w9.heap.size, k * 2, none⟩ = some (.int .i64 (o : Int)) ∧ Below w10.heap.size w10 w') (by kernel_rfl) ⟨(by have := cell_blk (i := 0) HXA.out; simpa using this), (by have := cell_blk (i := 1) HXA.out; simpa using this), (by have := cell_blk (i := 2) HXA.out; simpa using this), (by have := cell_blk (i := 3) HXA.out; simpa using this), (by have := cell_blk (i := 4) HXA.out; simpa using this), (by have := cell_blk (i := 5) HXA.out; simpa using this), (by have := cell_blk (i := 6) HXA.out; simpa using this), (by have := cell_blk (i := 7) HXA.out; simpa using this), (by have := cell_blk (i := 8) HXA.out; simpa using this), (by have := cell_blk (i := 9) HXA.out; simpa using this), (by have := cell_blk (i := 0) HPA.out; simpa using this), (by have := cell_blk (i := 1) HPA.out; simpa using this), (by have := cell_blk (i := 2) HPA.out; simpa using this), (by have := cell_blk (i := 3) HPA.out; simpa using this), (by have := cell_blk (i := 4) HPA.out; simpa using this), (by have := cell_blk (i := 5) HPA.out; simpa using this), (by have := cell_blk (i := 6) HPA.out; simpa using this), (by have := cell_blk (i := 0) HQA.out; simpa using this), (by have := cell_blk (i := 1) HQA.out; simpa using this), (by have := cell_blk (i := 2) HQA.out; simpa using this), (by have := cell_blk (i := 3) HQA.out; simpa using this), (by have := cell_blk (i := 4) HQA.out; simpa using this), (by have := cell_blk (i := 5) HQA.out; simpa using this), (by have := cell_blk (i := 6) HQA.out; simpa using this), (by simpa using q0), HBA.out.drew⟩ (fun hHeld => ?_)
                  refine take_at (i := 0) (v := ?_) rfl (by kernel_rfl) (by kernel_rfl) (by kernel_rfl) (fun _ _ _ h => h) (Or.inl ⟨by rfl, ?_⟩) hHeld ?_
                  rotate_left
                  · intro w hSw
                    (try dsimp only at hSw)
                    go_simp
                    try with_reducible rfl
                  try simp only [Act.put, List.setIfInBounds_toArray, List.set_cons_zero, List.set_cons_succ]
                  try dsimp only
                  refine take_at (i := 1) (v := ?_) rfl (by kernel_rfl) (by kernel_rfl) (by kernel_rfl) (fun _ _ _ h => h) (Or.inl ⟨by rfl, ?_⟩) hHeld ?_
                  rotate_left
                  · intro w hSw
                    (try dsimp only at hSw)
                    go_simp
                    try with_reducible rfl
                  try simp only [Act.put, List.setIfInBounds_toArray, List.set_cons_zero, List.set_cons_succ]
                  try dsimp only
                  refine take_at (i := 2) (v := ?_) rfl (by kernel_rfl) (by kernel_rfl) (by kernel_rfl) (fun _ _ _ h => h) (Or.inl ⟨by rfl, ?_⟩) hHeld ?_
                  rotate_left
                  · intro w hSw
                    (try dsimp only at hSw)
                    go_simp
                    try with_reducible rfl
                  try simp only [Act.put, List.setIfInBounds_toArray, List.set_cons_zero, List.set_cons_succ]
                  try dsimp only
                  refine take_at (i := 3) (v := ?_) rfl (by kernel_rfl) (by kernel_rfl) (by kernel_rfl) (fun _ _ _ h => h) (Or.inl ⟨by rfl, ?_⟩) hHeld ?_
                  rotate_left
                  · intro w hSw
                    (try dsimp only at hSw)
                    go_simp
                    try with_reducible rfl
                  try simp only [Act.put, List.setIfInBounds_toArray, List.set_cons_zero, List.set_cons_succ]
                  try dsimp only
                  refine take_at (i := 4) (v := ?_) rfl (by kernel_rfl) (by kernel_rfl) (by kernel_rfl) (fun _ _ _ h => h) (Or.inl ⟨by rfl, ?_⟩) hHeld ?_
                  rotate_left
                  · intro w hSw
                    (try dsimp only at hSw)
                    go_simp
                    try with_reducible rfl
                  try simp only [Act.put, List.setIfInBounds_toArray, List.set_cons_zero, List.set_cons_succ]
                  try dsimp only
                  refine take_at (i := 5) (v := ?_) rfl (by kernel_rfl) (by kernel_rfl) (by kernel_rfl) (fun _ _ _ h => h) (Or.inl ⟨by rfl, ?_⟩) hHeld ?_
                  rotate_left
                  · intro w hSw
                    (try dsimp only at hSw)
                    go_simp
                    try with_reducible rfl
                  try simp only [Act.put, List.setIfInBounds_toArray, List.set_cons_zero, List.set_cons_succ]
                  try dsimp only
                  refine take_at (i := 6) (v := ?_) rfl (by kernel_rfl) (by kernel_rfl) (by kernel_rfl) (fun _ _ _ h => h) (Or.inl ⟨by rfl, ?_⟩) hHeld ?_
                  rotate_left
                  · intro w hSw
                    (try dsimp only at hSw)
                    go_simp
                    try with_reducible rfl
                  try simp only [Act.put, List.setIfInBounds_toArray, List.set_cons_zero, List.set_cons_succ]
                  try dsimp only
                  refine take_at (i := 7) (v := ?_) rfl (by kernel_rfl) (by kernel_rfl) (by kernel_rfl) (fun _ _ _ h => h) (Or.inl ⟨by rfl, ?_⟩) hHeld ?_
                  rotate_left
                  · intro w hSw
                    (try dsimp only at hSw)
                    go_simp
                    try with_reducible rfl
                  try simp only [Act.put, List.setIfInBounds_toArray, List.set_cons_zero, List.set_cons_succ]
                  try dsimp only
                  refine take_at (i := 8) (v := ?_) rfl (by kernel_rfl) (by kernel_rfl) (by kernel_rfl) (fun _ _ _ h => h) (Or.inl ⟨by rfl, ?_⟩) hHeld ?_
                  rotate_left
                  · intro w hSw
                    (try dsimp only at hSw)
                    go_simp
                    try with_reducible rfl
                  try simp only [Act.put, List.setIfInBounds_toArray, List.set_cons_zero, List.set_cons_succ]
                  try dsimp only
                  refine take_at (i := 9) (v := ?_) rfl (by kernel_rfl) (by kernel_rfl) (by kernel_rfl) (fun _ _ _ h => h) (Or.inl ⟨by rfl, ?_⟩) hHeld ?_
                  rotate_left
                  · intro w hSw
                    (try dsimp only at hSw)
                    go_simp
                    try with_reducible rfl
                  try simp only [Act.put, List.setIfInBounds_toArray, List.set_cons_zero, List.set_cons_succ]
                  try dsimp only
                  refine take_at (i := 10) (v := ?_) rfl (by kernel_rfl) (by kernel_rfl) (by kernel_rfl) (fun _ _ _ h => h) (Or.inl ⟨by rfl, ?_⟩) hHeld ?_
                  rotate_left
                  · intro w hSw
                    (try dsimp only at hSw)
                    go_simp
                    try with_reducible rfl
                  try simp only [Act.put, List.setIfInBounds_toArray, List.set_cons_zero, List.set_cons_succ]
                  try dsimp only
                  refine take_at (i := 13) (v := ?_) rfl (by kernel_rfl) (by kernel_rfl) (by kernel_rfl) (fun _ _ _ h => h) (Or.inl ⟨by rfl, ?_⟩) hHeld ?_
                  rotate_left
                  · intro w hSw
                    (try dsimp only at hSw)
                    go_simp
                    try with_reducible rfl
                  try simp only [Act.put, List.setIfInBounds_toArray, List.set_cons_zero, List.set_cons_succ]
                  try dsimp only
                  refine wpAnyH_ready (rs := [11]) (by kernel_rfl) (by simp) ?_
                  refine cons_at rfl (fun K hK => ?_) AllReadyH.nil
                  go_simp
                  (with_reducible refine (hbo.out _).mono ?_)
                  rintro e v21 ⟨⟨g21, rfl, hx21⟩, d21⟩
                  refine hK.out _ _ ⟨cell_later d21 hHeld.1, cell_later d21 hHeld.2.1, cell_later d21 hHeld.2.2.1, cell_later d21 hHeld.2.2.2.1, cell_later d21 hHeld.2.2.2.2.1, cell_later d21 hHeld.2.2.2.2.2.1, cell_later d21 hHeld.2.2.2.2.2.2.1, cell_later d21 hHeld.2.2.2.2.2.2.2.1, cell_later d21 hHeld.2.2.2.2.2.2.2.2.1, cell_later d21 hHeld.2.2.2.2.2.2.2.2.2.1, cell_later d21 hHeld.2.2.2.2.2.2.2.2.2.2.1, cell_later d21 hHeld.2.2.2.2.2.2.2.2.2.2.2.1, cell_later d21 hHeld.2.2.2.2.2.2.2.2.2.2.2.2.1, cell_later d21 hHeld.2.2.2.2.2.2.2.2.2.2.2.2.2.1, cell_later d21 hHeld.2.2.2.2.2.2.2.2.2.2.2.2.2.2.1, cell_later d21 hHeld.2.2.2.2.2.2.2.2.2.2.2.2.2.2.2.1, cell_later d21 hHeld.2.2.2.2.2.2.2.2.2.2.2.2.2.2.2.2.1, cell_later d21 hHeld.2.2.2.2.2.2.2.2.2.2.2.2.2.2.2.2.2.1, cell_later d21 hHeld.2.2.2.2.2.2.2.2.2.2.2.2.2.2.2.2.2.2.1, cell_later d21 hHeld.2.2.2.2.2.2.2.2.2.2.2.2.2.2.2.2.2.2.2.1, cell_later d21 hHeld.2.2.2.2.2.2.2.2.2.2.2.2.2.2.2.2.2.2.2.2.1, cell_later d21 hHeld.2.2.2.2.2.2.2.2.2.2.2.2.2.2.2.2.2.2.2.2.2.1, cell_later d21 hHeld.2.2.2.2.2.2.2.2.2.2.2.2.2.2.2.2.2.2.2.2.2.2.1, cell_later d21 hHeld.2.2.2.2.2.2.2.2.2.2.2.2.2.2.2.2.2.2.2.2.2.2.2.1, cell_later d21 hHeld.2.2.2.2.2.2.2.2.2.2.2.2.2.2.2.2.2.2.2.2.2.2.2.2.1, Below.trans hHeld.2.2.2.2.2.2.2.2.2.2.2.2.2.2.2.2.2.2.2.2.2.2.2.2.2 (d21.mono (Below.size hHeld.2.2.2.2.2.2.2.2.2.2.2.2.2.2.2.2.2.2.2.2.2.2.2.2.2))⟩ (fun hHeld => ?_)
                  clear hK K
                  try simp only [Act.put, List.setIfInBounds_toArray, List.set_cons_zero, List.set_cons_succ]
                  try dsimp only
                  refine wpAnyH_ready (rs := [12]) (by kernel_rfl) (by simp) ?_
                  refine cons_at rfl (fun K hK => ?_) AllReadyH.nil
                  go_simp
                  (with_reducible refine (hv.out _ g21 (HB10.out.trans (Below.mono hHeld.2.2.2.2.2.2.2.2.2.2.2.2.2.2.2.2.2.2.2.2.2.2.2.2.2 HB10.out.size)) hx21).mono ?_)
                  rintro e v22 ⟨rfl, d22⟩
                  refine hK.out _ _ ⟨cell_later d22 hHeld.1, cell_later d22 hHeld.2.1, cell_later d22 hHeld.2.2.1, cell_later d22 hHeld.2.2.2.1, cell_later d22 hHeld.2.2.2.2.1, cell_later d22 hHeld.2.2.2.2.2.1, cell_later d22 hHeld.2.2.2.2.2.2.1, cell_later d22 hHeld.2.2.2.2.2.2.2.1, cell_later d22 hHeld.2.2.2.2.2.2.2.2.1, cell_later d22 hHeld.2.2.2.2.2.2.2.2.2.1, cell_later d22 hHeld.2.2.2.2.2.2.2.2.2.2.1, cell_later d22 hHeld.2.2.2.2.2.2.2.2.2.2.2.1, cell_later d22 hHeld.2.2.2.2.2.2.2.2.2.2.2.2.1, cell_later d22 hHeld.2.2.2.2.2.2.2.2.2.2.2.2.2.1, cell_later d22 hHeld.2.2.2.2.2.2.2.2.2.2.2.2.2.2.1, cell_later d22 hHeld.2.2.2.2.2.2.2.2.2.2.2.2.2.2.2.1, cell_later d22 hHeld.2.2.2.2.2.2.2.2.2.2.2.2.2.2.2.2.1, cell_later d22 hHeld.2.2.2.2.2.2.2.2.2.2.2.2.2.2.2.2.2.1, cell_later d22 hHeld.2.2.2.2.2.2.2.2.2.2.2.2.2.2.2.2.2.2.1, cell_later d22 hHeld.2.2.2.2.2.2.2.2.2.2.2.2.2.2.2.2.2.2.2.1, cell_later d22 hHeld.2.2.2.2.2.2.2.2.2.2.2.2.2.2.2.2.2.2.2.2.1, cell_later d22 hHeld.2.2.2.2.2.2.2.2.2.2.2.2.2.2.2.2.2.2.2.2.2.1, cell_later d22 hHeld.2.2.2.2.2.2.2.2.2.2.2.2.2.2.2.2.2.2.2.2.2.2.1, cell_later d22 hHeld.2.2.2.2.2.2.2.2.2.2.2.2.2.2.2.2.2.2.2.2.2.2.2.1, cell_later d22 hHeld.2.2.2.2.2.2.2.2.2.2.2.2.2.2.2.2.2.2.2.2.2.2.2.2.1, Below.trans hHeld.2.2.2.2.2.2.2.2.2.2.2.2.2.2.2.2.2.2.2.2.2.2.2.2.2 (d22.mono (Below.size hHeld.2.2.2.2.2.2.2.2.2.2.2.2.2.2.2.2.2.2.2.2.2.2.2.2.2))⟩ (fun hHeld => ?_)
                  clear hK K
                  try simp only [Act.put, List.setIfInBounds_toArray, List.set_cons_zero, List.set_cons_succ]
                  try dsimp only
                  refine take_at (i := 14) (v := ?_) rfl (by kernel_rfl) (by kernel_rfl) (by kernel_rfl) (fun _ _ _ h => h) (Or.inl ⟨by rfl, ?_⟩) hHeld ?_
                  rotate_left
                  · intro w hSw
                    (try dsimp only at hSw)
                    go_simp
                    try with_reducible rfl
                  try simp only [Act.put, List.setIfInBounds_toArray, List.set_cons_zero, List.set_cons_succ]
                  try dsimp only
                  refine wpAnyH_done (by kernel_rfl) ?_ _
                  go_wp2_with fail
                  go_roundw
                  case rel => exact ⟨k + 1, by go_num, by omega, hHeld.2.2.2.2.2.2.2.2.2.2.2.2.2.2.2.2.2.2.2.2.2.2.2.2.2⟩
                  case measure => simp [RowKit.intOf]; omega
                · obtain rfl : k = 7 := by omega
                  clear hbw
                  have y0 := cell_blk (i := 0) HXA.out
                  have y1 := cell_blk (i := 1) HXA.out
                  have y2 := cell_blk (i := 2) HXA.out
                  have y3 := cell_blk (i := 3) HXA.out
                  have y4 := cell_blk (i := 4) HXA.out
                  have y5 := cell_blk (i := 5) HXA.out
                  have y6 := cell_blk (i := 6) HXA.out
                  have y7 := cell_blk (i := 7) HXA.out
                  have y8 := cell_blk (i := 8) HXA.out
                  have y9 := cell_blk (i := 9) HXA.out
                  simp at y0 y1 y2 y3 y4 y5 y6 y7 y8 y9
                  have z0 := cell_blk (i := 0) HPA.out
                  have z1 := cell_blk (i := 1) HPA.out
                  have z2 := cell_blk (i := 2) HPA.out
                  have z3 := cell_blk (i := 3) HPA.out
                  have z4 := cell_blk (i := 4) HPA.out
                  have z5 := cell_blk (i := 5) HPA.out
                  have z6 := cell_blk (i := 6) HPA.out
                  simp at z0 z1 z2 z3 z4 z5 z6
                  obtain ⟨w11, hw11⟩ : ∃ w11, w11 = wA.alloc (.cells #[.int .u8 0, .int .i64 a, .int .u8 0, .int .u8 0, .int .u8 0, .int .u8 0, .slice none 0 0] 33) := ⟨_, rfl⟩
                  have b11 : Below wA.heap.size wA w11 := by rw [hw11]; exact (Below.refl _ _).alloc (Nat.le_refl _) _
                  have HB11 := Lib.hid (HBW.out.trans (b11.mono HBW.out.size))
                  have hq := Lib.hid (hvn.out w11 wA.heap.size HB11.out (notE_C (a := a) (by rw [hw11]; exact heap_alloc_new _ _) rfl))
                  have HW11 := Lib.hid hw11
                  clear b11 hw11
                  have e0 : oneI (decide (a = 0)) = 1 := by simp [oneI, HA0.out]
                  rw [e0] at hq
                  have e1 : oneI true = 1 := rfl
                  clear e0
                  go_wp2_with fail
                  rw [← HW11.out]
                  (with_reducible refine hq.out.mono ?_)
                  rintro e w12 ⟨rfl, b12⟩
                  have HB12 := Lib.hid (HB11.out.trans (b12.mono HB11.out.size))
                  clear b12
                  go_wp2_with fail
                  (with_reducible refine (hbit.out _ _).mono ?_)
                  rintro e w' ⟨rfl, hw'⟩
                  replace hw' := hw'.symm
                  subst hw'
                  go_wp2_with fail
                  (with_reducible refine (hliv.out _).mono ?_)
                  rintro e w13 ⟨rfl, b13⟩
                  have HB13 := Lib.hid (HB12.out.trans (b13.mono HB12.out.size))
                  clear b13
                  go_wp2_with fail
                  go_ret
                  exact ⟨rfl, HB0.out.trans (HB13.out.mono HB0.out.size)⟩
            · have k0 : (a == 0) = false := by simp [ha0]
              have k1 : (a != 0) = true := by simp [ha0]
              have HA0 := Lib.hid ha0
              clear c1 c2 ha0
              go_wp2_with fail
              rw [← HW9.out]
              (with_reducible refine (hbit.out _ _).mono ?_)
              rintro e w' ⟨rfl, hw'⟩
              replace hw' := hw'.symm
              subst hw'
              go_wp2_with fail
              (with_reducible refine (hbit.out _ _).mono ?_)
              rintro e w' ⟨rfl, hw'⟩
              replace hw' := hw'.symm
              subst hw'
              go_wp2_with fail
              (with_reducible refine (hbit.out _ _).mono ?_)
              rintro e w' ⟨rfl, hw'⟩
              replace hw' := hw'.symm
              subst hw'
              go_wp2_with fail
              (with_reducible refine (hbit.out _ _).mono ?_)
              rintro e w' ⟨rfl, hw'⟩
              replace hw' := hw'.symm
              subst hw'
              go_wp2_with fail
              obtain ⟨w10, hw10⟩ : ∃ w10, w10 = w9.alloc (.cells #[.int .i64 4, .int .i64 (a + b), .int .i64 5, .int .i64 (a - b), .int .i64 6, .int .i64 (a * b), .int .i64 7, .int .i64 (oneI (decide (a < b))), .int .i64 8, .int .i64 (oneI (a == b)), .int .i64 9, .int .i64 (oneI (b != 0)), .int .i64 10, .int .i64 (oneI true)] 24) := ⟨_, rfl⟩
              have b10 : Below w9.heap.size w9 w10 := by rw [hw10]; exact (Below.refl _ _).alloc (Nat.le_refl _) _
              have HR := Lib.hid (rows_cell (w := w10) (g := w9.heap.size) (a := a) (b := b) (by rw [hw10]; exact heap_alloc_new _ _) rfl (by rw [bne_dec]; unfold rawV; simp [HA0.out]) (by unfold rawV; simp [HA0.out]))
              have HX10 := Lib.hid ((b10.block _ (heap_lt HX9.out)).trans HX9.out)
              have HP10 := Lib.hid ((b10.block _ (heap_lt HP9.out)).trans HP9.out)
              have HQ10 := Lib.hid ((b10.block _ (heap_lt HQ9.out)).trans HQ9.out)
              have HB10 := Lib.hid (HB9.out.trans (b10.mono HB9.out.size))
              have HW10 := Lib.hid hw10
              have HF := Lib.hid (heap_lt HP9.out)
              clear b10 hw10 k1 s1 s2 s3 ha1 ha2 hb1 hb2
              rw [← HW10.out]
              go_loopw [106] (fun vk wr => ∃ k : Nat, vk = .int .i64 k ∧ k ≤ 7 ∧ Below w10.heap.size w10 wr) (fun vk _ => 7 - (RowKit.intOf vk).toNat)
              case atStart => exact ⟨0, by rfl, by omega, Below.refl _ _⟩
              case round =>
                obtain ⟨k, rfl, hk, hbw⟩ := hrel
                rename World => wA
                have HBA := Lib.hid hbw
                have HBW := Lib.hid (HB10.out.trans (hbw.mono HB10.out.size))
                have HXA := Lib.hid ((hbw.block _ (heap_lt HX10.out)).trans HX10.out)
                have HPA := Lib.hid ((hbw.block _ (heap_lt HP10.out)).trans HP10.out)
                have HQA := Lib.hid ((hbw.block _ (heap_lt HQ10.out)).trans HQ10.out)
                by_cases hlt : k < 7
                · obtain ⟨o, ho⟩ : ∃ o, o = 4 + k := ⟨_, rfl⟩
                  obtain ⟨q0, q1⟩ := HR.out k hlt
                  rw [← ho] at q0 q1
                  replace q0 := cell_later hbw q0
                  replace q1 := cell_later hbw q1
                  have hv := Lib.hid fun (W : World) (g : Nat) hb hz => hvo.out o W g (by omega) (by omega) hb hz
                  have hbo := Lib.hid fun (W : World) => hboth.out o W (by omega) (by omega)
                  generalize rawV o a b = r at q1 hv
                  have hm : min (max r (-99999)) 99999 = bndI r := by unfold bndI; omega
                  have hm' : max (-99999) (min r 99999) = bndI r := by unfold bndI; omega
                  generalize bndI r = m at hv hm hm'
                  have u0 : IntKind.u8.wrap (o : Int) = (o : Int) := IntWalk.u8_in _ (by omega)
                  have i0 : (0 : Int) ≤ (k : Int) := by omega
                  have i1 : (k : Int) < (7 : Int) := by omega
                  clear hbw ho hk
                  go_wp2_with fail
                  refine wp_region_held_drew (S := fun w' => w'.cell? ⟨w.heap.size, 0, none⟩ = some (.slice t.qk t.nk t.ck) ∧ w'.cell? ⟨w.heap.size, 1, none⟩ = some (.slice t.qp t.np t.cp) ∧ w'.cell? ⟨w.heap.size, 2, none⟩ = some (.int .i64 t.l0) ∧ w'.cell? ⟨w.heap.size, 3, none⟩ = some (.int .i64 t.l1) ∧ w'.cell? ⟨w.heap.size, 4, none⟩ = some (.int .i64 t.tn) ∧ w'.cell? ⟨w.heap.size, 5, none⟩ = some (.int .u8 t.py) ∧ w'.cell? ⟨w.heap.size, 6, none⟩ = some (.int .i64 t.mo) ∧ w'.cell? ⟨w.heap.size, 7, none⟩ = some (.slice t.qe t.ne t.ce) ∧ w'.cell? ⟨w.heap.size, 8, none⟩ = some (.bool t.b0) ∧ w'.cell? ⟨w.heap.size, 9, none⟩ = some (.bool t.b1) ∧ w'.cell? ⟨w8.heap.size, 0, none⟩ = some (.int .u8 0) ∧ w'.cell? ⟨w8.heap.size, 1, none⟩ = some (.int .i64 a) ∧ w'.cell? ⟨w8.heap.size, 2, none⟩ = some (.int .u8 0) ∧ w'.cell? ⟨w8.heap.size, 3, none⟩ = some (.int .u8 0) ∧ w'.cell? ⟨w8.heap.size, 4, none⟩ = some (.int .u8 0) ∧ w'.cell? ⟨w8.heap.size, 5, none⟩ = some (.int .u8 0) ∧ w'.cell? ⟨w8.heap.size, 6, none⟩ = some (.slice none 0 0) ∧ w'.cell? ⟨(w8.heap.size + 1), 0, none⟩ = some (.int .u8 0) ∧ w'.cell? ⟨(w8.heap.size + 1), 1, none⟩ = some (.int .i64 b) ∧ w'.cell? ⟨(w8.heap.size + 1), 2, none⟩ = some (.int .u8 0) ∧ w'.cell? ⟨(w8.heap.size + 1), 3, none⟩ = some (.int .u8 0) ∧ w'.cell? ⟨(w8.heap.size + 1), 4, none⟩ = some (.int .u8 0) ∧ w'.cell? ⟨(w8.heap.size + 1), 5, none⟩ = some (.int .u8 0) ∧ w'.cell? ⟨(w8.heap.size + 1), 6, none⟩ = some (.slice none 0 0) ∧ w'.cell? ⟨w9.heap.size, k * 2, none⟩ = some (.int .i64 (o : Int)) ∧ Below w10.heap.size w10 w') (by kernel_rfl) ⟨(by have := cell_blk (i := 0) HXA.out; simpa using this), (by have := cell_blk (i := 1) HXA.out; simpa using this), (by have := cell_blk (i := 2) HXA.out; simpa using this), (by have := cell_blk (i := 3) HXA.out; simpa using this), (by have := cell_blk (i := 4) HXA.out; simpa using this), (by have := cell_blk (i := 5) HXA.out; simpa using this), (by have := cell_blk (i := 6) HXA.out; simpa using this), (by have := cell_blk (i := 7) HXA.out; simpa using this), (by have := cell_blk (i := 8) HXA.out; simpa using this), (by have := cell_blk (i := 9) HXA.out; simpa using this), (by have := cell_blk (i := 0) HPA.out; simpa using this), (by have := cell_blk (i := 1) HPA.out; simpa using this), (by have := cell_blk (i := 2) HPA.out; simpa using this), (by have := cell_blk (i := 3) HPA.out; simpa using this), (by have := cell_blk (i := 4) HPA.out; simpa using this), (by have := cell_blk (i := 5) HPA.out; simpa using this), (by have := cell_blk (i := 6) HPA.out; simpa using this), (by have := cell_blk (i := 0) HQA.out; simpa using this), (by have := cell_blk (i := 1) HQA.out; simpa using this), (by have := cell_blk (i := 2) HQA.out; simpa using this), (by have := cell_blk (i := 3) HQA.out; simpa using this), (by have := cell_blk (i := 4) HQA.out; simpa using this), (by have := cell_blk (i := 5) HQA.out; simpa using this), (by have := cell_blk (i := 6) HQA.out; simpa using this), (by simpa using q0), HBA.out.drew⟩ (fun hHeld => ?_)
                  refine take_at (i := 0) (v := ?_) rfl (by kernel_rfl) (by kernel_rfl) (by kernel_rfl) (fun _ _ _ h => h) (Or.inl ⟨by rfl, ?_⟩) hHeld ?_
                  rotate_left
                  · intro w hSw
                    (try dsimp only at hSw)
                    go_simp
                    try with_reducible rfl
                  try simp only [Act.put, List.setIfInBounds_toArray, List.set_cons_zero, List.set_cons_succ]
                  try dsimp only
                  refine take_at (i := 1) (v := ?_) rfl (by kernel_rfl) (by kernel_rfl) (by kernel_rfl) (fun _ _ _ h => h) (Or.inl ⟨by rfl, ?_⟩) hHeld ?_
                  rotate_left
                  · intro w hSw
                    (try dsimp only at hSw)
                    go_simp
                    try with_reducible rfl
                  try simp only [Act.put, List.setIfInBounds_toArray, List.set_cons_zero, List.set_cons_succ]
                  try dsimp only
                  refine take_at (i := 2) (v := ?_) rfl (by kernel_rfl) (by kernel_rfl) (by kernel_rfl) (fun _ _ _ h => h) (Or.inl ⟨by rfl, ?_⟩) hHeld ?_
                  rotate_left
                  · intro w hSw
                    (try dsimp only at hSw)
                    go_simp
                    try with_reducible rfl
                  try simp only [Act.put, List.setIfInBounds_toArray, List.set_cons_zero, List.set_cons_succ]
                  try dsimp only
                  refine take_at (i := 3) (v := ?_) rfl (by kernel_rfl) (by kernel_rfl) (by kernel_rfl) (fun _ _ _ h => h) (Or.inl ⟨by rfl, ?_⟩) hHeld ?_
                  rotate_left
                  · intro w hSw
                    (try dsimp only at hSw)
                    go_simp
                    try with_reducible rfl
                  try simp only [Act.put, List.setIfInBounds_toArray, List.set_cons_zero, List.set_cons_succ]
                  try dsimp only
                  refine take_at (i := 4) (v := ?_) rfl (by kernel_rfl) (by kernel_rfl) (by kernel_rfl) (fun _ _ _ h => h) (Or.inl ⟨by rfl, ?_⟩) hHeld ?_
                  rotate_left
                  · intro w hSw
                    (try dsimp only at hSw)
                    go_simp
                    try with_reducible rfl
                  try simp only [Act.put, List.setIfInBounds_toArray, List.set_cons_zero, List.set_cons_succ]
                  try dsimp only
                  refine take_at (i := 5) (v := ?_) rfl (by kernel_rfl) (by kernel_rfl) (by kernel_rfl) (fun _ _ _ h => h) (Or.inl ⟨by rfl, ?_⟩) hHeld ?_
                  rotate_left
                  · intro w hSw
                    (try dsimp only at hSw)
                    go_simp
                    try with_reducible rfl
                  try simp only [Act.put, List.setIfInBounds_toArray, List.set_cons_zero, List.set_cons_succ]
                  try dsimp only
                  refine take_at (i := 6) (v := ?_) rfl (by kernel_rfl) (by kernel_rfl) (by kernel_rfl) (fun _ _ _ h => h) (Or.inl ⟨by rfl, ?_⟩) hHeld ?_
                  rotate_left
                  · intro w hSw
                    (try dsimp only at hSw)
                    go_simp
                    try with_reducible rfl
                  try simp only [Act.put, List.setIfInBounds_toArray, List.set_cons_zero, List.set_cons_succ]
                  try dsimp only
                  refine take_at (i := 7) (v := ?_) rfl (by kernel_rfl) (by kernel_rfl) (by kernel_rfl) (fun _ _ _ h => h) (Or.inl ⟨by rfl, ?_⟩) hHeld ?_
                  rotate_left
                  · intro w hSw
                    (try dsimp only at hSw)
                    go_simp
                    try with_reducible rfl
                  try simp only [Act.put, List.setIfInBounds_toArray, List.set_cons_zero, List.set_cons_succ]
                  try dsimp only
                  refine take_at (i := 8) (v := ?_) rfl (by kernel_rfl) (by kernel_rfl) (by kernel_rfl) (fun _ _ _ h => h) (Or.inl ⟨by rfl, ?_⟩) hHeld ?_
                  rotate_left
                  · intro w hSw
                    (try dsimp only at hSw)
                    go_simp
                    try with_reducible rfl
                  try simp only [Act.put, List.setIfInBounds_toArray, List.set_cons_zero, List.set_cons_succ]
                  try dsimp only
                  refine take_at (i := 9) (v := ?_) rfl (by kernel_rfl) (by kernel_rfl) (by kernel_rfl) (fun _ _ _ h => h) (Or.inl ⟨by rfl, ?_⟩) hHeld ?_
                  rotate_left
                  · intro w hSw
                    (try dsimp only at hSw)
                    go_simp
                    try with_reducible rfl
                  try simp only [Act.put, List.setIfInBounds_toArray, List.set_cons_zero, List.set_cons_succ]
                  try dsimp only
                  refine take_at (i := 10) (v := ?_) rfl (by kernel_rfl) (by kernel_rfl) (by kernel_rfl) (fun _ _ _ h => h) (Or.inl ⟨by rfl, ?_⟩) hHeld ?_
                  rotate_left
                  · intro w hSw
                    (try dsimp only at hSw)
                    go_simp
                    try with_reducible rfl
                  try simp only [Act.put, List.setIfInBounds_toArray, List.set_cons_zero, List.set_cons_succ]
                  try dsimp only
                  refine take_at (i := 13) (v := ?_) rfl (by kernel_rfl) (by kernel_rfl) (by kernel_rfl) (fun _ _ _ h => h) (Or.inl ⟨by rfl, ?_⟩) hHeld ?_
                  rotate_left
                  · intro w hSw
                    (try dsimp only at hSw)
                    go_simp
                    try with_reducible rfl
                  try simp only [Act.put, List.setIfInBounds_toArray, List.set_cons_zero, List.set_cons_succ]
                  try dsimp only
                  refine wpAnyH_ready (rs := [11]) (by kernel_rfl) (by simp) ?_
                  refine cons_at rfl (fun K hK => ?_) AllReadyH.nil
                  go_simp
                  (with_reducible refine (hbo.out _).mono ?_)
                  rintro e v21 ⟨⟨g21, rfl, hx21⟩, d21⟩
                  refine hK.out _ _ ⟨cell_later d21 hHeld.1, cell_later d21 hHeld.2.1, cell_later d21 hHeld.2.2.1, cell_later d21 hHeld.2.2.2.1, cell_later d21 hHeld.2.2.2.2.1, cell_later d21 hHeld.2.2.2.2.2.1, cell_later d21 hHeld.2.2.2.2.2.2.1, cell_later d21 hHeld.2.2.2.2.2.2.2.1, cell_later d21 hHeld.2.2.2.2.2.2.2.2.1, cell_later d21 hHeld.2.2.2.2.2.2.2.2.2.1, cell_later d21 hHeld.2.2.2.2.2.2.2.2.2.2.1, cell_later d21 hHeld.2.2.2.2.2.2.2.2.2.2.2.1, cell_later d21 hHeld.2.2.2.2.2.2.2.2.2.2.2.2.1, cell_later d21 hHeld.2.2.2.2.2.2.2.2.2.2.2.2.2.1, cell_later d21 hHeld.2.2.2.2.2.2.2.2.2.2.2.2.2.2.1, cell_later d21 hHeld.2.2.2.2.2.2.2.2.2.2.2.2.2.2.2.1, cell_later d21 hHeld.2.2.2.2.2.2.2.2.2.2.2.2.2.2.2.2.1, cell_later d21 hHeld.2.2.2.2.2.2.2.2.2.2.2.2.2.2.2.2.2.1, cell_later d21 hHeld.2.2.2.2.2.2.2.2.2.2.2.2.2.2.2.2.2.2.1, cell_later d21 hHeld.2.2.2.2.2.2.2.2.2.2.2.2.2.2.2.2.2.2.2.1, cell_later d21 hHeld.2.2.2.2.2.2.2.2.2.2.2.2.2.2.2.2.2.2.2.2.1, cell_later d21 hHeld.2.2.2.2.2.2.2.2.2.2.2.2.2.2.2.2.2.2.2.2.2.1, cell_later d21 hHeld.2.2.2.2.2.2.2.2.2.2.2.2.2.2.2.2.2.2.2.2.2.2.1, cell_later d21 hHeld.2.2.2.2.2.2.2.2.2.2.2.2.2.2.2.2.2.2.2.2.2.2.2.1, cell_later d21 hHeld.2.2.2.2.2.2.2.2.2.2.2.2.2.2.2.2.2.2.2.2.2.2.2.2.1, Below.trans hHeld.2.2.2.2.2.2.2.2.2.2.2.2.2.2.2.2.2.2.2.2.2.2.2.2.2 (d21.mono (Below.size hHeld.2.2.2.2.2.2.2.2.2.2.2.2.2.2.2.2.2.2.2.2.2.2.2.2.2))⟩ (fun hHeld => ?_)
                  clear hK K
                  try simp only [Act.put, List.setIfInBounds_toArray, List.set_cons_zero, List.set_cons_succ]
                  try dsimp only
                  refine wpAnyH_ready (rs := [12]) (by kernel_rfl) (by simp) ?_
                  refine cons_at rfl (fun K hK => ?_) AllReadyH.nil
                  go_simp
                  (with_reducible refine (hv.out _ g21 (HB10.out.trans (Below.mono hHeld.2.2.2.2.2.2.2.2.2.2.2.2.2.2.2.2.2.2.2.2.2.2.2.2.2 HB10.out.size)) hx21).mono ?_)
                  rintro e v22 ⟨rfl, d22⟩
                  refine hK.out _ _ ⟨cell_later d22 hHeld.1, cell_later d22 hHeld.2.1, cell_later d22 hHeld.2.2.1, cell_later d22 hHeld.2.2.2.1, cell_later d22 hHeld.2.2.2.2.1, cell_later d22 hHeld.2.2.2.2.2.1, cell_later d22 hHeld.2.2.2.2.2.2.1, cell_later d22 hHeld.2.2.2.2.2.2.2.1, cell_later d22 hHeld.2.2.2.2.2.2.2.2.1, cell_later d22 hHeld.2.2.2.2.2.2.2.2.2.1, cell_later d22 hHeld.2.2.2.2.2.2.2.2.2.2.1, cell_later d22 hHeld.2.2.2.2.2.2.2.2.2.2.2.1, cell_later d22 hHeld.2.2.2.2.2.2.2.2.2.2.2.2.1, cell_later d22 hHeld.2.2.2.2.2.2.2.2.2.2.2.2.2.1, cell_later d22 hHeld.2.2.2.2.2.2.2.2.2.2.2.2.2.2.1, cell_later d22 hHeld.2.2.2.2.2.2.2.2.2.2.2.2.2.2.2.1, cell_later d22 hHeld.2.2.2.2.2.2.2.2.2.2.2.2.2.2.2.2.1, cell_later d22 hHeld.2.2.2.2.2.2.2.2.2.2.2.2.2.2.2.2.2.1, cell_later d22 hHeld.2.2.2.2.2.2.2.2.2.2.2.2.2.2.2.2.2.2.1, cell_later d22 hHeld.2.2.2.2.2.2.2.2.2.2.2.2.2.2.2.2.2.2.2.1, cell_later d22 hHeld.2.2.2.2.2.2.2.2.2.2.2.2.2.2.2.2.2.2.2.2.1, cell_later d22 hHeld.2.2.2.2.2.2.2.2.2.2.2.2.2.2.2.2.2.2.2.2.2.1, cell_later d22 hHeld.2.2.2.2.2.2.2.2.2.2.2.2.2.2.2.2.2.2.2.2.2.2.1, cell_later d22 hHeld.2.2.2.2.2.2.2.2.2.2.2.2.2.2.2.2.2.2.2.2.2.2.2.1, cell_later d22 hHeld.2.2.2.2.2.2.2.2.2.2.2.2.2.2.2.2.2.2.2.2.2.2.2.2.1, Below.trans hHeld.2.2.2.2.2.2.2.2.2.2.2.2.2.2.2.2.2.2.2.2.2.2.2.2.2 (d22.mono (Below.size hHeld.2.2.2.2.2.2.2.2.2.2.2.2.2.2.2.2.2.2.2.2.2.2.2.2.2))⟩ (fun hHeld => ?_)
                  clear hK K
                  try simp only [Act.put, List.setIfInBounds_toArray, List.set_cons_zero, List.set_cons_succ]
                  try dsimp only
                  refine take_at (i := 14) (v := ?_) rfl (by kernel_rfl) (by kernel_rfl) (by kernel_rfl) (fun _ _ _ h => h) (Or.inl ⟨by rfl, ?_⟩) hHeld ?_
                  rotate_left
                  · intro w hSw
                    (try dsimp only at hSw)
                    go_simp
                    try with_reducible rfl
                  try simp only [Act.put, List.setIfInBounds_toArray, List.set_cons_zero, List.set_cons_succ]
                  try dsimp only
                  refine wpAnyH_done (by kernel_rfl) ?_ _
                  go_wp2_with fail
                  go_roundw
                  case rel => exact ⟨k + 1, by go_num, by omega, hHeld.2.2.2.2.2.2.2.2.2.2.2.2.2.2.2.2.2.2.2.2.2.2.2.2.2⟩
                  case measure => simp [RowKit.intOf]; omega
                · obtain rfl : k = 7 := by omega
                  clear hbw
                  have y0 := cell_blk (i := 0) HXA.out
                  have y1 := cell_blk (i := 1) HXA.out
                  have y2 := cell_blk (i := 2) HXA.out
                  have y3 := cell_blk (i := 3) HXA.out
                  have y4 := cell_blk (i := 4) HXA.out
                  have y5 := cell_blk (i := 5) HXA.out
                  have y6 := cell_blk (i := 6) HXA.out
                  have y7 := cell_blk (i := 7) HXA.out
                  have y8 := cell_blk (i := 8) HXA.out
                  have y9 := cell_blk (i := 9) HXA.out
                  simp at y0 y1 y2 y3 y4 y5 y6 y7 y8 y9
                  have z0 := cell_blk (i := 0) HPA.out
                  have z1 := cell_blk (i := 1) HPA.out
                  have z2 := cell_blk (i := 2) HPA.out
                  have z3 := cell_blk (i := 3) HPA.out
                  have z4 := cell_blk (i := 4) HPA.out
                  have z5 := cell_blk (i := 5) HPA.out
                  have z6 := cell_blk (i := 6) HPA.out
                  simp at z0 z1 z2 z3 z4 z5 z6
                  obtain ⟨w11, hw11⟩ : ∃ w11, w11 = wA.alloc (.cells #[.int .u8 0, .int .i64 a, .int .u8 0, .int .u8 0, .int .u8 0, .int .u8 0, .slice none 0 0] 33) := ⟨_, rfl⟩
                  have b11 : Below wA.heap.size wA w11 := by rw [hw11]; exact (Below.refl _ _).alloc (Nat.le_refl _) _
                  have HB11 := Lib.hid (HBW.out.trans (b11.mono HBW.out.size))
                  have hq := Lib.hid (hvn.out w11 wA.heap.size HB11.out (notE_C (a := a) (by rw [hw11]; exact heap_alloc_new _ _) rfl))
                  have HW11 := Lib.hid hw11
                  clear b11 hw11
                  have e0 : oneI (decide (a = 0)) = 0 := by simp [oneI, HA0.out]
                  rw [e0] at hq
                  have e1 : oneI false = 0 := rfl
                  clear e0
                  go_wp2_with fail
                  rw [← HW11.out]
                  (with_reducible refine hq.out.mono ?_)
                  rintro e w12 ⟨rfl, b12⟩
                  have HB12 := Lib.hid (HB11.out.trans (b12.mono HB11.out.size))
                  clear b12
                  go_wp2_with fail
                  (with_reducible refine (hbit.out _ _).mono ?_)
                  rintro e w' ⟨rfl, hw'⟩
                  replace hw' := hw'.symm
                  subst hw'
                  go_wp2_with fail
                  (with_reducible refine (hliv.out _).mono ?_)
                  rintro e w13 ⟨rfl, b13⟩
                  have HB13 := Lib.hid (HB12.out.trans (b13.mono HB12.out.size))
                  clear b13
                  go_wp2_with fail
                  go_ret
                  exact ⟨rfl, HB0.out.trans (HB13.out.mono HB0.out.size)⟩
end Go.Proofs.Ytlbbabojejimpaa
