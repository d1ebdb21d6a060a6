import Derived.Test.YtfdehhibgdeedaaQFtFns
import Derived.Deep.RegionHeld3
/- fight: what a fight comes to in which the other one guards, or strikes. -/
namespace Go.Proofs.Ytfdehhibgdeedaa
open Go.RowKit Go.Lib

/-- What a fight comes to: harm of both, who dies. -/
abbrev FO := (Int × Int) × List Int
def harmOf (h : Nat) (n : Int) : Int × Int := if h = 0 then (n, 0) else (0, n)
def guardO (A G : Int) (h : Nat) (d : Int) : FO := if A < G then (harmOf h (G - A), []) else if A > G then ((0, 0), [d]) else ((0, 0), [])
def attackO (A B : Int) (h k : Nat) (a d : Int) : FO := if A < B then (harmOf h (B - A), [a]) else if A > B then (harmOf k (A - B), [d]) else if A > 0 then ((0, 0), [a, d]) else ((0, 0), [])
/-- Numbers in memory of one's own. -/
def IntsOwn (w : World) (b : Nat) (v : Value) (l : List Int) : Prop := w.ownsRow b 3 1 v l.length (l.map (Value.int .i64))
theorem IntsOwn.below {w w' : World} {b : Nat} {v : Value} {l : List Int} (h : IntsOwn w b v l) (hb : Below w.heap.size w w') : IntsOwn w' b v l := ownsRow_same h fun g hg => hb.block _ (World.ownsRow.lt h g hg).2
theorem IntsOwn.nil (w : World) (b : Nat) : IntsOwn w b (.slice none 0 0) [] := World.ownsRow_nil _ _ _ _
theorem IntsOwn.one {w : World} {b g : Nat} {x : Int} (hb : b ≤ g) (h : w.heap[g]? = some (.cells #[.int .i64 x] 3 (0, 0))) : IntsOwn w b (.slice (some ⟨g, 0, none⟩) 1 1) [x] :=
  ⟨rfl, .inr ⟨g, 1, _, rfl, hb, h, Nat.le_refl _, by decide, rfl, rfl⟩⟩
theorem IntsOwn.two {w : World} {b g : Nat} {x y : Int} (hb : b ≤ g) (h : w.heap[g]? = some (.cells #[.int .i64 x, .int .i64 y] 3 (0, 0))) : IntsOwn w b (.slice (some ⟨g, 0, none⟩) 2 2) [x, y] :=
  ⟨rfl, .inr ⟨g, 2, _, rfl, hb, h, Nat.le_refl _, by decide, rfl, rfl⟩⟩
theorem IntsOwn.base {w : World} {b c : Nat} {v : Value} {l : List Int} (h : IntsOwn w b v l) (hc : c ≤ b) : IntsOwn w c v l := by
  refine ⟨h.1, ?_⟩
  rcases h.2 with h0 | ⟨g, cap, cur, hv, hbg, r⟩
  · exact .inl h0
  · exact .inr ⟨g, cap, cur, hv, Nat.le_trans hc hbg, r⟩
theorem cmp_lt {a b : Int} (h : a < b) : Lib.compareInt a b = -1 := by unfold Lib.compareInt; rw [if_pos h]
theorem cmp_gt {a b : Int} (h : a > b) : Lib.compareInt a b = 1 := by unfold Lib.compareInt; rw [if_neg (by omega), if_pos h]
theorem cmp_eq {a b : Int} (h : a = b) : Lib.compareInt a b = 0 := by unfold Lib.compareInt; rw [if_neg (by omega), if_neg (by omega)]
theorem two_set0 {X : World} {F : Nat} {t : TypeId} {a0 a1 : Value} (u : Value) (h : X.heap[F]? = some (.cells #[a0, a1] t (0, 0))) : (X.setCell ⟨F, 0, none⟩ u).heap[F]? = some (.cells #[u, a1] t (0, 0)) := heap_set (i := 0) h u
theorem two_set1 {X : World} {F : Nat} {t : TypeId} {a0 a1 : Value} (u : Value) (h : X.heap[F]? = some (.cells #[a0, a1] t (0, 0))) : (X.setCell ⟨F, 1, none⟩ u).heap[F]? = some (.cells #[a0, u] t (0, 0)) := heap_set (i := 1) h u

def SideEnds (o : FO) (w : World) (e : Ending) (w' : World) : Prop := (∃ v, e = .returned (.tuple #[.agg #[.int .i64 o.1.1, .int .i64 o.1.2], v]) ∧ IntsOwn w' w.heap.size v o.2) ∧ Below w.heap.size w w'
def HasAt (w : World) (t : Tb) (i h : Nat) : Prop := i < t.np ∧ ∃ g o, t.qp = some ⟨g, o, none⟩ ∧ w.cell? ⟨g, o + i * 14 + 4, none⟩ = some (.int .u8 h)
theorem TabIn.has {w : World} {t : Tb} {xs : List Cd} {ps : List Pc} (h : TabIn w t xs ps) {i : Nat} {p : Pc} (hi : ps[i]? = some p) : HasAt w t i p.hs := by
  obtain ⟨g, o, hq, -, hc⟩ := h.piece hi
  exact ⟨by rw [h.np.1]; exact (List.getElem?_eq_some_iff.1 hi).1, g, o, hq, hc 4 _ rfl⟩

set_option maxHeartbeats 8000000 in
set_option maxRecDepth 100000 in
theorem againstGuard_any (t : Tb) (a d : Nat) (A G : Int) (h : Nat) (w : World)
    (hA : ∀ W, Below w.heap.size w W → Calls Try.prog 21 #[.agg t.row, .int .i64 a] W fun e w' => e = .returned (.int .i64 A) ∧ Below W.heap.size W w')
    (hD : ∀ W, Below w.heap.size w W → Calls Try.prog 45 #[.agg t.row, .int .i64 d] W fun e w' => e = .returned (.int .i64 G) ∧ Below W.heap.size W w')
    (hh : h ≤ 1) (hca : HasAt w t a h) (bA : 0 ≤ A ∧ A ≤ 99999) (bG : 0 ≤ G ∧ G ≤ 99999) :
    Calls Try.prog 23 #[.agg t.row, .int .i64 a, .int .i64 d] w (SideEnds (guardO A G h d) w) := by
  have HA := Lib.hid hA
  have HD := Lib.hid hD
  have HCM := Lib.hid fun W => compare_any A G W
  obtain ⟨hal, g, o, hq, ca⟩ := hca
  have hgw := World.block_lt_of_cell? _ _ ca
  simp only at hgw
  have HCA := Lib.hid ca
  have i0 : (0 : Int) ≤ (a : Int) := by omega
  have i1 : (a : Int) < (t.np : Int) := by omega
  have s1 : IntKind.i64.wrap (G - A) = G - A := IntWalk.i64_in _ (by omega)
  clear hA hD ca
  obtain ⟨w0, hw0⟩ : ∃ w0, w0 = (w.alloc (.cells t.row 28)).alloc (.cells #[.int .i64 0, .int .i64 0] 24) := ⟨_, rfl⟩
  have hb0 : Below w.heap.size w w0 := by rw [hw0]; exact ((Below.refl _ _).alloc (Nat.le_refl _) _).alloc (by simp) _
  have hx0 : w0.heap[w.heap.size]? = some (.cells t.row 28 (0, 0)) := by rw [hw0]; exact heap_older (heap_alloc_new _ _)
  have hh0 : w0.heap[w.heap.size + 1]? = some (.cells #[.int .i64 0, .int .i64 0] 24 (0, 0)) := by rw [hw0]; exact heap_newer _ _ _ (by simp)
  have HB0 := Lib.hid hb0
  have HX0 := Lib.hid hx0
  have HH0 := Lib.hid hh0
  have HW0 := Lib.hid hw0
  clear hb0 hx0 hh0 hw0
  simp only [Tb.row] at *
  rw [hq] at HA HD HX0 HW0 ⊢
  have y0 := cell_blk (i := 0) HX0.out
  have y1 := cell_blk (i := 1) HX0.out
  have y2 := cell_blk (i := 2) HX0.out
  have y3 := cell_blk (i := 3) HX0.out
  have y4 := cell_blk (i := 4) HX0.out
  have y5 := cell_blk (i := 5) HX0.out
  have y6 := cell_blk (i := 6) HX0.out
  have y7 := cell_blk (i := 7) HX0.out
  have y8 := cell_blk (i := 8) HX0.out
  have y9 := cell_blk (i := 9) HX0.out
  simp at y0 y1 y2 y3 y4 y5 y6 y7 y8 y9
  go_enter Try.func23, Try.ntmps23
  go_wp2_with fail
  rw [← HW0.out]
  refine wp_region_held_drew (S := fun w' => w'.cell? ⟨w.heap.size, 0, none⟩ = some (.slice t.qk t.nk t.ck) ∧ w'.cell? ⟨w.heap.size, 1, none⟩ = some (.slice (some ⟨g, o, none⟩) t.np t.cp) ∧ w'.cell? ⟨w.heap.size, 2, none⟩ = some (.int .i64 t.l0) ∧ w'.cell? ⟨w.heap.size, 3, none⟩ = some (.int .i64 t.l1) ∧ w'.cell? ⟨w.heap.size, 4, none⟩ = some (.int .i64 t.tn) ∧ w'.cell? ⟨w.heap.size, 5, none⟩ = some (.int .u8 t.py) ∧ w'.cell? ⟨w.heap.size, 6, none⟩ = some (.int .i64 t.mo) ∧ w'.cell? ⟨w.heap.size, 7, none⟩ = some (.slice t.qe t.ne t.ce) ∧ w'.cell? ⟨w.heap.size, 8, none⟩ = some (.bool t.b0) ∧ w'.cell? ⟨w.heap.size, 9, none⟩ = some (.bool t.b1)) (by kernel_rfl) (by (repeat' apply And.intro) <;> go_keep) (fun hHeld => ?_)
  refine take_at (i := 0) (v := ?_) rfl (by kernel_rfl) (by kernel_rfl) (by kernel_rfl) (fun _ _ _ h => h) (Or.inl ⟨by rfl, ?_⟩) hHeld ?_
  rotate_left
  · intro w hSw
    (try dsimp only at hSw)
    go_simp
    try with_reducible rfl
  try simp only [Act.put, List.setIfInBounds_toArray, List.set_cons_zero, List.set_cons_succ]
  try dsimp only
  refine take_at (i := 1) (v := ?_) rfl (by kernel_rfl) (by kernel_rfl) (by kernel_rfl) (fun _ _ _ h => h) (Or.inl ⟨by rfl, ?_⟩) hHeld ?_
  rotate_left
  · intro w hSw
    (try dsimp only at hSw)
    go_simp
    try with_reducible rfl
  try simp only [Act.put, List.setIfInBounds_toArray, List.set_cons_zero, List.set_cons_succ]
  try dsimp only
  refine take_at (i := 3) (v := ?_) rfl (by kernel_rfl) (by kernel_rfl) (by kernel_rfl) (fun _ _ _ h => h) (Or.inl ⟨by rfl, ?_⟩) hHeld ?_
  rotate_left
  · intro w hSw
    (try dsimp only at hSw)
    go_simp
    try with_reducible rfl
  try simp only [Act.put, List.setIfInBounds_toArray, List.set_cons_zero, List.set_cons_succ]
  try dsimp only
  refine take_at (i := 4) (v := ?_) rfl (by kernel_rfl) (by kernel_rfl) (by kernel_rfl) (fun _ _ _ h => h) (Or.inl ⟨by rfl, ?_⟩) hHeld ?_
  rotate_left
  · intro w hSw
    (try dsimp only at hSw)
    go_simp
    try with_reducible rfl
  try simp only [Act.put, List.setIfInBounds_toArray, List.set_cons_zero, List.set_cons_succ]
  try dsimp only
  refine wpAnyH_ready (rs := [2]) (by kernel_rfl) (by simp) ?_
  refine cons_at rfl (fun K hK => ?_) AllReadyH.nil
  go_simp
  (with_reducible refine (HA.out _ ((by repeat (first | (with_reducible exact HB0.out) | (with_reducible exact B5) | (with_reducible refine Below.drew ?_))) : Below w.heap.size w _)).mono ?_)
  rintro e w5 ⟨rfl, b5⟩
  have B5 : Below w.heap.size w w5 := Below.trans ((by repeat (first | (with_reducible exact HB0.out) | (with_reducible exact B5) | (with_reducible refine Below.drew ?_))) : Below w.heap.size w _) (b5.mono (by have := HB0.out.size; simp; omega))
  refine hK.out _ _ ⟨cell_later b5 hHeld.1, cell_later b5 hHeld.2.1, cell_later b5 hHeld.2.2.1, cell_later b5 hHeld.2.2.2.1, cell_later b5 hHeld.2.2.2.2.1, cell_later b5 hHeld.2.2.2.2.2.1, cell_later b5 hHeld.2.2.2.2.2.2.1, cell_later b5 hHeld.2.2.2.2.2.2.2.1, cell_later b5 hHeld.2.2.2.2.2.2.2.2.1, cell_later b5 hHeld.2.2.2.2.2.2.2.2.2⟩ (fun hHeld => ?_)
  clear hK K
  try simp only [Act.put, List.setIfInBounds_toArray, List.set_cons_zero, List.set_cons_succ]
  try dsimp only
  refine wpAnyH_ready (rs := [5]) (by kernel_rfl) (by simp) ?_
  refine cons_at rfl (fun K hK => ?_) AllReadyH.nil
  go_simp
  (with_reducible refine (HD.out _ ((by repeat (first | (with_reducible exact HB0.out) | (with_reducible exact B5) | (with_reducible refine Below.drew ?_))) : Below w.heap.size w _)).mono ?_)
  rintro e w6 ⟨rfl, b6⟩
  have B6 : Below w.heap.size w w6 := Below.trans ((by repeat (first | (with_reducible exact HB0.out) | (with_reducible exact B5) | (with_reducible refine Below.drew ?_))) : Below w.heap.size w _) (b6.mono (by have := B5.size; simp; omega))
  refine hK.out _ _ ⟨cell_later b6 hHeld.1, cell_later b6 hHeld.2.1, cell_later b6 hHeld.2.2.1, cell_later b6 hHeld.2.2.2.1, cell_later b6 hHeld.2.2.2.2.1, cell_later b6 hHeld.2.2.2.2.2.1, cell_later b6 hHeld.2.2.2.2.2.2.1, cell_later b6 hHeld.2.2.2.2.2.2.2.1, cell_later b6 hHeld.2.2.2.2.2.2.2.2.1, cell_later b6 hHeld.2.2.2.2.2.2.2.2.2⟩ (fun hHeld => ?_)
  clear hK K
  try simp only [Act.put, List.setIfInBounds_toArray, List.set_cons_zero, List.set_cons_succ]
  try dsimp only
  refine take_at (i := 6) (v := ?_) rfl (by kernel_rfl) (by kernel_rfl) (by kernel_rfl) (fun _ _ _ h => h) (Or.inl ⟨by rfl, ?_⟩) hHeld ?_
  rotate_left
  · intro w hSw
    (try dsimp only at hSw)
    go_simp
    try with_reducible rfl
  try simp only [Act.put, List.setIfInBounds_toArray, List.set_cons_zero, List.set_cons_succ]
  try dsimp only
  refine take_at (i := 7) (v := ?_) rfl (by kernel_rfl) (by kernel_rfl) (by kernel_rfl) (fun _ _ _ h => h) (Or.inl ⟨by rfl, ?_⟩) hHeld ?_
  rotate_left
  · intro w hSw
    (try dsimp only at hSw)
    go_simp
    try with_reducible rfl
  try simp only [Act.put, List.setIfInBounds_toArray, List.set_cons_zero, List.set_cons_succ]
  try dsimp only
  refine wpAnyH_done (by kernel_rfl) ?_ _
  have HX6 := Lib.hid ((b6.block _ (by have := b5.size; have := heap_lt HX0.out; simp at *; omega)).trans ((b5.block _ (heap_lt HX0.out)).trans HX0.out))
  have HH6 := Lib.hid ((b6.block _ (by have := b5.size; have := heap_lt HH0.out; simp at *; omega)).trans ((b5.block _ (heap_lt HH0.out)).trans HH0.out))
  have HB6 := Lib.hid B6
  have ca := cell_later B6 HCA.out
  have hlt6 := heap_lt HH6.out
  have z0 := cell_blk (i := 0) HH6.out
  have z1 := cell_blk (i := 1) HH6.out
  have f0 := free_blk (i := 0) HH6.out
  have f1 := free_blk (i := 1) HH6.out
  have y1 := cell_blk (i := 1) HX6.out
  simp at z0 z1 y1
  clear b5 b6 B5 B6 hHeld y0 y2 y3 y4 y5 y6 y7 y8 y9
  obtain ⟨c, hc⟩ : ∃ c, Lib.compareInt A G = c := ⟨_, rfl⟩
  rw [hc] at HCM
  rcases Int.lt_trichotomy A G with hlt | heq | hgt
  · have hg : guardO A G h d = (harmOf h (G - A), []) := if_pos hlt
    have HG := Lib.hid hg
    have hc1 : c = -1 := by rw [← hc, cmp_lt hlt]
    subst hc1
    clear hc hg hlt
    rcases (show h = 0 ∨ h = 1 by omega) with rfl | rfl
    · simp only [Int.natCast_zero, Int.natCast_one, Int.cast_ofNat_Int] at ca
      clear hh
      go_wp2_with fail
      (with_reducible refine (HCM.out _).mono ?_)
      rintro e w7 ⟨rfl, rfl⟩
      go_wp2_with fail
      rw [HG.out]
      refine bodyPost_ret (results_cell_slot rfl _ _ _ (w.heap.size + 1) _ _ _ _ _ rfl (two_set1 _ (two_set0 _ (two_set0 _ HH6.out))) Try.underlying24 (by kernel_rfl)) rfl ?_
      exact ⟨⟨_, rfl, IntsOwn.nil _ _⟩, (((HB6.out.setCell (p := ⟨w.heap.size + 1, 0, none⟩) (by simp) _).setCell (p := ⟨w.heap.size + 1, 0, none⟩) (by simp) _).setCell (p := ⟨w.heap.size + 1, 1, none⟩) (by simp) _)⟩
    · simp only [Int.natCast_zero, Int.natCast_one, Int.cast_ofNat_Int] at ca
      clear hh
      go_wp2_with fail
      (with_reducible refine (HCM.out _).mono ?_)
      rintro e w7 ⟨rfl, rfl⟩
      go_wp2_with fail
      rw [HG.out]
      refine bodyPost_ret (results_cell_slot rfl _ _ _ (w.heap.size + 1) _ _ _ _ _ rfl (two_set1 _ (two_set0 _ (two_set1 _ HH6.out))) Try.underlying24 (by kernel_rfl)) rfl ?_
      exact ⟨⟨_, rfl, IntsOwn.nil _ _⟩, (((HB6.out.setCell (p := ⟨w.heap.size + 1, 1, none⟩) (by simp) _).setCell (p := ⟨w.heap.size + 1, 0, none⟩) (by simp) _).setCell (p := ⟨w.heap.size + 1, 1, none⟩) (by simp) _)⟩
  · have hg : guardO A G h d = ((0, 0), []) := by unfold guardO; rw [if_neg (by omega), if_neg (by omega)]
    have HG := Lib.hid hg
    have hc1 : c = 0 := by rw [← hc, cmp_eq heq]
    subst hc1
    clear hc hg heq
    go_wp2_with fail
    (with_reducible refine (HCM.out _).mono ?_)
    rintro e w7 ⟨rfl, rfl⟩
    go_wp2_with fail
    rw [HG.out]
    refine bodyPost_ret (results_cell_slot rfl _ _ _ (w.heap.size + 1) _ _ _ _ _ rfl (two_set1 _ (two_set0 _ HH6.out)) Try.underlying24 (by kernel_rfl)) rfl ?_
    exact ⟨⟨_, rfl, IntsOwn.nil _ _⟩, ((HB6.out.setCell (p := ⟨w.heap.size + 1, 0, none⟩) (by simp) _).setCell (p := ⟨w.heap.size + 1, 1, none⟩) (by simp) _)⟩
  · have hg : guardO A G h d = ((0, 0), [(d : Int)]) := by unfold guardO; rw [if_neg (by omega), if_pos hgt]
    have HG := Lib.hid hg
    have hc1 : c = 1 := by rw [← hc, cmp_gt hgt]
    subst hc1
    clear hc hg hgt
    go_wp2_with fail
    (with_reducible refine (HCM.out _).mono ?_)
    rintro e w7 ⟨rfl, rfl⟩
    go_wp2_with fail
    rw [HG.out]
    refine bodyPost_ret (results_cell_slot rfl _ _ _ (w.heap.size + 1) _ _ _ _ _ rfl (heap_older (two_set1 _ (two_set0 _ HH6.out))) Try.underlying24 (by kernel_rfl)) rfl ?_
    exact ⟨⟨_, rfl, IntsOwn.one (by have := HB6.out.size; simp; omega) (heap_newer _ _ _ (by simp))⟩, (((HB6.out.setCell (p := ⟨w.heap.size + 1, 0, none⟩) (by simp) _).setCell (p := ⟨w.heap.size + 1, 1, none⟩) (by simp) _).alloc (by have := HB6.out.size; simp; omega) _)⟩

end Go.Proofs.Ytfdehhibgdeedaa
