import Derived.Test.YtfdehhibgdeedaaQRfOf
import Derived.Test.YtfdehhibgdeedaaQRfKinds
import Derived.Test.YtfdehhibgdeedaaQFtFns
/- The document's own attack: a unit's, and what auras give it, added without bounds. -/
namespace Go.Proofs.Ytfdehhibgdeedaa
open Go.RowKit Go.Lib

theorem wi_eq {n lo hi : Int} (h : lo ≤ hi) : wi n lo hi = min (max n lo) hi := by
  unfold wi
  by_cases h1 : n < lo
  · rw [if_pos h1]; omega
  · rw [if_neg h1]
    by_cases h2 : n > hi
    · rw [if_pos h2]; omega
    · rw [if_neg h2]; omega
/-- No list of a kind is long. -/
def FewK (fx : List KX) : Prop := ∀ (i : Nat) (y : KX), fx[i]? = some y → y.es.length ≤ 1500000 ∧ ∀ (j : Nat) (e : EX), y.es[j]? = some e → e.sx.length ≤ 2200000
theorem gifts_len : ∀ {es : List EX}, (∀ e ∈ es, e.sx.length ≤ 2200000) → (gifts es).length ≤ 2200000 * es.length
  | [], _ => by simp [gifts]
  | e :: es, h => by
    have ih := gifts_len (es := es) fun x hx => h x (List.mem_cons_of_mem _ hx)
    have he := h e List.mem_cons_self
    have h1 : (giftsOf e).length ≤ e.sx.length := by
      unfold giftsOf
      split
      · exact List.length_filter_le _ _
      · simp
    have h2 : gifts (e :: es) = giftsOf e ++ gifts es := by simp [gifts]
    rw [h2, List.length_append, List.length_cons]
    omega
theorem auraOf_len {fx : List KX} (hB : FewK fx) {k : Nat} {p : Pc} : (auraOf fx k p).length ≤ if p.zn = 2 then 3300000000000 else 0 := by
  unfold auraOf
  split
  · rename_i h
    rw [if_pos h.1]
    split
    · rename_i x hx
      obtain ⟨h1, h2⟩ := hB _ _ hx
      have := gifts_len (es := x.es) fun e he => by obtain ⟨j, hj⟩ := List.mem_iff_getElem?.1 he; exact h2 j e hj
      rw [List.length_map]
      omega
    · simp
  · simp
theorem auras_count {fx : List KX} (hB : FewK fx) (ps : List Pc) : ∀ k, k ≤ ps.length → (aurasTo fx ps k).length ≤ 3300000000000 * (ps.take k).countP (fun p => p.zn == 2)
  | 0, _ => by simp [aurasTo]
  | k + 1, h => by
    have ih := auras_count hB ps k (by omega)
    obtain ⟨q, hk⟩ : ∃ q, ps[k]? = some q := ⟨ps[k]'(by omega), List.getElem?_eq_getElem _⟩
    have ha := auraOf_len hB (k := k) (p := q)
    rw [aurasTo_next hk, List.length_append, List.take_add_one, hk, List.countP_append]
    by_cases hz : q.zn = 2
    · rw [if_pos hz] at ha
      have : List.countP (fun p : Pc => p.zn == 2) (Option.toList (some q)) = 1 := by simp [hz]
      omega
    · rw [if_neg hz] at ha
      omega
theorem two_rows : ∀ {ps : List Pc}, (∀ p ∈ ps, p.hs ≤ 1) → ps.countP (fun p => p.zn == 2) ≤ ps.countP (inZ 0 2) + ps.countP (inZ 1 2)
  | [], _ => by simp
  | p :: l, h => by
    have ih := two_rows (ps := l) fun q hq => h q (List.mem_cons_of_mem _ hq)
    have hh := h p List.mem_cons_self
    rw [List.countP_cons, List.countP_cons, List.countP_cons]
    by_cases hz : p.zn = 2
    · rcases (show p.hs = 0 ∨ p.hs = 1 by omega) with h0 | h0
      · have e1 : (p.zn == 2) = true := by simp [hz]
        have e2 : inZ 0 2 p = true := by simp [inZ, hz, h0]
        rw [e1, e2]
        simp only [if_true]
        omega
      · have e1 : (p.zn == 2) = true := by simp [hz]
        have e2 : inZ 1 2 p = true := by simp [inZ, hz, h0]
        rw [e1, e2]
        simp only [if_true]
        omega
    · have e1 : (p.zn == 2) = false := by simp [hz]
      rw [e1]
      simp only [Bool.false_eq_true, if_false]
      omega
theorem auras_few {xs : List Cd} {fx : List KX} {ps : List Pc} (hG : GoodB xs ps) (hB : FewK fx) : (aurasTo fx ps ps.length).length ≤ 33000000000000 := by
  have h := auras_count hB ps ps.length (Nat.le_refl _)
  rw [List.take_length] at h
  have h1 := two_rows fun p hp => (hG.one p hp).hs
  have h2 := row_few hG 0
  have h3 := row_few hG 1
  omega
theorem sum_in {xs : List Cd} {fx : List KX} {ps : List Pc} {p : Pc} {id : Nat} (hG : GoodB xs ps) (hB : FewK fx) {l : List AX} (hl : l <+: aurasTo fx ps ps.length) : 0 ≤ sumA xs ps p id l ∧ sumA xs ps p id l ≤ 3299967000000000000 := by
  have h1 := sumA_bd (xs := xs) (ps := ps) (p := p) (id := id) l
  have h2 := hl.length_le
  have h3 := auras_few hG hB
  omega
theorem gifts_none {es : List EX} {m : Nat} {e : EX} (h : es[m]? = some e) (hm : e.mode ≠ 6) : gifts (es.take (m + 1)) = gifts (es.take m) := by
  rw [gifts_next h]
  unfold giftsOf
  rw [if_neg hm, List.append_nil]
theorem gifts_some {es : List EX} {m : Nat} {e : EX} (h : es[m]? = some e) (hm : e.mode = 6) : gifts (es.take (m + 1)) = gifts (es.take m) ++ e.sx.filter giftB := by
  rw [gifts_next h]
  unfold giftsOf
  rw [if_pos hm]
theorem filter_next {l : List SX} {j : Nat} {x : SX} (h : l[j]? = some x) : (l.take (j + 1)).filter giftB = (l.take j).filter giftB ++ (if giftB x = true then [x] else []) := by
  rw [List.take_add_one, h, List.filter_append]
  simp [List.filter_cons]
/-- What has been added up. -/
def UpA (xs : List Cd) (ps : List Pc) (p : Pc) (id : Nat) (ST v : Int) (l : List AX) : Prop := v = ST + sumA xs ps p id l
theorem UpA.snoc {xs : List Cd} {ps : List Pc} {p : Pc} {id : Nat} {ST v : Int} {l : List AX} (h : UpA xs ps p id ST v l) (x : AX) : UpA xs ps p id ST (v + incA xs ps p id x) (l ++ [x]) := by
  unfold UpA at *
  rw [sumA_app, sumA, sumA]
  omega

set_option maxHeartbeats 32000000 in
set_option maxRecDepth 100000 in
theorem rattack_any (t : Tb) (xs : List Cd) (fx : List KX) (ps : List Pc) (i : Nat) (p : Pc) (w : World) (hT : TabIn w t xs ps) (hL : LifeOk t) (hG : GoodB xs ps) (hi : ps[i]? = some p) (hnk : t.nk = fx.length) (hxl : xs.length = fx.length) (hkd : KindsFx w w.heap.size t.qk fx) (hB : FewK fx) :
    Calls Try.prog 16 #[.agg t.row, .int .i64 i] w fun e w' => e = .returned (.int .i64 (attackOf xs fx ps p i)) ∧ Below w.heap.size w w' := by
  have hmay := Lib.hid fun (W : World) (hb : Below w.heap.size w W) => rmay_yes t xs ps W (hT.below hb) hL hG
  have hof := Lib.hid fun (W : World) (hb : Below w.heap.size w W) (h : Nat) (hh : h ≤ 1) (k : Nat) (a b c : Nat) => rof_any t xs ps h k a b c i p W (hT.below hb) hL hG hh hi
  have hwi := Lib.hid fun (n lo hi : Int) (W : World) => within_any n lo hi W
  have hone := hG.one p (List.mem_of_getElem? hi)
  have hak : 0 ≤ p.ak ∧ p.ak ≤ 99999 := by have := hone.ak; omega
  have hbo : -99999 ≤ wi p.bo (-99999) 99999 ∧ wi p.bo (-99999) 99999 ≤ 99999 := by rw [wi_eq (by omega)]; omega
  obtain ⟨ST, hST⟩ : ∃ ST, p.ak + wi p.bo (-99999) 99999 = ST := ⟨_, rfl⟩
  have hSTw : IntKind.i64.wrap (p.ak + wi p.bo (-99999) 99999) = ST := by rw [IntWalk.i64_in _ (by omega)]; exact hST
  have hSTb : -99999 ≤ ST ∧ ST ≤ 199998 := by omega
  have HAT : Hid (∀ l : Int, (l = ST + if p.zn = 2 then sumA xs ps p i (aurasTo fx ps ps.length) else 0) → attackOf xs fx ps p i = wi l 0 99999) := Lib.hid fun l hl => by
    rw [tot_attack hak, wi_eq (by omega), hl, ← hST, wi_eq (by omega)]
    rfl
  obtain ⟨RES, hRES⟩ : ∃ R, attackOf xs fx ps p i = R := ⟨_, rfl⟩
  rw [hRES] at HAT ⊢
  have HIN : Hid (∀ l : List AX, l <+: aurasTo fx ps ps.length → 0 ≤ sumA xs ps p i l ∧ sumA xs ps p i l ≤ 3299967000000000000) := Lib.hid fun l hl => sum_in hG hB hl
  have HONE := Lib.hid hG.one
  have HT := Lib.hid hT
  have HKD := Lib.hid hkd
  have HB := Lib.hid hB
  have HXL := Lib.hid hxl
  have hnp := hT.np.1
  have HNP := Lib.hid hnp
  have hnf : t.np ≤ 144 := by rw [hnp]; exact hG.few
  obtain ⟨g, o, hq, hg, hc⟩ := hT.piece hi
  have hil : i < t.np := by rw [hnp]; exact (List.getElem?_eq_some_iff.1 hi).1
  have HC := Lib.hid hc
  have HNK := Lib.hid hnk
  have HSTW := Lib.hid hSTw
  have HSTB := Lib.hid hSTb
  have i0 : (0 : Int) ≤ (i : Int) := by omega
  have i1 : (i : Int) < (t.np : Int) := by omega
  have i2 : ¬ (i : Int) < 0 := by omega
  have i3 : ¬ (i : Int) ≥ (t.np : Int) := by omega
  clear hT hL hG hi hc hRES hkd hB hxl hnk hnp hone hak hbo hST hSTw hSTb
  obtain ⟨w0, hw0⟩ : ∃ w0, w0 = w.alloc (.cells t.row 28) := ⟨_, rfl⟩
  have hb0 : Below w.heap.size w w0 := by rw [hw0]; exact (Below.refl _ _).alloc (Nat.le_refl _) _
  have hx0 : w0.heap[w.heap.size]? = some (.cells t.row 28 (0, 0)) := by rw [hw0]; exact heap_alloc_new _ _
  have HB0 := Lib.hid hb0
  have HX0 := Lib.hid hx0
  have HW0 := Lib.hid hw0
  clear hb0 hx0 hw0
  simp only [Tb.row] at *
  rw [hq] at hmay hof HX0 HW0 ⊢
  have y0 := cell_blk (i := 0) HX0.out
  have y1 := cell_blk (i := 1) HX0.out
  have y2 := cell_blk (i := 2) HX0.out
  have y3 := cell_blk (i := 3) HX0.out
  have y4 := cell_blk (i := 4) HX0.out
  have y5 := cell_blk (i := 5) HX0.out
  have y6 := cell_blk (i := 6) HX0.out
  have y7 := cell_blk (i := 7) HX0.out
  have y8 := cell_blk (i := 8) HX0.out
  have y9 := cell_blk (i := 9) HX0.out
  simp at y0 y1 y2 y3 y4 y5 y6 y7 y8 y9
  go_enter Try.func16, Try.ntmps16
  go_wp2_with fail
  rw [← HW0.out]
  (with_reducible refine (hmay.out _ HB0.out).mono ?_)
  rintro e w1 ⟨rfl, b1⟩
  have HB1 := Lib.hid (HB0.out.trans (b1.mono HB0.out.size))
  have HX1 := Lib.hid ((b1.block _ (heap_lt HX0.out)).trans HX0.out)
  clear b1 y0 y1 y2 y3 y4 y5 y6 y7 y8 y9
  have hlt1 := heap_lt HX1.out
  have hg1 : g < w1.heap.size := Nat.lt_of_lt_of_le hg HB1.out.size
  have c0 := cell_later HB1.out (HC.out 0 _ rfl)
  have c1 := cell_later HB1.out (HC.out 1 _ rfl)
  have c2 := cell_later HB1.out (HC.out 2 _ rfl)
  have c3 := cell_later HB1.out (HC.out 3 _ rfl)
  have c4 := cell_later HB1.out (HC.out 4 _ rfl)
  have c5 := cell_later HB1.out (HC.out 5 _ rfl)
  have c6 := cell_later HB1.out (HC.out 6 _ rfl)
  have c7 := cell_later HB1.out (HC.out 7 _ rfl)
  have c8 := cell_later HB1.out (HC.out 8 _ rfl)
  have c9 := cell_later HB1.out (HC.out 9 _ rfl)
  have c10 := cell_later HB1.out (HC.out 10 _ rfl)
  have c11 := cell_later HB1.out (HC.out 11 _ rfl)
  have c12 := cell_later HB1.out (HC.out 12 _ rfl)
  have c13 := cell_later HB1.out (HC.out 13 _ rfl)
  simp only [Nat.add_zero] at c0
  have y1 := cell_blk (i := 1) HX1.out
  simp at y1
  obtain ⟨w2, hw2⟩ : ∃ w2, w2 = w1.alloc (.cells (pcV p).toArray 45) := ⟨_, rfl⟩
  have b12 : Below w1.heap.size w1 w2 := by rw [hw2]; exact (Below.refl _ _).alloc (Nat.le_refl _) _
  have HP2 : Hid (w2.heap[w1.heap.size]? = some (.cells (pcV p).toArray 45 (0, 0))) := Lib.hid (by rw [hw2]; exact heap_alloc_new _ _)
  have HB2 := Lib.hid (HB1.out.trans (b12.mono HB1.out.size))
  have HX2 := Lib.hid ((b12.block _ (heap_lt HX1.out)).trans HX1.out)
  have HW2 := Lib.hid hw2
  clear b12 hw2
  simp only [pcV] at HP2 HW2
  go_wp2_with fail
  rw [← HW2.out]
  clear y1 c0 c1 c2 c3 c4 c5 c6 c7 c8 c9 c10 c11 c12 c13
  have hlt2 := heap_lt HP2.out
  have p1 := cell_blk (i := 1) HP2.out
  have p13 := cell_blk (i := 13) HP2.out
  simp at p1 p13
  refine wp_region_held_drew (S := fun w' => w'.cell? ⟨w1.heap.size, 1, none⟩ = some (.int .i64 p.ak) ∧ w'.cell? ⟨w1.heap.size, 13, none⟩ = some (.int .i64 p.bo)) (by kernel_rfl) (by (repeat' apply And.intro) <;> go_keep) (fun hHeld => ?_)
  refine take_at (i := 0) (v := ?_) rfl (by kernel_rfl) (by kernel_rfl) (by kernel_rfl) (fun _ _ _ h => h) (Or.inl ⟨by rfl, ?_⟩) hHeld ?_
  rotate_left
  · intro w hSw
    (try dsimp only at hSw)
    go_simp
    try with_reducible rfl
  try simp only [Act.put, List.setIfInBounds_toArray, List.set_cons_zero, List.set_cons_succ]
  try dsimp only
  refine take_at (i := 1) (v := ?_) rfl (by kernel_rfl) (by kernel_rfl) (by kernel_rfl) (fun _ _ _ h => h) (Or.inl ⟨by rfl, ?_⟩) hHeld ?_
  rotate_left
  · intro w hSw
    (try dsimp only at hSw)
    go_simp
    try with_reducible rfl
  try simp only [Act.put, List.setIfInBounds_toArray, List.set_cons_zero, List.set_cons_succ]
  try dsimp only
  refine take_at (i := 2) (v := ?_) rfl (by kernel_rfl) (by kernel_rfl) (by kernel_rfl) (fun _ _ _ h => h) (Or.inl ⟨by rfl, ?_⟩) hHeld ?_
  rotate_left
  · intro w hSw
    (try dsimp only at hSw)
    go_simp
    try with_reducible rfl
  try simp only [Act.put, List.setIfInBounds_toArray, List.set_cons_zero, List.set_cons_succ]
  try dsimp only
  refine take_at (i := 3) (v := ?_) rfl (by kernel_rfl) (by kernel_rfl) (by kernel_rfl) (fun _ _ _ h => h) (Or.inl ⟨by rfl, ?_⟩) hHeld ?_
  rotate_left
  · intro w hSw
    (try dsimp only at hSw)
    go_simp
    try with_reducible rfl
  try simp only [Act.put, List.setIfInBounds_toArray, List.set_cons_zero, List.set_cons_succ]
  try dsimp only
  refine wpAnyH_ready (rs := [4]) (by kernel_rfl) (by simp) ?_
  refine cons_at rfl (fun K hK => ?_) AllReadyH.nil
  go_simp
  (with_reducible refine (hwi.out _ _ _ _).mono ?_)
  rintro e w3 ⟨rfl, rfl⟩
  refine hK.out _ _ ⟨hHeld.1, hHeld.2⟩ (fun hHeld => ?_)
  clear hK K
  try simp only [Act.put, List.setIfInBounds_toArray, List.set_cons_zero, List.set_cons_succ]
  try dsimp only
  refine take_at (i := 5) (v := ?_) rfl (by kernel_rfl) (by kernel_rfl) (by kernel_rfl) (fun _ _ _ h => h) (Or.inl ⟨by rfl, ?_⟩) hHeld ?_
  rotate_left
  · intro w hSw
    (try dsimp only at hSw)
    go_simp
    try with_reducible rfl
  try simp only [Act.put, List.setIfInBounds_toArray, List.set_cons_zero, List.set_cons_succ]
  try dsimp only
  refine take_at (i := 6) (v := ?_) rfl (by kernel_rfl) (by kernel_rfl) (by kernel_rfl) (fun _ _ _ h => h) (Or.inl ⟨by rfl, ?_⟩) hHeld ?_
  rotate_left
  · intro w hSw
    (try dsimp only at hSw)
    go_simp
    try with_reducible rfl
  try simp only [Act.put, List.setIfInBounds_toArray, List.set_cons_zero, List.set_cons_succ]
  try dsimp only
  refine wpAnyH_done (by kernel_rfl) ?_ _
  rw [HSTW.out]
  clear p1 p13 hHeld
  by_cases hzn : p.zn = 2
  rotate_left
  · have e1 : ((p.zn : Int) == 2) = false := by simp; omega
    have hr := HAT.out ST (by rw [if_neg hzn]; omega)
    go_wp2_with fail
    go_loopw [6, 7] (fun vn vi wr => vi = .int .i64 0 ∧ vn = .int .i64 ST ∧ Below w2.heap.size w2 wr) (fun _ _ _ => 0)
    case atStart => exact ⟨rfl, rfl, (Below.refl _ _).drew⟩
    case round =>
      obtain ⟨rfl, rfl, hbw⟩ := hrel
      rename World => wA
      have HPA := Lib.hid ((hbw.block _ (heap_lt HP2.out)).trans HP2.out)
      have HXA := Lib.hid ((hbw.block _ (heap_lt HX2.out)).trans HX2.out)
      have hltA := heap_lt HXA.out
      have hltP := heap_lt HPA.out
      have p5 := cell_blk (i := 5) HPA.out
      have y1 := cell_blk (i := 1) HXA.out
      simp at p5 y1
      have j1 : (0 : Int) < (t.np : Int) := by omega
      have HBA := Lib.hid hbw
      clear hbw
      go_wp2_with fail
      (with_reducible refine (hwi.out _ _ _ _).mono ?_)
      rintro e w4 ⟨rfl, rfl⟩
      go_wp2_with fail
      go_ret
      exact ⟨by rw [hr]; rfl, HB2.out.trans (HBA.out.mono HB2.out.size)⟩
  have e1 : ((p.zn : Int) == 2) = true := by simp [hzn]
  rw [if_pos hzn] at HAT
  clear hzn
  go_wp2_with fail
  go_loopw [6, 7] (fun vn vi wr => ∃ (k : Nat) (v : Int), vi = .int .i64 k ∧ vn = .int .i64 v ∧ k ≤ t.np ∧ Hid (UpA xs ps p i ST v (aurasTo fx ps k)) ∧ Below w2.heap.size w2 wr) (fun _ vi _ => t.np - (RowKit.intOf vi).toNat)
  case atStart => exact ⟨0, ST, by rfl, rfl, Nat.zero_le _, Lib.hid (by simp [UpA, aurasTo, sumA]), (Below.refl _ _).drew⟩
  case round =>
    obtain ⟨k, v, rfl, rfl, hk, HU, hbw⟩ := hrel
    rename World => wA
    have HBA := Lib.hid hbw
    have HBw := Lib.hid (HB2.out.trans (hbw.mono HB2.out.size))
    have HPA := Lib.hid ((hbw.block _ (heap_lt HP2.out)).trans HP2.out)
    have HXA := Lib.hid ((hbw.block _ (heap_lt HX2.out)).trans HX2.out)
    have hltA := heap_lt HXA.out
    have hltP := heap_lt HPA.out
    have p5 := cell_blk (i := 5) HPA.out
    have y1 := cell_blk (i := 1) HXA.out
    simp at p5 y1
    clear hbw
    by_cases hlt : k < t.np
    · obtain ⟨q, hqk⟩ : ∃ q, ps[k]? = some q := ⟨ps[k]'(by rw [← HNP.out]; exact hlt), List.getElem?_eq_getElem _⟩
      have hqo := HONE.out q (List.mem_of_getElem? hqk)
      have hqh := hqo.hs
      obtain ⟨g', o', hq', -, hcq⟩ := HT.out.piece hqk
      rw [hq, Option.some.injEq, Addr.mk.injEq] at hq'
      obtain ⟨rfl, rfl, -⟩ := hq'
      have hgA : g < wA.heap.size := Nat.lt_of_lt_of_le hg HBw.out.size
      have HQK := Lib.hid hqk
      have HQO := Lib.hid hqo
      have c0 := cell_later HBw.out (hcq 0 _ rfl)
      have c1 := cell_later HBw.out (hcq 1 _ rfl)
      have c2 := cell_later HBw.out (hcq 2 _ rfl)
      have c3 := cell_later HBw.out (hcq 3 _ rfl)
      have c4 := cell_later HBw.out (hcq 4 _ rfl)
      have c5 := cell_later HBw.out (hcq 5 _ rfl)
      have c6 := cell_later HBw.out (hcq 6 _ rfl)
      have c7 := cell_later HBw.out (hcq 7 _ rfl)
      have c8 := cell_later HBw.out (hcq 8 _ rfl)
      have c9 := cell_later HBw.out (hcq 9 _ rfl)
      have c10 := cell_later HBw.out (hcq 10 _ rfl)
      have c11 := cell_later HBw.out (hcq 11 _ rfl)
      have c12 := cell_later HBw.out (hcq 12 _ rfl)
      have c13 := cell_later HBw.out (hcq 13 _ rfl)
      simp only [Nat.add_zero] at c0
      have k0 : (0 : Int) ≤ (k : Int) := by omega
      have k1 : (k : Int) < (t.np : Int) := by omega
      obtain ⟨wB, hwB⟩ : ∃ wB, wB = wA.alloc (.cells (pcV q).toArray 45) := ⟨_, rfl⟩
      have bAB : Below wA.heap.size wA wB := by rw [hwB]; exact (Below.refl _ _).alloc (Nat.le_refl _) _
      have HQB : Hid (wB.heap[wA.heap.size]? = some (.cells (pcV q).toArray 45 (0, 0))) := Lib.hid (by rw [hwB]; exact heap_alloc_new _ _)
      have HBB := Lib.hid (HBA.out.trans (bAB.mono HBA.out.size))
      have HBwB := Lib.hid (HBw.out.trans (bAB.mono HBw.out.size))
      have HXB := Lib.hid ((bAB.block _ (heap_lt HXA.out)).trans HXA.out)
      have HWB := Lib.hid hwB
      have hnx := Lib.hid (aurasTo_next (fx := fx) hqk)
      clear bAB hwB hcq hqk hqo
      simp only [pcV] at HQB HWB
      by_cases hz : q.zn = 2 ∧ q.up = true ∧ 0 ≤ q.df
      rotate_left
      · have hnil : Hid (aurasTo fx ps (k + 1) = aurasTo fx ps k) := Lib.hid (by rw [hnx.out]; unfold auraOf; rw [if_neg hz, List.append_nil])
        by_cases z1 : q.zn = 2
        · have f1 : ((q.zn : Int) != 2) = false := by simp [z1]
          cases hu : q.up with
          | false =>
            rw [hu] at c7 HWB
            clear hz z1 hu
            go_wp2_with fail
            rw [← HWB.out]
            go_roundw
            case rel => exact ⟨k + 1, v, by go_num, rfl, by omega, by rw [hnil.out]; exact HU, HBB.out⟩
            case measure => simp [RowKit.intOf]; omega
          | true =>
            rw [hu] at c7 HWB
            have f2 : (q.df : Int) < 0 := by
              by_cases h : 0 ≤ q.df
              · exact absurd ⟨z1, hu, h⟩ hz
              · omega
            clear hz z1 hu
            go_wp2_with fail
            rw [← HWB.out]
            go_roundw
            case rel => exact ⟨k + 1, v, by go_num, rfl, by omega, by rw [hnil.out]; exact HU, HBB.out⟩
            case measure => simp [RowKit.intOf]; omega
        · have f1 : ((q.zn : Int) != 2) = true := by simp; omega
          clear hz z1
          go_wp2_with fail
          rw [← HWB.out]
          go_roundw
          case rel => exact ⟨k + 1, v, by go_num, rfl, by omega, by rw [hnil.out]; exact HU, HBB.out⟩
          case measure => simp [RowKit.intOf]; omega
      · obtain ⟨z1, hu, hd0⟩ := hz
        obtain ⟨D, hD⟩ : ∃ D : Nat, q.df = D := ⟨q.df.toNat, by omega⟩
        have hDl : D < fx.length := by have := HQO.out.df; have := HXL.out; omega
        obtain ⟨x, hx⟩ : ∃ x, fx[D]? = some x := ⟨fx[D], List.getElem?_eq_getElem _⟩
        have haur : Hid (auraOf fx k q = (gifts x.es).map fun s => (k, s)) := Lib.hid (by
          unfold auraOf
          rw [if_pos ⟨z1, hu, hd0⟩, hD, Int.toNat_natCast, hx])
        obtain ⟨gk, ok, hqk2, hgk, hck, hef⟩ := HKD.out.kind D x hx
        obtain ⟨hxe, hxs⟩ := HB.out D x hx
        have HXS := Lib.hid hxs
        have HEF := Lib.hid hef
        obtain ⟨M, hM⟩ : ∃ M, x.es.length = M := ⟨_, rfl⟩
        rw [hM] at hck hxe
        have HM := Lib.hid hM
        have f1 : ((q.zn : Int) != 2) = false := by simp [z1]
        have f2 : ¬ ((D : Nat) : Int) < 0 := by omega
        have f3 : (0 : Int) ≤ (D : Int) := by omega
        have f4 : (D : Int) < (t.nk : Int) := by have := HNK.out; omega
        have hckB := cell_later HBwB.out hck
        have y0 := cell_blk (i := 0) HXA.out
        simp at y0
        have hgkA : gk < wA.heap.size := Nat.lt_of_lt_of_le hgk HBw.out.size
        have hckA := cell_later HBw.out hck
        rw [hD] at c0 HWB HQB
        rw [hu] at c7 HWB HQB
        rw [hqk2] at y0
        clear hqk2 hM hck hckB hef hxs hx z1 hu hd0 hD
        go_wp2_with fail
        rw [← HWB.out]
        clear y0 y1 p5 hckA c0 c1 c2 c3 c4 c5 c6 c7 c8 c9 c10 c11 c12 c13
        go_loopw [6, 10] (fun vn vm wr => ∃ (m : Nat) (v' : Int), vm = .int .i64 m ∧ vn = .int .i64 v' ∧ m ≤ M ∧ Hid (UpA xs ps p i ST v' (aurasTo fx ps k ++ (gifts (x.es.take m)).map fun s => (k, s))) ∧ Below wB.heap.size wB wr) (fun _ vm _ => M - (RowKit.intOf vm).toNat)
        case atStart => exact ⟨0, v, by rfl, rfl, Nat.zero_le _, Lib.hid (by simpa [gifts] using HU.out), Below.refl _ _⟩
        case round =>
          obtain ⟨m, v', rfl, rfl, hm, HV, hbw⟩ := hrel
          rename World => wC
          have HBC := Lib.hid hbw
          have HBwC := Lib.hid (HBwB.out.trans (hbw.mono HBwB.out.size))
          clear hbw
          by_cases hltm : m < M
          · obtain ⟨e, he⟩ : ∃ e, x.es[m]? = some e := ⟨x.es[m]'(by rw [HM.out]; exact hltm), List.getElem?_eq_getElem _⟩
            obtain ⟨ge, oe, hqe, hge, hce⟩ := HEF.out.eff m e he
            have hsl := HXS.out m e he
            obtain ⟨N, hN⟩ : ∃ N, e.sx.length = N := ⟨_, rfl⟩
            have c0 : wC.cell? ⟨ge, oe + m * 12 + 0, none⟩ = some (.int .u8 e.mode) := cell_later HBwC.out (hce 0 _ rfl)
            have c9 : wC.cell? ⟨ge, oe + m * 12 + 11, none⟩ = some (.slice e.qs e.sx.length e.cs) := cell_later HBwC.out (hce 11 _ rfl)
            have HCE0 := Lib.hid (hce 0 _ rfl)
            have HCE9 : Hid (w.cell? ⟨ge, oe + m * 12 + 11, none⟩ = some (.slice e.qs e.sx.length e.cs)) := Lib.hid (hce 11 _ rfl)
            have HST' := Lib.hid (HEF.out.stp m e he).2
            have HE := Lib.hid he
            simp only [Nat.add_zero] at c0
            rw [hN] at c9 hsl HCE9
            have HN := Lib.hid hN
            have m0 : (0 : Int) ≤ (m : Int) := by omega
            have m1 : (m : Int) < (M : Int) := by omega
            rw [hqe]
            clear hce he hN
            by_cases h6 : e.mode = 6
            rotate_left
            · have e6 : ((e.mode : Int) == 6) = false := by simp; omega
              have hsame := Lib.hid (gifts_none HE.out h6)
              have hle0 : Hid (0 ≤ N) := Lib.hid (Nat.zero_le _)
              clear h6
              go_wp2_with fail
              go_loopw [6, 11] (fun vn vs wr => vs = .int .i64 0 ∧ vn = .int .i64 v' ∧ Below wC.heap.size wC wr) (fun _ _ _ => 0)
              case atStart => exact ⟨rfl, rfl, Below.refl _ _⟩
              case round =>
                obtain ⟨rfl, rfl, hbw⟩ := hrel
                rename World => wD
                have c0 := cell_later hbw c0
                have c9 := cell_later hbw c9
                have HBD := Lib.hid (HBC.out.trans (hbw.mono HBC.out.size))
                clear hbw
                by_cases hn0 : (0 : Int) < (N : Int)
                · go_wp2_with fail
                  go_roundw
                  case rel => exact ⟨m + 1, v', by go_num, rfl, by omega, by rw [hsame.out]; exact HV, HBD.out⟩
                  case measure => simp [RowKit.intOf]; omega
                · go_wp2_with fail
                  go_roundw
                  case rel => exact ⟨m + 1, v', by go_num, rfl, by omega, by rw [hsame.out]; exact HV, HBD.out⟩
                  case measure => simp [RowKit.intOf]; omega
            · have e6 : ((e.mode : Int) == 6) = true := by simp [h6]
              have hsome := Lib.hid (gifts_some HE.out h6)
              clear h6
              go_wp2_with fail
              clear c0 c9
              go_loopw [6, 11] (fun vn vs wr => ∃ (j : Nat) (u : Int), vs = .int .i64 j ∧ vn = .int .i64 u ∧ j ≤ N ∧ Hid (UpA xs ps p i ST u ((aurasTo fx ps k ++ (gifts (x.es.take m)).map fun s => (k, s)) ++ ((e.sx.take j).filter giftB).map fun s => (k, s))) ∧ Below wC.heap.size wC wr) (fun _ vs _ => N - (RowKit.intOf vs).toNat)
              case atStart => exact ⟨0, v', by rfl, rfl, Nat.zero_le _, Lib.hid (by simpa using HV.out), Below.refl _ _⟩
              case round =>
                obtain ⟨j, u, rfl, rfl, hj, HUU, hbw⟩ := hrel
                rename World => wD
                have HBD := Lib.hid (HBC.out.trans (hbw.mono HBC.out.size))
                have HBCD := Lib.hid hbw
                have HBwD := Lib.hid (HBwC.out.trans (hbw.mono HBwC.out.size))
                clear hbw
                have c0 : wD.cell? ⟨ge, oe + m * 12, none⟩ = some (.int .u8 e.mode) := cell_later HBwD.out HCE0.out
                have c9 := cell_later HBwD.out HCE9.out
                by_cases hltj : j < N
                · obtain ⟨s, hs⟩ : ∃ s, e.sx[j]? = some s := ⟨e.sx[j]'(by rw [HN.out]; exact hltj), List.getElem?_eq_getElem _⟩
                  obtain ⟨gs, os, hqs, hgs, hcs⟩ := HST'.out j s hs
                  have hfn := Lib.hid (filter_next hs)
                  have d0 : wD.cell? ⟨gs, os + j * 13 + 0, none⟩ = some (.int .u8 s.dof) := cell_later HBwD.out (hcs 0 _ rfl)
                  have d1 : wD.cell? ⟨gs, os + j * 13 + 1, none⟩ = some (.int .u8 s.side) := cell_later HBwD.out (hcs 1 _ rfl)
                  have d2 : wD.cell? ⟨gs, os + j * 13 + 2, none⟩ = some (.int .u8 s.op) := cell_later HBwD.out (hcs 2 _ rfl)
                  have d3 : wD.cell? ⟨gs, os + j * 13 + 3, none⟩ = some (.int .i64 s.n) := cell_later HBwD.out (hcs 3 _ rfl)
                  have d4 : wD.cell? ⟨gs, os + j * 13 + 4, none⟩ = some (.int .u8 s.ns) := cell_later HBwD.out (hcs 4 _ rfl)
                  have d5 : wD.cell? ⟨gs, os + j * 13 + 5, none⟩ = some (.int .u8 s.a1) := cell_later HBwD.out (hcs 5 _ rfl)
                  have d6 : wD.cell? ⟨gs, os + j * 13 + 6, none⟩ = some (.int .u8 s.a2) := cell_later HBwD.out (hcs 6 _ rfl)
                  have d7 : wD.cell? ⟨gs, os + j * 13 + 7, none⟩ = some (.int .u8 s.a3) := cell_later HBwD.out (hcs 7 _ rfl)
                  have d8 : wD.cell? ⟨gs, os + j * 13 + 8, none⟩ = some (.slice s.qa s.na s.ca) := cell_later HBwD.out (hcs 8 _ rfl)
                  have d9 : wD.cell? ⟨gs, os + j * 13 + 9, none⟩ = some (.bool s.all) := cell_later HBwD.out (hcs 9 _ rfl)
                  have d10 : wD.cell? ⟨gs, os + j * 13 + 10, none⟩ = some (.int .u8 s.s1) := cell_later HBwD.out (hcs 10 _ rfl)
                  have d11 : wD.cell? ⟨gs, os + j * 13 + 11, none⟩ = some (.int .u8 s.s2) := cell_later HBwD.out (hcs 11 _ rfl)
                  have d12 : wD.cell? ⟨gs, os + j * 13 + 12, none⟩ = some (.int .u8 s.s3) := cell_later HBwD.out (hcs 12 _ rfl)
                  simp only [Nat.add_zero] at d0
                  have j0 : (0 : Int) ≤ (j : Int) := by omega
                  have j1 : (j : Int) < (N : Int) := by omega
                  have hgsD : gs < wD.heap.size := Nat.lt_of_lt_of_le hgs HBwD.out.size
                  have hgeD : ge < wD.heap.size := Nat.lt_of_lt_of_le hge HBwD.out.size
                  rw [hqs] at c9
                  obtain ⟨wE, hwE⟩ : ∃ wE, wE = wD.alloc (.cells s.row 72) := ⟨_, rfl⟩
                  have bDE : Below wD.heap.size wD wE := by rw [hwE]; exact (Below.refl _ _).alloc (Nat.le_refl _) _
                  have HSE : Hid (wE.heap[wD.heap.size]? = some (.cells s.row 72 (0, 0))) := Lib.hid (by rw [hwE]; exact heap_alloc_new _ _)
                  have HBE := Lib.hid (HBCD.out.trans (bDE.mono HBCD.out.size))
                  have HBwE := Lib.hid (HBwD.out.trans (bDE.mono HBwD.out.size))
                  have HBBE := Lib.hid (HBD.out.trans (bDE.mono HBD.out.size))
                  have HWE := Lib.hid hwE
                  have HGB : Hid (giftB s = (s.dof == 7 && (s.all && s.op == 0))) := Lib.hid rfl
                  clear bDE hwE hcs hs
                  simp only [SX.row] at HSE HWE
                  by_cases g1 : s.dof = 7
                  rotate_left
                  · have q1 : ((s.dof : Int) == 7) = false := by simp; omega
                    have hno : Hid ((e.sx.take (j + 1)).filter giftB = (e.sx.take j).filter giftB) := Lib.hid (by rw [hfn.out, HGB.out]; simp [g1])
                    clear g1
                    go_wp2_with fail
                    rw [← HWE.out]
                    go_roundw
                    case rel => exact ⟨j + 1, u, by go_num, rfl, by omega, by rw [hno.out]; simpa using HUU, HBE.out⟩
                    case measure => simp [RowKit.intOf]; omega
                  have q1 : ((s.dof : Int) == 7) = true := by simp [g1]
                  cases g2 : s.all with
                  | false =>
                    rw [g2] at d9 HWE HSE
                    have hno : Hid ((e.sx.take (j + 1)).filter giftB = (e.sx.take j).filter giftB) := Lib.hid (by rw [hfn.out, HGB.out]; simp [g2])
                    clear g1 g2
                    go_wp2_with fail
                    rw [← HWE.out]
                    go_roundw
                    case rel => exact ⟨j + 1, u, by go_num, rfl, by omega, by rw [hno.out]; simpa using HUU, HBE.out⟩
                    case measure => simp [RowKit.intOf]; omega
                  | true =>
                    rw [g2] at d9 HWE HSE
                    by_cases g3 : s.op = 0
                    rotate_left
                    · have q3 : ((s.op : Int) == 0) = false := by simp; omega
                      have hno : Hid ((e.sx.take (j + 1)).filter giftB = (e.sx.take j).filter giftB) := Lib.hid (by rw [hfn.out, HGB.out]; simp [g3])
                      clear g1 g2 g3
                      go_wp2_with fail
                      rw [← HWE.out]
                      go_roundw
                      case rel => exact ⟨j + 1, u, by go_num, rfl, by omega, by rw [hno.out]; simpa using HUU, HBE.out⟩
                      case measure => simp [RowKit.intOf]; omega
                    have q3 : ((s.op : Int) == 0) = true := by simp [g3]
                    have hgb : giftB s = true := by rw [HGB.out]; simp [g1, g2, g3]
                    have hyes : Hid ((e.sx.take (j + 1)).filter giftB = (e.sx.take j).filter giftB ++ [s]) := Lib.hid (by rw [hfn.out, if_pos hgb])
                    have HUP : Hid (UpA xs ps p i ST (u + incA xs ps p i (k, s)) ((aurasTo fx ps k ++ (gifts (x.es.take m)).map fun s => (k, s)) ++ ((e.sx.take (j + 1)).filter giftB).map fun s => (k, s))) := Lib.hid (by
                      rw [hyes.out, List.map_append, ← List.append_assoc]
                      exact UpA.snoc HUU.out (k, s))
                    have hbd : -1000000 ≤ u + incA xs ps p i (k, s) ∧ u + incA xs ps p i (k, s) ≤ 3300000000000000000 := by
                      have h1 : ((aurasTo fx ps k ++ (gifts (x.es.take m)).map fun s => (k, s)) ++ ((e.sx.take (j + 1)).filter giftB).map fun s => (k, s)) <+: aurasTo fx ps ps.length := by
                        rw [List.append_assoc]
                        refine aura_pre HQK.out ?_
                        rw [haur.out, ← List.map_append]
                        refine List.IsPrefix.map _ ?_
                        refine gifts_pre x.es HE.out ?_
                        have : giftsOf e = e.sx.filter giftB := by
                          have h1 := gifts_next HE.out
                          rw [hsome.out] at h1
                          exact (List.append_cancel_left h1).symm
                        rw [this]
                        exact (List.take_prefix _ _).filter _
                      have h2 := HIN.out _ h1
                      have h3 := HUP.out
                      unfold UpA at h3
                      have := HSTB.out
                      omega
                    have HINC : Hid (incA xs ps p i (k, s) = if ofB xs p q.hs k ⟨s.s1, s.s2, s.s3⟩ i = true then wi s.n 0 99999 else 0) := Lib.hid (by
                      unfold incA
                      rw [HQK.out]
                      rw [wi_eq (by omega)])
                    obtain ⟨Z, hZ⟩ : ∃ Z, ofB xs p q.hs k ⟨s.s1, s.s2, s.s3⟩ i = Z := ⟨_, rfl⟩
                    have hcall := Lib.hid fun (W : World) (hb : Below w.heap.size w W) => hof.out W hb q.hs hqh k s.s1 s.s2 s.s3
                    rw [hZ] at hcall HINC
                    have HXD := Lib.hid ((HBD.out.block _ (heap_lt HXB.out)).trans HXB.out)
                    have HQD := Lib.hid ((HBD.out.block _ (heap_lt HQB.out)).trans HQB.out)
                    have hltX := heap_lt HXD.out
                    have hltQ := heap_lt HQD.out
                    have y0 := cell_blk (i := 0) HXD.out
                    have y1 := cell_blk (i := 1) HXD.out
                    have y2 := cell_blk (i := 2) HXD.out
                    have y3 := cell_blk (i := 3) HXD.out
                    have y4 := cell_blk (i := 4) HXD.out
                    have y5 := cell_blk (i := 5) HXD.out
                    have y6 := cell_blk (i := 6) HXD.out
                    have y7 := cell_blk (i := 7) HXD.out
                    have y8 := cell_blk (i := 8) HXD.out
                    have y9 := cell_blk (i := 9) HXD.out
                    simp at y0 y1 y2 y3 y4 y5 y6 y7 y8 y9
                    have z4 := cell_blk (i := 4) HQD.out
                    simp at z4
                    clear g1 g2 g3 hgb hZ
                    go_wp2_with fail
                    rw [← HWE.out]
                    (with_reducible refine (hcall.out _ HBwE.out).mono ?_)
                    rintro e' w5 ⟨rfl, b5⟩
                    have HB5 := Lib.hid (HBE.out.trans (b5.mono HBE.out.size))
                    have HS5 := Lib.hid ((b5.block _ (heap_lt HSE.out)).trans HSE.out)
                    clear b5 z4 y0 y1 y2 y3 y4 y5 y6 y7 y8 y9 c0 c9 d0 d1 d2 d3 d4 d5 d6 d7 d8 d9 d10 d11 d12
                    cases Z with
                    | false =>
                      have hinc : Hid (u + incA xs ps p i (k, s) = u) := Lib.hid (by rw [HINC.out]; simp)
                      clear hbd
                      go_wp2_with fail
                      go_roundw
                      case rel => exact ⟨j + 1, u, by go_num, rfl, by omega, by have := HUP.out; rw [hinc.out] at this; exact Lib.hid this, HB5.out⟩
                      case measure => simp [RowKit.intOf]; omega
                    | true =>
                      have hinc : incA xs ps p i (k, s) = wi s.n 0 99999 := by rw [HINC.out]; simp
                      rw [hinc] at hbd HUP
                      have hwr : IntKind.i64.wrap (u + wi s.n 0 99999) = u + wi s.n 0 99999 := IntWalk.i64_in _ (by omega)
                      have HWR := Lib.hid hwr
                      have d3 := cell_blk (i := 3) HS5.out
                      simp at d3
                      have hltS := heap_lt HS5.out
                      clear hwr hinc
                      go_wp2_with fail
                      (with_reducible refine (hwi.out _ _ _ _).mono ?_)
                      rintro e' w6 ⟨rfl, rfl⟩
                      go_wp2_with fail
                      go_roundw
                      case rel => exact ⟨j + 1, u + wi s.n 0 99999, by go_num, (by first | exact congrArg (Value.int .i64) HWR.out | go_num), by omega, HUP, HB5.out⟩
                      case measure => simp [RowKit.intOf]; omega
                · obtain rfl : j = N := by omega
                  have HV' : Hid (UpA xs ps p i ST u (aurasTo fx ps k ++ (gifts (x.es.take (m + 1))).map fun s => (k, s))) := Lib.hid (by
                    have := HUU.out
                    rw [List.take_of_length_le (l := e.sx) (by rw [HN.out]; exact Nat.le_refl _)] at this
                    rw [hsome.out, List.map_append, ← List.append_assoc]
                    exact this)
                  go_wp2_with fail
                  go_roundw
                  case rel => exact ⟨m + 1, u, by go_num, rfl, by omega, HV', HBD.out⟩
                  case measure => simp [RowKit.intOf]; omega
          · obtain rfl : m = M := by omega
            have HU' : Hid (UpA xs ps p i ST v' (aurasTo fx ps (k + 1))) := Lib.hid (by
              have := HV.out
              rw [List.take_of_length_le (by rw [HM.out]; exact Nat.le_refl _)] at this
              rw [hnx.out, haur.out]
              exact this)
            go_wp2_with fail
            go_roundw
            case rel =>
              exact ⟨k + 1, v', by go_num, rfl, by omega, HU', HBB.out.trans (HBC.out.mono HBB.out.size)⟩
            case measure => simp [RowKit.intOf]; omega
    · obtain rfl : k = t.np := by omega
      have hr := Lib.hid (HAT.out v (by
        have := HU.out
        rw [HNP.out] at this
        exact this))
      go_wp2_with fail
      (with_reducible refine (hwi.out _ _ _ _).mono ?_)
      rintro e w4 ⟨rfl, rfl⟩
      go_wp2_with fail
      go_ret
      exact ⟨by rw [hr.out]; rfl, HBw.out⟩
end Go.Proofs.Ytfdehhibgdeedaa
