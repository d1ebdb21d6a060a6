import Derived.Test.YtfdehhibgdeedaaQFtOut
/- fight.targets, fight.Attacks: who may attack whom, of a table that may be. -/
namespace Go.Proofs.Ytfdehhibgdeedaa
open Go.RowKit Go.Lib

theorem bin_row (t : Tb) (xs : List Cd) (ps : List Pc) (h : Nat) (w : World) (hT : TabIn w t xs ps) (hL : LifeOk t) (hG : GoodB xs ps) :
    Calls Try.prog 28 #[.agg t.row, .int .u8 h, .int .u8 2] w (InEnds ps h 2 w.heap.size w) := bin_few t xs ps h 2 w hT hL hG (by have := row_few hG h; omega)
theorem NatsAt.ints {w : World} {b : Nat} {v : Value} {l : List Nat} (h : NatsAt w b v l) : IntsOwn w b v (l.map fun (i : Nat) => (i : Int)) := by
  unfold IntsOwn
  unfold NatsAt at h
  rw [List.length_map, List.map_map]
  exact h
theorem IntsOwn.cell {w : World} {b : Nat} {v : Value} {l : List Int} (h : IntsOwn w b v l) : (∃ a c, v = .slice a l.length c) ∧ ∀ (i : Nat) (x : Int), l[i]? = some x → ∃ g, b ≤ g ∧ g < w.heap.size ∧ (∃ c, v = .slice (some ⟨g, 0, none⟩) l.length c) ∧ w.cell? ⟨g, i, none⟩ = some (.int .i64 x) := by
  rcases h.2 with ⟨rfl, h0⟩ | ⟨g, cap, cur, rfl, hbg, hh, hc, hm, hs, ht⟩
  · refine ⟨⟨none, 0, by rw [h0]⟩, fun i x hx => ?_⟩
    obtain rfl := List.eq_nil_of_length_eq_zero h0
    simp at hx
  · refine ⟨⟨_, cap, rfl⟩, fun i x hx => ⟨g, hbg, heap_lt hh, ⟨cap, rfl⟩, ?_⟩⟩
    have hi := (List.getElem?_eq_some_iff.1 hx).1
    have h1 : (cur.toList.take (l.length * 1))[i]? = (l.map (Value.int .i64))[i]? := by rw [ht]
    rw [List.getElem?_take_of_lt (by omega)] at h1
    rw [cell_blk hh, ← Array.getElem?_toList, h1, List.getElem?_map, hx]
    rfl

/-- Whom one attacks who attacks somebody's pieces. -/
def tarL (ids : List Nat) : List Int := if ids = [] then [-1] else ids.map fun (i : Nat) => (i : Int)
def TarEnds (ps : List Pc) (h : Nat) (w : World) (e : Ending) (w' : World) : Prop := (∃ v ids, e = .returned v ∧ IntsOwn w' w.heap.size v (tarL ids) ∧ ids.Perm (idsIn ps h 2) ∧ ByPl ps ids) ∧ Below w.heap.size w w'
set_option maxHeartbeats 4000000 in
set_option maxRecDepth 100000 in
theorem targets_any (t : Tb) (xs : List Cd) (ps : List Pc) (h : Nat) (w : World) (hT : TabIn w t xs ps) (hL : LifeOk t) (hG : GoodB xs ps) : Calls Try.prog 27 #[.agg t.row, .int .u8 h] w (TarEnds ps h w) := by
  have hin := Lib.hid fun (W : World) (hb : Below w.heap.size w W) => bin_row t xs ps h W (hT.below hb) hL hG
  clear hT hL hG
  obtain ⟨w0, hw0⟩ : ∃ w0, w0 = w.alloc (.cells t.row 28) := ⟨_, rfl⟩
  have hb0 : Below w.heap.size w w0 := by rw [hw0]; exact (Below.refl _ _).alloc (Nat.le_refl _) _
  have HB0 := Lib.hid hb0
  have HW0 := Lib.hid hw0
  clear hb0 hw0
  simp only [Tb.row] at *
  go_enter Try.func27, Try.ntmps27
  go_wp2_with fail
  rw [← HW0.out]
  (with_reducible refine (hin.out _ HB0.out).mono ?_)
  rintro e w1 ⟨⟨v, l, rfl, hn, hp, hs⟩, b1⟩
  obtain ⟨⟨a, c, rfl⟩, -⟩ := hn.cell
  have HB1 := Lib.hid (HB0.out.trans (b1.mono HB0.out.size))
  have HN := Lib.hid hn
  have HP := Lib.hid hp
  have HS := Lib.hid hs
  obtain ⟨n, hl⟩ : ∃ n, l.length = n := ⟨_, rfl⟩
  rw [hl] at HN ⊢
  have HL := Lib.hid hl
  clear b1 hn hp hs hl
  by_cases h0 : n = 0
  · have e0 : ((n : Int) == 0) = true := by simp [h0]
    have hnil : l = [] := List.eq_nil_of_length_eq_zero (by rw [HL.out]; exact h0)
    have HNI := Lib.hid hnil
    clear h0 hnil
    go_wp2_with fail
    go_ret
    exact ⟨⟨_, l, rfl, by rw [HNI.out]; exact IntsOwn.one (by exact HB1.out.size) (heap_alloc_new _ _), HP.out, HS.out⟩, HB1.out.alloc HB1.out.size _⟩
  · have e0 : ((n : Int) == 0) = false := by (first | (simp; done) | (simp; omega))
    have hne : l ≠ [] := fun e => h0 (by rw [← HL.out, e]; rfl)
    have HNE := Lib.hid hne
    clear h0 hne
    go_wp2_with fail
    go_ret
    exact ⟨⟨_, l, rfl, by unfold tarL; rw [if_neg HNE.out]; exact HN.out.ints.base HB0.out.size, HP.out, HS.out⟩, HB1.out⟩

abbrev Op3 := Nat × Int × Int
def opV (o : Op3) : List Value := [.int .u8 o.1, .int .i64 o.2.1, .int .i64 o.2.2]
def opsV (l : List Op3) : List Value := (l.map opV).flatten
/-- Options in memory of one's own. -/
def OptsAt (w : World) (b : Nat) (v : Value) (l : List Op3) : Prop := w.ownsRow b 41 3 v l.length (opsV l)
theorem OptsAt.below {w w' : World} {b : Nat} {v : Value} {l : List Op3} (h : OptsAt w b v l) (hb : Below w.heap.size w w') : OptsAt w' b v l := ownsRow_same h fun g hg => hb.block _ (World.ownsRow.lt h g hg).2
theorem OptsAt.base {w : World} {b c : Nat} {v : Value} {l : List Op3} (h : OptsAt w b v l) (hc : c ≤ b) : OptsAt w c v l := by
  refine ⟨h.1, ?_⟩
  rcases h.2 with h0 | ⟨g, cap, cur, hv, hbg, r⟩
  · exact .inl h0
  · exact .inr ⟨g, cap, cur, hv, Nat.le_trans hc hbg, r⟩
theorem opsV_snoc (l : List Op3) (o : Op3) : opsV l ++ opV o = opsV (l ++ [o]) := by simp [opsV]
def canAt (ps : List Pc) (a : Nat) : Bool := match ps[a]? with
  | some p => attB p && !p.sk
  | none => false
def optsOf (ps : List Pc) (own : List Nat) (ag : List Int) : List Op3 := own.flatMap fun a => if canAt ps a = true then ag.map fun d => (8, (a : Int), d) else []
theorem optsOf_next {ps : List Pc} {own : List Nat} {ag : List Int} {k a : Nat} (h : own[k]? = some a) : optsOf ps (own.take (k + 1)) ag = optsOf ps (own.take k) ag ++ (if canAt ps a = true then ag.map fun d => (8, (a : Int), d) else []) := by
  unfold optsOf
  rw [List.take_add_one, h, List.flatMap_append]
  simp
theorem optsOf_len (ps : List Pc) (ag : List Int) : ∀ own : List Nat, (optsOf ps own ag).length ≤ own.length * ag.length
  | [] => by simp [optsOf]
  | a :: l => by
    have ih := optsOf_len ps ag l
    unfold optsOf at ih ⊢
    rw [List.flatMap_cons, List.length_append, List.length_cons, Nat.succ_mul]
    have : (if canAt ps a = true then ag.map fun d => ((8, (a : Int), d) : Op3) else []).length ≤ ag.length := by split <;> simp
    omega
theorem tarL_len {ids : List Nat} (h : ids.length ≤ 5) : (tarL ids).length ≤ 5 := by
  unfold tarL
  split
  · simp
  · rw [List.length_map]; exact h
theorem opt_info : (Try.prog.info? 41).map (fun i => (i.zero, i.size, i.bytes)) = some (some (.agg #[.int .u8 0, .int .i64 0, .int .i64 0]), 3, 24) := by kernel_rfl

def AttEnds (ps : List Pc) (h : Nat) (w : World) (e : Ending) (w' : World) : Prop := (∃ v own ids, e = .returned v ∧ OptsAt w' w.heap.size v (optsOf ps own (tarL ids) ++ [(9, -1, -1)]) ∧ own.Perm (idsIn ps h 2) ∧ ids.Perm (idsIn ps (1 - h) 2) ∧ ByPl ps own ∧ ByPl ps ids) ∧ Below w.heap.size w w'

set_option maxHeartbeats 16000000 in
set_option maxRecDepth 100000 in
theorem attacks_any (t : Tb) (xs : List Cd) (ps : List Pc) (h : Nat) (w : World) (hT : TabIn w t xs ps) (hL : LifeOk t) (hG : GoodB xs ps) (hh : h ≤ 1) : Calls Try.prog 11 #[.agg t.row, .int .u8 h] w (AttEnds ps h w) := by
  obtain ⟨i0, hi0, hz0, hz1, hz2⟩ := info_parts opt_info
  have hmay := Lib.hid fun (W : World) (hb : Below w.heap.size w W) => bmay_yes t xs ps W (hT.below hb) hL hG
  have hot := Lib.hid fun W => fother_any h W hh
  have htar := Lib.hid fun (W : World) (hb : Below w.heap.size w W) => targets_any t xs ps (1 - h) W (hT.below hb) hL hG
  have hin := Lib.hid fun (W : World) (hb : Below w.heap.size w W) => bin_row t xs ps h W (hT.below hb) hL hG
  have HT := Lib.hid hT
  have HF1 : Hid (∀ l : List Nat, l.Perm (idsIn ps h 2) → l.length ≤ 5) := Lib.hid fun l hl => by rw [hl.length_eq, idsIn_len]; exact row_few hG h
  have HF2 : Hid (∀ l : List Nat, l.Perm (idsIn ps (1 - h) 2) → l.length ≤ 5) := Lib.hid fun l hl => by rw [hl.length_eq, idsIn_len]; exact row_few hG (1 - h)
  have hnw : ¬ (h : Int) > 1 := by omega
  obtain ⟨oh, hoh⟩ : ∃ oh, 1 - h = oh := ⟨_, rfl⟩
  rw [hoh] at hot htar HF2
  have HOH := Lib.hid hoh
  clear hT hL hG hh hoh
  obtain ⟨w0, hw0⟩ : ∃ w0, w0 = w.alloc (.cells t.row 28) := ⟨_, rfl⟩
  have hb0 : Below w.heap.size w w0 := by rw [hw0]; exact (Below.refl _ _).alloc (Nat.le_refl _) _
  have hx0 : w0.heap[w.heap.size]? = some (.cells t.row 28 (0, 0)) := by rw [hw0]; exact heap_alloc_new _ _
  have HB0 := Lib.hid hb0
  have HX0 := Lib.hid hx0
  have HW0 := Lib.hid hw0
  clear hb0 hx0 hw0
  simp only [Tb.row] at *
  go_enter Try.func11, Try.ntmps11
  go_wp2_with fail
  rw [← HW0.out]
  (with_reducible refine (hmay.out _ HB0.out).mono ?_)
  rintro e w1 ⟨rfl, b1⟩
  have HB1 := Lib.hid (HB0.out.trans (b1.mono HB0.out.size))
  have HX1 := Lib.hid ((b1.block _ (heap_lt HX0.out)).trans HX0.out)
  clear b1
  have hlt1 := heap_lt HX1.out
  have y0 := cell_blk (i := 0) HX1.out
  have y1 := cell_blk (i := 1) HX1.out
  have y2 := cell_blk (i := 2) HX1.out
  have y3 := cell_blk (i := 3) HX1.out
  have y4 := cell_blk (i := 4) HX1.out
  have y5 := cell_blk (i := 5) HX1.out
  have y6 := cell_blk (i := 6) HX1.out
  have y7 := cell_blk (i := 7) HX1.out
  have y8 := cell_blk (i := 8) HX1.out
  have y9 := cell_blk (i := 9) HX1.out
  simp at y0 y1 y2 y3 y4 y5 y6 y7 y8 y9
  go_wp2_with fail
  refine wp_region_held_drew (S := fun w' => w'.cell? ⟨w.heap.size, 0, none⟩ = some (.slice t.qk t.nk t.ck) ∧ w'.cell? ⟨w.heap.size, 1, none⟩ = some (.slice t.qp t.np t.cp) ∧ w'.cell? ⟨w.heap.size, 2, none⟩ = some (.int .i64 t.l0) ∧ w'.cell? ⟨w.heap.size, 3, none⟩ = some (.int .i64 t.l1) ∧ w'.cell? ⟨w.heap.size, 4, none⟩ = some (.int .i64 t.tn) ∧ w'.cell? ⟨w.heap.size, 5, none⟩ = some (.int .u8 t.py) ∧ w'.cell? ⟨w.heap.size, 6, none⟩ = some (.int .i64 t.mo) ∧ w'.cell? ⟨w.heap.size, 7, none⟩ = some (.slice t.qe t.ne t.ce) ∧ w'.cell? ⟨w.heap.size, 8, none⟩ = some (.bool t.b0) ∧ w'.cell? ⟨w.heap.size, 9, none⟩ = some (.bool t.b1)) (by kernel_rfl) (by (repeat' apply And.intro) <;> go_keep) (fun hHeld => ?_)
  refine take_at (i := 0) (v := ?_) rfl (by kernel_rfl) (by kernel_rfl) (by kernel_rfl) (fun _ _ _ h => h) (Or.inl ⟨by rfl, ?_⟩) hHeld ?_
  rotate_left
  · intro w hSw
    (try dsimp only at hSw)
    go_simp
    try with_reducible rfl
  try simp only [Act.put, List.setIfInBounds_toArray, List.set_cons_zero, List.set_cons_succ]
  try dsimp only
  refine take_at (i := 1) (v := ?_) rfl (by kernel_rfl) (by kernel_rfl) (by kernel_rfl) (fun _ _ _ h => h) (Or.inl ⟨by rfl, ?_⟩) hHeld ?_
  rotate_left
  · intro w hSw
    (try dsimp only at hSw)
    go_simp
    try with_reducible rfl
  try simp only [Act.put, List.setIfInBounds_toArray, List.set_cons_zero, List.set_cons_succ]
  try dsimp only
  refine wpAnyH_ready (rs := [2]) (by kernel_rfl) (by simp) ?_
  refine cons_at rfl (fun K hK => ?_) AllReadyH.nil
  go_simp
  (with_reducible refine (hot.out _).mono ?_)
  rintro e w5 ⟨rfl, rfl⟩
  refine hK.out _ _ ⟨hHeld.1, hHeld.2.1, hHeld.2.2.1, hHeld.2.2.2.1, hHeld.2.2.2.2.1, hHeld.2.2.2.2.2.1, hHeld.2.2.2.2.2.2.1, hHeld.2.2.2.2.2.2.2.1, hHeld.2.2.2.2.2.2.2.2.1, hHeld.2.2.2.2.2.2.2.2.2⟩ (fun hHeld => ?_)
  clear hK K
  try simp only [Act.put, List.setIfInBounds_toArray, List.set_cons_zero, List.set_cons_succ]
  try dsimp only
  refine wpAnyH_ready (rs := [3]) (by kernel_rfl) (by simp) ?_
  refine cons_at rfl (fun K hK => ?_) AllReadyH.nil
  go_simp
  (with_reducible refine (htar.out _ ((by repeat (first | (with_reducible exact HB1.out) | (with_reducible refine Below.drew ?_))) : Below w.heap.size w _)).mono ?_)
  rintro e w2 ⟨⟨vg, ids, rfl, hag, hgp, hgs⟩, b2⟩
  have B2 : Below w.heap.size w w2 := Below.trans ((by repeat (first | (with_reducible exact HB1.out) | (with_reducible refine Below.drew ?_))) : Below w.heap.size w _) (b2.mono (by have := HB1.out.size; first | exact this | (simp; omega)))
  refine hK.out _ _ ⟨cell_later b2 hHeld.1, cell_later b2 hHeld.2.1, cell_later b2 hHeld.2.2.1, cell_later b2 hHeld.2.2.2.1, cell_later b2 hHeld.2.2.2.2.1, cell_later b2 hHeld.2.2.2.2.2.1, cell_later b2 hHeld.2.2.2.2.2.2.1, cell_later b2 hHeld.2.2.2.2.2.2.2.1, cell_later b2 hHeld.2.2.2.2.2.2.2.2.1, cell_later b2 hHeld.2.2.2.2.2.2.2.2.2⟩ (fun hHeld => ?_)
  clear hK K
  try simp only [Act.put, List.setIfInBounds_toArray, List.set_cons_zero, List.set_cons_succ]
  try dsimp only
  refine take_at (i := 4) (v := ?_) rfl (by kernel_rfl) (by kernel_rfl) (by kernel_rfl) (fun _ _ _ h => h) (Or.inl ⟨by rfl, ?_⟩) hHeld ?_
  rotate_left
  · intro w hSw
    (try dsimp only at hSw)
    go_simp
    try with_reducible rfl
  try simp only [Act.put, List.setIfInBounds_toArray, List.set_cons_zero, List.set_cons_succ]
  try dsimp only
  refine wpAnyH_done (by kernel_rfl) ?_ _
  obtain ⟨⟨ga, gc, rfl⟩, -⟩ := hag.cell
  have HB2 := Lib.hid B2
  have HX2 := Lib.hid ((b2.block _ (heap_lt HX1.out)).trans HX1.out)
  have HAG := Lib.hid hag
  have HGP := Lib.hid hgp
  have HGS := Lib.hid hgs
  obtain ⟨ag, hagl⟩ : ∃ ag, tarL ids = ag := ⟨_, rfl⟩
  have HAL := Lib.hid hagl
  have hag5 : ag.length ≤ 5 := by rw [← hagl]; exact tarL_len (HF2.out ids hgp)
  rw [hagl] at HAG ⊢
  obtain ⟨gn, hgn⟩ : ∃ gn, ag.length = gn := ⟨_, rfl⟩
  rw [hgn] at HAG hag5 ⊢
  have HGN := Lib.hid hgn
  clear hag hgp hgs hagl hgn b2 B2 hHeld y0 y1 y2 y3 y4 y5 y6 y7 y8 y9
  have hlt2 := heap_lt HX2.out
  have y0 := cell_blk (i := 0) HX2.out
  have y1 := cell_blk (i := 1) HX2.out
  have y2 := cell_blk (i := 2) HX2.out
  have y3 := cell_blk (i := 3) HX2.out
  have y4 := cell_blk (i := 4) HX2.out
  have y5 := cell_blk (i := 5) HX2.out
  have y6 := cell_blk (i := 6) HX2.out
  have y7 := cell_blk (i := 7) HX2.out
  have y8 := cell_blk (i := 8) HX2.out
  have y9 := cell_blk (i := 9) HX2.out
  simp at y0 y1 y2 y3 y4 y5 y6 y7 y8 y9
  go_wp2_with fail
  (with_reducible refine (hin.out _ HB2.out).mono ?_)
  rintro e w3 ⟨⟨v3, own, rfl, hown, hop, hos⟩, b3⟩
  obtain ⟨⟨oa, oc, rfl⟩, -⟩ := hown.cell
  have HB3 := Lib.hid (HB2.out.trans (b3.mono HB2.out.size))
  have HX3 := Lib.hid ((b3.block _ (heap_lt HX2.out)).trans HX2.out)
  have HAG3 := Lib.hid (HAG.out.below b3)
  have HOW := Lib.hid hown
  have HOP := Lib.hid hop
  have HOS := Lib.hid hos
  have hon5 : own.length ≤ 5 := HF1.out own hop
  obtain ⟨on, hon⟩ : ∃ on, own.length = on := ⟨_, rfl⟩
  rw [hon] at HOW hon5 ⊢
  have HON := Lib.hid hon
  clear hown hop hos hon b3 y0 y1 y2 y3 y4 y5 y6 y7 y8 y9 hlt2 hlt1
  go_wp2_with fail
  go_loopw [5, 26] (fun vl vi wr => ∃ (k : Nat) (a : Option Addr) (n c : Nat), vi = .int .i64 k ∧ k ≤ on ∧ vl = .slice a n c ∧ n = (optsOf ps (own.take k) ag).length ∧ OptsAt wr w3.heap.size (.slice a n c) (optsOf ps (own.take k) ag) ∧ Below w3.heap.size w3 wr) (fun _ vi _ => on - (RowKit.intOf vi).toNat)
  case atStart => exact ⟨0, none, 0, 0, by rfl, by omega, rfl, by simp [optsOf], World.ownsRow_nil _ _ _ _, Below.refl _ _⟩
  case round =>
    obtain ⟨k, a, n, c, rfl, hk, rfl, hn, hopt, hbw⟩ := hrel
    rename World => wA
    have HBW := Lib.hid hbw
    have HBw : Hid (Below w.heap.size w wA) := Lib.hid (HB3.out.trans (hbw.mono HB3.out.size))
    have HXA := Lib.hid ((hbw.block _ (heap_lt HX3.out)).trans HX3.out)
    have HAGA := Lib.hid (HAG3.out.below hbw)
    have HOWA := Lib.hid (HOW.out.below hbw)
    have HO := Lib.hid hopt
    have HNL := Lib.hid hn
    have hn25 : n ≤ 25 := by
      rw [hn]
      have h1 := optsOf_len ps ag (own.take k)
      have h2 : (own.take k).length ≤ 5 := by rw [List.length_take, HON.out]; omega
      have h3 : ag.length ≤ 5 := by rw [HGN.out]; exact hag5
      have := Nat.mul_le_mul h2 h3
      omega
    clear hn hopt hbw
    have hltA := heap_lt HXA.out
    have y0 := cell_blk (i := 0) HXA.out
    have y1 := cell_blk (i := 1) HXA.out
    have y2 := cell_blk (i := 2) HXA.out
    have y3 := cell_blk (i := 3) HXA.out
    have y4 := cell_blk (i := 4) HXA.out
    have y5 := cell_blk (i := 5) HXA.out
    have y6 := cell_blk (i := 6) HXA.out
    have y7 := cell_blk (i := 7) HXA.out
    have y8 := cell_blk (i := 8) HXA.out
    have y9 := cell_blk (i := 9) HXA.out
    simp at y0 y1 y2 y3 y4 y5 y6 y7 y8 y9
    by_cases hlt : k < on
    · obtain ⟨x, hx⟩ : ∃ x, own[k]? = some x := ⟨own[k]'(by rw [HON.out]; exact hlt), List.getElem?_eq_getElem _⟩
      obtain ⟨gw, -, -, hgl, ⟨cw, hcw⟩, hcx⟩ := HOWA.out.cell.2 k x hx
      simp only [Value.slice.injEq] at hcw
      obtain ⟨rfl, -, rfl⟩ := hcw
      obtain ⟨p, hp, hph, hpz⟩ := idsIn_mem.1 (HOP.out.mem_iff.1 (List.mem_of_getElem? hx))
      obtain ⟨g, o, hq, hg, hc⟩ := HT.out.piece hp
      have hil : x < t.np := by rw [HT.out.np.1]; exact (List.getElem?_eq_some_iff.1 hp).1
      have hc := fun j u hu => cell_later HBw.out (hc j u hu)
      have c0 := hc 0 _ rfl
      have c1 := hc 1 _ rfl
      have c2 := hc 2 _ rfl
      have c3 := hc 3 _ rfl
      have c4 := hc 4 _ rfl
      have c5 := hc 5 _ rfl
      have c6 := hc 6 _ rfl
      have c7 := hc 7 _ rfl
      have c8 := hc 8 _ rfl
      have c9 := hc 9 _ rfl
      have c10 := hc 10 _ rfl
      have c11 := hc 11 _ rfl
      have c12 := hc 12 _ rfl
      have c13 := hc 13 _ rfl
      simp only [Nat.add_zero] at c0
      have hat := Lib.hid fun W => fattacker_any p W
      have NX := Lib.hid (optsOf_next (ps := ps) (ag := ag) hx)
      have hcan : canAt ps x = (attB p && !p.sk) := by unfold canAt; rw [hp]
      have HCN := Lib.hid hcan
      have i1 : (0 : Int) ≤ (k : Int) := by omega
      have i2 : (k : Int) < (on : Int) := by omega
      have i3 : (0 : Int) ≤ (x : Int) := by omega
      have i4 : (x : Int) < (t.np : Int) := by omega
      have hgl0 := hgl
      clear hc hp hx hcan hph hpz hgl
      simp only [pcV] at hat
      rw [hq] at y1 HXA ⊢
      go_wp2_with fail
      (with_reducible refine (hat.out _).mono ?_)
      rintro e w4 ⟨rfl, b4⟩
      have HB4 := Lib.hid (HBW.out.trans (b4.mono HBW.out.size))
      have HBw4 : Hid (Below w.heap.size w w4) := Lib.hid (HBw.out.trans (b4.mono HBw.out.size))
      have HX4 := Lib.hid ((b4.block _ (heap_lt HXA.out)).trans HXA.out)
      have HAG4 := Lib.hid (HAGA.out.below b4)
      have HO4 := Lib.hid (HO.out.below b4)
      have d11 := cell_later b4 c11
      clear b4 y0 y1 y2 y3 y4 y5 y6 y7 y8 y9 c0 c1 c2 c3 c4 c5 c6 c7 c8 c9 c10 c11 c12 c13 hcx hltA
      have hlt4 := heap_lt HX4.out
      have y1 := cell_blk (i := 1) HX4.out
      simp at y1
      cases hab : attB p with
      | false =>
        have HNO : Hid (optsOf ps (own.take (k + 1)) ag = optsOf ps (own.take k) ag) := Lib.hid (by rw [NX.out, HCN.out, hab]; simp)
        clear hab
        go_wp2_with fail
        go_roundw
        case rel => exact ⟨k + 1, a, n, c, by go_num, by omega, rfl, by rw [HNO.out]; exact HNL.out, by rw [HNO.out]; exact HO4.out, HB4.out⟩
        case measure => simp [RowKit.intOf]; omega
      | true =>
        cases hsk : p.sk with
        | true =>
          have HNO : Hid (optsOf ps (own.take (k + 1)) ag = optsOf ps (own.take k) ag) := Lib.hid (by rw [NX.out, HCN.out, hab, hsk]; simp)
          rw [hsk] at d11
          clear hab hsk
          go_wp2_with fail
          go_roundw
          case rel => exact ⟨k + 1, a, n, c, by go_num, by omega, rfl, by rw [HNO.out]; exact HNL.out, by rw [HNO.out]; exact HO4.out, HB4.out⟩
          case measure => simp [RowKit.intOf]; omega
        | false =>
          have HYES : Hid (optsOf ps (own.take (k + 1)) ag = optsOf ps (own.take k) ag ++ ag.map fun d => (8, (x : Int), d)) := Lib.hid (by rw [NX.out, HCN.out, hab, hsk]; simp)
          rw [hsk] at d11
          clear hab hsk
          obtain ⟨L, hL⟩ : ∃ L, L = optsOf ps (own.take k) ag := ⟨_, rfl⟩
          rw [← hL] at HO4 HNL HYES
          clear hL
          go_wp2_with fail
          go_loopw [5, 47] (fun vl vj wr => ∃ (j : Nat) (a : Option Addr) (m c : Nat), vj = .int .i64 j ∧ j ≤ gn ∧ vl = .slice a m c ∧ m = n + j ∧ OptsAt wr w3.heap.size (.slice a m c) (L ++ (ag.take j).map fun d => (8, (x : Int), d)) ∧ Below w3.heap.size w3 wr) (fun _ vj _ => gn - (RowKit.intOf vj).toNat)
          case atStart => exact ⟨0, a, n, c, by rfl, by omega, rfl, rfl, by simpa using HO4.out, HB4.out⟩
          case round =>
            obtain ⟨j, a, m, c, rfl, hj, rfl, hm, hopt, hbw⟩ := hrel
            rename World => wD
            have HBD := Lib.hid hbw
            have HO5 := Lib.hid hopt
            have HAGD := Lib.hid (HAG3.out.below hbw)
            have hmL : (L ++ (ag.take j).map fun d => ((8, (x : Int), d) : Op3)).length = m := by
              rw [List.length_append, List.length_map, List.length_take, HGN.out, hm, HNL.out]
              omega
            have HML := Lib.hid hmL
            have hm30 : m ≤ 30 := by omega
            have HM := Lib.hid hm
            clear hbw hopt hmL hm
            by_cases hltj : j < gn
            · obtain ⟨y, hy⟩ : ∃ y, ag[j]? = some y := ⟨ag[j]'(by rw [HGN.out]; exact hltj), List.getElem?_eq_getElem _⟩
              obtain ⟨gg, -, hggl, ⟨cg, hcg⟩, hcy⟩ := HAGD.out.cell.2 j y hy
              simp only [Value.slice.injEq] at hcg
              obtain ⟨rfl, -, rfl⟩ := hcg
              have NXJ : Hid ((L ++ (ag.take j).map fun d => ((8, (x : Int), d) : Op3)) ++ [(8, (x : Int), y)] = L ++ (ag.take (j + 1)).map fun d => (8, (x : Int), d)) := Lib.hid (by rw [List.take_add_one, hy]; simp)
              have j1 : (0 : Int) ≤ (j : Int) := by omega
              have j2 : (j : Int) < (gn : Int) := by omega
              clear hy
              have hal : Below w3.heap.size w3 (wD.alloc (.cells #[.int .u8 8, .int .i64 x, .int .i64 y] 41)) := HBD.out.alloc HBD.out.size _
              have hown3 : (wD.alloc (.cells #[.int .u8 8, .int .i64 x, .int .i64 y] 41)).ownsRow w3.heap.size 41 3 (.slice a m c) m (opsV (L ++ (ag.take j).map fun d => (8, (x : Int), d))) := by
                have := HO5.out.below ((Below.refl _ _).alloc (Nat.le_refl _) (.cells #[.int .u8 8, .int .i64 x, .int .i64 y] 41))
                unfold OptsAt at this
                rwa [HML.out] at this
              have HAL3 := Lib.hid hal
              have HO6 := Lib.hid hown3
              have HBK : Hid (∀ i, (Value.slice a m c).ownBlock = some i → w3.heap.size ≤ i) := Lib.hid fun i hi => (World.ownsRow.lt hown3 i hi).1
              clear hal hown3
              go_wp2_with (at_builtin; (refine wpList_append_lies _ rfl (.tmp 51) (.tmp 55) 36 rfl w3.heap.size 41 i0 _ 3 24 Try.underlying36 hi0 hz0 hz1 hz2 rfl (by omega) _ m (opsV (L ++ (ag.take j).map fun d => (8, (x : Int), d))) rfl HO6.out ⟨wD.heap.size, 0, none⟩ 1 1 (opV (8, (x : Int), y)) rfl rfl (World.news_of_block (cs := #[.int .u8 8, .int .i64 x, .int .i64 y]) (t := 41) (fr := (0, 0)) (heap_alloc_new _ _)) (by simp [opV, Value.oneCell']) (by omega) (by unfold maxLen; omega) (by omega) HAL3.out.size _ rfl ?_; intro g4 cap w5 hown4 hgrow4 hat4 hlt4; have hgr4 : World.grownBy _ w5 (Value.slice a m c).ownBlock := hgrow4))
              have hB5 : Below w3.heap.size w3 w5 := HAL3.out.grown hgr4 HAL3.out.size (fun i hi => HBK.out i hi)
              have ho7 : OptsAt w5 w3.heap.size (.slice (some ⟨g4, 0, none⟩) (m + 1) cap) (L ++ (ag.take (j + 1)).map fun d => (8, (x : Int), d)) := by
                show World.ownsRow _ _ _ _ _ _ _
                rw [← NXJ.out, List.length_append, HML.out, ← opsV_snoc]
                exact hown4
              have HO7 := Lib.hid ho7
              have HB5 := Lib.hid hB5
              clear ho7 hB5 hown4 hgrow4 hgr4 hat4
              go_wp2_with fail
              go_roundw
              case rel => exact ⟨j + 1, _, m + 1, cap, by go_num, by omega, rfl, by have := HM.out; omega, HO7.out, HB5.out⟩
              case measure => simp [RowKit.intOf]; omega
            · obtain rfl : j = gn := by omega
              have HFULL : Hid ((L ++ (ag.take j).map fun d => ((8, (x : Int), d) : Op3)) = optsOf ps (own.take (k + 1)) ag) := Lib.hid (by rw [HYES.out, List.take_of_length_le (by rw [HGN.out]; exact Nat.le_refl _)])
              go_wp2_with fail
              go_roundw
              case rel => exact ⟨k + 1, a, m, c, by go_num, by omega, rfl, by rw [← HFULL.out]; exact HML.out.symm, by rw [← HFULL.out]; exact HO5.out, HBD.out⟩
              case measure => simp [RowKit.intOf]; omega
    · obtain rfl : k = on := by omega
      have HFULL : Hid (optsOf ps (own.take k) ag = optsOf ps own ag) := Lib.hid (by rw [List.take_of_length_le (by rw [HON.out]; exact Nat.le_refl _)])
      have hal : Below w3.heap.size w3 (wA.alloc (.cells #[.int .u8 9, .int .i64 (-1), .int .i64 (-1)] 41)) := HBW.out.alloc HBW.out.size _
      have hown3 : (wA.alloc (.cells #[.int .u8 9, .int .i64 (-1), .int .i64 (-1)] 41)).ownsRow w3.heap.size 41 3 (.slice a n c) n (opsV (optsOf ps own ag)) := by
        have := HO.out.below ((Below.refl _ _).alloc (Nat.le_refl _) (.cells #[.int .u8 9, .int .i64 (-1), .int .i64 (-1)] 41))
        unfold OptsAt at this
        rwa [← HNL.out, HFULL.out] at this
      have HAL3 := Lib.hid hal
      have HO6 := Lib.hid hown3
      have HBK : Hid (∀ i, (Value.slice a n c).ownBlock = some i → w3.heap.size ≤ i) := Lib.hid fun i hi => (World.ownsRow.lt hown3 i hi).1
      clear hal hown3 y0 y1 y2 y3 y4 y5 y6 y7 y8 y9
      go_wp2_with (at_builtin; (refine wpList_append_lies _ rfl (.tmp 59) (.tmp 61) 36 rfl w3.heap.size 41 i0 _ 3 24 Try.underlying36 hi0 hz0 hz1 hz2 rfl (by omega) _ n (opsV (optsOf ps own ag)) rfl HO6.out ⟨wA.heap.size, 0, none⟩ 1 1 (opV (9, -1, -1)) rfl rfl (World.news_of_block (cs := #[.int .u8 9, .int .i64 (-1), .int .i64 (-1)]) (t := 41) (fr := (0, 0)) (heap_alloc_new _ _)) (by simp [opV, Value.oneCell']) (by omega) (by unfold maxLen; omega) (by omega) HAL3.out.size _ rfl ?_; intro g4 cap w5 hown4 hgrow4 hat4 hlt4; have hgr4 : World.grownBy _ w5 (Value.slice a n c).ownBlock := hgrow4))
      have hB5 : Below w3.heap.size w3 w5 := HAL3.out.grown hgr4 HAL3.out.size (fun i hi => HBK.out i hi)
      have ho7 : OptsAt w5 w3.heap.size (.slice (some ⟨g4, 0, none⟩) (n + 1) cap) (optsOf ps own ag ++ [(9, -1, -1)]) := by
        show World.ownsRow _ _ _ _ _ _ _
        have hl := HNL.out
        rw [HFULL.out] at hl
        rw [List.length_append, ← hl, ← opsV_snoc]
        exact hown4
      have HO7 := Lib.hid ho7
      have HB5 := Lib.hid hB5
      clear ho7 hB5 hown4 hgrow4 hgr4 hat4
      go_wp2_with fail
      go_ret
      exact ⟨⟨_, own, ids, rfl, by rw [HAL.out]; exact HO7.out.base HB3.out.size, HOP.out, by rw [HOH.out]; exact HGP.out, HOS.out, HGS.out⟩, HB3.out.trans (HB5.out.mono HB3.out.size)⟩
end Go.Proofs.Ytfdehhibgdeedaa
