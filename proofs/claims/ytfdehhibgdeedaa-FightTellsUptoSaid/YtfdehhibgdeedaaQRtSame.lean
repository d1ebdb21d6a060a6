import Derived.Test.YtfdehhibgdeedaaQFtLives
import Derived.Test.YtfdehhibgdeedaaQTbSame
import Derived.Test.YtfdehhibgdeedaaQTbApp
/- joustref06.Same: two equal tables are told so, wherever they lie. -/
namespace Go.Proofs.Ytfdehhibgdeedaa
open Go.RowKit Go.Lib

set_option maxHeartbeats 1000000 in
theorem pc_eqIn (p : Pc) (w : World) : Sem.run Try.prog (Op.equalIn 10000 45 (.agg #[.int .i64 p.df, .int .i64 p.ak, .int .i64 p.gd, .int .u8 p.ow, .int .u8 p.hs, .int .u8 p.zn, .int .i64 p.pl, .bool p.up, .bool p.lw, .int .i64 p.sc, .int .u8 p.us, .bool p.sk, .bool p.tu, .int .i64 p.bo]) (.agg #[.int .i64 p.df, .int .i64 p.ak, .int .i64 p.gd, .int .u8 p.ow, .int .u8 p.hs, .int .u8 p.zn, .int .i64 p.pl, .bool p.up, .bool p.lw, .int .i64 p.sc, .int .u8 p.us, .bool p.sk, .bool p.tu, .int .i64 p.bo])) w = .ok true w := by
  have hS : Try.prog.underlying 45 = some (.struct (Try.prog.fieldsOf 45)) := by kernel_rfl
  have hp : Try.prog.stoodInHeld 45 = false := by kernel_rfl
  rw [show (10000 : Nat) = 9999 + 1 from rfl, run_equalIn_agg w 9999 45 _ _ hS hp]
  simp only [Program.fieldsOf, Try.underlying45]
  go_simp
set_option maxHeartbeats 1000000 in
theorem ev_eqIn (e : Ev) (w : World) : Sem.run Try.prog (Op.equalIn 10000 91 (.agg #[.int .u8 e.1, .int .i64 e.2.1, .int .i64 e.2.2.1, .int .u8 e.2.2.2]) (.agg #[.int .u8 e.1, .int .i64 e.2.1, .int .i64 e.2.2.1, .int .u8 e.2.2.2])) w = .ok true w := by
  have hS : Try.prog.underlying 91 = some (.struct (Try.prog.fieldsOf 91)) := by kernel_rfl
  have hp : Try.prog.stoodInHeld 91 = false := by kernel_rfl
  rw [show (10000 : Nat) = 9999 + 1 from rfl, run_equalIn_agg w 9999 91 _ _ hS hp]
  simp only [Program.fieldsOf, Try.underlying91]
  go_simp

set_option maxHeartbeats 4000000 in
set_option maxRecDepth 100000 in
theorem revents_any (q q' : Option Addr) (n c c' : Nat) (es : List Ev) (w : World) (hn : es.length = n) (hf : n ≤ 4611686018427387904)
    (hx : ∀ i e, es[i]? = some e → ∃ g o, q = some ⟨g, o, none⟩ ∧ ∀ j u, (evV e)[j]? = some u → w.cell? ⟨g, o + i * 4 + j, none⟩ = some u)
    (hy : ∀ i e, es[i]? = some e → ∃ g o, q' = some ⟨g, o, none⟩ ∧ ∀ j u, (evV e)[j]? = some u → w.cell? ⟨g, o + i * 4 + j, none⟩ = some u) :
    Calls Try.prog 32 #[.slice q n c, .slice q' n c'] w fun e w' => e = .returned (.bool true) ∧ Below w.heap.size w w' := by
  have HX := Lib.hid hx
  have HY := Lib.hid hy
  have HN := Lib.hid hn
  clear hx hy hn
  go_enter Try.func32, Try.ntmps32
  go_wp2_with fail
  go_loopw [5, 6] (fun vs vi wr => ∃ i : Nat, vs = .bool true ∧ vi = .int .i64 i ∧ i ≤ n ∧ Below w.heap.size w wr) (fun _ vi _ => n - (RowKit.intOf vi).toNat)
  case atStart => exact ⟨0, (by first | rfl | simp), by rfl, by omega, Below.refl _ _⟩
  case round =>
    obtain ⟨i, rfl, rfl, hi, hbw⟩ := hrel
    rename World => wA
    have HB := Lib.hid hbw
    clear hbw
    by_cases hlt : i < n
    · obtain ⟨e, he⟩ : ∃ e, es[i]? = some e := ⟨es[i]'(by rw [HN.out]; exact hlt), List.getElem?_eq_getElem _⟩
      obtain ⟨g, o, rfl, hc⟩ := HX.out i e he
      obtain ⟨g', o', rfl, hd⟩ := HY.out i e he
      have r0 : wA.cell? ⟨g, o + i * 4, none⟩ = some (.int .u8 e.1) := cell_later HB.out (hc 0 _ rfl)
      have r1 : wA.cell? ⟨g, o + i * 4 + 1, none⟩ = some (.int .i64 e.2.1) := cell_later HB.out (hc 1 _ rfl)
      have r2 : wA.cell? ⟨g, o + i * 4 + 2, none⟩ = some (.int .i64 e.2.2.1) := cell_later HB.out (hc 2 _ rfl)
      have r3 : wA.cell? ⟨g, o + i * 4 + 3, none⟩ = some (.int .u8 e.2.2.2) := cell_later HB.out (hc 3 _ rfl)
      have s0 : wA.cell? ⟨g', o' + i * 4, none⟩ = some (.int .u8 e.1) := cell_later HB.out (hd 0 _ rfl)
      have s1 : wA.cell? ⟨g', o' + i * 4 + 1, none⟩ = some (.int .i64 e.2.1) := cell_later HB.out (hd 1 _ rfl)
      have s2 : wA.cell? ⟨g', o' + i * 4 + 2, none⟩ = some (.int .i64 e.2.2.1) := cell_later HB.out (hd 2 _ rfl)
      have s3 : wA.cell? ⟨g', o' + i * 4 + 3, none⟩ = some (.int .u8 e.2.2.2) := cell_later HB.out (hd 3 _ rfl)
      have hq := fun W => ev_eqIn e W
      have k0 : (0 : Int) ≤ (i : Int) := by omega
      have k1 : (i : Int) < (n : Int) := by omega
      clear he hc hd
      go_wp2_with fail
      refine wp_region_held_drew (S := fun w' => w'.cell? ⟨g, o + i * 4, none⟩ = some (.int .u8 e.1) ∧ w'.cell? ⟨g, o + i * 4 + 1, none⟩ = some (.int .i64 e.2.1) ∧ w'.cell? ⟨g, o + i * 4 + 2, none⟩ = some (.int .i64 e.2.2.1) ∧ w'.cell? ⟨g, o + i * 4 + 3, none⟩ = some (.int .u8 e.2.2.2) ∧ w'.cell? ⟨g', o' + i * 4, none⟩ = some (.int .u8 e.1) ∧ w'.cell? ⟨g', o' + i * 4 + 1, none⟩ = some (.int .i64 e.2.1) ∧ w'.cell? ⟨g', o' + i * 4 + 2, none⟩ = some (.int .i64 e.2.2.1) ∧ w'.cell? ⟨g', o' + i * 4 + 3, none⟩ = some (.int .u8 e.2.2.2)) (by kernel_rfl) (by (repeat' apply And.intro) <;> go_keep) (fun hHeld => ?_)
      refine take_at (i := 0) (v := ?_) rfl (by kernel_rfl) (by kernel_rfl) (by kernel_rfl) (fun _ _ _ h => h) (Or.inl ⟨by rfl, ?_⟩) hHeld ?_
      rotate_left
      · intro w hSw
        (try dsimp only at hSw)
        go_simp
        try with_reducible rfl
      try simp only [Act.put, List.setIfInBounds_toArray, List.set_cons_zero, List.set_cons_succ]
      try dsimp only
      refine take_at (i := 1) (v := ?_) rfl (by kernel_rfl) (by kernel_rfl) (by kernel_rfl) (fun _ _ _ h => h) (Or.inl ⟨by rfl, ?_⟩) hHeld ?_
      rotate_left
      · intro w hSw
        (try dsimp only at hSw)
        go_simp
        try with_reducible rfl
      try simp only [Act.put, List.setIfInBounds_toArray, List.set_cons_zero, List.set_cons_succ]
      try dsimp only
      refine take_at (i := 2) (v := ?_) rfl (by kernel_rfl) (by kernel_rfl) (by kernel_rfl) (fun _ _ _ h => h) (Or.inl ⟨by rfl, ?_⟩) hHeld ?_
      rotate_left
      · intro w hSw
        (try dsimp only at hSw)
        go_simp
        try with_reducible rfl
      try simp only [Act.put, List.setIfInBounds_toArray, List.set_cons_zero, List.set_cons_succ]
      try dsimp only
      refine take_at (i := 3) (v := ?_) rfl (by kernel_rfl) (by kernel_rfl) (by kernel_rfl) (fun _ _ _ h => h) (Or.inl ⟨by rfl, ?_⟩) hHeld ?_
      rotate_left
      · intro w hSw
        (try dsimp only at hSw)
        go_simp
        try with_reducible rfl
      try simp only [Act.put, List.setIfInBounds_toArray, List.set_cons_zero, List.set_cons_succ]
      try dsimp only
      refine take_at (i := 4) (v := ?_) rfl (by kernel_rfl) (by kernel_rfl) (by kernel_rfl) (fun _ _ _ h => h) (Or.inl ⟨by rfl, ?_⟩) hHeld ?_
      rotate_left
      · intro w hSw
        (try dsimp only at hSw)
        go_simp
        try with_reducible rfl
      try simp only [Act.put, List.setIfInBounds_toArray, List.set_cons_zero, List.set_cons_succ]
      try dsimp only
      refine take_at (i := 5) (v := ?_) rfl (by kernel_rfl) (by kernel_rfl) (by kernel_rfl) (fun _ _ _ h => h) (Or.inl ⟨by rfl, ?_⟩) hHeld ?_
      rotate_left
      · intro w hSw
        (try dsimp only at hSw)
        go_simp
        try with_reducible rfl
      try simp only [Act.put, List.setIfInBounds_toArray, List.set_cons_zero, List.set_cons_succ]
      try dsimp only
      refine take_at (i := 6) (v := ?_) rfl (by kernel_rfl) (by kernel_rfl) (by kernel_rfl) (fun _ _ _ h => h) (Or.inl ⟨by rfl, ?_⟩) hHeld ?_
      rotate_left
      · intro w hSw
        (try dsimp only at hSw)
        go_simp
        try with_reducible rfl
      try simp only [Act.put, List.setIfInBounds_toArray, List.set_cons_zero, List.set_cons_succ]
      try dsimp only
      refine take_at (i := 7) (v := ?_) rfl (by kernel_rfl) (by kernel_rfl) (by kernel_rfl) (fun _ _ _ h => h) (Or.inl ⟨by rfl, ?_⟩) hHeld ?_
      rotate_left
      · intro w hSw
        (try dsimp only at hSw)
        go_simp
        try with_reducible rfl
      try simp only [Act.put, List.setIfInBounds_toArray, List.set_cons_zero, List.set_cons_succ]
      try dsimp only
      refine take_at (i := 8) (v := ?_) rfl (by kernel_rfl) (by kernel_rfl) (by kernel_rfl) (fun _ _ _ h => h) (Or.inl ⟨by rfl, ?_⟩) hHeld ?_
      rotate_left
      · intro w hSw
        (try dsimp only at hSw)
        go_simp
        try with_reducible rfl
      try simp only [Act.put, List.setIfInBounds_toArray, List.set_cons_zero, List.set_cons_succ]
      try dsimp only
      refine take_at (i := 9) (v := ?_) rfl (by kernel_rfl) (by kernel_rfl) (by kernel_rfl) (fun _ _ _ h => h) (Or.inl ⟨by rfl, ?_⟩) hHeld ?_
      rotate_left
      · intro w hSw
        (try dsimp only at hSw)
        go_simp
        try with_reducible rfl
      try simp only [Act.put, List.setIfInBounds_toArray, List.set_cons_zero, List.set_cons_succ]
      try dsimp only
      refine wpAnyH_done (by kernel_rfl) ?_ _
      go_wp2_with fail
      go_roundw
      case rel => exact ⟨i + 1, rfl, by go_num, by omega, HB.out.drew⟩
      case measure => simp [RowKit.intOf]; omega
    · obtain rfl : i = n := by omega
      go_wp2_with fail
      go_ret
      exact ⟨rfl, HB.out⟩

theorem two_beqd (d : Nat) (a b : Bool) (W : World) : Sem.run Try.prog (Op.equalIn (d + 2) 26 (.agg #[.bool a, .bool b]) (.agg #[.bool a, .bool b])) W = .ok true W := by
  have hT : Try.prog.underlying 26 = some (.array 2 4) := by kernel_rfl
  have hI : Try.prog.underlying 4 = some .bool := by kernel_rfl
  have hS : (sizeOf 4).run Try.prog W = .ok 1 W := by kernel_rfl
  have h0 : ∀ (xs : Array Value) (i : Nat) (v : Value), xs[i]? = some v → (part 4 xs i).run Try.prog W = .ok v W := fun xs i v h => by
    simp [part, h]
  have hE : ∀ x : Bool, (Op.equalIn (d + 1) 4 (.bool x) (.bool x)).run Try.prog W = .ok true W := fun x => by
    rw [run_equalIn_bool' W d 4 x x hI]; simp
  have p0 := h0 #[.bool a, .bool b] 0 _ rfl
  have p1 := h0 #[.bool a, .bool b] 1 _ rfl
  rw [show d + 2 = (d + 1) + 1 from rfl]
  generalize hd : d + 1 = m at hE ⊢
  simp only [Op.equalIn, Sem.run_bind, run_underlying hT, Result.andThen_ok, hS]
  simp [List.range', Sem.run_bind, p0, p1, hE]
theorem two_ieqd (d : Nat) (a b : Int) (W : World) : Sem.run Try.prog (Op.equalIn (d + 2) 24 (.agg #[.int .i64 a, .int .i64 b]) (.agg #[.int .i64 a, .int .i64 b])) W = .ok true W := by
  have hT : Try.prog.underlying 24 = some (.array 2 3) := by kernel_rfl
  have hI : Try.prog.underlying 3 = some (.int .i64) := by kernel_rfl
  have hS : (sizeOf 3).run Try.prog W = .ok 1 W := by kernel_rfl
  have h0 : ∀ (xs : Array Value) (i : Nat) (v : Value), xs[i]? = some v → (part 3 xs i).run Try.prog W = .ok v W := fun xs i v h => by
    simp [part, h]
  have hE : ∀ x : Int, (Op.equalIn (d + 1) 3 (.int .i64 x) (.int .i64 x)).run Try.prog W = .ok true W := fun x => by
    rw [run_equalIn_int W d 3 .i64 .i64 x x hI]; simp
  have p0 := h0 #[.int .i64 a, .int .i64 b] 0 _ rfl
  have p1 := h0 #[.int .i64 a, .int .i64 b] 1 _ rfl
  rw [show d + 2 = (d + 1) + 1 from rfl]
  generalize hd : d + 1 = m at hE ⊢
  simp only [Op.equalIn, Sem.run_bind, run_underlying hT, Result.andThen_ok, hS]
  simp [List.range', Sem.run_bind, p0, p1, hE]
/-- A slice's things of so many cells each, by their cells. -/
def Things {α : Type} (w : World) (size : Nat) (f : α → List Value) (q : Option Addr) (xs : List α) : Prop := ∀ (i : Nat) (x : α), xs[i]? = some x → ∃ g o, q = some ⟨g, o, none⟩ ∧ ∀ (j : Nat) (u : Value), (f x)[j]? = some u → w.cell? ⟨g, o + i * size + j, none⟩ = some u
theorem Things.below {α : Type} {w w' : World} {size : Nat} {f : α → List Value} {q : Option Addr} {xs : List α} (h : Things w size f q xs) (hb : Below w.heap.size w w') : Things w' size f q xs := fun i x hx => by
  obtain ⟨g, o, hq, hc⟩ := h i x hx
  exact ⟨g, o, hq, fun j u hu => cell_later hb (hc j u hu)⟩

set_option maxHeartbeats 8000000 in
set_option maxRecDepth 100000 in
theorem rsame_any (D : Nat) (qk qp qe qk' qp' qe' : Option Addr) (nk np ne ck cp ce ck' cp' ce' : Nat) (l0 l1 tn mo : Int) (py : Nat) (b0 b1 : Bool) (xs : List Cd) (ps : List Pc) (es : List Ev) (w : World) (hnp : ps.length = np) (hne : es.length = ne) (hfp : np ≤ 4611686018427387904) (hfe : ne ≤ 4611686018427387904)
    (hk : RowIn w 6 0 (CdIn 0 D) (.slice qk nk ck) xs) (hk' : RowIn w 6 0 (CdIn 0 D) (.slice qk' nk ck') xs) (hp : Things w 14 pcV qp ps) (hp' : Things w 14 pcV qp' ps) (he : Things w 4 evV qe es) (he' : Things w 4 evV qe' es) :
    Calls Try.prog 15 #[.agg #[.slice qk nk ck, .slice qp np cp, .int .i64 l0, .int .i64 l1, .int .i64 tn, .int .u8 py, .int .i64 mo, .slice qe ne ce, .bool b0, .bool b1], .agg #[.slice qk' nk ck', .slice qp' np cp', .int .i64 l0, .int .i64 l1, .int .i64 tn, .int .u8 py, .int .i64 mo, .slice qe' ne ce', .bool b0, .bool b1]] w fun e w' => e = .returned (.bool true) ∧ Below w.heap.size w w' := by
  have hcards := Lib.hid fun (W : World) (hb : Below w.heap.size w W) => cards_in D W (.slice qk nk ck) (.slice qk' nk ck') xs (hk.below (CdIn.stays 0 D) hb) (hk'.below (CdIn.stays 0 D) hb)
  have hevs := Lib.hid fun (W : World) (hb : Below w.heap.size w W) => revents_any qe qe' ne ce ce' es W hne hfe (he.below hb) (he'.below hb)
  have HP := Lib.hid hp
  have HP' := Lib.hid hp'
  have HN := Lib.hid hnp
  have q2 := fun W => two_ieqd 9998 l0 l1 W
  have q3 := fun W => two_beqd 9998 b0 b1 W
  simp only [Nat.reduceAdd] at q2 q3
  clear hk hk' hp hp' he he' hnp hne hfe
  obtain ⟨w0, hw0⟩ : ∃ w0, w0 = (w.alloc (.cells #[.slice qk nk ck, .slice qp np cp, .int .i64 l0, .int .i64 l1, .int .i64 tn, .int .u8 py, .int .i64 mo, .slice qe ne ce, .bool b0, .bool b1] 28)).alloc (.cells #[.slice qk' nk ck', .slice qp' np cp', .int .i64 l0, .int .i64 l1, .int .i64 tn, .int .u8 py, .int .i64 mo, .slice qe' ne ce', .bool b0, .bool b1] 28) := ⟨_, rfl⟩
  have hb0 : Below w.heap.size w w0 := by rw [hw0]; exact ((Below.refl _ _).alloc (Nat.le_refl _) _).alloc (by simp) _
  have hx0 : w0.heap[w.heap.size]? = some (.cells #[.slice qk nk ck, .slice qp np cp, .int .i64 l0, .int .i64 l1, .int .i64 tn, .int .u8 py, .int .i64 mo, .slice qe ne ce, .bool b0, .bool b1] 28 (0, 0)) := by rw [hw0]; exact heap_older (heap_alloc_new _ _)
  have hy0 : w0.heap[w.heap.size + 1]? = some (.cells #[.slice qk' nk ck', .slice qp' np cp', .int .i64 l0, .int .i64 l1, .int .i64 tn, .int .u8 py, .int .i64 mo, .slice qe' ne ce', .bool b0, .bool b1] 28 (0, 0)) := by rw [hw0]; exact heap_newer _ _ _ (by simp)
  have HB0 := Lib.hid hb0
  have HX0 := Lib.hid hx0
  have HY0 := Lib.hid hy0
  have HW0 := Lib.hid hw0
  clear hb0 hx0 hy0 hw0
  go_enter Try.func15, Try.ntmps15
  go_wp2_with fail
  rw [← HW0.out]
  clear q2 q3
  go_loopw [5, 6] (fun vs vi wr => ∃ i : Nat, vs = .bool true ∧ vi = .int .i64 i ∧ i ≤ np ∧ Below w0.heap.size w0 wr) (fun _ vi _ => np - (RowKit.intOf vi).toNat)
  case atStart => exact ⟨0, (by first | rfl | simp), by rfl, by omega, Below.refl _ _⟩
  case round =>
    obtain ⟨i, rfl, rfl, hi, hbw⟩ := hrel
    rename World => wA
    have HB := Lib.hid hbw
    have HBw := Lib.hid (HB0.out.trans (hbw.mono HB0.out.size))
    have HXA := Lib.hid ((hbw.block _ (heap_lt HX0.out)).trans HX0.out)
    have HYA := Lib.hid ((hbw.block _ (heap_lt HY0.out)).trans HY0.out)
    clear hbw
    have hlx := heap_lt HXA.out
    have hly := heap_lt HYA.out
    by_cases hlt : i < np
    · obtain ⟨p, hp⟩ : ∃ p, ps[i]? = some p := ⟨ps[i]'(by rw [HN.out]; exact hlt), List.getElem?_eq_getElem _⟩
      obtain ⟨g, o, rfl, hc⟩ := HP.out i p hp
      obtain ⟨g', o', rfl, hd⟩ := HP'.out i p hp
      have y1 := cell_blk (i := 1) HXA.out
      have v1 := cell_blk (i := 1) HYA.out
      simp at y1 v1
      have r0 : wA.cell? ⟨g, o + i * 14, none⟩ = some (.int .i64 p.df) := cell_later HBw.out (hc 0 _ rfl)
      have r1 : wA.cell? ⟨g, o + i * 14 + 1, none⟩ = some (.int .i64 p.ak) := cell_later HBw.out (hc 1 _ rfl)
      have r2 : wA.cell? ⟨g, o + i * 14 + 2, none⟩ = some (.int .i64 p.gd) := cell_later HBw.out (hc 2 _ rfl)
      have r3 : wA.cell? ⟨g, o + i * 14 + 3, none⟩ = some (.int .u8 p.ow) := cell_later HBw.out (hc 3 _ rfl)
      have r4 : wA.cell? ⟨g, o + i * 14 + 4, none⟩ = some (.int .u8 p.hs) := cell_later HBw.out (hc 4 _ rfl)
      have r5 : wA.cell? ⟨g, o + i * 14 + 5, none⟩ = some (.int .u8 p.zn) := cell_later HBw.out (hc 5 _ rfl)
      have r6 : wA.cell? ⟨g, o + i * 14 + 6, none⟩ = some (.int .i64 p.pl) := cell_later HBw.out (hc 6 _ rfl)
      have r7 : wA.cell? ⟨g, o + i * 14 + 7, none⟩ = some (.bool p.up) := cell_later HBw.out (hc 7 _ rfl)
      have r8 : wA.cell? ⟨g, o + i * 14 + 8, none⟩ = some (.bool p.lw) := cell_later HBw.out (hc 8 _ rfl)
      have r9 : wA.cell? ⟨g, o + i * 14 + 9, none⟩ = some (.int .i64 p.sc) := cell_later HBw.out (hc 9 _ rfl)
      have r10 : wA.cell? ⟨g, o + i * 14 + 10, none⟩ = some (.int .u8 p.us) := cell_later HBw.out (hc 10 _ rfl)
      have r11 : wA.cell? ⟨g, o + i * 14 + 11, none⟩ = some (.bool p.sk) := cell_later HBw.out (hc 11 _ rfl)
      have r12 : wA.cell? ⟨g, o + i * 14 + 12, none⟩ = some (.bool p.tu) := cell_later HBw.out (hc 12 _ rfl)
      have r13 : wA.cell? ⟨g, o + i * 14 + 13, none⟩ = some (.int .i64 p.bo) := cell_later HBw.out (hc 13 _ rfl)
      have s0 : wA.cell? ⟨g', o' + i * 14, none⟩ = some (.int .i64 p.df) := cell_later HBw.out (hd 0 _ rfl)
      have s1 : wA.cell? ⟨g', o' + i * 14 + 1, none⟩ = some (.int .i64 p.ak) := cell_later HBw.out (hd 1 _ rfl)
      have s2 : wA.cell? ⟨g', o' + i * 14 + 2, none⟩ = some (.int .i64 p.gd) := cell_later HBw.out (hd 2 _ rfl)
      have s3 : wA.cell? ⟨g', o' + i * 14 + 3, none⟩ = some (.int .u8 p.ow) := cell_later HBw.out (hd 3 _ rfl)
      have s4 : wA.cell? ⟨g', o' + i * 14 + 4, none⟩ = some (.int .u8 p.hs) := cell_later HBw.out (hd 4 _ rfl)
      have s5 : wA.cell? ⟨g', o' + i * 14 + 5, none⟩ = some (.int .u8 p.zn) := cell_later HBw.out (hd 5 _ rfl)
      have s6 : wA.cell? ⟨g', o' + i * 14 + 6, none⟩ = some (.int .i64 p.pl) := cell_later HBw.out (hd 6 _ rfl)
      have s7 : wA.cell? ⟨g', o' + i * 14 + 7, none⟩ = some (.bool p.up) := cell_later HBw.out (hd 7 _ rfl)
      have s8 : wA.cell? ⟨g', o' + i * 14 + 8, none⟩ = some (.bool p.lw) := cell_later HBw.out (hd 8 _ rfl)
      have s9 : wA.cell? ⟨g', o' + i * 14 + 9, none⟩ = some (.int .i64 p.sc) := cell_later HBw.out (hd 9 _ rfl)
      have s10 : wA.cell? ⟨g', o' + i * 14 + 10, none⟩ = some (.int .u8 p.us) := cell_later HBw.out (hd 10 _ rfl)
      have s11 : wA.cell? ⟨g', o' + i * 14 + 11, none⟩ = some (.bool p.sk) := cell_later HBw.out (hd 11 _ rfl)
      have s12 : wA.cell? ⟨g', o' + i * 14 + 12, none⟩ = some (.bool p.tu) := cell_later HBw.out (hd 12 _ rfl)
      have s13 : wA.cell? ⟨g', o' + i * 14 + 13, none⟩ = some (.int .i64 p.bo) := cell_later HBw.out (hd 13 _ rfl)
      have hq := fun W => pc_eqIn p W
      have k0 : (0 : Int) ≤ (i : Int) := by omega
      have k1 : (i : Int) < (np : Int) := by omega
      clear hp hc hd
      go_wp2_with fail
      refine wp_region_held_drew (S := fun w' => w'.cell? ⟨w.heap.size, 1, none⟩ = some (.slice (some ⟨g, o, none⟩) np cp) ∧ w'.cell? ⟨w.heap.size + 1, 1, none⟩ = some (.slice (some ⟨g', o', none⟩) np cp') ∧ w'.cell? ⟨g, o + i * 14, none⟩ = some (.int .i64 p.df) ∧ w'.cell? ⟨g, o + i * 14 + 1, none⟩ = some (.int .i64 p.ak) ∧ w'.cell? ⟨g, o + i * 14 + 2, none⟩ = some (.int .i64 p.gd) ∧ w'.cell? ⟨g, o + i * 14 + 3, none⟩ = some (.int .u8 p.ow) ∧ w'.cell? ⟨g, o + i * 14 + 4, none⟩ = some (.int .u8 p.hs) ∧ w'.cell? ⟨g, o + i * 14 + 5, none⟩ = some (.int .u8 p.zn) ∧ w'.cell? ⟨g, o + i * 14 + 6, none⟩ = some (.int .i64 p.pl) ∧ w'.cell? ⟨g, o + i * 14 + 7, none⟩ = some (.bool p.up) ∧ w'.cell? ⟨g, o + i * 14 + 8, none⟩ = some (.bool p.lw) ∧ w'.cell? ⟨g, o + i * 14 + 9, none⟩ = some (.int .i64 p.sc) ∧ w'.cell? ⟨g, o + i * 14 + 10, none⟩ = some (.int .u8 p.us) ∧ w'.cell? ⟨g, o + i * 14 + 11, none⟩ = some (.bool p.sk) ∧ w'.cell? ⟨g, o + i * 14 + 12, none⟩ = some (.bool p.tu) ∧ w'.cell? ⟨g, o + i * 14 + 13, none⟩ = some (.int .i64 p.bo) ∧ w'.cell? ⟨g', o' + i * 14, none⟩ = some (.int .i64 p.df) ∧ w'.cell? ⟨g', o' + i * 14 + 1, none⟩ = some (.int .i64 p.ak) ∧ w'.cell? ⟨g', o' + i * 14 + 2, none⟩ = some (.int .i64 p.gd) ∧ w'.cell? ⟨g', o' + i * 14 + 3, none⟩ = some (.int .u8 p.ow) ∧ w'.cell? ⟨g', o' + i * 14 + 4, none⟩ = some (.int .u8 p.hs) ∧ w'.cell? ⟨g', o' + i * 14 + 5, none⟩ = some (.int .u8 p.zn) ∧ w'.cell? ⟨g', o' + i * 14 + 6, none⟩ = some (.int .i64 p.pl) ∧ w'.cell? ⟨g', o' + i * 14 + 7, none⟩ = some (.bool p.up) ∧ w'.cell? ⟨g', o' + i * 14 + 8, none⟩ = some (.bool p.lw) ∧ w'.cell? ⟨g', o' + i * 14 + 9, none⟩ = some (.int .i64 p.sc) ∧ w'.cell? ⟨g', o' + i * 14 + 10, none⟩ = some (.int .u8 p.us) ∧ w'.cell? ⟨g', o' + i * 14 + 11, none⟩ = some (.bool p.sk) ∧ w'.cell? ⟨g', o' + i * 14 + 12, none⟩ = some (.bool p.tu) ∧ w'.cell? ⟨g', o' + i * 14 + 13, none⟩ = some (.int .i64 p.bo)) (by kernel_rfl) (by (repeat' apply And.intro) <;> go_keep) (fun hHeld => ?_)
      refine take_at (i := 0) (v := ?_) rfl (by kernel_rfl) (by kernel_rfl) (by kernel_rfl) (fun _ _ _ h => h) (Or.inl ⟨by rfl, ?_⟩) hHeld ?_
      rotate_left
      · intro w hSw
        (try dsimp only at hSw)
        go_simp
        try with_reducible rfl
      try simp only [Act.put, List.setIfInBounds_toArray, List.set_cons_zero, List.set_cons_succ]
      try dsimp only
      refine take_at (i := 1) (v := ?_) rfl (by kernel_rfl) (by kernel_rfl) (by kernel_rfl) (fun _ _ _ h => h) (Or.inl ⟨by rfl, ?_⟩) hHeld ?_
      rotate_left
      · intro w hSw
        (try dsimp only at hSw)
        go_simp
        try with_reducible rfl
      try simp only [Act.put, List.setIfInBounds_toArray, List.set_cons_zero, List.set_cons_succ]
      try dsimp only
      refine take_at (i := 2) (v := ?_) rfl (by kernel_rfl) (by kernel_rfl) (by kernel_rfl) (fun _ _ _ h => h) (Or.inl ⟨by rfl, ?_⟩) hHeld ?_
      rotate_left
      · intro w hSw
        (try dsimp only at hSw)
        go_simp
        try with_reducible rfl
      try simp only [Act.put, List.setIfInBounds_toArray, List.set_cons_zero, List.set_cons_succ]
      try dsimp only
      refine take_at (i := 3) (v := ?_) rfl (by kernel_rfl) (by kernel_rfl) (by kernel_rfl) (fun _ _ _ h => h) (Or.inl ⟨by rfl, ?_⟩) hHeld ?_
      rotate_left
      · intro w hSw
        (try dsimp only at hSw)
        go_simp
        try with_reducible rfl
      try simp only [Act.put, List.setIfInBounds_toArray, List.set_cons_zero, List.set_cons_succ]
      try dsimp only
      refine take_at (i := 4) (v := ?_) rfl (by kernel_rfl) (by kernel_rfl) (by kernel_rfl) (fun _ _ _ h => h) (Or.inl ⟨by rfl, ?_⟩) hHeld ?_
      rotate_left
      · intro w hSw
        (try dsimp only at hSw)
        go_simp
        try with_reducible rfl
      try simp only [Act.put, List.setIfInBounds_toArray, List.set_cons_zero, List.set_cons_succ]
      try dsimp only
      refine take_at (i := 5) (v := ?_) rfl (by kernel_rfl) (by kernel_rfl) (by kernel_rfl) (fun _ _ _ h => h) (Or.inl ⟨by rfl, ?_⟩) hHeld ?_
      rotate_left
      · intro w hSw
        (try dsimp only at hSw)
        go_simp
        try with_reducible rfl
      try simp only [Act.put, List.setIfInBounds_toArray, List.set_cons_zero, List.set_cons_succ]
      try dsimp only
      refine take_at (i := 6) (v := ?_) rfl (by kernel_rfl) (by kernel_rfl) (by kernel_rfl) (fun _ _ _ h => h) (Or.inl ⟨by rfl, ?_⟩) hHeld ?_
      rotate_left
      · intro w hSw
        (try dsimp only at hSw)
        go_simp
        try with_reducible rfl
      try simp only [Act.put, List.setIfInBounds_toArray, List.set_cons_zero, List.set_cons_succ]
      try dsimp only
      refine take_at (i := 7) (v := ?_) rfl (by kernel_rfl) (by kernel_rfl) (by kernel_rfl) (fun _ _ _ h => h) (Or.inl ⟨by rfl, ?_⟩) hHeld ?_
      rotate_left
      · intro w hSw
        (try dsimp only at hSw)
        go_simp
        try with_reducible rfl
      try simp only [Act.put, List.setIfInBounds_toArray, List.set_cons_zero, List.set_cons_succ]
      try dsimp only
      refine take_at (i := 8) (v := ?_) rfl (by kernel_rfl) (by kernel_rfl) (by kernel_rfl) (fun _ _ _ h => h) (Or.inl ⟨by rfl, ?_⟩) hHeld ?_
      rotate_left
      · intro w hSw
        (try dsimp only at hSw)
        go_simp
        try with_reducible rfl
      try simp only [Act.put, List.setIfInBounds_toArray, List.set_cons_zero, List.set_cons_succ]
      try dsimp only
      refine take_at (i := 9) (v := ?_) rfl (by kernel_rfl) (by kernel_rfl) (by kernel_rfl) (fun _ _ _ h => h) (Or.inl ⟨by rfl, ?_⟩) hHeld ?_
      rotate_left
      · intro w hSw
        (try dsimp only at hSw)
        go_simp
        try with_reducible rfl
      try simp only [Act.put, List.setIfInBounds_toArray, List.set_cons_zero, List.set_cons_succ]
      try dsimp only
      refine take_at (i := 10) (v := ?_) rfl (by kernel_rfl) (by kernel_rfl) (by kernel_rfl) (fun _ _ _ h => h) (Or.inl ⟨by rfl, ?_⟩) hHeld ?_
      rotate_left
      · intro w hSw
        (try dsimp only at hSw)
        go_simp
        try with_reducible rfl
      try simp only [Act.put, List.setIfInBounds_toArray, List.set_cons_zero, List.set_cons_succ]
      try dsimp only
      refine take_at (i := 11) (v := ?_) rfl (by kernel_rfl) (by kernel_rfl) (by kernel_rfl) (fun _ _ _ h => h) (Or.inl ⟨by rfl, ?_⟩) hHeld ?_
      rotate_left
      · intro w hSw
        (try dsimp only at hSw)
        go_simp
        try with_reducible rfl
      try simp only [Act.put, List.setIfInBounds_toArray, List.set_cons_zero, List.set_cons_succ]
      try dsimp only
      refine wpAnyH_done (by kernel_rfl) ?_ _
      go_wp2_with fail
      go_roundw
      case rel => exact ⟨i + 1, rfl, by go_num, by omega, HB.out.drew⟩
      case measure => simp [RowKit.intOf]; omega
    · obtain rfl : i = np := by omega
      have y0 := cell_blk (i := 0) HXA.out
      have y1 := cell_blk (i := 1) HXA.out
      have v0 := cell_blk (i := 0) HYA.out
      simp at y0 y1 v0
      go_wp2_with fail
      (with_reducible refine (hcards.out _ HBw.out).mono ?_)
      rintro e w3 ⟨rfl, b3⟩
      have HB3 := Lib.hid (HBw.out.trans (b3.mono HBw.out.size))
      have HX3 := Lib.hid ((b3.block _ (heap_lt HXA.out)).trans HXA.out)
      have HY3 := Lib.hid ((b3.block _ (heap_lt HYA.out)).trans HYA.out)
      clear b3 y0 y1 v0
      have y7 := cell_blk (i := 7) HX3.out
      have v7 := cell_blk (i := 7) HY3.out
      simp at y7 v7
      go_wp2_with fail
      (with_reducible refine (hevs.out _ HB3.out).mono ?_)
      rintro e w4 ⟨rfl, b4⟩
      have HB4 := Lib.hid (HB3.out.trans (b4.mono HB3.out.size))
      clear b4
      go_wp2_with fail
      go_ret
      exact ⟨rfl, HB4.out⟩
end Go.Proofs.Ytfdehhibgdeedaa
