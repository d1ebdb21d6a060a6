import Derived.Test.YtlbbabojejimpaaQEvSmall
/- eval.value: what an expression comes to on a table that may be, and whether it can be told. -/
namespace Go.Proofs.Ytlbbabojejimpaa
open Go.RowKit Go.Lib

/-- An expression's cells, less deep than so, each list within what it has room for. -/
def ExC : Nat → World → List Value → Ex → Prop
  | 0, _, _, _ => False
  | d + 1, w, c, x => ∃ (q : Option Addr) (cap : Nat), c = exV x (.slice q x.args.length cap) ∧ x.args.length ≤ cap ∧ x.args.length ≤ maxLen ∧ ∀ (i : Nat) (p : Ex), x.args[i]? = some p → ∃ g o, q = some ⟨g, o, none⟩ ∧ ∃ cs : List Value, cs.length = 7 ∧ ExC d w cs p ∧ ∀ (j : Nat) (u : Value), cs[j]? = some u → w.cell? ⟨g, o + i * 7 + j, none⟩ = some u
theorem ExC.stays : ∀ d, Stays (ExC d)
  | 0 => fun _ _ _ _ h _ => h
  | d + 1 => fun _ _ _ _ ⟨q, cap, hc, h1, h2, h⟩ hb => ⟨q, cap, hc, h1, h2, fun i p hp => by
      obtain ⟨g, o, hq, cs, hl, hx, hu⟩ := h i p hp
      exact ⟨g, o, hq, cs, hl, ExC.stays d _ _ _ _ hx hb, fun j u hj => cell_later hb (hu j u hj)⟩⟩
def leafV (t : Tb) (xs : List Cd) (ps : List Pc) (who : Nat) (i : Int) (x : Ex) : Option Int :=
  if x.op = 0 then some (bndI x.n) else if x.op = 1 then (if x.side > 3 then none else some (bndI (lifeN t who x.side)))
  else if x.op = 2 then some (bndI (cntL xs ps who i x.sel).length) else if x.op = 3 then some (bndI (attI xs ps i)) else none
def rawV (op : Nat) (a b : Int) : Int :=
  if op = 4 then a + b else if op = 5 then a + -b else if op = 6 then a * b else if op = 7 then oneI (decide (a < b)) else if op = 8 then oneI (decide (a = b))
  else if op = 9 then oneI (decide (a ≠ 0) && decide (b ≠ 0)) else if op = 10 then oneI (decide (a ≠ 0) || decide (b ≠ 0)) else oneI (decide (a = 0))
/-- What an expression comes to, so deep at most; none where it can't be told. -/
def valE (t : Tb) (xs : List Cd) (ps : List Pc) (who : Nat) (i : Int) : Nat → Ex → Option Int
  | 0, _ => none
  | d + 1, x => if x.args.length < partsN x.op then none else if partsN x.op = 0 then leafV t xs ps who i x else
    match x.args[0]? with
    | none => none
    | some p => match valE t xs ps who i d p with
      | none => none
      | some a => if partsN x.op = 1 then some (bndI (rawV x.op a 0)) else
        match x.args[1]? with
        | none => none
        | some q => match valE t xs ps who i d q with
          | none => none
          | some b => some (bndI (rawV x.op a b))
theorem bndI_bd (n : Int) : -99999 ≤ bndI n ∧ bndI n ≤ 99999 := by unfold bndI; omega
theorem leafV_bd {t : Tb} {xs : List Cd} {ps : List Pc} {who : Nat} {i : Int} {x : Ex} {n : Int} (h : leafV t xs ps who i x = some n) : -99999 ≤ n ∧ n ≤ 99999 := by
  unfold leafV at h
  repeat' split at h
  all_goals first | (simp only [Option.some.injEq] at h; subst h; exact bndI_bd _) | cases h
theorem valE_bd {t : Tb} {xs : List Cd} {ps : List Pc} {who : Nat} {i : Int} {d : Nat} {x : Ex} {n : Int} (h : valE t xs ps who i d x = some n) : -99999 ≤ n ∧ n ≤ 99999 := by
  cases d with
  | zero => simp [valE] at h
  | succ d =>
    rw [valE] at h
    repeat' split at h
    all_goals first | exact leafV_bd h | (simp only [Option.some.injEq] at h; subst h; exact bndI_bd _) | cases h
def ValEnds (r : Option Int) (w : World) (e : Ending) (w' : World) : Prop := e = .returned (.tuple #[.int .i64 (r.getD 0), .bool r.isSome]) ∧ Below w.heap.size w w'
/-- What a call of it comes to, of whatever expression so deep in memory. -/
def ValAt (t : Tb) (xs : List Cd) (ps : List Pc) (who : Nat) (i : Int) (d : Nat) (w : World) : Prop := ∀ (D : Nat) (x : Ex) (c : List Value) (W : World), Below w.heap.size w W → ExC D W c x → Calls Try.prog 16 #[.agg t.row, .int .u8 who, .int .i64 i, .agg c.toArray, .int .i64 d] W (ValEnds (valE t xs ps who i d x) W)

set_option maxHeartbeats 8000000 in
set_option maxRecDepth 100000 in
theorem value_zero (t : Tb) (xs : List Cd) (ps : List Pc) (who : Nat) (i : Int) (x : Ex) (q : Option Addr) (cap : Nat) (w : World)  :
    Calls Try.prog 16 #[.agg t.row, .int .u8 who, .int .i64 i, .agg (exV x (.slice q x.args.length cap)).toArray, .int .i64 (0 : Nat)] w (ValEnds ((none : Option Int)) w) := by
  have hparts := Lib.hid fun W => parts_any x.op W
  obtain ⟨w0, hw0⟩ : ∃ w0, w0 = (w.alloc (.cells t.row 28)).alloc (.cells (exV x (.slice q x.args.length cap)).toArray 33) := ⟨_, rfl⟩
  have hb0 : Below w.heap.size w w0 := by rw [hw0]; exact ((Below.refl _ _).alloc (Nat.le_refl _) _).alloc (by simp) _
  have hx0 : w0.heap[w.heap.size]? = some (.cells t.row 28 (0, 0)) := by rw [hw0]; exact heap_older (heap_alloc_new _ _)
  have hy0 : w0.heap[w.heap.size + 1]? = some (.cells (exV x (.slice q x.args.length cap)).toArray 33 (0, 0)) := by rw [hw0]; exact heap_newer _ _ _ (by simp)
  have hs0 : w0.heap.size = w.heap.size + 2 := by rw [hw0]; simp
  generalize hn : x.args.length = n at *
  have HB0 := Lib.hid hb0
  have HX0 := Lib.hid hx0
  have HY0 := Lib.hid hy0
  have HW0 := Lib.hid hw0
  have HS0 := Lib.hid hs0
  have HN := Lib.hid hn
  clear hb0 hx0 hy0 hw0 hs0 hn
  simp only [Tb.row, exV] at *
  have z0 := cell_blk (i := 0) HY0.out
  have z1 := cell_blk (i := 1) HY0.out
  have z2 := cell_blk (i := 2) HY0.out
  have z3 := cell_blk (i := 3) HY0.out
  have z4 := cell_blk (i := 4) HY0.out
  have z5 := cell_blk (i := 5) HY0.out
  have z6 := cell_blk (i := 6) HY0.out
  simp at z0 z1 z2 z3 z4 z5 z6
  go_enter Try.func16, Try.ntmps16
  go_wp2_with fail
  rw [← HW0.out]
  refine (hparts.out w0).mono ?_
  rintro e w1 ⟨rfl, rfl⟩
  go_wp2_with fail
  refine bodyPost_ret (results_tmp2 rfl _ _ _) rfl ?_
  exact ⟨rfl, HB0.out⟩

set_option maxHeartbeats 8000000 in
set_option maxRecDepth 100000 in
theorem value_few (t : Tb) (xs : List Cd) (ps : List Pc) (who : Nat) (i : Int) (x : Ex) (q : Option Addr) (cap : Nat) (d : Nat) (w : World) (hd : d < 100) (hlt : x.args.length < partsN x.op) :
    Calls Try.prog 16 #[.agg t.row, .int .u8 who, .int .i64 i, .agg (exV x (.slice q x.args.length cap)).toArray, .int .i64 (d + 1 : Nat)] w (ValEnds ((none : Option Int)) w) := by
  have hparts := Lib.hid fun W => parts_any x.op W
  obtain ⟨w0, hw0⟩ : ∃ w0, w0 = (w.alloc (.cells t.row 28)).alloc (.cells (exV x (.slice q x.args.length cap)).toArray 33) := ⟨_, rfl⟩
  have hb0 : Below w.heap.size w w0 := by rw [hw0]; exact ((Below.refl _ _).alloc (Nat.le_refl _) _).alloc (by simp) _
  have hx0 : w0.heap[w.heap.size]? = some (.cells t.row 28 (0, 0)) := by rw [hw0]; exact heap_older (heap_alloc_new _ _)
  have hy0 : w0.heap[w.heap.size + 1]? = some (.cells (exV x (.slice q x.args.length cap)).toArray 33 (0, 0)) := by rw [hw0]; exact heap_newer _ _ _ (by simp)
  have hs0 : w0.heap.size = w.heap.size + 2 := by rw [hw0]; simp
  generalize hn : x.args.length = n at *
  have HB0 := Lib.hid hb0
  have HX0 := Lib.hid hx0
  have HY0 := Lib.hid hy0
  have HW0 := Lib.hid hw0
  have HS0 := Lib.hid hs0
  have HN := Lib.hid hn
  clear hb0 hx0 hy0 hw0 hs0 hn
  simp only [Tb.row, exV] at *
  obtain ⟨c, hc⟩ : ∃ c, partsN x.op = c := ⟨_, rfl⟩
  rw [hc] at hparts hlt
  have k0 : ((d : Int) + 1 == 0) = false := by simp; omega
  have k0' : (((d + 1 : Nat) : Int) == 0) = false := by simp; omega
  have k1 : (n : Int) < (c : Int) := by omega
  clear hc
  have z0 := cell_blk (i := 0) HY0.out
  have z1 := cell_blk (i := 1) HY0.out
  have z2 := cell_blk (i := 2) HY0.out
  have z3 := cell_blk (i := 3) HY0.out
  have z4 := cell_blk (i := 4) HY0.out
  have z5 := cell_blk (i := 5) HY0.out
  have z6 := cell_blk (i := 6) HY0.out
  simp at z0 z1 z2 z3 z4 z5 z6
  go_enter Try.func16, Try.ntmps16
  go_wp2_with fail
  rw [← HW0.out]
  refine (hparts.out w0).mono ?_
  rintro e w1 ⟨rfl, rfl⟩
  go_wp2_with fail
  refine bodyPost_ret (results_tmp2 rfl _ _ _) rfl ?_
  exact ⟨rfl, HB0.out⟩

set_option maxHeartbeats 8000000 in
set_option maxRecDepth 100000 in
theorem value_number (t : Tb) (xs : List Cd) (ps : List Pc) (who : Nat) (i : Int) (x : Ex) (q : Option Addr) (cap : Nat) (d : Nat) (w : World) (hd : d < 100) (hp : partsN x.op = 0) (hT : TabIn w t xs ps) (hL : LifeOk t) (hG : GoodB xs ps) (hf : FewIn xs) (hw : who ≤ 1) (hop : x.op = 0) :
    Calls Try.prog 16 #[.agg t.row, .int .u8 who, .int .i64 i, .agg (exV x (.slice q x.args.length cap)).toArray, .int .i64 (d + 1 : Nat)] w (ValEnds (some (bndI x.n)) w) := by
  have hparts := Lib.hid fun W => parts_any x.op W
  have hlife := Lib.hid fun W => elife_any t who x.side W hL hw
  have hcnt := Lib.hid fun (W : World) (hb : Below w.heap.size w W) => count_any t xs ps who i x.sel W (hT.below hb) hL hG hw
  have hatt := Lib.hid fun (W : World) (hb : Below w.heap.size w W) => attack_int t xs ps i W (hT.below hb) hL hG hf
  have hbnd := Lib.hid fun (k : Int) (W : World) => ebounded_any k W
  rw [hp] at hparts
  clear hT hL hG hf
  obtain ⟨w0, hw0⟩ : ∃ w0, w0 = (w.alloc (.cells t.row 28)).alloc (.cells (exV x (.slice q x.args.length cap)).toArray 33) := ⟨_, rfl⟩
  have hb0 : Below w.heap.size w w0 := by rw [hw0]; exact ((Below.refl _ _).alloc (Nat.le_refl _) _).alloc (by simp) _
  have hx0 : w0.heap[w.heap.size]? = some (.cells t.row 28 (0, 0)) := by rw [hw0]; exact heap_older (heap_alloc_new _ _)
  have hy0 : w0.heap[w.heap.size + 1]? = some (.cells (exV x (.slice q x.args.length cap)).toArray 33 (0, 0)) := by rw [hw0]; exact heap_newer _ _ _ (by simp)
  have hs0 : w0.heap.size = w.heap.size + 2 := by rw [hw0]; simp
  generalize hn : x.args.length = n at *
  have HB0 := Lib.hid hb0
  have HX0 := Lib.hid hx0
  have HY0 := Lib.hid hy0
  have HW0 := Lib.hid hw0
  have HS0 := Lib.hid hs0
  have HN := Lib.hid hn
  clear hb0 hx0 hy0 hw0 hs0 hn
  simp only [Tb.row, exV] at *
  have k0 : ((d : Int) + 1 == 0) = false := by simp; omega
  have k0' : (((d + 1 : Nat) : Int) == 0) = false := by simp; omega
  have k1 : ¬ (n : Int) < 0 := by omega
  obtain ⟨w2, hw2⟩ : ∃ w2, w2 = w0.alloc (.cells #[.int .i64 0, .int .i64 0] 24) := ⟨_, rfl⟩
  have b02 : Below w0.heap.size w0 w2 := by rw [hw2]; exact (Below.refl _ _).alloc (Nat.le_refl _) _
  have HB2 := Lib.hid (HB0.out.trans (b02.mono HB0.out.size))
  have HX2 := Lib.hid ((b02.block _ (heap_lt HX0.out)).trans HX0.out)
  have HY2 := Lib.hid ((b02.block _ (heap_lt HY0.out)).trans HY0.out)
  have HZ2 : Hid (w2.heap[w0.heap.size]? = some (.cells #[.int .i64 0, .int .i64 0] 24 (0, 0))) := Lib.hid (by rw [hw2]; exact heap_alloc_new _ _)
  have HW2 := Lib.hid hw2
  clear hw2 b02
  have hlt0 := heap_lt HY0.out
  have z0 := cell_blk (i := 0) HY0.out
  have z1 := cell_blk (i := 1) HY0.out
  have z2 := cell_blk (i := 2) HY0.out
  have z3 := cell_blk (i := 3) HY0.out
  have z4 := cell_blk (i := 4) HY0.out
  have z5 := cell_blk (i := 5) HY0.out
  have z6 := cell_blk (i := 6) HY0.out
  simp at z0 z1 z2 z3 z4 z5 z6
  have o0 : ((x.op : Int) == 0) = true := by rw [hop]; decide
  have o1 : ((x.op : Int) == 1) = false := by rw [hop]; decide
  have o2 : ((x.op : Int) == 2) = false := by rw [hop]; decide
  have o3 : ((x.op : Int) == 3) = false := by rw [hop]; decide
  have o4 : ((x.op : Int) == 4) = false := by rw [hop]; decide
  have o5 : ((x.op : Int) == 5) = false := by rw [hop]; decide
  have o6 : ((x.op : Int) == 6) = false := by rw [hop]; decide
  have o7 : ((x.op : Int) == 7) = false := by rw [hop]; decide
  have o8 : ((x.op : Int) == 8) = false := by rw [hop]; decide
  have o9 : ((x.op : Int) == 9) = false := by rw [hop]; decide
  have o10 : ((x.op : Int) == 10) = false := by rw [hop]; decide
  have o11 : ((x.op : Int) == 11) = false := by rw [hop]; decide
  clear hop
  go_enter Try.func16, Try.ntmps16
  go_wp2_with fail
  rw [← HW0.out]
  refine (hparts.out w0).mono ?_
  rintro e w1 ⟨rfl, rfl⟩
  go_wp2_with fail
  refine wp_loop_rounds 1 ?_
  rw [rounds_succ]
  go_wp2_with fail
  rw [← HW2.out]
  clear z0 z1 z2 z3 z4 z5 z6
  have z0 := cell_blk (i := 0) HY2.out
  have z1 := cell_blk (i := 1) HY2.out
  have z2 := cell_blk (i := 2) HY2.out
  have z3 := cell_blk (i := 3) HY2.out
  have z4 := cell_blk (i := 4) HY2.out
  have z5 := cell_blk (i := 5) HY2.out
  have z6 := cell_blk (i := 6) HY2.out
  simp at z0 z1 z2 z3 z4 z5 z6
  have y0 := cell_blk (i := 0) HX2.out
  have y1 := cell_blk (i := 1) HX2.out
  have y2 := cell_blk (i := 2) HX2.out
  have y3 := cell_blk (i := 3) HX2.out
  have y4 := cell_blk (i := 4) HX2.out
  have y5 := cell_blk (i := 5) HX2.out
  have y6 := cell_blk (i := 6) HX2.out
  have y7 := cell_blk (i := 7) HX2.out
  have y8 := cell_blk (i := 8) HX2.out
  have y9 := cell_blk (i := 9) HX2.out
  simp at y0 y1 y2 y3 y4 y5 y6 y7 y8 y9
  have p0 := cell_blk (i := 0) HZ2.out
  have p1 := cell_blk (i := 1) HZ2.out
  simp at p0 p1
  go_quiet (fail)
  go_wp2_with fail
  refine (hbnd.out _ _).mono ?_
  rintro e w5 ⟨rfl, rfl⟩
  go_wp2_with fail
  refine bodyPost_ret (results_tmp2 rfl _ _ _) rfl ?_
  exact ⟨rfl, bl_drewN HB2.out _⟩

set_option maxHeartbeats 8000000 in
set_option maxRecDepth 100000 in
theorem value_side (t : Tb) (xs : List Cd) (ps : List Pc) (who : Nat) (i : Int) (x : Ex) (q : Option Addr) (cap : Nat) (d : Nat) (w : World) (hd : d < 100) (hp : partsN x.op = 0) (hT : TabIn w t xs ps) (hL : LifeOk t) (hG : GoodB xs ps) (hf : FewIn xs) (hw : who ≤ 1) (hop : x.op = 1) (hs : x.side > 3) :
    Calls Try.prog 16 #[.agg t.row, .int .u8 who, .int .i64 i, .agg (exV x (.slice q x.args.length cap)).toArray, .int .i64 (d + 1 : Nat)] w (ValEnds (none) w) := by
  have hparts := Lib.hid fun W => parts_any x.op W
  have hlife := Lib.hid fun W => elife_any t who x.side W hL hw
  have hcnt := Lib.hid fun (W : World) (hb : Below w.heap.size w W) => count_any t xs ps who i x.sel W (hT.below hb) hL hG hw
  have hatt := Lib.hid fun (W : World) (hb : Below w.heap.size w W) => attack_int t xs ps i W (hT.below hb) hL hG hf
  have hbnd := Lib.hid fun (k : Int) (W : World) => ebounded_any k W
  rw [hp] at hparts
  clear hT hL hG hf
  obtain ⟨w0, hw0⟩ : ∃ w0, w0 = (w.alloc (.cells t.row 28)).alloc (.cells (exV x (.slice q x.args.length cap)).toArray 33) := ⟨_, rfl⟩
  have hb0 : Below w.heap.size w w0 := by rw [hw0]; exact ((Below.refl _ _).alloc (Nat.le_refl _) _).alloc (by simp) _
  have hx0 : w0.heap[w.heap.size]? = some (.cells t.row 28 (0, 0)) := by rw [hw0]; exact heap_older (heap_alloc_new _ _)
  have hy0 : w0.heap[w.heap.size + 1]? = some (.cells (exV x (.slice q x.args.length cap)).toArray 33 (0, 0)) := by rw [hw0]; exact heap_newer _ _ _ (by simp)
  have hs0 : w0.heap.size = w.heap.size + 2 := by rw [hw0]; simp
  generalize hn : x.args.length = n at *
  have HB0 := Lib.hid hb0
  have HX0 := Lib.hid hx0
  have HY0 := Lib.hid hy0
  have HW0 := Lib.hid hw0
  have HS0 := Lib.hid hs0
  have HN := Lib.hid hn
  clear hb0 hx0 hy0 hw0 hs0 hn
  simp only [Tb.row, exV] at *
  have k0 : ((d : Int) + 1 == 0) = false := by simp; omega
  have k0' : (((d + 1 : Nat) : Int) == 0) = false := by simp; omega
  have k1 : ¬ (n : Int) < 0 := by omega
  obtain ⟨w2, hw2⟩ : ∃ w2, w2 = w0.alloc (.cells #[.int .i64 0, .int .i64 0] 24) := ⟨_, rfl⟩
  have b02 : Below w0.heap.size w0 w2 := by rw [hw2]; exact (Below.refl _ _).alloc (Nat.le_refl _) _
  have HB2 := Lib.hid (HB0.out.trans (b02.mono HB0.out.size))
  have HX2 := Lib.hid ((b02.block _ (heap_lt HX0.out)).trans HX0.out)
  have HY2 := Lib.hid ((b02.block _ (heap_lt HY0.out)).trans HY0.out)
  have HZ2 : Hid (w2.heap[w0.heap.size]? = some (.cells #[.int .i64 0, .int .i64 0] 24 (0, 0))) := Lib.hid (by rw [hw2]; exact heap_alloc_new _ _)
  have HW2 := Lib.hid hw2
  clear hw2 b02
  have hlt0 := heap_lt HY0.out
  have z0 := cell_blk (i := 0) HY0.out
  have z1 := cell_blk (i := 1) HY0.out
  have z2 := cell_blk (i := 2) HY0.out
  have z3 := cell_blk (i := 3) HY0.out
  have z4 := cell_blk (i := 4) HY0.out
  have z5 := cell_blk (i := 5) HY0.out
  have z6 := cell_blk (i := 6) HY0.out
  simp at z0 z1 z2 z3 z4 z5 z6
  have o0 : ((x.op : Int) == 0) = false := by rw [hop]; decide
  have o1 : ((x.op : Int) == 1) = true := by rw [hop]; decide
  have o2 : ((x.op : Int) == 2) = false := by rw [hop]; decide
  have o3 : ((x.op : Int) == 3) = false := by rw [hop]; decide
  have o4 : ((x.op : Int) == 4) = false := by rw [hop]; decide
  have o5 : ((x.op : Int) == 5) = false := by rw [hop]; decide
  have o6 : ((x.op : Int) == 6) = false := by rw [hop]; decide
  have o7 : ((x.op : Int) == 7) = false := by rw [hop]; decide
  have o8 : ((x.op : Int) == 8) = false := by rw [hop]; decide
  have o9 : ((x.op : Int) == 9) = false := by rw [hop]; decide
  have o10 : ((x.op : Int) == 10) = false := by rw [hop]; decide
  have o11 : ((x.op : Int) == 11) = false := by rw [hop]; decide
  have hs1 : (x.side : Int) > 3 := by omega
  clear hop
  go_enter Try.func16, Try.ntmps16
  go_wp2_with fail
  rw [← HW0.out]
  refine (hparts.out w0).mono ?_
  rintro e w1 ⟨rfl, rfl⟩
  go_wp2_with fail
  refine wp_loop_rounds 1 ?_
  rw [rounds_succ]
  go_wp2_with fail
  rw [← HW2.out]
  clear z0 z1 z2 z3 z4 z5 z6
  have z0 := cell_blk (i := 0) HY2.out
  have z1 := cell_blk (i := 1) HY2.out
  have z2 := cell_blk (i := 2) HY2.out
  have z3 := cell_blk (i := 3) HY2.out
  have z4 := cell_blk (i := 4) HY2.out
  have z5 := cell_blk (i := 5) HY2.out
  have z6 := cell_blk (i := 6) HY2.out
  simp at z0 z1 z2 z3 z4 z5 z6
  have y0 := cell_blk (i := 0) HX2.out
  have y1 := cell_blk (i := 1) HX2.out
  have y2 := cell_blk (i := 2) HX2.out
  have y3 := cell_blk (i := 3) HX2.out
  have y4 := cell_blk (i := 4) HX2.out
  have y5 := cell_blk (i := 5) HX2.out
  have y6 := cell_blk (i := 6) HX2.out
  have y7 := cell_blk (i := 7) HX2.out
  have y8 := cell_blk (i := 8) HX2.out
  have y9 := cell_blk (i := 9) HX2.out
  simp at y0 y1 y2 y3 y4 y5 y6 y7 y8 y9
  have p0 := cell_blk (i := 0) HZ2.out
  have p1 := cell_blk (i := 1) HZ2.out
  simp at p0 p1
  go_quiet (fail)
  go_wp2_with fail
  refine bodyPost_ret (results_tmp2 rfl _ _ _) rfl ?_
  exact ⟨rfl, bl_drewN HB2.out _⟩

set_option maxHeartbeats 8000000 in
set_option maxRecDepth 100000 in
theorem value_life (t : Tb) (xs : List Cd) (ps : List Pc) (who : Nat) (i : Int) (x : Ex) (q : Option Addr) (cap : Nat) (d : Nat) (w : World) (hd : d < 100) (hp : partsN x.op = 0) (hT : TabIn w t xs ps) (hL : LifeOk t) (hG : GoodB xs ps) (hf : FewIn xs) (hw : who ≤ 1) (hop : x.op = 1) (hs : ¬ x.side > 3) :
    Calls Try.prog 16 #[.agg t.row, .int .u8 who, .int .i64 i, .agg (exV x (.slice q x.args.length cap)).toArray, .int .i64 (d + 1 : Nat)] w (ValEnds (some (bndI (lifeN t who x.side))) w) := by
  have hparts := Lib.hid fun W => parts_any x.op W
  have hlife := Lib.hid fun W => elife_any t who x.side W hL hw
  have hcnt := Lib.hid fun (W : World) (hb : Below w.heap.size w W) => count_any t xs ps who i x.sel W (hT.below hb) hL hG hw
  have hatt := Lib.hid fun (W : World) (hb : Below w.heap.size w W) => attack_int t xs ps i W (hT.below hb) hL hG hf
  have hbnd := Lib.hid fun (k : Int) (W : World) => ebounded_any k W
  rw [hp] at hparts
  clear hT hL hG hf
  obtain ⟨w0, hw0⟩ : ∃ w0, w0 = (w.alloc (.cells t.row 28)).alloc (.cells (exV x (.slice q x.args.length cap)).toArray 33) := ⟨_, rfl⟩
  have hb0 : Below w.heap.size w w0 := by rw [hw0]; exact ((Below.refl _ _).alloc (Nat.le_refl _) _).alloc (by simp) _
  have hx0 : w0.heap[w.heap.size]? = some (.cells t.row 28 (0, 0)) := by rw [hw0]; exact heap_older (heap_alloc_new _ _)
  have hy0 : w0.heap[w.heap.size + 1]? = some (.cells (exV x (.slice q x.args.length cap)).toArray 33 (0, 0)) := by rw [hw0]; exact heap_newer _ _ _ (by simp)
  have hs0 : w0.heap.size = w.heap.size + 2 := by rw [hw0]; simp
  generalize hn : x.args.length = n at *
  have HB0 := Lib.hid hb0
  have HX0 := Lib.hid hx0
  have HY0 := Lib.hid hy0
  have HW0 := Lib.hid hw0
  have HS0 := Lib.hid hs0
  have HN := Lib.hid hn
  clear hb0 hx0 hy0 hw0 hs0 hn
  simp only [Tb.row, exV] at *
  have k0 : ((d : Int) + 1 == 0) = false := by simp; omega
  have k0' : (((d + 1 : Nat) : Int) == 0) = false := by simp; omega
  have k1 : ¬ (n : Int) < 0 := by omega
  obtain ⟨w2, hw2⟩ : ∃ w2, w2 = w0.alloc (.cells #[.int .i64 0, .int .i64 0] 24) := ⟨_, rfl⟩
  have b02 : Below w0.heap.size w0 w2 := by rw [hw2]; exact (Below.refl _ _).alloc (Nat.le_refl _) _
  have HB2 := Lib.hid (HB0.out.trans (b02.mono HB0.out.size))
  have HX2 := Lib.hid ((b02.block _ (heap_lt HX0.out)).trans HX0.out)
  have HY2 := Lib.hid ((b02.block _ (heap_lt HY0.out)).trans HY0.out)
  have HZ2 : Hid (w2.heap[w0.heap.size]? = some (.cells #[.int .i64 0, .int .i64 0] 24 (0, 0))) := Lib.hid (by rw [hw2]; exact heap_alloc_new _ _)
  have HW2 := Lib.hid hw2
  clear hw2 b02
  have hlt0 := heap_lt HY0.out
  have z0 := cell_blk (i := 0) HY0.out
  have z1 := cell_blk (i := 1) HY0.out
  have z2 := cell_blk (i := 2) HY0.out
  have z3 := cell_blk (i := 3) HY0.out
  have z4 := cell_blk (i := 4) HY0.out
  have z5 := cell_blk (i := 5) HY0.out
  have z6 := cell_blk (i := 6) HY0.out
  simp at z0 z1 z2 z3 z4 z5 z6
  have o0 : ((x.op : Int) == 0) = false := by rw [hop]; decide
  have o1 : ((x.op : Int) == 1) = true := by rw [hop]; decide
  have o2 : ((x.op : Int) == 2) = false := by rw [hop]; decide
  have o3 : ((x.op : Int) == 3) = false := by rw [hop]; decide
  have o4 : ((x.op : Int) == 4) = false := by rw [hop]; decide
  have o5 : ((x.op : Int) == 5) = false := by rw [hop]; decide
  have o6 : ((x.op : Int) == 6) = false := by rw [hop]; decide
  have o7 : ((x.op : Int) == 7) = false := by rw [hop]; decide
  have o8 : ((x.op : Int) == 8) = false := by rw [hop]; decide
  have o9 : ((x.op : Int) == 9) = false := by rw [hop]; decide
  have o10 : ((x.op : Int) == 10) = false := by rw [hop]; decide
  have o11 : ((x.op : Int) == 11) = false := by rw [hop]; decide
  have hs1 : ¬ (x.side : Int) > 3 := by omega
  clear hop
  go_enter Try.func16, Try.ntmps16
  go_wp2_with fail
  rw [← HW0.out]
  refine (hparts.out w0).mono ?_
  rintro e w1 ⟨rfl, rfl⟩
  go_wp2_with fail
  refine wp_loop_rounds 1 ?_
  rw [rounds_succ]
  go_wp2_with fail
  rw [← HW2.out]
  clear z0 z1 z2 z3 z4 z5 z6
  have z0 := cell_blk (i := 0) HY2.out
  have z1 := cell_blk (i := 1) HY2.out
  have z2 := cell_blk (i := 2) HY2.out
  have z3 := cell_blk (i := 3) HY2.out
  have z4 := cell_blk (i := 4) HY2.out
  have z5 := cell_blk (i := 5) HY2.out
  have z6 := cell_blk (i := 6) HY2.out
  simp at z0 z1 z2 z3 z4 z5 z6
  have y0 := cell_blk (i := 0) HX2.out
  have y1 := cell_blk (i := 1) HX2.out
  have y2 := cell_blk (i := 2) HX2.out
  have y3 := cell_blk (i := 3) HX2.out
  have y4 := cell_blk (i := 4) HX2.out
  have y5 := cell_blk (i := 5) HX2.out
  have y6 := cell_blk (i := 6) HX2.out
  have y7 := cell_blk (i := 7) HX2.out
  have y8 := cell_blk (i := 8) HX2.out
  have y9 := cell_blk (i := 9) HX2.out
  simp at y0 y1 y2 y3 y4 y5 y6 y7 y8 y9
  have p0 := cell_blk (i := 0) HZ2.out
  have p1 := cell_blk (i := 1) HZ2.out
  simp at p0 p1
  go_quiet (fail)
  go_wp2_with fail
  refine (hlife.out _).mono ?_
  rintro e w4 ⟨rfl, b4⟩
  have HB4 := Lib.hid ((bl_drewN HB2.out _).trans (b4.mono (bl_drewN HB2.out _).size))
  clear b4
  go_wp2_with fail
  refine (hbnd.out _ _).mono ?_
  rintro e w5 ⟨rfl, rfl⟩
  go_wp2_with fail
  refine bodyPost_ret (results_tmp2 rfl _ _ _) rfl ?_
  exact ⟨rfl, HB4.out⟩

set_option maxHeartbeats 8000000 in
set_option maxRecDepth 100000 in
theorem value_count (t : Tb) (xs : List Cd) (ps : List Pc) (who : Nat) (i : Int) (x : Ex) (q : Option Addr) (cap : Nat) (d : Nat) (w : World) (hd : d < 100) (hp : partsN x.op = 0) (hT : TabIn w t xs ps) (hL : LifeOk t) (hG : GoodB xs ps) (hf : FewIn xs) (hw : who ≤ 1) (hop : x.op = 2) :
    Calls Try.prog 16 #[.agg t.row, .int .u8 who, .int .i64 i, .agg (exV x (.slice q x.args.length cap)).toArray, .int .i64 (d + 1 : Nat)] w (ValEnds (some (bndI (cntL xs ps who i x.sel).length)) w) := by
  have hparts := Lib.hid fun W => parts_any x.op W
  have hlife := Lib.hid fun W => elife_any t who x.side W hL hw
  have hcnt := Lib.hid fun (W : World) (hb : Below w.heap.size w W) => count_any t xs ps who i x.sel W (hT.below hb) hL hG hw
  have hatt := Lib.hid fun (W : World) (hb : Below w.heap.size w W) => attack_int t xs ps i W (hT.below hb) hL hG hf
  have hbnd := Lib.hid fun (k : Int) (W : World) => ebounded_any k W
  rw [hp] at hparts
  clear hT hL hG hf
  obtain ⟨w0, hw0⟩ : ∃ w0, w0 = (w.alloc (.cells t.row 28)).alloc (.cells (exV x (.slice q x.args.length cap)).toArray 33) := ⟨_, rfl⟩
  have hb0 : Below w.heap.size w w0 := by rw [hw0]; exact ((Below.refl _ _).alloc (Nat.le_refl _) _).alloc (by simp) _
  have hx0 : w0.heap[w.heap.size]? = some (.cells t.row 28 (0, 0)) := by rw [hw0]; exact heap_older (heap_alloc_new _ _)
  have hy0 : w0.heap[w.heap.size + 1]? = some (.cells (exV x (.slice q x.args.length cap)).toArray 33 (0, 0)) := by rw [hw0]; exact heap_newer _ _ _ (by simp)
  have hs0 : w0.heap.size = w.heap.size + 2 := by rw [hw0]; simp
  generalize hn : x.args.length = n at *
  have HB0 := Lib.hid hb0
  have HX0 := Lib.hid hx0
  have HY0 := Lib.hid hy0
  have HW0 := Lib.hid hw0
  have HS0 := Lib.hid hs0
  have HN := Lib.hid hn
  clear hb0 hx0 hy0 hw0 hs0 hn
  simp only [Tb.row, exV] at *
  have k0 : ((d : Int) + 1 == 0) = false := by simp; omega
  have k0' : (((d + 1 : Nat) : Int) == 0) = false := by simp; omega
  have k1 : ¬ (n : Int) < 0 := by omega
  obtain ⟨w2, hw2⟩ : ∃ w2, w2 = w0.alloc (.cells #[.int .i64 0, .int .i64 0] 24) := ⟨_, rfl⟩
  have b02 : Below w0.heap.size w0 w2 := by rw [hw2]; exact (Below.refl _ _).alloc (Nat.le_refl _) _
  have HB2 := Lib.hid (HB0.out.trans (b02.mono HB0.out.size))
  have HX2 := Lib.hid ((b02.block _ (heap_lt HX0.out)).trans HX0.out)
  have HY2 := Lib.hid ((b02.block _ (heap_lt HY0.out)).trans HY0.out)
  have HZ2 : Hid (w2.heap[w0.heap.size]? = some (.cells #[.int .i64 0, .int .i64 0] 24 (0, 0))) := Lib.hid (by rw [hw2]; exact heap_alloc_new _ _)
  have HW2 := Lib.hid hw2
  clear hw2 b02
  have hlt0 := heap_lt HY0.out
  have z0 := cell_blk (i := 0) HY0.out
  have z1 := cell_blk (i := 1) HY0.out
  have z2 := cell_blk (i := 2) HY0.out
  have z3 := cell_blk (i := 3) HY0.out
  have z4 := cell_blk (i := 4) HY0.out
  have z5 := cell_blk (i := 5) HY0.out
  have z6 := cell_blk (i := 6) HY0.out
  simp at z0 z1 z2 z3 z4 z5 z6
  have o0 : ((x.op : Int) == 0) = false := by rw [hop]; decide
  have o1 : ((x.op : Int) == 1) = false := by rw [hop]; decide
  have o2 : ((x.op : Int) == 2) = true := by rw [hop]; decide
  have o3 : ((x.op : Int) == 3) = false := by rw [hop]; decide
  have o4 : ((x.op : Int) == 4) = false := by rw [hop]; decide
  have o5 : ((x.op : Int) == 5) = false := by rw [hop]; decide
  have o6 : ((x.op : Int) == 6) = false := by rw [hop]; decide
  have o7 : ((x.op : Int) == 7) = false := by rw [hop]; decide
  have o8 : ((x.op : Int) == 8) = false := by rw [hop]; decide
  have o9 : ((x.op : Int) == 9) = false := by rw [hop]; decide
  have o10 : ((x.op : Int) == 10) = false := by rw [hop]; decide
  have o11 : ((x.op : Int) == 11) = false := by rw [hop]; decide
  clear hop
  go_enter Try.func16, Try.ntmps16
  go_wp2_with fail
  rw [← HW0.out]
  refine (hparts.out w0).mono ?_
  rintro e w1 ⟨rfl, rfl⟩
  go_wp2_with fail
  refine wp_loop_rounds 1 ?_
  rw [rounds_succ]
  go_wp2_with fail
  rw [← HW2.out]
  clear z0 z1 z2 z3 z4 z5 z6
  have z0 := cell_blk (i := 0) HY2.out
  have z1 := cell_blk (i := 1) HY2.out
  have z2 := cell_blk (i := 2) HY2.out
  have z3 := cell_blk (i := 3) HY2.out
  have z4 := cell_blk (i := 4) HY2.out
  have z5 := cell_blk (i := 5) HY2.out
  have z6 := cell_blk (i := 6) HY2.out
  simp at z0 z1 z2 z3 z4 z5 z6
  have y0 := cell_blk (i := 0) HX2.out
  have y1 := cell_blk (i := 1) HX2.out
  have y2 := cell_blk (i := 2) HX2.out
  have y3 := cell_blk (i := 3) HX2.out
  have y4 := cell_blk (i := 4) HX2.out
  have y5 := cell_blk (i := 5) HX2.out
  have y6 := cell_blk (i := 6) HX2.out
  have y7 := cell_blk (i := 7) HX2.out
  have y8 := cell_blk (i := 8) HX2.out
  have y9 := cell_blk (i := 9) HX2.out
  simp at y0 y1 y2 y3 y4 y5 y6 y7 y8 y9
  have p0 := cell_blk (i := 0) HZ2.out
  have p1 := cell_blk (i := 1) HZ2.out
  simp at p0 p1
  go_quiet (fail)
  go_wp2_with fail
  refine (hcnt.out _ (bl_drewN HB2.out _)).mono ?_
  rintro e w4 ⟨⟨v, m, rfl, hv, hpm⟩, b4⟩
  obtain ⟨⟨a, c, rfl⟩, -⟩ := hv.cell
  rw [hpm.length_eq]
  have HB4 := Lib.hid ((bl_drewN HB2.out _).trans (b4.mono (bl_drewN HB2.out _).size))
  clear b4 hv hpm
  go_wp2_with fail
  refine (hbnd.out _ _).mono ?_
  rintro e w5 ⟨rfl, rfl⟩
  go_wp2_with fail
  refine bodyPost_ret (results_tmp2 rfl _ _ _) rfl ?_
  exact ⟨rfl, HB4.out⟩

set_option maxHeartbeats 8000000 in
set_option maxRecDepth 100000 in
theorem value_attack (t : Tb) (xs : List Cd) (ps : List Pc) (who : Nat) (i : Int) (x : Ex) (q : Option Addr) (cap : Nat) (d : Nat) (w : World) (hd : d < 100) (hp : partsN x.op = 0) (hT : TabIn w t xs ps) (hL : LifeOk t) (hG : GoodB xs ps) (hf : FewIn xs) (hw : who ≤ 1) (hop : x.op = 3) :
    Calls Try.prog 16 #[.agg t.row, .int .u8 who, .int .i64 i, .agg (exV x (.slice q x.args.length cap)).toArray, .int .i64 (d + 1 : Nat)] w (ValEnds (some (bndI (attI xs ps i))) w) := by
  have hparts := Lib.hid fun W => parts_any x.op W
  have hlife := Lib.hid fun W => elife_any t who x.side W hL hw
  have hcnt := Lib.hid fun (W : World) (hb : Below w.heap.size w W) => count_any t xs ps who i x.sel W (hT.below hb) hL hG hw
  have hatt := Lib.hid fun (W : World) (hb : Below w.heap.size w W) => attack_int t xs ps i W (hT.below hb) hL hG hf
  have hbnd := Lib.hid fun (k : Int) (W : World) => ebounded_any k W
  rw [hp] at hparts
  clear hT hL hG hf
  obtain ⟨w0, hw0⟩ : ∃ w0, w0 = (w.alloc (.cells t.row 28)).alloc (.cells (exV x (.slice q x.args.length cap)).toArray 33) := ⟨_, rfl⟩
  have hb0 : Below w.heap.size w w0 := by rw [hw0]; exact ((Below.refl _ _).alloc (Nat.le_refl _) _).alloc (by simp) _
  have hx0 : w0.heap[w.heap.size]? = some (.cells t.row 28 (0, 0)) := by rw [hw0]; exact heap_older (heap_alloc_new _ _)
  have hy0 : w0.heap[w.heap.size + 1]? = some (.cells (exV x (.slice q x.args.length cap)).toArray 33 (0, 0)) := by rw [hw0]; exact heap_newer _ _ _ (by simp)
  have hs0 : w0.heap.size = w.heap.size + 2 := by rw [hw0]; simp
  generalize hn : x.args.length = n at *
  have HB0 := Lib.hid hb0
  have HX0 := Lib.hid hx0
  have HY0 := Lib.hid hy0
  have HW0 := Lib.hid hw0
  have HS0 := Lib.hid hs0
  have HN := Lib.hid hn
  clear hb0 hx0 hy0 hw0 hs0 hn
  simp only [Tb.row, exV] at *
  have k0 : ((d : Int) + 1 == 0) = false := by simp; omega
  have k0' : (((d + 1 : Nat) : Int) == 0) = false := by simp; omega
  have k1 : ¬ (n : Int) < 0 := by omega
  obtain ⟨w2, hw2⟩ : ∃ w2, w2 = w0.alloc (.cells #[.int .i64 0, .int .i64 0] 24) := ⟨_, rfl⟩
  have b02 : Below w0.heap.size w0 w2 := by rw [hw2]; exact (Below.refl _ _).alloc (Nat.le_refl _) _
  have HB2 := Lib.hid (HB0.out.trans (b02.mono HB0.out.size))
  have HX2 := Lib.hid ((b02.block _ (heap_lt HX0.out)).trans HX0.out)
  have HY2 := Lib.hid ((b02.block _ (heap_lt HY0.out)).trans HY0.out)
  have HZ2 : Hid (w2.heap[w0.heap.size]? = some (.cells #[.int .i64 0, .int .i64 0] 24 (0, 0))) := Lib.hid (by rw [hw2]; exact heap_alloc_new _ _)
  have HW2 := Lib.hid hw2
  clear hw2 b02
  have hlt0 := heap_lt HY0.out
  have z0 := cell_blk (i := 0) HY0.out
  have z1 := cell_blk (i := 1) HY0.out
  have z2 := cell_blk (i := 2) HY0.out
  have z3 := cell_blk (i := 3) HY0.out
  have z4 := cell_blk (i := 4) HY0.out
  have z5 := cell_blk (i := 5) HY0.out
  have z6 := cell_blk (i := 6) HY0.out
  simp at z0 z1 z2 z3 z4 z5 z6
  have o0 : ((x.op : Int) == 0) = false := by rw [hop]; decide
  have o1 : ((x.op : Int) == 1) = false := by rw [hop]; decide
  have o2 : ((x.op : Int) == 2) = false := by rw [hop]; decide
  have o3 : ((x.op : Int) == 3) = true := by rw [hop]; decide
  have o4 : ((x.op : Int) == 4) = false := by rw [hop]; decide
  have o5 : ((x.op : Int) == 5) = false := by rw [hop]; decide
  have o6 : ((x.op : Int) == 6) = false := by rw [hop]; decide
  have o7 : ((x.op : Int) == 7) = false := by rw [hop]; decide
  have o8 : ((x.op : Int) == 8) = false := by rw [hop]; decide
  have o9 : ((x.op : Int) == 9) = false := by rw [hop]; decide
  have o10 : ((x.op : Int) == 10) = false := by rw [hop]; decide
  have o11 : ((x.op : Int) == 11) = false := by rw [hop]; decide
  clear hop
  go_enter Try.func16, Try.ntmps16
  go_wp2_with fail
  rw [← HW0.out]
  refine (hparts.out w0).mono ?_
  rintro e w1 ⟨rfl, rfl⟩
  go_wp2_with fail
  refine wp_loop_rounds 1 ?_
  rw [rounds_succ]
  go_wp2_with fail
  rw [← HW2.out]
  clear z0 z1 z2 z3 z4 z5 z6
  have z0 := cell_blk (i := 0) HY2.out
  have z1 := cell_blk (i := 1) HY2.out
  have z2 := cell_blk (i := 2) HY2.out
  have z3 := cell_blk (i := 3) HY2.out
  have z4 := cell_blk (i := 4) HY2.out
  have z5 := cell_blk (i := 5) HY2.out
  have z6 := cell_blk (i := 6) HY2.out
  simp at z0 z1 z2 z3 z4 z5 z6
  have y0 := cell_blk (i := 0) HX2.out
  have y1 := cell_blk (i := 1) HX2.out
  have y2 := cell_blk (i := 2) HX2.out
  have y3 := cell_blk (i := 3) HX2.out
  have y4 := cell_blk (i := 4) HX2.out
  have y5 := cell_blk (i := 5) HX2.out
  have y6 := cell_blk (i := 6) HX2.out
  have y7 := cell_blk (i := 7) HX2.out
  have y8 := cell_blk (i := 8) HX2.out
  have y9 := cell_blk (i := 9) HX2.out
  simp at y0 y1 y2 y3 y4 y5 y6 y7 y8 y9
  have p0 := cell_blk (i := 0) HZ2.out
  have p1 := cell_blk (i := 1) HZ2.out
  simp at p0 p1
  go_quiet (fail)
  go_wp2_with fail
  refine (hatt.out _ (bl_drewN HB2.out _)).mono ?_
  rintro e w4 ⟨rfl, b4⟩
  have HB4 := Lib.hid ((bl_drewN HB2.out _).trans (b4.mono (bl_drewN HB2.out _).size))
  clear b4
  go_wp2_with fail
  refine (hbnd.out _ _).mono ?_
  rintro e w5 ⟨rfl, rfl⟩
  go_wp2_with fail
  refine bodyPost_ret (results_tmp2 rfl _ _ _) rfl ?_
  exact ⟨rfl, HB4.out⟩

set_option maxHeartbeats 8000000 in
set_option maxRecDepth 100000 in
theorem value_unknown (t : Tb) (xs : List Cd) (ps : List Pc) (who : Nat) (i : Int) (x : Ex) (q : Option Addr) (cap : Nat) (d : Nat) (w : World) (hd : d < 100) (hp : partsN x.op = 0) (hT : TabIn w t xs ps) (hL : LifeOk t) (hG : GoodB xs ps) (hf : FewIn xs) (hw : who ≤ 1) (hop : 12 ≤ x.op) :
    Calls Try.prog 16 #[.agg t.row, .int .u8 who, .int .i64 i, .agg (exV x (.slice q x.args.length cap)).toArray, .int .i64 (d + 1 : Nat)] w (ValEnds (none) w) := by
  have hparts := Lib.hid fun W => parts_any x.op W
  have hlife := Lib.hid fun W => elife_any t who x.side W hL hw
  have hcnt := Lib.hid fun (W : World) (hb : Below w.heap.size w W) => count_any t xs ps who i x.sel W (hT.below hb) hL hG hw
  have hatt := Lib.hid fun (W : World) (hb : Below w.heap.size w W) => attack_int t xs ps i W (hT.below hb) hL hG hf
  have hbnd := Lib.hid fun (k : Int) (W : World) => ebounded_any k W
  rw [hp] at hparts
  clear hT hL hG hf
  obtain ⟨w0, hw0⟩ : ∃ w0, w0 = (w.alloc (.cells t.row 28)).alloc (.cells (exV x (.slice q x.args.length cap)).toArray 33) := ⟨_, rfl⟩
  have hb0 : Below w.heap.size w w0 := by rw [hw0]; exact ((Below.refl _ _).alloc (Nat.le_refl _) _).alloc (by simp) _
  have hx0 : w0.heap[w.heap.size]? = some (.cells t.row 28 (0, 0)) := by rw [hw0]; exact heap_older (heap_alloc_new _ _)
  have hy0 : w0.heap[w.heap.size + 1]? = some (.cells (exV x (.slice q x.args.length cap)).toArray 33 (0, 0)) := by rw [hw0]; exact heap_newer _ _ _ (by simp)
  have hs0 : w0.heap.size = w.heap.size + 2 := by rw [hw0]; simp
  generalize hn : x.args.length = n at *
  have HB0 := Lib.hid hb0
  have HX0 := Lib.hid hx0
  have HY0 := Lib.hid hy0
  have HW0 := Lib.hid hw0
  have HS0 := Lib.hid hs0
  have HN := Lib.hid hn
  clear hb0 hx0 hy0 hw0 hs0 hn
  simp only [Tb.row, exV] at *
  have k0 : ((d : Int) + 1 == 0) = false := by simp; omega
  have k0' : (((d + 1 : Nat) : Int) == 0) = false := by simp; omega
  have k1 : ¬ (n : Int) < 0 := by omega
  obtain ⟨w2, hw2⟩ : ∃ w2, w2 = w0.alloc (.cells #[.int .i64 0, .int .i64 0] 24) := ⟨_, rfl⟩
  have b02 : Below w0.heap.size w0 w2 := by rw [hw2]; exact (Below.refl _ _).alloc (Nat.le_refl _) _
  have HB2 := Lib.hid (HB0.out.trans (b02.mono HB0.out.size))
  have HX2 := Lib.hid ((b02.block _ (heap_lt HX0.out)).trans HX0.out)
  have HY2 := Lib.hid ((b02.block _ (heap_lt HY0.out)).trans HY0.out)
  have HZ2 : Hid (w2.heap[w0.heap.size]? = some (.cells #[.int .i64 0, .int .i64 0] 24 (0, 0))) := Lib.hid (by rw [hw2]; exact heap_alloc_new _ _)
  have HW2 := Lib.hid hw2
  clear hw2 b02
  have hlt0 := heap_lt HY0.out
  have z0 := cell_blk (i := 0) HY0.out
  have z1 := cell_blk (i := 1) HY0.out
  have z2 := cell_blk (i := 2) HY0.out
  have z3 := cell_blk (i := 3) HY0.out
  have z4 := cell_blk (i := 4) HY0.out
  have z5 := cell_blk (i := 5) HY0.out
  have z6 := cell_blk (i := 6) HY0.out
  simp at z0 z1 z2 z3 z4 z5 z6
  have o0 : ((x.op : Int) == 0) = false := by simp; omega
  have o1 : ((x.op : Int) == 1) = false := by simp; omega
  have o2 : ((x.op : Int) == 2) = false := by simp; omega
  have o3 : ((x.op : Int) == 3) = false := by simp; omega
  have o4 : ((x.op : Int) == 4) = false := by simp; omega
  have o5 : ((x.op : Int) == 5) = false := by simp; omega
  have o6 : ((x.op : Int) == 6) = false := by simp; omega
  have o7 : ((x.op : Int) == 7) = false := by simp; omega
  have o8 : ((x.op : Int) == 8) = false := by simp; omega
  have o9 : ((x.op : Int) == 9) = false := by simp; omega
  have o10 : ((x.op : Int) == 10) = false := by simp; omega
  have o11 : ((x.op : Int) == 11) = false := by simp; omega
  clear hop
  go_enter Try.func16, Try.ntmps16
  go_wp2_with fail
  rw [← HW0.out]
  refine (hparts.out w0).mono ?_
  rintro e w1 ⟨rfl, rfl⟩
  go_wp2_with fail
  refine wp_loop_rounds 1 ?_
  rw [rounds_succ]
  go_wp2_with fail
  rw [← HW2.out]
  clear z0 z1 z2 z3 z4 z5 z6
  have z0 := cell_blk (i := 0) HY2.out
  have z1 := cell_blk (i := 1) HY2.out
  have z2 := cell_blk (i := 2) HY2.out
  have z3 := cell_blk (i := 3) HY2.out
  have z4 := cell_blk (i := 4) HY2.out
  have z5 := cell_blk (i := 5) HY2.out
  have z6 := cell_blk (i := 6) HY2.out
  simp at z0 z1 z2 z3 z4 z5 z6
  have y0 := cell_blk (i := 0) HX2.out
  have y1 := cell_blk (i := 1) HX2.out
  have y2 := cell_blk (i := 2) HX2.out
  have y3 := cell_blk (i := 3) HX2.out
  have y4 := cell_blk (i := 4) HX2.out
  have y5 := cell_blk (i := 5) HX2.out
  have y6 := cell_blk (i := 6) HX2.out
  have y7 := cell_blk (i := 7) HX2.out
  have y8 := cell_blk (i := 8) HX2.out
  have y9 := cell_blk (i := 9) HX2.out
  simp at y0 y1 y2 y3 y4 y5 y6 y7 y8 y9
  have p0 := cell_blk (i := 0) HZ2.out
  have p1 := cell_blk (i := 1) HZ2.out
  simp at p0 p1
  go_quiet (fail)
  go_wp2_with fail
  refine bodyPost_ret (results_tmp2 rfl _ _ _) rfl ?_
  exact ⟨rfl, bl_drewN HB2.out _⟩
end Go.Proofs.Ytlbbabojejimpaa
