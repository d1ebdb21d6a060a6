import Derived.Test.YtlbbabojejimpaaQTbRound
import Derived.Test.YtlbbabojejimpaaQTbC
/- might.Attack: a unit's attack is its own, and what auras give it, one by one. -/
namespace Go.Proofs.Ytlbbabojejimpaa
open Go.RowKit Go.Lib Go.Shelf Go.Sort
attribute [local go_sem] Oper.semAt_some

/-- What one aura gives to a piece. -/
def addUp (xs : List Cd) (ps : List Pc) (p : Pc) (id : Nat) (a : Int) (x : AX) : Int := match ps[x.1]? with
  | some h => if ofB xs p h.hs x.1 ⟨x.2.s1, x.2.s2, x.2.s3⟩ id = true then plusI a (max x.2.n 0) else a
  | none => a
def upTo (xs : List Cd) (ps : List Pc) (p : Pc) (id : Nat) (l : List AX) : Int := l.foldl (addUp xs ps p id) (plusI p.ak p.bo)
def attackOf (xs : List Cd) (fx : List KX) (ps : List Pc) (p : Pc) (id : Nat) : Int := if p.zn = 2 then max (upTo xs ps p id (aurasTo fx ps ps.length)) 0 else max (plusI p.ak p.bo) 0
theorem addUp_bd {xs : List Cd} {ps : List Pc} {p : Pc} {id : Nat} {a : Int} (x : AX) (h : -99999 ≤ a ∧ a ≤ 99999) : -99999 ≤ addUp xs ps p id a x ∧ addUp xs ps p id a x ≤ 99999 := by
  unfold addUp
  split
  · split
    · exact bd_le _
    · exact h
  · exact h
theorem foldUp_bd {xs : List Cd} {ps : List Pc} {p : Pc} {id : Nat} : ∀ (l : List AX) (a : Int), -99999 ≤ a ∧ a ≤ 99999 → -99999 ≤ l.foldl (addUp xs ps p id) a ∧ l.foldl (addUp xs ps p id) a ≤ 99999
  | [], _, h => h
  | x :: l, _, h => foldUp_bd l _ (addUp_bd x h)
theorem upTo_bd {xs : List Cd} {ps : List Pc} {p : Pc} {id : Nat} (l : List AX) : -99999 ≤ upTo xs ps p id l ∧ upTo xs ps p id l ≤ 99999 := foldUp_bd l _ (bd_le _)
theorem foldUp_full {xs : List Cd} {ps : List Pc} {p : Pc} {id : Nat} : ∀ (l : List AX), l.foldl (addUp xs ps p id) 99999 = 99999
  | [] => rfl
  | x :: l => by
    have h : addUp xs ps p id 99999 x = 99999 := by
      unfold addUp
      split
      · split
        · unfold plusI bd; omega
        · rfl
      · rfl
    rw [List.foldl_cons, h]
    exact foldUp_full l
theorem upTo_full {xs : List Cd} {ps : List Pc} {p : Pc} {id : Nat} {pre l : List AX} (hl : pre <+: l) (h : upTo xs ps p id pre = 99999) : upTo xs ps p id l = 99999 := by
  obtain ⟨r, rfl⟩ := hl
  unfold upTo at *
  rw [List.foldl_append, h]
  exact foldUp_full r
theorem upTo_snoc (xs : List Cd) (ps : List Pc) (p : Pc) (id : Nat) (l : List AX) (x : AX) : upTo xs ps p id (l ++ [x]) = addUp xs ps p id (upTo xs ps p id l) x := by simp [upTo, List.foldl_append]

set_option maxHeartbeats 1000000 in
theorem auras_make (n : Nat) (t : Tb) (w : World) :
    CallsIn Fence.wide n Try.prog 40 #[.agg t.row] w fun e w' => e = .returned (.func (.func 46) #[] #[.pointer (some ⟨w.heap.size, 0, none⟩)]) ∧ w' = w.alloc (.cells t.row 28) := by
  simp only [Tb.row]
  refine callsIn_of_wp Try.func40 rfl trivial ?_ rfl
  simp only [Try.ntmps40, List.size_toArray, List.length_cons, List.length_nil, Nat.reduceAdd, Nat.reduceSub, Array.replicate_succ, Array.replicate_zero, List.push_toArray, List.append_toArray, List.nil_append, List.cons_append]
  gi_wp2
  go_ret
  exact ⟨rfl, rfl⟩
theorem auras_own (n : Nat) (hn : 3 ≤ n) (t : Tb) (fx : List KX) (ps : List Pc) (B R L Bs : Nat) (hR : B ≤ R) (hs : Bs ≠ R) (hnp : t.np = ps.length) (hfew : ps.length ≤ 144) (hnk : t.nk = fx.length) (hdf : ∀ p ∈ ps, p.df < fx.length) (w : World) (hRW : R < w.heap.size) (hL : L ≤ w.heap.size + 2) (hBW : B ≤ w.heap.size)
    (htb : w.heap[Bs]? = some (.cells t.row 28 (0, 0))) (hpc : PiecesFx w B t.qp ps) (hkd : KindsFx w B t.qk fx) :
    SeqOwn n Try.prog 46 #[.pointer (some ⟨Bs, 0, none⟩)] axEnc (KpO R L) (fun xs => xs = aurasTo fx ps ps.length) (fun pre => pre <+: aurasTo fx ps ps.length) (fun x => x.1 < ps.length) (aurasTo fx ps ps.length).length w :=
  fun l J Jx W hW hsz hJ hJx hY h0 => auras_in n hn t fx ps B R L Bs l hR hs hnp hfew hnk hdf J Jx W (Nat.lt_of_lt_of_le hRW hW.size) (Nat.le_trans hL hsz) (Nat.le_trans hBW hW.size) hJ hJx hY
    ((hW.block _ (heap_lt htb)).trans htb) (hpc.keep hR (KpC.below hW)) (hkd.keep hR (KpC.below hW)) h0

/-- What stays through the loop over auras; the attack so far. -/
structure AT (t : Tb) (i : Nat) (R : Nat) (v : Int) (w V : World) : Prop where
  bel : Below w.heap.size w V
  tbox : V.heap[w.heap.size]? = some (.cells t.row 28 (0, 0))
  ibox : V.heap[w.heap.size + 1]? = some (.cells #[.int .i64 (i : Int)] 3 (0, 0))
  abox : V.heap[R]? = some (.cells #[.int .i64 v] 3 (0, 0))
theorem AT.own {t : Tb} {i R : Nat} {v : Int} {w X Y : World} {row : Option Nat} {D : Nat} (h : AT t i R v w X) (hD : R < D) (hw : w.heap.size + 1 < R) (hg : X.grownBy Y row) (hr : ∀ r, row = some r → D ≤ r ∧ ∃ o : Obj, X.heap[r]? = some o ∧ o.isCells = false) : AT t i R v w Y :=
  ⟨h.bel.grown hg h.bel.size (fun k e => by have := (hr k e).1; omega),
   (hg.block _ (heap_lt h.tbox) (fun e => by have := (hr _ e.symm).1; omega)).trans h.tbox,
   (hg.block _ (heap_lt h.ibox) (fun e => by have := (hr _ e.symm).1; omega)).trans h.ibox,
   (hg.block _ (heap_lt h.abox) (fun e => by have := (hr _ e.symm).1; omega)).trans h.abox⟩
theorem AT.below {t : Tb} {i R : Nat} {v : Int} {w X Y : World} (h : AT t i R v w X) (hb : Below X.heap.size X Y) : AT t i R v w Y :=
  ⟨h.bel.trans (hb.mono h.bel.size), (hb.block _ (heap_lt h.tbox)).trans h.tbox, (hb.block _ (heap_lt h.ibox)).trans h.ibox, (hb.block _ (heap_lt h.abox)).trans h.abox⟩
theorem AT.put {t : Tb} {i R : Nat} {v : Int} {w X : World} (h : AT t i R v w X) (hw : w.heap.size + 1 < R) (u : Int) : AT t i R u w (X.setCell ⟨R, 0, none⟩ (.int .i64 u)) :=
  ⟨h.bel.trans ⟨rfl, rfl, rfl, by simp [World.setCell], fun k hk => heap_setCell_other _ _ _ _ (by show k ≠ R; omega)⟩,
   (heap_setCell_other _ _ _ _ (by show w.heap.size ≠ R; omega)).trans h.tbox, (heap_setCell_other _ _ _ _ (by show w.heap.size + 1 ≠ R; omega)).trans h.ibox,
   by rw [heap_setCell_same _ _ _ _ _ _ h.abox]; rfl⟩
theorem KpO.below {R L : Nat} {W W' : World} (h : Below W.heap.size W W') : KpO R L W W' := ⟨KpC.below h, h.size, fun k o _ hk _ => (h.block k (heap_lt hk)).trans hk⟩
theorem KpO.put {R L : Nat} {W : World} {cs : Array Value} {ty : TypeId} (hR : W.heap[R]? = some (.cells cs ty (0, 0))) (u : Value) : KpO R L W (W.setCell ⟨R, 0, none⟩ u) :=
  ⟨⟨by simp [World.setCell], fun k o hk ho _ => (heap_setCell_other _ _ _ _ (by show k ≠ R; omega)).trans ho⟩, by simp [World.setCell], fun k o _ ho hc => (heap_setCell_other _ _ _ _ (fun e => by
    have e : k = R := e
    rw [e, hR] at ho; cases ho; cases hc)).trans ho⟩
theorem keeps_from {R L : Nat} {W W' : World} (h : KpO R L W W') {D : Nat} (hk : ∀ (k : Nat) (o : Obj), D ≤ k → k < L → W.heap[k]? = some o → o.isCells = false → W'.heap[k]? = some o) : KeepsFrom D W W' :=
  ⟨h.1.size, fun k o hD ho hc => if hL : L ≤ k then h.2.same k o hL ho hc else hk k o hD (by omega) ho hc⟩

theorem leave_int {n : Nat} {P : Program} {fn : Func} {tmps : Array Value} {v : Value} {w0 : World} (hf : fn.results = #[.tmp 4]) (hv : tmps.getD 4 undef = v) (ds : List Nat) (V : World) (hn : ds.Nodup) (hd : ∀ D ∈ ds, w0.heap.size ≤ D ∧ V.heap[D]? = some (.deferred (some []))) (hb : Below w0.heap.size w0 V) :
    LeavesInM Fence.wide n P fn tmps (fun e w' => e = .returned v ∧ Below w0.heap.size w0 w') (marks ds) .returning V :=
  leaves_marks (B := w0.heap.size) (X := fun V => Below w0.heap.size w0 V) (fun _ X Y row h hg hr => h.grown hg h.size (fun k e => (hr k e).1)) (fun V hb => ⟨_, results_tmp hf _ _ _, by rw [hv], hb⟩) ds V hn hd hb

set_option maxRecDepth 100000 in
set_option maxHeartbeats 8000000 in
theorem attack_any (t : Tb) (xs : List Cd) (fx : List KX) (ps : List Pc) (i : Nat) (p : Pc) (w : World) (hT : TabIn w t xs ps) (hL : LifeOk t) (hG : GoodB xs ps) (hi : ps[i]? = some p) (hz : ∀ q ∈ ps, q.zn ≤ 7) (hak : -99999 ≤ p.ak ∧ p.ak ≤ 99999)
    (hfew : ps.length ≤ 144) (hnk : t.nk = fx.length) (hdf : ∀ p ∈ ps, p.df < fx.length) (hpc : PiecesFx w w.heap.size t.qp ps) (hkd : KindsFx w w.heap.size t.qk fx) :
    Calls Try.prog 26 #[.agg t.row, .int .i64 (i : Int)] w fun e w' => e = .returned (.int .i64 (attackOf xs fx ps p i)) ∧ Below w.heap.size w w' := by
  obtain ⟨qk, nk, ck, qp, np, cp, tl0, tl1, tn, py, mo, qe, ne, ce, b0, b1⟩ := t
  have hnp := hT.np.1
  dsimp only at hnp hnk hpc hkd
  subst hnp
  have hil : i < ps.length := (List.getElem?_eq_some_iff.1 hi).1
  have i0 : (0 : Int) ≤ (i : Int) := by omega
  have i1 : (i : Int) < (ps.length : Int) := by omega
  obtain ⟨g, o, hq, hg, hc⟩ := hT.piece hi
  dsimp only at hq
  subst hq
  have HT := Lib.hid hT
  have HG := Lib.hid hG
  have HL := Lib.hid hL
  have HPC := Lib.hid hpc
  have HKD := Lib.hid hkd
  have HNK := Lib.hid hnk
  have HDF := Lib.hid hdf
  have HZ := Lib.hid hz
  have HI := Lib.hid hi
  have HAK := Lib.hid hak
  have HC := Lib.hid hc
  clear hT hG hL hpc hkd hnk hdf hz hi hak hc
  obtain ⟨w1, hw1⟩ : ∃ w1, w1 = (w.alloc (.cells (Tb.row ⟨qk, nk, ck, some ⟨g, o, none⟩, ps.length, cp, tl0, tl1, tn, py, mo, qe, ne, ce, b0, b1⟩) 28)).alloc (.cells #[.int .i64 (i : Int)] 3) := ⟨_, rfl⟩
  have hb1 : Below w.heap.size w w1 := by rw [hw1]; exact ((Below.refl _ _).alloc (Nat.le_refl _) _).alloc (by simp) _
  have hs1 : w1.heap.size = w.heap.size + 1 + 1 := by rw [hw1]; simp
  have ht1 : w1.heap[w.heap.size]? = some (.cells (Tb.row ⟨qk, nk, ck, some ⟨g, o, none⟩, ps.length, cp, tl0, tl1, tn, py, mo, qe, ne, ce, b0, b1⟩) 28 (0, 0)) := by rw [hw1]; exact heap_older (heap_alloc_new _ _)
  have hi1 : w1.heap[w.heap.size + 1]? = some (.cells #[.int .i64 (i : Int)] 3 (0, 0)) := by rw [hw1]; exact heap_newer _ _ _ (by simp)
  have HW1 := Lib.hid hw1
  have HB1 := Lib.hid hb1
  have HT1 := Lib.hid ht1
  have HI1 := Lib.hid hi1
  clear hw1 hb1 ht1 hi1
  have hmay := Lib.hid fun (W : World) (hb : Below w.heap.size w W) => bmay_yes ⟨qk, nk, ck, some ⟨g, o, none⟩, ps.length, cp, tl0, tl1, tn, py, mo, qe, ne, ce, b0, b1⟩ xs ps W (HT.out.below hb) HL.out HG.out
  have hthe := Lib.hid fun (W : World) => might_there_yes ⟨qk, nk, ck, some ⟨g, o, none⟩, ps.length, cp, tl0, tl1, tn, py, mo, qe, ne, ce, b0, b1⟩ i W hil
  have hmak := Lib.hid fun (n : Nat) (W : World) => auras_make n ⟨qk, nk, ck, some ⟨g, o, none⟩, ps.length, cp, tl0, tl1, tn, py, mo, qe, ne, ce, b0, b1⟩ W
  simp only [Tb.row] at *
  refine (callsIn_wide (n := 4)).1 ?_
  refine callsIn_of_wp_marks Try.func26 rfl trivial ?_ rfl
  simp only [Try.ntmps26, List.size_toArray, List.length_cons, List.length_nil, Nat.reduceAdd, Nat.reduceSub, Array.replicate_succ, Array.replicate_zero, List.push_toArray, List.append_toArray, List.nil_append, List.cons_append]
  gi_wp2
  rw [← HW1.out]
  refine ⟨trivial, (callsIn_wide.2 (hmay.out w1 HB1.out)).mono ?_⟩
  rintro e w2 ⟨rfl, b2⟩
  have B2 := Lib.hid (HB1.out.trans (b2.mono HB1.out.size))
  have t2 := Lib.hid ((b2.block _ (heap_lt HT1.out)).trans HT1.out)
  have i2 := Lib.hid ((b2.block _ (heap_lt HI1.out)).trans HI1.out)
  clear b2
  have y0 := cell_blk (i := 0) t2.out
  have y1 := cell_blk (i := 1) t2.out
  have y2 := cell_blk (i := 2) t2.out
  have y3 := cell_blk (i := 3) t2.out
  have y4 := cell_blk (i := 4) t2.out
  have y5 := cell_blk (i := 5) t2.out
  have y6 := cell_blk (i := 6) t2.out
  have y7 := cell_blk (i := 7) t2.out
  have y8 := cell_blk (i := 8) t2.out
  have y9 := cell_blk (i := 9) t2.out
  have z0 := cell_blk (i := 0) i2.out
  simp at y0 y1 y2 y3 y4 y5 y6 y7 y8 y9 z0
  gi_wp2
  refine ⟨trivial, (callsIn_wide.2 (hthe.out w2)).mono ?_⟩
  rintro e w3 ⟨rfl, b3⟩
  have B3 := Lib.hid (B2.out.trans (b3.mono B2.out.size))
  have t3 := Lib.hid ((b3.block _ (heap_lt t2.out)).trans t2.out)
  have i3 := Lib.hid ((b3.block _ (heap_lt i2.out)).trans i2.out)
  clear b3 y0 y1 y2 y3 y4 y5 y6 y7 y8 y9 z0
  have y0 := cell_blk (i := 0) t3.out
  have y1 := cell_blk (i := 1) t3.out
  have y2 := cell_blk (i := 2) t3.out
  have y3 := cell_blk (i := 3) t3.out
  have y4 := cell_blk (i := 4) t3.out
  have y5 := cell_blk (i := 5) t3.out
  have y6 := cell_blk (i := 6) t3.out
  have y7 := cell_blk (i := 7) t3.out
  have y8 := cell_blk (i := 8) t3.out
  have y9 := cell_blk (i := 9) t3.out
  have z0 := cell_blk (i := 0) i3.out
  simp at y0 y1 y2 y3 y4 y5 y6 y7 y8 y9 z0
  have c0 := (B3.out.cell hg).trans (HC.out 0 _ rfl)
  have c1 := (B3.out.cell hg).trans (HC.out 1 _ rfl)
  have c2 := (B3.out.cell hg).trans (HC.out 2 _ rfl)
  have c3 := (B3.out.cell hg).trans (HC.out 3 _ rfl)
  have c4 := (B3.out.cell hg).trans (HC.out 4 _ rfl)
  have c5 := (B3.out.cell hg).trans (HC.out 5 _ rfl)
  have c6 := (B3.out.cell hg).trans (HC.out 6 _ rfl)
  have c7 := (B3.out.cell hg).trans (HC.out 7 _ rfl)
  have c8 := (B3.out.cell hg).trans (HC.out 8 _ rfl)
  have c9 := (B3.out.cell hg).trans (HC.out 9 _ rfl)
  have c10 := (B3.out.cell hg).trans (HC.out 10 _ rfl)
  have c11 := (B3.out.cell hg).trans (HC.out 11 _ rfl)
  have c12 := (B3.out.cell hg).trans (HC.out 12 _ rfl)
  have c13 := (B3.out.cell hg).trans (HC.out 13 _ rfl)
  simp only [Nat.add_zero] at c0
  gi_wp2
  refine ⟨trivial, (callsIn_wide.2 (plus_any p.ak p.bo _ HAK.out)).mono ?_⟩
  rintro e w4 ⟨rfl, rfl⟩
  by_cases hzn : p.zn = 2
  · have hat : Hid (attackOf xs fx ps p i = max (upTo xs ps p i (aurasTo fx ps ps.length)) 0) := Lib.hid (if_pos hzn)
    have e1 : ((p.zn : Int) != 2) = false := by simp [hzn]
    obtain ⟨W4, hW4⟩ : ∃ W4, W4 = (w3.alloc (.cells #[.int .i64 p.df, .int .i64 p.ak, .int .i64 p.gd, .int .u8 p.ow, .int .u8 p.hs, .int .u8 p.zn, .int .i64 p.pl, .bool p.up, .bool p.lw, .int .i64 p.sc, .int .u8 p.us, .bool p.sk, .bool p.tu, .int .i64 p.bo] 51)).alloc (.cells #[.int .i64 (plusI p.ak p.bo)] 3) := ⟨_, rfl⟩
    have b4 : Below w3.heap.size w3 W4 := by rw [hW4]; exact ((Below.refl _ _).alloc (Nat.le_refl _) _).alloc (by simp) _
    have s4 : W4.heap.size = w3.heap.size + 1 + 1 := by rw [hW4]; simp
    have lt0 := heap_lt t3.out
    have lt1 := heap_lt i3.out
    have a4 : AT ⟨qk, nk, ck, some ⟨g, o, none⟩, ps.length, cp, tl0, tl1, tn, py, mo, qe, ne, ce, b0, b1⟩ i (w3.heap.size + 1) (plusI p.ak p.bo) w W4 := ⟨B3.out.trans (b4.mono B3.out.size), (b4.block _ lt0).trans t3.out, (b4.block _ lt1).trans i3.out, by rw [hW4]; exact heap_newer _ _ _ (by simp)⟩
    have HW4 := Lib.hid hW4
    have A4 := Lib.hid a4
    have S4 := Lib.hid s4
    clear hzn hW4 b4 a4 s4
    gi_wp2_with fail
    rw [← HW4.out]
    refine ⟨trivial, (hmak.out _ _).mono ?_⟩
    rintro e w' ⟨rfl, rfl⟩
    obtain ⟨W5, hW5⟩ : ∃ W5, W5 = W4.alloc (.cells #[.slice qk nk ck, .slice (some ⟨g, o, none⟩) ps.length cp, .int .i64 tl0, .int .i64 tl1, .int .i64 tn, .int .u8 py, .int .i64 mo, .slice qe ne ce, .bool b0, .bool b1] 28) := ⟨_, rfl⟩
    have b5 : Below W4.heap.size W4 W5 := by rw [hW5]; exact (Below.refl _ _).alloc (Nat.le_refl _) _
    have S5 := Lib.hid (show W5.heap.size = W4.heap.size + 1 by rw [hW5]; simp)
    have tb5 : W5.heap[W4.heap.size]? = some (.cells #[.slice qk nk ck, .slice (some ⟨g, o, none⟩) ps.length cp, .int .i64 tl0, .int .i64 tl1, .int .i64 tn, .int .u8 py, .int .i64 mo, .slice qe ne ce, .bool b0, .bool b1] 28 (0, 0)) := by rw [hW5]; exact heap_alloc_new _ _
    have A5 := Lib.hid (A4.out.below b5)
    have hkp : KpC (w3.heap.size + 1) w W5 := KpC.below A5.out.bel
    rw [← hW5]
    have H5 := Lib.hid hW5
    clear hW5
    gi_wp2
    have s4 := S4.out
    have s5 := S5.out
    refine range_own (n := 4) (gf := 46) (lb := #[.pointer (some ⟨W4.heap.size, 0, none⟩)]) rfl (enters_of Try.func46 (by kernel_rfl) rfl)
      (auras_own 3 (by omega) ⟨qk, nk, ck, some ⟨g, o, none⟩, ps.length, cp, tl0, tl1, tn, py, mo, qe, ne, ce, b0, b1⟩ fx ps w.heap.size (w3.heap.size + 1) (W5.heap.size + 2) W4.heap.size (by omega) (by omega) rfl hfew HNK.out HDF.out W5 (by omega) (Nat.le_refl _) (by omega) tb5 (HPC.out.keep (R := w3.heap.size + 1) (by omega) hkp) (HKD.out.keep (by omega) hkp))
      (fun h k => h.trans k) (fun V o o' q1 q2 => ⟨KpC.put V _ o o' q1 q2, by simp, fun k x hk hx _ => (World.putObj_heap_other (by omega)).trans hx⟩) (fun _ => rfl)
      (fun pre V => AT ⟨qk, nk, ck, some ⟨g, o, none⟩, ps.length, cp, tl0, tl1, tn, py, mo, qe, ne, ce, b0, b1⟩ i (w3.heap.size + 1) (upTo xs ps p i pre) w V ∧ W5.heap.size ≤ V.heap.size)
      (fun c pre V => c = .exit 0 ∧ ∃ pre0 x, pre = pre0 ++ [x] ∧ upTo xs ps p i pre0 = 99999 ∧ AT ⟨qk, nk, ck, some ⟨g, o, none⟩, ps.length, cp, tl0, tl1, tn, py, mo, qe, ne, ce, b0, b1⟩ i (w3.heap.size + 1) 99999 w V)
      (fun s X Y row h hg hr => ⟨h.1.own (by omega) (by omega) hg hr, Nat.le_trans h.2 hg.size⟩)
      (fun c s X Y row h hg hr => by
        obtain ⟨h1, pre0, x, h2, h3, h4⟩ := h
        exact ⟨h1, pre0, x, h2, h3, h4.own (by omega) (by omega) hg hr⟩)
      ⟨A5.out, Nat.le_refl _⟩
      (fun x a' V => ∃ (Bx : Nat) (v4 v5 v9 v10 v11 v12 v13 v14 v15 v16 v17 v18 v19 v20 v21 v22 v23 v24 v25 v26 v27 v28 v29 v30 v31 v32 v33 v34 v35 v36 v37 v38 v39 v40 v41 v42 v43 v44 v45 v46 v47 v48 v49 v50 v51 v52 v53 v54 v55 v56 v57 v58 : Value), W5.heap.size ≤ Bx ∧ V.heap[Bx]? = some (.cells x.2.row 70 (0, 0)) ∧ a' = { tmps := #[.agg #[.slice qk nk ck, .slice (some ⟨g, o, none⟩) ps.length cp, .int .i64 tl0, .int .i64 tl1, .int .i64 tn, .int .u8 py, .int .i64 mo, .slice qe ne ce, .bool b0, .bool b1], .int .i64 (i : Int), .pointer (some ⟨w.heap.size, 0, none⟩), .pointer (some ⟨w.heap.size + 1, 0, none⟩), v4, v5, .pointer (some ⟨w3.heap.size + 1, 0, none⟩), .int .i64 (x.1 : Int), .pointer (some ⟨Bx, 0, none⟩), v9, v10, v11, v12, v13, v14, v15, v16, v17, v18, v19, v20, v21, v22, v23, v24, v25, v26, v27, v28, v29, v30, v31, v32, v33, v34, v35, v36, v37, v38, v39, v40, v41, v42, v43, v44, v45, v46, v47, v48, v49, v50, v51, v52, v53, v54, v55, v56, v57, v58], defers := [] })
      (fun x a' _ X Y row h hg hr => by
        obtain ⟨Bx, v4, v5, v9, v10, v11, v12, v13, v14, v15, v16, v17, v18, v19, v20, v21, v22, v23, v24, v25, v26, v27, v28, v29, v30, v31, v32, v33, v34, v35, v36, v37, v38, v39, v40, v41, v42, v43, v44, v45, v46, v47, v48, v49, v50, v51, v52, v53, v54, v55, v56, v57, v58, q1, q2, q3⟩ := h
        refine ⟨Bx, v4, v5, v9, v10, v11, v12, v13, v14, v15, v16, v17, v18, v19, v20, v21, v22, v23, v24, v25, v26, v27, v28, v29, v30, v31, v32, v33, v34, v35, v36, v37, v38, v39, v40, v41, v42, v43, v44, v45, v46, v47, v48, v49, v50, v51, v52, v53, v54, v55, v56, v57, v58, q1, (hg.block _ (heap_lt q2) (fun e => ?_)).trans q2, q3⟩
        obtain ⟨o', ho', hc'⟩ := (hr _ e.symm).2
        rw [q2] at ho'; cases ho'; cases hc')
      ?assign ?body ?done ?stop
    case assign =>
      rintro l' pre ⟨k, ⟨f1, f2, f3, f4, f5, f6, f7, f8, f9, f10, f11, f12, f13, f14, f15⟩⟩ V K ⟨q1, q2⟩ hK
      simp only [axEnc, SX.row]
      simp only [SX.row] at hK
      gi_wp2
      exact hK _ _ ((KeepsOthers.alloc _ _).from _) (KpO.below ((Below.refl _ _).alloc (Nat.le_refl _) _))
        ⟨q1.below ((Below.refl _ _).alloc (Nat.le_refl _) _), Nat.le_trans q2 (by simp)⟩ ⟨V.heap.size, _, _, _, _, _, _, _, _, _, _, _, _, _, _, _, _, _, _, _, _, _, _, _, _, _, _, _, _, _, _, _, _, _, _, _, _, _, _, _, _, _, _, _, _, _, _, _, _, _, _, _, _, q2, heap_alloc_new _ _, rfl⟩
    case body =>
      rintro l' pre ⟨k, ⟨f1, f2, f3, f4, f5, f6, f7, f8, f9, f10, f11, f12, f13, f14, f15⟩⟩ a' V hl' ⟨r, hr⟩ ⟨q1, q2⟩ ⟨Bx, v4, v5, v9, v10, v11, v12, v13, v14, v15, v16, v17, v18, v19, v20, v21, v22, v23, v24, v25, v26, v27, v28, v29, v30, v31, v32, v33, v34, v35, v36, v37, v38, v39, v40, v41, v42, v43, v44, v45, v46, v47, v48, v49, v50, v51, v52, v53, v54, v55, v56, v57, v58, qb, qx, rfl⟩ hlen hk
      dsimp only at hk
      simp only [SX.row] at qx
      obtain ⟨h, hh⟩ : ∃ h, ps[k]? = some h := ⟨ps[k]'hk, List.getElem?_eq_getElem _⟩
      have hTV : TabIn V ⟨qk, nk, ck, some ⟨g, o, none⟩, ps.length, cp, tl0, tl1, tn, py, mo, qe, ne, ce, b0, b1⟩ xs ps := HT.out.below q1.bel
      obtain ⟨g', o', hq', hg', hc'⟩ := hTV.piece hh
      simp only [Option.some.injEq, Addr.mk.injEq, and_true] at hq'
      obtain ⟨rfl, rfl⟩ := hq'
      have hhas : V.cell? ⟨g, o + k * 14 + 4, none⟩ = some (.int .u8 h.hs) := hc' 4 _ rfl
      have HHH := Lib.hid hh
      have HTV := Lib.hid hTV
      have kz : (0 : Int) ≤ (k : Int) := by omega
      have kl : (k : Int) < (ps.length : Int) := by omega
      clear hh hTV hc'
      have y0 := cell_blk (i := 0) q1.tbox
      have y1 := cell_blk (i := 1) q1.tbox
      have y2 := cell_blk (i := 2) q1.tbox
      have y3 := cell_blk (i := 3) q1.tbox
      have y4 := cell_blk (i := 4) q1.tbox
      have y5 := cell_blk (i := 5) q1.tbox
      have y6 := cell_blk (i := 6) q1.tbox
      have y7 := cell_blk (i := 7) q1.tbox
      have y8 := cell_blk (i := 8) q1.tbox
      have y9 := cell_blk (i := 9) q1.tbox
      have z0 := cell_blk (i := 0) q1.ibox
      have r0 := cell_blk (i := 0) q1.abox
      have x0 := cell_blk (i := 0) qx
      have x1 := cell_blk (i := 1) qx
      have x2 := cell_blk (i := 2) qx
      have x3 := cell_blk (i := 3) qx
      have x4 := cell_blk (i := 4) qx
      have x5 := cell_blk (i := 5) qx
      have x6 := cell_blk (i := 6) qx
      have x7 := cell_blk (i := 7) qx
      have x8 := cell_blk (i := 8) qx
      have x9 := cell_blk (i := 9) qx
      have x10 := cell_blk (i := 10) qx
      have x11 := cell_blk (i := 11) qx
      have x12 := cell_blk (i := 12) qx
      simp [Tb.row] at y0 y1 y2 y3 y4 y5 y6 y7 y8 y9 z0 r0 x0 x1 x2 x3 x4 x5 x6 x7 x8 x9 x10 x11 x12
      have Q1 := Lib.hid q1
      have hsnoc := Lib.hid (upTo_snoc xs ps p i pre (k, ⟨f1, f2, f3, f4, f5, f6, f7, f8, f9, f10, f11, f12, f13, f14, f15⟩))
      have hadd : Hid (∀ a, addUp xs ps p i a (k, ⟨f1, f2, f3, f4, f5, f6, f7, f8, f9, f10, f11, f12, f13, f14, f15⟩) = if ofB xs p h.hs k ⟨f13, f14, f15⟩ i = true then plusI a (max f4 0) else a) := Lib.hid fun a => by simp only [addUp, HHH.out]
      have BD := Lib.hid (upTo_bd (xs := xs) (ps := ps) (p := p) (id := i) pre)
      have QX := Lib.hid qx
      have QB := Lib.hid qb
      have ltR := heap_lt q1.abox
      have ltX := heap_lt qx
      clear q1 qx qb hlen hk s4 s5
      by_cases full : upTo xs ps p i pre = 99999
      · have FULL := Lib.hid full
        rw [full] at r0
        have e3 : ((99999 : Int) == 99999) = true := rfl
        clear full
        gi_wp2
        exact ⟨⟨KeepsFrom.refl _ _, KpO.below (Below.refl _ _)⟩, rfl, pre, _, rfl, FULL.out, FULL.out ▸ Q1.out⟩
      · have e3 : (upTo xs ps p i pre == 99999) = false := by simp; omega
        clear full
        gi_wp2
        have cO : ∀ d os, CallsIn Fence.wide (4 - 1 - 1 - 1) Try.prog 41 #[.agg #[.slice qk nk ck, .slice (some ⟨g, o, none⟩) ps.length cp, .int .i64 tl0, .int .i64 tl1, .int .i64 tn, .int .u8 py, .int .i64 mo, .slice qe ne ce, .bool b0, .bool b1], .int .u8 h.hs, .int .i64 (k : Int), .agg #[.int .u8 f13, .int .u8 f14, .int .u8 f15], .int .i64 (i : Int)] (grow (redrawn V d) os) fun e w'' => e = .returned (.bool (ofB xs p h.hs k ⟨f13, f14, f15⟩ i)) ∧ ∃ p : Regrown, w'' = grow (redrawn V p.d) p.os := fun d os => CallsIn.regrown_of (callsIn_wide.2 (of_any ⟨qk, nk, ck, some ⟨g, o, none⟩, ps.length, cp, tl0, tl1, tn, py, mo, qe, ne, ce, b0, b1⟩ xs ps i p h.hs k ⟨f13, f14, f15⟩ _ (HTV.out.below (below_regrown V d os)) HI.out (HZ.out p (List.mem_of_getElem? HI.out))))
        have k_y0 := cell_regrown y0
        have k_y1 := cell_regrown y1
        have k_y2 := cell_regrown y2
        have k_y3 := cell_regrown y3
        have k_y4 := cell_regrown y4
        have k_y5 := cell_regrown y5
        have k_y6 := cell_regrown y6
        have k_y7 := cell_regrown y7
        have k_y8 := cell_regrown y8
        have k_y9 := cell_regrown y9
        have k_z0 := cell_regrown z0
        have k_r0 := cell_regrown r0
        have k_hhas := cell_regrown hhas
        have k_x0 := cell_regrown x0
        have k_x1 := cell_regrown x1
        have k_x2 := cell_regrown x2
        have k_x3 := cell_regrown x3
        have k_x4 := cell_regrown x4
        have k_x5 := cell_regrown x5
        have k_x6 := cell_regrown x6
        have k_x7 := cell_regrown x7
        have k_x8 := cell_regrown x8
        have k_x9 := cell_regrown x9
        have k_x10 := cell_regrown x10
        have k_x11 := cell_regrown x11
        have k_x12 := cell_regrown x12
        refine region_round rfl (by kernel_rfl) (by kernel_rfl) (by kernel_rfl) ?_
        repeat (
          refine wpQuietIn_step (fun _ _ _ _ => trivial) (fun K hK => ?_)
          go_simp
          first
            | (refine hK _ ?_; clear hK K)
            | (apply Exists.intro
               refine ⟨fun _ => ?_, hK _ ?_⟩
               (first | exact ⟨by omega, cO _ _⟩ | exact ⟨by simp [Fence.wide], cO _ _⟩ | exact cO _ _)
               clear hK K))
        refine wpQuietIn_nil ?_
        rintro V2 ⟨rg, hV2⟩
        have b2 : Below V.heap.size V V2 := by rw [hV2]; exact below_regrown _ _ _
        have r1 := (b2.cell (p := ⟨w3.heap.size + 1, 0, none⟩) ltR).trans r0
        have x31 := (b2.cell (p := ⟨Bx, 3, none⟩) ltX).trans x3
        have ltR2 := Nat.lt_of_lt_of_le ltR b2.size
        have kk := Lib.hid (KpO.below (R := w3.heap.size + 1) (L := W5.heap.size) b2)
        have kl' := Lib.hid (KpO.below (R := w3.heap.size + 1) (L := W5.heap.size + 2) b2)
        have Q3 := Lib.hid (Q1.out.below b2)
        have hfz : V2.frozen? ⟨w3.heap.size + 1, 0, none⟩ = false := by simp [World.frozen?, Q3.out.abox]
        have hle := Lib.hid (Nat.le_trans q2 b2.size)
        clear hV2 b2 cO k_y0 k_y1 k_y2 k_y3 k_y4 k_y5 k_y6 k_y7 k_y8 k_y9 k_z0 k_r0 k_hhas k_x0 k_x1 k_x2 k_x3 k_x4 k_x5 k_x6 k_x7 k_x8 k_x9 k_x10 k_x11 k_x12 y0 y1 y2 y3 y4 y5 y6 y7 y8 y9 z0 r0 hhas x0 x1 x2 x3 x4 x5 x6 x7 x8 x9 x10 x11 x12
        cases hof : ofB xs p h.hs k ⟨f13, f14, f15⟩ i with
        | false =>
          have HOF := Lib.hid hof
          clear hof
          gi_wp2
          exact ⟨⟨kk.out.2, kl'.out⟩, by rw [hsnoc.out, hadd.out, if_neg (by simp [HOF.out])]; exact Q3.out, hle.out⟩
        | true =>
          have HOF := Lib.hid hof
          clear hof
          by_cases hf : f4 < 0
          · have hm : Hid (max f4 0 = 0) := Lib.hid (by omega)
            gi_wp2
            refine ⟨by first | exact trivial | exact fun _ => by omega, (callsIn_wide.2 (plus_any _ _ _ BD.out)).mono ?_⟩
            rintro e w' ⟨rfl, rfl⟩
            gi_wp2
            exact ⟨⟨(kk.out.trans (KpO.put Q3.out.abox _)).2, kl'.out.trans (KpO.put Q3.out.abox _)⟩, by rw [hsnoc.out, hadd.out, if_pos HOF.out, hm.out]; exact Q3.out.put (by omega) _, Nat.le_trans hle.out (by simp [World.setCell])⟩
          · have hm : Hid (max f4 0 = f4) := Lib.hid (by omega)
            gi_wp2
            refine ⟨by first | exact trivial | exact fun _ => by omega, (callsIn_wide.2 (plus_any _ _ _ BD.out)).mono ?_⟩
            rintro e w' ⟨rfl, rfl⟩
            gi_wp2
            exact ⟨⟨(kk.out.trans (KpO.put Q3.out.abox _)).2, kl'.out.trans (KpO.put Q3.out.abox _)⟩, by rw [hsnoc.out, hadd.out, if_pos HOF.out, hm.out]; exact Q3.out.put (by omega) _, Nat.le_trans hle.out (by simp [World.setCell])⟩
    case done =>
      rintro ys V rfl ⟨q1, q2⟩ hK
      have r0 := cell_blk (i := 0) q1.abox
      simp at r0
      have ltR := heap_lt q1.abox
      have Q1 := Lib.hid q1
      clear q1 q2 s4 s5
      gi_wp2
      all_goals exact leave_int rfl (by rw [hat.out]; simp; omega) [W5.heap.size] _ (by simp) (fun D hD => by simp at hD; subst hD; exact ⟨A5.out.bel.size, hK⟩) Q1.out.bel
    case stop =>
      rintro c pre V hpre ⟨rfl, pre0, x, rfl, h3, q1⟩ hK
      have r0 := cell_blk (i := 0) q1.abox
      simp at r0
      have ltR := heap_lt q1.abox
      have Q1 := Lib.hid q1
      have hfull : Hid (upTo xs ps p i (aurasTo fx ps ps.length) = 99999) := Lib.hid (upTo_full ((List.prefix_append _ _).trans hpre) h3)
      clear q1 s4 s5 h3 hpre
      gi_wp2
      exact leave_int rfl (by rw [hat.out, hfull.out]; rfl) [W5.heap.size] _ (by simp) (fun D hD => by simp at hD; subst hD; exact ⟨A5.out.bel.size, hK⟩) Q1.out.bel
  · have hat : Hid (attackOf xs fx ps p i = max (plusI p.ak p.bo) 0) := Lib.hid (if_neg hzn)
    have e1 : ((p.zn : Int) != 2) = true := by simp; omega
    clear hzn
    gi_wp2
    all_goals exact leave_int rfl (by rw [hat.out]; simp; omega) [] _ List.nodup_nil (fun D h => by simp at h) (B3.out.trans ((((Below.refl _ w3).alloc (Nat.le_refl _) _).alloc (by simp) _).mono B3.out.size))
end Go.Proofs.Ytlbbabojejimpaa
