import Derived.Test.YtlbbabojejimpaaQTbRange
/- might.auras: what gives attack on a table, one by one: an iterator over iterators. -/
namespace Go.Proofs.Ytlbbabojejimpaa
open Go.RowKit Go.Lib Go.Shelf
attribute [local go_sem] Oper.semAt_some

/-- A kind's effects, as they lie. -/
structure KX where
  qe : Option Addr
  ce : Nat
  es : List EX
structure KindsFx (w : World) (B : Nat) (qk : Option Addr) (fx : List KX) : Prop where
  kind : ∀ (i : Nat) (x : KX), fx[i]? = some x → ∃ b o, qk = some ⟨b, o, none⟩ ∧ b < B ∧ w.cell? ⟨b, o + i * 6 + 5, none⟩ = some (.slice x.qe x.es.length x.ce) ∧ EffsAt w B x.qe x.es
structure PiecesFx (w : World) (B : Nat) (qp : Option Addr) (ps : List Pc) : Prop where
  piece : ∀ (i : Nat) (p : Pc), ps[i]? = some p → ∃ b o, qp = some ⟨b, o, none⟩ ∧ b < B ∧ ∀ (j : Nat) (u : Value), (pcV p)[j]? = some u → w.cell? ⟨b, o + i * 14 + j, none⟩ = some u
theorem KindsFx.keep {W W' : World} {B R : Nat} {q : Option Addr} {fx : List KX} (h : KindsFx W B q fx) (hR : B ≤ R) (hk : KpC R W W') : KindsFx W' B q fx := ⟨fun i x hx => by
  obtain ⟨b, o, hq, hb, hc, he⟩ := h.kind i x hx
  exact ⟨b, o, hq, hb, hk.cell (by show b ≠ R; omega) hc, he.keep hR hk⟩⟩
theorem PiecesFx.keep {W W' : World} {B R : Nat} {q : Option Addr} {ps : List Pc} (h : PiecesFx W B q ps) (hR : B ≤ R) (hk : KpC R W W') : PiecesFx W' B q ps := ⟨fun i p hp => by
  obtain ⟨b, o, hq, hb, hc⟩ := h.piece i p hp
  exact ⟨b, o, hq, hb, fun j u hu => hk.cell (by show b ≠ R; omega) (hc j u hu)⟩⟩

abbrev AX := Nat × SX
def axEnc (x : AX) : Array Value := #[.int .i64 (x.1 : Int), .agg x.2.row]
def auraOf (fx : List KX) (k : Nat) (p : Pc) : List AX := if p.zn = 2 ∧ p.up = true ∧ 0 ≤ p.df then match fx[p.df.toNat]? with
  | some x => (gifts x.es).map fun s => (k, s)
  | none => [] else []
def aurasTo (fx : List KX) (ps : List Pc) (k : Nat) : List AX := (List.range k).flatMap fun i => match ps[i]? with
  | some p => auraOf fx i p
  | none => []
theorem aurasTo_next {fx : List KX} {ps : List Pc} {k : Nat} {p : Pc} (h : ps[k]? = some p) : aurasTo fx ps (k + 1) = aurasTo fx ps k ++ auraOf fx k p := by
  unfold aurasTo
  rw [List.range_succ, List.flatMap_append]
  simp [h]
theorem aurasTo_pre (fx : List KX) (ps : List Pc) {k m : Nat} (h : k ≤ m) : aurasTo fx ps k <+: aurasTo fx ps m := by
  induction h with
  | refl => exact List.prefix_refl _
  | step _ ih =>
    refine ih.trans ?_
    unfold aurasTo
    rw [List.range_succ, List.flatMap_append]
    exact List.prefix_append _ _
theorem aura_pre {fx : List KX} {ps : List Pc} {k : Nat} {p : Pc} (h : ps[k]? = some p) {l : List AX} (hl : l <+: auraOf fx k p) : aurasTo fx ps k ++ l <+: aurasTo fx ps ps.length := by
  have h1 : aurasTo fx ps k ++ auraOf fx k p <+: aurasTo fx ps ps.length := by
    rw [← aurasTo_next h]
    exact aurasTo_pre fx ps (by have := (List.getElem?_eq_some_iff.1 h).1; omega)
  exact ((List.prefix_append_right_inj _).2 hl).trans h1

/-- What a round of the loop over auras keeps: cells but for one block; what is no cells, from one block on. -/
def KpO (R L : Nat) (W W' : World) : Prop := KpC R W W' ∧ KeepsFrom L W W'
theorem KpO.trans {R L : Nat} {A B C : World} (h : KpO R L A B) (k : KpO R L B C) : KpO R L A C := ⟨h.1.trans k.1, h.2.trans k.2⟩

/-- What stays through the loop over a table's pieces. -/
structure AF (t : Tb) (fx : List KX) (ps : List Pc) (B Bs By l : Nat) (ds : List Nat) (w : World) : Prop where
  ybox : w.heap[By]? = some (.cells #[.func (.yield l) #[] #[]] 93 (0, 0))
  tbox : w.heap[Bs]? = some (.cells t.row 28 (0, 0))
  pcs : PiecesFx w B t.qp ps
  knd : KindsFx w B t.qk fx
  mks : ∀ D ∈ ds, w.heap[D]? = some (.deferred (some []))
  nod : ds.Nodup
theorem AF.keep {t : Tb} {fx : List KX} {ps : List Pc} {B R Bs By l : Nat} {ds : List Nat} {w w' : World} (h : AF t fx ps B Bs By l ds w) (hR : B ≤ R) (hs : Bs ≠ R) (hy : By ≠ R) (hk : KpC R w w') (hd : ∀ D ∈ ds, w'.heap[D]? = w.heap[D]?) : AF t fx ps B Bs By l ds w' :=
  ⟨hk.same _ _ hy h.ybox rfl, hk.same _ _ hs h.tbox rfl, h.pcs.keep hR hk, h.knd.keep hR hk, fun D hD => (hd D hD).trans (h.mks D hD), h.nod⟩
theorem AF.below {t : Tb} {fx : List KX} {ps : List Pc} {B R Bs By l : Nat} {ds : List Nat} {w w' : World} (h : AF t fx ps B Bs By l ds w) (hR : B ≤ R) (hs : Bs ≠ R) (hy : By ≠ R) (hb : Below w.heap.size w w') : AF t fx ps B Bs By l ds w' :=
  h.keep hR hs hy (KpC.below hb) fun D hD => hb.block D (heap_lt (h.mks D hD))
/-- .. where a block that is no cells has turned, laid behind them. -/
theorem AF.own {t : Tb} {fx : List KX} {ps : List Pc} {B R Bs By l H : Nat} {ds : List Nat} {X Y : World} {row : Option Nat} (h : AF t fx ps B Bs By l ds X) (hR : B ≤ R) (hs : Bs ≠ R) (hy : By ≠ R) (hH : ∀ D ∈ ds, D < H) (hg : X.grownBy Y row) (hr : ∀ r, row = some r → H ≤ r ∧ ∃ o : Obj, X.heap[r]? = some o ∧ o.isCells = false) : AF t fx ps B Bs By l ds Y := by
  refine h.keep hR hs hy ⟨hg.size, fun k o _ hk hc => (hg.block k (heap_lt hk) (fun e => ?_)).trans hk⟩ fun D hD => hg.block D (heap_lt (h.mks D hD)) (fun e => ?_)
  · obtain ⟨o', ho', hc'⟩ := (hr k e.symm).2
    rw [hk] at ho'; cases ho'; rw [hc] at hc'; cases hc'
  · have := (hr D e.symm).1
    have := hH D hD
    omega

theorem yield_in {m m' l l' : Nat} {P : Program} {args : Array Value} {W : World} {R : Ending → World → Prop} (h : YieldAt Fence.wide m P l args W R) : YieldAt (Fence.wide.inRound l') m' P l args W R := by
  obtain ⟨fn, tmps, assign, body, hy, h1, h2⟩ := h
  exact ⟨fn, tmps, assign, body, hy, h1, fun c cs _ => h2 c cs (room_wide _)⟩

set_option maxHeartbeats 1000000 in
theorem gifts_make (n : Nat) (a : Option Addr) (len cap : Nat) (w : World) :
    CallsIn Fence.wide n Try.prog 47 #[.slice a len cap] w fun e w' => e = .returned (.func (.func 55) #[] #[.pointer (some ⟨w.heap.size, 0, none⟩)]) ∧ w' = w.alloc (.cells #[.slice a len cap] 43) := by
  refine callsIn_of_wp Try.func47 rfl trivial ?_ rfl
  simp only [Try.ntmps47, List.size_toArray, List.length_cons, List.length_nil, Nat.reduceAdd, Nat.reduceSub, Array.replicate_succ, Array.replicate_zero, List.push_toArray, List.append_toArray, List.nil_append, List.cons_append]
  gi_wp2
  go_ret
  exact ⟨rfl, rfl⟩
theorem gifts_stops (n : Nat) (hn : 1 ≤ n) (Be B R cap : Nat) (p : Option Addr) (es : List EX) (hR : B ≤ R) (w : World) (hBe : w.heap[Be]? = some (.cells #[.slice p es.length cap] 43 (0, 0))) (hE : EffsAt w B p es) (hB : B ≤ w.heap.size) :
    SeqStopsK Fence.wide n Try.prog 55 #[.pointer (some ⟨Be, 0, none⟩)] sxEnc (KpC R) (fun ys => ys = gifts es) (fun pre => pre <+: gifts es) (gifts es).length w := fun l J Jx W hW hJ _ hY h0 =>
  gifts_in n hn l Be B R cap p es hR J Jx hY W hJ (by rw [cell_blk ((hW.block _ (heap_lt hBe)).trans hBe)]; rfl) (hE.keep hR (KpC.below hW)) (Nat.le_trans hB hW.size) h0

set_option maxRecDepth 100000 in
set_option maxHeartbeats 8000000 in
theorem auras_in (n : Nat) (hn : 3 ≤ n) (t : Tb) (fx : List KX) (ps : List Pc) (B R L Bs l : Nat) (hR : B ≤ R) (hs : Bs ≠ R) (hnp : t.np = ps.length) (hfew : ps.length ≤ 144) (hnk : t.nk = fx.length) (hdf : ∀ p ∈ ps, p.df < fx.length) (J Jx : List AX → World → Prop) (W : World) (hRW : R < W.heap.size) (hL : L ≤ W.heap.size) (hBW : B ≤ W.heap.size)
    (hJ : OwnFrom W.heap.size J) (hJx : OwnFrom W.heap.size Jx)
    (hY : ∀ pre x V, J pre V → pre.length < (aurasTo fx ps ps.length).length → x.1 < ps.length → YieldAt Fence.wide (n - 1) Try.prog l (axEnc x) V fun e W' =>
      ((e = .returned (.bool true) ∧ J (pre ++ [x]) W') ∨ (e = .returned (.bool false) ∧ Jx (pre ++ [x]) W')) ∧ KpO R L V W')
    (htb : W.heap[Bs]? = some (.cells t.row 28 (0, 0))) (hpc : PiecesFx W B t.qp ps) (hkd : KindsFx W B t.qk fx) (h0 : J [] W) :
    CallsIn Fence.wide n Try.prog 46 #[.func (.yield l) #[] #[], .pointer (some ⟨Bs, 0, none⟩)] W fun e W' => (∃ v, e = .returned v) ∧
      ((∃ xs, xs = aurasTo fx ps ps.length ∧ J xs W') ∨ (∃ pre, pre <+: aurasTo fx ps ps.length ∧ Jx pre W')) := by
  obtain ⟨qk, nk, ck, qp, np, cp, tl0, tl1, tn, py, mo, qe, ne, ce, b0, b1⟩ := t
  dsimp only at hnp hnk hpc hkd
  have HNK := Lib.hid hnk
  clear hnk
  subst hnp
  have h1 : 1 ≤ n := by omega
  have HJ := Lib.hid hJ
  have HJX := Lib.hid hJx
  have HY := Lib.hid hY
  have hltB := heap_lt htb
  have hyR : W.heap.size ≠ R := by omega
  have haf : AF ⟨qk, nk, ck, qp, ps.length, cp, tl0, tl1, tn, py, mo, qe, ne, ce, b0, b1⟩ fx ps B Bs W.heap.size l [] (W.alloc (.cells #[.func (.yield l) #[] #[]] 93)) :=
    ⟨heap_alloc_new _ _, heap_older htb, hpc.keep hR (KpC.below ((Below.refl _ _).alloc (Nat.le_refl _) _)), hkd.keep hR (KpC.below ((Below.refl _ _).alloc (Nat.le_refl _) _)), fun D h => by simp at h, List.nodup_nil⟩
  have hj0 : J [] (W.alloc (.cells #[.func (.yield l) #[] #[]] 93)) := HJ.out.alloc _ h0
  have HAF := Lib.hid haf
  have HJ0 := Lib.hid hj0
  have hB1 := cell_blk (i := 1) htb
  have HDF := Lib.hid hdf
  clear hJ hJx hY hpc hkd h0 haf hj0 htb hdf
  simp [Tb.row] at hB1
  refine callsIn_of_wp_marks Try.func46 rfl trivial ?_ rfl
  simp only [Try.ntmps46, List.size_toArray, List.length_cons, List.length_nil, Nat.reduceAdd, Nat.reduceSub, Array.replicate_succ, Array.replicate_zero, List.push_toArray, List.append_toArray, List.nil_append, List.cons_append]
  gi_wp2
  obtain ⟨Inv, hInv⟩ : ∃ Inv : Act → World → Prop, Inv = fun a' w' => ∃ (k : Nat) (z : Int) (ds : List Nat) (u3 u4 u5 u10 u11 u12 u13 u14 u15 u16 u17 u18 u19 u20 u21 u22 u23 u24 u25 u26 u27 u28 u29 u30 u31 u32 u33 u34 u35 u36 u37 u38 u39 u40 u41 : Value), a' = { tmps := #[.func (.yield l) #[] #[], .pointer (some ⟨Bs, 0, none⟩), .pointer (some ⟨W.heap.size, 0, none⟩), u3, u4, u5, .pointer (some ⟨Bs, 1, none⟩), .slice qp ps.length cp, .int .i64 ps.length, .int .i64 z, u10, u11, u12, u13, u14, u15, u16, u17, u18, u19, u20, u21, u22, u23, u24, u25, u26, u27, u28, u29, u30, u31, u32, u33, u34, u35, u36, u37, u38, u39, u40, u41], defers := marks ds } ∧ z = k ∧ k ≤ ps.length ∧ J (aurasTo fx ps k) w' ∧ AF ⟨qk, nk, ck, qp, ps.length, cp, tl0, tl1, tn, py, mo, qe, ne, ce, b0, b1⟩ fx ps B Bs W.heap.size l ds w' ∧ W.heap.size + 1 ≤ w'.heap.size ∧ ∀ D ∈ ds, W.heap.size ≤ D := ⟨_, rfl⟩
  obtain ⟨μ, hμ⟩ : ∃ μ : Act → World → Nat, μ = fun a' _ => ps.length - (RowKit.intOf (a'.tmps.getD 9 undef)).toNat := ⟨_, rfl⟩
  have HI := Lib.hid hInv
  have HM := Lib.hid hμ
  clear hμ hInv
  refine wpIn_loop Inv μ ?_ ?_
  · rw [HI.out]
    exact ⟨0, 0, [], undef, undef, undef, undef, undef, undef, undef, undef, undef, undef, undef, undef, undef, undef, undef, undef, undef, undef, undef, undef, undef, undef, undef, undef, undef, undef, undef, undef, undef, undef, undef, undef, undef, undef, undef, rfl, rfl, Nat.zero_le _, by simpa [aurasTo] using HJ0.out, HAF.out, by simp, fun D h => by simp at h⟩
  intro a1 w1 hinv
  rw [HI.out] at hinv
  obtain ⟨k, z, ds, u3, u4, u5, u10, u11, u12, u13, u14, u15, u16, u17, u18, u19, u20, u21, u22, u23, u24, u25, u26, u27, u28, u29, u30, u31, u32, u33, u34, u35, u36, u37, u38, u39, u40, u41, rfl, hz, hk, hJs, hAF, hsz, hds⟩ := hinv
  subst hz
  have HJS := Lib.hid hJs
  have HAf := Lib.hid hAF
  have HDS := Lib.hid hds
  clear hJs hAF hds
  by_cases hlt : k < ps.length
  · obtain ⟨p, hp⟩ : ∃ p, ps[k]? = some p := ⟨ps[k]'hlt, List.getElem?_eq_getElem _⟩
    obtain ⟨b, o, hq, hb, hc⟩ := HAf.out.pcs.piece k p hp
    dsimp only at hq
    subst hq
    have c0 : w1.cell? ⟨b, o + k * 14 + 0, none⟩ = some (.int .i64 p.df) := hc 0 _ rfl
    have c1 : w1.cell? ⟨b, o + k * 14 + 1, none⟩ = some (.int .i64 p.ak) := hc 1 _ rfl
    have c2 : w1.cell? ⟨b, o + k * 14 + 2, none⟩ = some (.int .i64 p.gd) := hc 2 _ rfl
    have c3 : w1.cell? ⟨b, o + k * 14 + 3, none⟩ = some (.int .u8 p.ow) := hc 3 _ rfl
    have c4 : w1.cell? ⟨b, o + k * 14 + 4, none⟩ = some (.int .u8 p.hs) := hc 4 _ rfl
    have c5 : w1.cell? ⟨b, o + k * 14 + 5, none⟩ = some (.int .u8 p.zn) := hc 5 _ rfl
    have c6 : w1.cell? ⟨b, o + k * 14 + 6, none⟩ = some (.int .i64 p.pl) := hc 6 _ rfl
    have c7 : w1.cell? ⟨b, o + k * 14 + 7, none⟩ = some (.bool p.up) := hc 7 _ rfl
    have c8 : w1.cell? ⟨b, o + k * 14 + 8, none⟩ = some (.bool p.lw) := hc 8 _ rfl
    have c9 : w1.cell? ⟨b, o + k * 14 + 9, none⟩ = some (.int .i64 p.sc) := hc 9 _ rfl
    have c10 : w1.cell? ⟨b, o + k * 14 + 10, none⟩ = some (.int .u8 p.us) := hc 10 _ rfl
    have c11 : w1.cell? ⟨b, o + k * 14 + 11, none⟩ = some (.bool p.sk) := hc 11 _ rfl
    have c12 : w1.cell? ⟨b, o + k * 14 + 12, none⟩ = some (.bool p.tu) := hc 12 _ rfl
    have c13 : w1.cell? ⟨b, o + k * 14 + 13, none⟩ = some (.int .i64 p.bo) := hc 13 _ rfl
    simp only [Nat.add_zero] at c0
    have hdf := HDF.out p (List.mem_of_getElem? hp)
    have hnx : Hid (aurasTo fx ps (k + 1) = aurasTo fx ps k ++ auraOf fx k p) := Lib.hid (aurasTo_next hp)
    have HP := Lib.hid hp
    have z1 : (k : Int) < (ps.length : Int) := by omega
    have z0 : (0 : Int) ≤ (k : Int) := by omega
    have hbl : b < w1.heap.size := by omega
    clear hc hp
    obtain ⟨w2, hw2⟩ : ∃ w2, w2 = (w1.alloc (.cells #[.int .i64 (k : Int)] 3)).alloc (.cells #[.int .i64 p.df, .int .i64 p.ak, .int .i64 p.gd, .int .u8 p.ow, .int .u8 p.hs, .int .u8 p.zn, .int .i64 p.pl, .bool p.up, .bool p.lw, .int .i64 p.sc, .int .u8 p.us, .bool p.sk, .bool p.tu, .int .i64 p.bo] 51) := ⟨_, rfl⟩
    have hb2 : Below w1.heap.size w1 w2 := by rw [hw2]; exact ((Below.refl _ _).alloc (Nat.le_refl _) _).alloc (by simp) _
    have hj2 : J (aurasTo fx ps k) w2 := by rw [hw2]; exact HJ.out.alloc _ (HJ.out.alloc _ HJS.out)
    have ha2 := HAf.out.below hR hs hyR hb2
    have hi2 : w2.heap[w1.heap.size]? = some (.cells #[.int .i64 (k : Int)] 3 (0, 0)) := by rw [hw2]; exact heap_older (heap_alloc_new _ _)
    have hp2 : w2.heap[w1.heap.size + 1]? = some (.cells #[.int .i64 p.df, .int .i64 p.ak, .int .i64 p.gd, .int .u8 p.ow, .int .u8 p.hs, .int .u8 p.zn, .int .i64 p.pl, .bool p.up, .bool p.lw, .int .i64 p.sc, .int .u8 p.us, .bool p.sk, .bool p.tu, .int .i64 p.bo] 51 (0, 0)) := by rw [hw2]; exact heap_newer _ _ _ (by simp)
    have HW2 := Lib.hid hw2
    have HB2 := Lib.hid hb2
    have HJ2 := Lib.hid hj2
    have HA2 := Lib.hid ha2
    have HI2 := Lib.hid hi2
    have HP2 := Lib.hid hp2
    have hsz2 : W.heap.size + 1 ≤ w2.heap.size := Nat.le_trans hsz hb2.size
    clear hw2 hb2 hj2 ha2 hi2 hp2
    -- no aura
    have hno : Hid (auraOf fx k p = [] → aurasTo fx ps (k + 1) = aurasTo fx ps k) := Lib.hid fun h => by rw [hnx.out, h, List.append_nil]
    by_cases hzn : p.zn = 2
    · have e1 : ((p.zn : Int) != 2) = false := by simp [hzn]
      cases hup : p.up with
      | false =>
        have he : Hid (aurasTo fx ps (k + 1) = aurasTo fx ps k) := Lib.hid (hno.out (if_neg (by rintro ⟨-, h, -⟩; rw [hup] at h; cases h)))
        rw [hup] at c7 HW2
        clear hup hzn
        gi_wp2
        rw [← HW2.out, HI.out, HM.out]
        exact ⟨⟨k + 1, _, ds, _, _, _, _, _, _, _, _, _, _, _, _, _, _, _, _, _, _, _, _, _, _, _, _, _, _, _, _, _, _, _, _, _, _, _, rfl, by omega, by omega, by rw [he.out]; exact HJ2.out, HA2.out, hsz2, HDS.out⟩, by simp [RowKit.intOf]; omega⟩
      | true =>
        by_cases hd : p.df < 0
        · have he : Hid (aurasTo fx ps (k + 1) = aurasTo fx ps k) := Lib.hid (hno.out (if_neg (by rintro ⟨-, -, h⟩; omega)))
          rw [hup] at c7 HW2
          clear hup hzn
          gi_wp2
          rw [← HW2.out, HI.out, HM.out]
          exact ⟨⟨k + 1, _, ds, _, _, _, _, _, _, _, _, _, _, _, _, _, _, _, _, _, _, _, _, _, _, _, _, _, _, _, _, _, _, _, _, _, _, _, rfl, by omega, by omega, by rw [he.out]; exact HJ2.out, HA2.out, hsz2, HDS.out⟩, by simp [RowKit.intOf]; omega⟩
        · obtain ⟨d, hdn⟩ : ∃ d : Nat, p.df = d := ⟨p.df.toNat, by omega⟩
          obtain ⟨x, hx⟩ : ∃ x, fx[d]? = some x := ⟨fx[d]'(by omega), List.getElem?_eq_getElem _⟩
          have hau : Hid (auraOf fx k p = (gifts x.es).map fun s => (k, s)) := Lib.hid (by
            unfold auraOf
            rw [if_pos ⟨hzn, hup, by omega⟩, hdn, Int.toNat_natCast, hx])
          obtain ⟨bk, ok, hqk, hbk, hck, hee⟩ := HA2.out.knd.kind d x hx
          dsimp only at hqk
          subst hqk
          have hck1 : w1.cell? ⟨bk, ok + d * 6 + 5, none⟩ = some (.slice x.qe x.es.length x.ce) := by
            obtain ⟨bk2, ok2, hqk2, -, hck2, -⟩ := HAf.out.knd.kind d x hx
            simp only [Option.some.injEq, Addr.mk.injEq] at hqk2
            rw [hqk2.1, hqk2.2.1]; exact hck2
          have y0 := cell_blk (i := 0) HAf.out.tbox
          simp [Tb.row] at y0
          have hltBs := heap_lt HAf.out.tbox
          have hbk1 : bk < w1.heap.size := by omega
          have d0 : (0 : Int) ≤ (d : Int) := by omega
          have d1 : (d : Int) < (nk : Int) := by have := HNK.out; omega
          have HEE := Lib.hid hee
          rw [hup] at c7 HW2 HP2
          rw [hdn] at c0 HW2 HP2
          clear hup hzn hck hee hx hdf hdn hd
          gi_wp2_with fail
          rw [← HW2.out]
          refine ⟨trivial, (gifts_make _ _ _ _ _).mono ?_⟩
          rintro e w' ⟨rfl, rfl⟩
          gi_wp2
          obtain ⟨W0, hW0⟩ : ∃ W0, W0 = w2.alloc (.cells #[.slice x.qe x.es.length x.ce] 43) := ⟨_, rfl⟩
          rw [← hW0]
          have hb0 : Below w2.heap.size w2 W0 := by rw [hW0]; exact (Below.refl _ _).alloc (Nat.le_refl _) _
          have hBe : W0.heap[w2.heap.size]? = some (.cells #[.slice x.qe x.es.length x.ce] 43 (0, 0)) := by rw [hW0]; exact heap_alloc_new _ _
          have hj3 : J (aurasTo fx ps k) W0 := by rw [hW0]; exact HJ.out.alloc _ HJ2.out
          have ha3 := HA2.out.below hR hs hyR hb0
          have hi3 := (hb0.block _ (heap_lt HI2.out)).trans HI2.out
          have hiR : w1.heap.size ≠ R := by omega
          have hsz0 : w2.heap.size ≤ W0.heap.size := hb0.size
          have hs12 : w1.heap.size < w2.heap.size := heap_lt HI2.out
          have hds0 : ∀ D ∈ ds, D < W0.heap.size := fun D hD => heap_lt (ha3.mks D hD)
          have hE0 := HEE.out.keep hR (KpC.below hb0)
          clear hW0
          refine wpIn_rangeFunc_ownH (F := Fence.wide) rfl h1 (gf := 55) (lb := #[.pointer (some ⟨w2.heap.size, 0, none⟩)]) rfl trivial (enters_of Try.func55 (by kernel_rfl) rfl)
            (gifts_stops (n - 1) (by omega) w2.heap.size B R x.ce x.qe x.es hR W0 hBe hE0 (by omega)) KpC.trans (fun V l o o' _ q1 q2 _ => KpC.put V l o o' q1 q2) (Below.refl _ _) (fun _ => rfl)
            (fun pre V => J (aurasTo fx ps k ++ pre.map fun s => (k, s)) V ∧ AF ⟨some ⟨bk, ok, none⟩, nk, ck, some ⟨b, o, none⟩, ps.length, cp, tl0, tl1, tn, py, mo, qe, ne, ce, b0, b1⟩ fx ps B Bs W.heap.size l ds V ∧ V.heap[w1.heap.size]? = some (.cells #[.int .i64 (k : Int)] 3 (0, 0)) ∧ W0.heap.size ≤ V.heap.size)
            (fun c pre V => c = .ret ∧ Jx (aurasTo fx ps k ++ pre.map fun s => (k, s)) V ∧ AF ⟨some ⟨bk, ok, none⟩, nk, ck, some ⟨b, o, none⟩, ps.length, cp, tl0, tl1, tn, py, mo, qe, ne, ce, b0, b1⟩ fx ps B Bs W.heap.size l ds V)
            (fun s X Y row h hg hr => ⟨HJ.out _ X Y row h.1 hg (fun r e => ⟨by have := (hr r e).1; omega, (hr r e).2⟩), h.2.1.own hR hs hyR hds0 hg hr, (hg.block _ (heap_lt h.2.2.1) (fun e => by have := (hr _ e.symm).1; omega)).trans h.2.2.1, Nat.le_trans h.2.2.2 hg.size⟩)
            (fun c s X Y row h hg hr => ⟨h.1, HJX.out _ X Y row h.2.1 hg (fun r e => ⟨by have := (hr r e).1; omega, (hr r e).2⟩), h.2.2.own hR hs hyR hds0 hg hr⟩)
            ⟨by simpa using hj3, ha3, hi3, Nat.le_refl _⟩
            (fun y a' V => ∃ (Bx : Nat) (v0 v1 v4 v6 v7 v8 v9 v10 v11 v12 v13 v14 v15 v16 v17 v18 v19 v20 v21 v22 v23 v24 v25 v26 v27 v28 v29 v30 v31 v32 v33 v34 v35 v36 v37 v38 v39 v40 v41 : Value), W0.heap.size ≤ Bx ∧ V.heap[Bx]? = some (.cells y.row 70 (0, 0)) ∧ a' = { tmps := #[v0, v1, .pointer (some ⟨W.heap.size, 0, none⟩), .pointer (some ⟨w1.heap.size, 0, none⟩), v4, .pointer (some ⟨Bx, 0, none⟩), v6, v7, v8, v9, v10, v11, v12, v13, v14, v15, v16, v17, v18, v19, v20, v21, v22, v23, v24, v25, v26, v27, v28, v29, v30, v31, v32, v33, v34, v35, v36, v37, v38, v39, v40, v41], defers := [] })
            (fun y a' _ X Y row h hg hr => by
              obtain ⟨Bx, v0, v1, v4, v6, v7, v8, v9, v10, v11, v12, v13, v14, v15, v16, v17, v18, v19, v20, v21, v22, v23, v24, v25, v26, v27, v28, v29, v30, v31, v32, v33, v34, v35, v36, v37, v38, v39, v40, v41, q1, q2, q3⟩ := h
              refine ⟨Bx, v0, v1, v4, v6, v7, v8, v9, v10, v11, v12, v13, v14, v15, v16, v17, v18, v19, v20, v21, v22, v23, v24, v25, v26, v27, v28, v29, v30, v31, v32, v33, v34, v35, v36, v37, v38, v39, v40, v41, q1, (hg.block _ (heap_lt q2) (fun e => ?_)).trans q2, q3⟩
              obtain ⟨o', ho', hc'⟩ := (hr _ e.symm).2
              rw [q2] at ho'; cases ho'; cases hc')
            ?assign ?body ?done ?stop
          case assign =>
            rintro l' pre ⟨f1, f2, f3, f4, f5, f6, f7, f8, f9, f10, f11, f12, f13, f14, f15⟩ V K ⟨q1, q2, q3, q4⟩ hK
            simp only [sxEnc, SX.row]
            simp only [SX.row] at hK
            gi_wp2
            exact hK _ _ ((KeepsOthers.alloc _ _).from _) (KpC.below ((Below.refl _ _).alloc (Nat.le_refl _) _))
              ⟨HJ.out.alloc _ q1, q2.below hR hs hyR ((Below.refl _ _).alloc (Nat.le_refl _) _), heap_older q3, Nat.le_trans q4 (by simp)⟩ ⟨V.heap.size, _, _, _, _, _, _, _, _, _, _, _, _, _, _, _, _, _, _, _, _, _, _, _, _, _, _, _, _, _, _, _, _, _, _, _, _, _, _, _, q4, heap_alloc_new _ _, rfl⟩
          case body =>
            rintro l' pre ⟨f1, f2, f3, f4, f5, f6, f7, f8, f9, f10, f11, f12, f13, f14, f15⟩ a' V hl' ⟨r, hr⟩ ⟨q1, q2, q3, q4⟩ ⟨Bx, v0, v1, v4, v6, v7, v8, v9, v10, v11, v12, v13, v14, v15, v16, v17, v18, v19, v20, v21, v22, v23, v24, v25, v26, v27, v28, v29, v30, v31, v32, v33, v34, v35, v36, v37, v38, v39, v40, v41, qb, qx, rfl⟩ hlen
            have y1 : V.cell? ⟨W.heap.size, 0, none⟩ = some (.func (.yield l) #[] #[]) := by rw [cell_blk q2.ybox]; rfl
            have y2 : V.cell? ⟨w1.heap.size, 0, none⟩ = some (.int .i64 (k : Int)) := by rw [cell_blk q3]; rfl
            have hlen' : (aurasTo fx ps k ++ pre.map fun s => (k, s)).length < (aurasTo fx ps ps.length).length := by
              have h2 := (aura_pre HP.out (List.prefix_refl (auraOf fx k p))).length_le
              rw [hau.out] at h2
              simp only [List.length_append, List.length_map] at h2 ⊢
              omega
            obtain ⟨fn, tmps, assign, body, hy, hRd⟩ := yield_in (l' := l') (m' := n - 1 - 1 - 1) (HY.out (aurasTo fx ps k ++ pre.map fun s => (k, s)) (k, ⟨f1, f2, f3, f4, f5, f6, f7, f8, f9, f10, f11, f12, f13, f14, f15⟩) V q1 hlen' hlt)
            simp only [axEnc, SX.row] at hy qx
            have x0 : V.cell? ⟨Bx, 0, none⟩ = some (.int .u8 f1) := by rw [cell_blk qx]; rfl
            have x1 : V.cell? ⟨Bx, 1, none⟩ = some (.int .u8 f2) := by rw [cell_blk qx]; rfl
            have x2 : V.cell? ⟨Bx, 2, none⟩ = some (.int .u8 f3) := by rw [cell_blk qx]; rfl
            have x3 : V.cell? ⟨Bx, 3, none⟩ = some (.int .i64 f4) := by rw [cell_blk qx]; rfl
            have x4 : V.cell? ⟨Bx, 4, none⟩ = some (.int .u8 f5) := by rw [cell_blk qx]; rfl
            have x5 : V.cell? ⟨Bx, 5, none⟩ = some (.int .u8 f6) := by rw [cell_blk qx]; rfl
            have x6 : V.cell? ⟨Bx, 6, none⟩ = some (.int .u8 f7) := by rw [cell_blk qx]; rfl
            have x7 : V.cell? ⟨Bx, 7, none⟩ = some (.int .u8 f8) := by rw [cell_blk qx]; rfl
            have x8 : V.cell? ⟨Bx, 8, none⟩ = some (.slice f9 f10 f11) := by rw [cell_blk qx]; rfl
            have x9 : V.cell? ⟨Bx, 9, none⟩ = some (.bool f12) := by rw [cell_blk qx]; rfl
            have x10 : V.cell? ⟨Bx, 10, none⟩ = some (.int .u8 f13) := by rw [cell_blk qx]; rfl
            have x11 : V.cell? ⟨Bx, 11, none⟩ = some (.int .u8 f14) := by rw [cell_blk qx]; rfl
            have x12 : V.cell? ⟨Bx, 12, none⟩ = some (.int .u8 f15) := by rw [cell_blk qx]; rfl
            have HQ2 := Lib.hid q2
            have HQ3 := Lib.hid q3
            clear q1 q2 q3 qx hlen'
            gi_wp2
            refine ⟨fun _ => by omega, hRd.mono ?_⟩
            rintro e W' ⟨hj, hk⟩
            have hkf : KeepsFrom W0.heap.size V W' := ⟨hk.2.size, fun i o hi ho hc => hk.2.same i o (by omega) ho hc⟩
            have ha5 : AF ⟨some ⟨bk, ok, none⟩, nk, ck, some ⟨b, o, none⟩, ps.length, cp, tl0, tl1, tn, py, mo, qe, ne, ce, b0, b1⟩ fx ps B Bs W.heap.size l ds W' := HQ2.out.keep hR hs hyR hk.1 fun D hD => (hk.2.same D _ (by have := HDS.out D hD; omega) (HQ2.out.mks D hD) rfl).trans (HQ2.out.mks D hD).symm
            rcases hj with ⟨rfl, hj⟩ | ⟨rfl, hj⟩
            · have HF := Lib.hid (show KeepsFrom W0.heap.size V W' ∧ KpC R V W' ∧ J (aurasTo fx ps k ++ (pre ++ [(⟨f1, f2, f3, f4, f5, f6, f7, f8, f9, f10, f11, f12, f13, f14, f15⟩ : SX)]).map fun s => (k, s)) W' ∧ AF ⟨some ⟨bk, ok, none⟩, nk, ck, some ⟨b, o, none⟩, ps.length, cp, tl0, tl1, tn, py, mo, qe, ne, ce, b0, b1⟩ fx ps B Bs W.heap.size l ds W' ∧ W'.heap[w1.heap.size]? = some (.cells #[.int .i64 (k : Int)] 3 (0, 0)) ∧ W0.heap.size ≤ W'.heap.size from ⟨hkf, hk.1, by simpa [List.append_assoc] using hj, ha5, hk.1.same _ _ hiR HQ3.out rfl, Nat.le_trans q4 hk.2.size⟩)
              clear hj hk hkf ha5
              gi_wp2
              exact HF.out
            · have HF := Lib.hid (show KeepsFrom W0.heap.size V W' ∧ Jx (aurasTo fx ps k ++ (pre ++ [(⟨f1, f2, f3, f4, f5, f6, f7, f8, f9, f10, f11, f12, f13, f14, f15⟩ : SX)]).map fun s => (k, s)) W' ∧ AF ⟨some ⟨bk, ok, none⟩, nk, ck, some ⟨b, o, none⟩, ps.length, cp, tl0, tl1, tn, py, mo, qe, ne, ce, b0, b1⟩ fx ps B Bs W.heap.size l ds W' from ⟨hkf, by simpa [List.append_assoc] using hj, ha5⟩)
              clear hj hk hkf ha5
              gi_wp2
              exact ⟨HF.out.1, rfl, HF.out.2.1, HF.out.2.2⟩
          case done =>
            rintro D ys V hD rfl ⟨q1, q2, q3, q4⟩ hK
            have he : J (aurasTo fx ps (k + 1)) V := by rw [hnx.out, hau.out]; exact q1
            have hA4 : AF ⟨some ⟨bk, ok, none⟩, nk, ck, some ⟨b, o, none⟩, ps.length, cp, tl0, tl1, tn, py, mo, qe, ne, ce, b0, b1⟩ fx ps B Bs W.heap.size l (D :: ds) V := ⟨q2.ybox, q2.tbox, q2.pcs, q2.knd, fun E hE => by
              rcases List.mem_cons.1 hE with rfl | hE
              · exact hK
              · exact q2.mks E hE, List.nodup_cons.2 ⟨fun hE => by have := hds0 D hE; omega, q2.nod⟩⟩
            have HE4 := Lib.hid he
            have HA4 := Lib.hid hA4
            clear q1 q2 q3 he hA4 hK
            gi_wp2
            rw [HI.out, HM.out]
            exact ⟨⟨k + 1, _, D :: ds, _, _, _, _, _, _, _, _, _, _, _, _, _, _, _, _, _, _, _, _, _, _, _, _, _, _, _, _, _, _, _, _, _, _, _, rfl, by omega, by omega, HE4.out, HA4.out, by omega, fun E hE => by
              rcases List.mem_cons.1 hE with rfl | hE
              · omega
              · exact HDS.out E hE⟩, by simp [RowKit.intOf]; omega⟩
          case stop =>
            rintro D c pre V hD hpre ⟨rfl, q1, q2⟩ hK
            gi_wp2
            exact leaves_marks (B := W.heap.size) (X := fun V => Jx (aurasTo fx ps k ++ pre.map fun s => (k, s)) V) (fun _ X Y row h hg hr => HJX.out _ X Y row h hg hr) (fun V hv => ⟨_, results_none rfl _ _ _, ⟨_, rfl⟩, .inr ⟨_, aura_pre HP.out (by rw [hau.out]; exact hpre.map _), hv⟩⟩) (D :: ds) V (List.nodup_cons.2 ⟨fun hE => by have := hds0 D hE; omega, q2.nod⟩)
              (fun E hE => by
                rcases List.mem_cons.1 hE with rfl | hE
                · exact ⟨by omega, hK⟩
                · exact ⟨HDS.out E hE, q2.mks E hE⟩) q1
    · have e1 : ((p.zn : Int) != 2) = true := by simp; omega
      have he : Hid (aurasTo fx ps (k + 1) = aurasTo fx ps k) := Lib.hid (hno.out (if_neg (by rintro ⟨h, -, -⟩; exact hzn h)))
      clear hzn
      gi_wp2
      rw [← HW2.out, HI.out, HM.out]
      exact ⟨⟨k + 1, _, ds, _, _, _, _, _, _, _, _, _, _, _, _, _, _, _, _, _, _, _, _, _, _, _, _, _, _, _, _, _, _, _, _, _, _, _, rfl, by omega, by omega, by rw [he.out]; exact HJ2.out, HA2.out, hsz2, HDS.out⟩, by simp [RowKit.intOf]; omega⟩
  · obtain rfl : k = ps.length := by omega
    have z1 : ¬ (ps.length : Int) < (ps.length : Int) := by omega
    gi_wp2
    exact leaves_marks (B := W.heap.size) (X := fun V => J (aurasTo fx ps ps.length) V) (fun _ X Y row h hg hr => HJ.out _ X Y row h hg hr) (fun V hv => ⟨_, results_none rfl _ _ _, ⟨_, rfl⟩, .inl hv⟩) ds w1 HAf.out.nod (fun D hD => ⟨HDS.out D hD, HAf.out.mks D hD⟩) HJS.out
end Go.Proofs.Ytlbbabojejimpaa
