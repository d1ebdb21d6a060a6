import Derived.Test.YtbkjminjkjnkpaaGreatDoorQRdkCalls
import Derived.Test.YtbkjminjkjnkpaaGreatDoorQRdkNum
import Derived.Test.YtbkjminjkjnkpaaGreatDoorQDkDeck
import Derived.Test.YtbkjminjkjnkpaaGreatDoorQDkBackM
/- The reference of layer 5 (joustref05): a deck, token by token. -/
namespace Go.Proofs.YtbkjminjkjnkpaaGreatDoor
open Go.RowKit Go.Lib

theorem results_two_cell {fn : Func} {p t u : Tmp} {ty : TypeId} (h : fn.results = #[.tmp t, .tmp u, .cell p ty]) (tmps : Array Value) (P : Program) (w : World) (g : Nat) (t' : TypeId) (cs : Array Value) (fr : Nat × Nat) (fs : Array Field)
    (hp : tmps.getD p undef = .pointer (some ⟨g, 0, none⟩)) (hg : w.heap[g]? = some (.cells cs t' fr))
    (hu : P.underlying ty = some (.struct fs)) (hi : (P.info? ty).map (·.size) = some cs.size) :
    (results fn tmps).run P w = .ok (.tuple #[tmps.getD t undef, tmps.getD u undef, .agg cs]) w := by
  have hp' : tmps[p]?.getD undef = .pointer (some ⟨g, 0, none⟩) := by simpa using hp
  simp [results, h, hp', asAddr, Sem.run_bind, Result.andThen, run_loadVar_row w g t' ty cs fr (.struct fs) hg hu rfl hi]

/-- Tokens and kinds, as the reference's reader has them. -/
structure TE where
  ts : List Tok
  G : Nat
  cap : Nat
  ks : List KC
  P : Option Addr
  kc : Nat
def TE.n (E : TE) : Nat := E.ts.length
def TE.kts (E : TE) : List KT := E.ts.map Tok.kt
def TE.ns (E : TE) : List ByteArray := E.ks.map (·.name)
structure TEnv (w : World) (E : TE) : Prop where
  sees : ∀ p, p < E.n → w.cell? ⟨E.G, p * 4, none⟩ = some (.int .u8 (tk E.ts p).kind) ∧ w.cell? ⟨E.G, p * 4 + 1, none⟩ = some (.string (tk E.ts p).text) ∧ w.cell? ⟨E.G, p * 4 + 2, none⟩ = some (.int .i64 (tk E.ts p).spot.1) ∧ w.cell? ⟨E.G, p * 4 + 3, none⟩ = some (.int .i64 (tk E.ts p).spot.2)
  wf : WToks E.ts
  lead : ∀ t ∈ E.ts, t.kind = 2 → Lead t.text
  few : E.n ≤ 65537
  kinds : KindsAt w E.P E.ks
  many : E.ks.length ≤ 4611686018427387904
theorem TEnv.below {w w' : World} {E : TE} (h : TEnv w E) (hb : Below w.heap.size w w') : TEnv w' E :=
  ⟨fun p hp => by
    obtain ⟨a, b, c, d⟩ := h.sees p hp
    exact ⟨cell_later hb a, cell_later hb b, cell_later hb c, cell_later hb d⟩, h.wf, h.lead, h.few, h.kinds.below hb, h.many⟩
theorem TEnv.more {w : World} {E : TE} (h : TEnv w E) {p : Nat} (hp : p < E.n) (hk : (tk E.ts p).kind ≠ 0) : p + 1 < E.n := by
  have := (h.wf.last p hp)
  unfold TE.n at hp ⊢
  rcases Nat.lt_or_ge (p + 1) E.ts.length with h1 | h1
  · exact h1
  · exact absurd (this.2 (by omega)) hk
theorem TEnv.text {w : World} {E : TE} (h : TEnv w E) {p : Nat} (hp : p < E.n) {x : ByteArray} (hx : (tk E.ts p).text = x) (hn : x ≠ ⟨#[]⟩) : p + 1 < E.n :=
  h.more hp fun e => hn (by rw [← hx]; exact (h.wf.all _ (tk_mem hp)).none e)
theorem te_drop {E : TE} {p : Nat} (h : p < E.n) : E.kts.drop p = (tk E.ts p).kt :: E.kts.drop (p + 1) := by
  have hl : p < E.kts.length := by unfold TE.kts; rw [List.length_map]; exact h
  rw [List.drop_eq_getElem_cons hl]
  congr 1
  have h1 : E.kts[p]? = some (tk E.ts p).kt := by
    unfold TE.kts
    rw [List.getElem?_map, tk_get (ts := E.ts) h]
    rfl
  rw [List.getElem?_eq_getElem hl] at h1
  exact Option.some.inj h1
theorem flt_set {X : World} {F : Nat} {t : TypeId} {a0 a1 a2 : Value} (u0 u1 u2 : Value) (h : X.heap[F]? = some (.cells #[a0, a1, a2] t (0, 0))) : (((X.setCell ⟨F, 0, none⟩ u0).setCell ⟨F, 1, none⟩ u1).setCell ⟨F, 2, none⟩ u2).heap[F]? = some (.cells #[u0, u1, u2] t (0, 0)) :=
  heap_setCell_same _ F 2 _ _ u2 (heap_setCell_same _ F 1 _ _ u1 (heap_setCell_same _ F 0 _ _ u0 h))
theorem flt_below {B F : Nat} {w X : World} (u0 u1 u2 : Value) (hb : Below B w X) (hF : B ≤ F) : Below B w (((X.setCell ⟨F, 0, none⟩ u0).setCell ⟨F, 1, none⟩ u1).setCell ⟨F, 2, none⟩ u2) :=
  ((hb.setCell (p := ⟨F, 0, none⟩) hF _).setCell (p := ⟨F, 1, none⟩) hF _).setCell (p := ⟨F, 2, none⟩) hF _
theorem nats_base {w : World} {B C : Nat} {v : Value} {out : List Nat} (h : NatsAt w B v out) (hC : C ≤ B) : NatsAt w C v out := by
  refine ⟨h.1, h.2.imp id ?_⟩
  rintro ⟨g, cap, cur, h1, h2, h3⟩
  exact ⟨g, cap, cur, h1, by omega, h3⟩
theorem nats_set {w : World} {B F : Nat} {v : Value} {out : List Nat} (u0 u1 u2 : Value) (h : NatsAt w B v out) (hF : F < B) : NatsAt (((w.setCell ⟨F, 0, none⟩ u0).setCell ⟨F, 1, none⟩ u1).setCell ⟨F, 2, none⟩ u2) B v out :=
  ownsRow_set (ownsRow_set (ownsRow_set h (by simp; omega) _) (by simp; omega) _) (by simp; omega) _
/-- The spot of a fault. -/
def spotR (E : TE) (e q : Nat) : Int × Int := if e = 0 then (0, 0) else (tk E.ts q).spot
/-- What the reference's deck answers. -/
def RDeckEnds (E : TE) (w : World) (R : Nat × List Nat × List KT) (e : Ending) (w' : World) : Prop :=
  ∃ a m c q, e = .returned (.tuple #[.slice a m c, .int .i64 (q : Nat), .agg #[.int .i64 R.1, .int .i64 (spotR E R.1 q).1, .int .i64 (spotR E R.1 q).2]]) ∧ q < E.n ∧ E.kts.drop q = R.2.2 ∧ (R.1 = 0 → NatsAt w' w.heap.size (.slice a m c) R.2.1) ∧ Below w.heap.size w w'

set_option maxHeartbeats 8000000 in
set_option maxRecDepth 100000 in
theorem rdeck_any (E : TE) (p : Nat) (w : World) (h : TEnv w E) (hp : p < E.n) :
    Calls Tryz.prog 21 #[.slice (some ⟨E.G, 0, none⟩) E.n E.cap, .int .i64 p, .slice E.P E.ks.length E.kc] w (RDeckEnds E w (oneDeck E.ns (E.kts.drop p))) := by
  have HE := Lib.hid h
  have hfew := h.few
  obtain ⟨i0, hi0, hz0, hz1, hz2⟩ := info_parts int_info
  have hd := te_drop hp
  obtain ⟨N, hN⟩ : ∃ N, E.n = N := ⟨_, rfl⟩
  have HN := Lib.hid hN
  obtain ⟨w0, hw0⟩ : ∃ w0, w0 = ((w.alloc (.cells #[.int .i64 0, .int .i64 0, .int .i64 0] 31)).alloc (.cells #[.string ⟨#[100, 101, 99, 107]⟩, .string ⟨#[123]⟩] 9)) := ⟨_, rfl⟩
  have hb0 : Below w.heap.size w w0 := by rw [hw0]; exact ((Below.refl _ _).alloc (Nat.le_refl _) _).alloc (by simp) _
  have hf0 : w0.heap[w.heap.size]? = some (.cells #[.int .i64 0, .int .i64 0, .int .i64 0] 31 (0, 0)) := by rw [hw0, heap_alloc_old _ _ (by simp)]; exact heap_alloc_new _ _
  have hh0 : w0.heap[w.heap.size + 1]? = some (.cells #[.string ⟨#[100, 101, 99, 107]⟩, .string ⟨#[123]⟩] 9 (0, 0)) := by
    rw [hw0]; have := heap_alloc_new (w.alloc (.cells #[.int .i64 0, .int .i64 0, .int .i64 0] 31)) (.cells #[.string ⟨#[100, 101, 99, 107]⟩, .string ⟨#[123]⟩] 9)
    rwa [show (w.alloc (.cells #[.int .i64 0, .int .i64 0, .int .i64 0] 31)).heap.size = w.heap.size + 1 by simp] at this
  obtain ⟨s0, s1, s2, s3⟩ := (h.below hb0).sees p hp
  have hs0 : w0.heap.size = w.heap.size + 2 := by rw [hw0]; simp
  have HW0 := Lib.hid hw0
  have HB0 := Lib.hid hb0
  have HS0 := Lib.hid hs0
  have HF0 := Lib.hid hf0
  have hlt0 := heap_lt hf0
  have HLT := Lib.hid hlt0
  have HH0 := Lib.hid hh0
  have i0' : (0 : Int) ≤ (p : Int) := by omega
  have i1 : (p : Int) < (N : Int) := by omega
  rw [hN] at hfew ⊢
  by_cases hx : (tk E.ts p).text = ⟨#[100, 101, 99, 107]⟩
  · have q : ((tk E.ts p).text.toList == [100, 101, 99, 107]) = true := str_eq_l hx
    have hp1 : p + 1 < N := by rw [← hN]; exact h.text hp hx (by decide)
    have hd1 := te_drop (E := E) (p := p + 1) (by omega)
    have hxe := (h.below hb0).sees (p + 1) (by omega)
    have i2 : ((p : Int) + 1) < (N : Int) := by omega
    have i2' : (0 : Int) ≤ (p : Int) + 1 := by omega
    have HSE : Hid (∀ W, Below w0.heap.size w0 W → ∀ q, q < N → _) := Lib.hid fun W hW q (hq : q < N) => ((HE.out.below hb0).below hW).sees q (by rw [hN]; exact hq)
    by_cases hy : (tk E.ts (p + 1)).text = ⟨#[123]⟩
    · have qy : ((tk E.ts (p + 1)).text.toList == [123]) = true := str_eq_l hy
      have hp2 : p + 1 + 1 < N := by rw [← hN]; exact h.text (by omega) hy (by decide)
      obtain ⟨R0, hR0⟩ : ∃ R0, goDeck E.ns (E.kts.drop (p + 2)) [] = R0 := ⟨_, rfl⟩
      have HR : Hid (oneDeck E.ns (E.kts.drop p) = R0) := Lib.hid (by
        rw [hd, hd1, ← hR0]
        show (if (tk E.ts p).text = _ then (if (tk E.ts (p + 1)).text = _ then _ else _) else _) = _
        rw [if_pos hx, if_pos hy])
      rw [HR.out]
      have HR0 := Lib.hid hR0
      have t1 := hxe.2.1
      have f0 := cell_blk (i := 0) hf0; have f1 := cell_blk (i := 1) hf0; have f2 := cell_blk (i := 2) hf0; have ff0 := free_blk (i := 0) hf0; have ff1 := free_blk (i := 1) hf0; have ff2 := free_blk (i := 2) hf0; simp at f0 f1 f2
      have g0 := cell_blk (i := 0) hh0; have g1 := cell_blk (i := 1) hh0; have gf0 := free_blk (i := 0) hh0; have gf1 := free_blk (i := 1) hh0; simp at g0 g1
      clear hd hd1 hw0 hb0 hs0 hx hy hN h hf0 hh0 hxe s0 s2 s3 hR0
      go_enter Tryz.func21, Tryz.ntmps21
      go_wp2_with fail
      rw [← HW0.out]
      refine wp_loop_rounds 3 ?_
      rw [rounds_succ]
      go_wp2_with fail
      go_quiet (fail)
      go_wp2_with fail
      rw [rounds_succ]
      go_wp2_with fail
      go_quiet (fail)
      go_wp2_with fail
      rw [rounds_succ]
      go_wp2_with fail
      go_loopw [1, 9] (fun v1 v9 wr => ∃ (q : Nat) (out : List Nat) (a : Option Addr) (c : Nat), v1 = .int .i64 q ∧ q < N ∧ v9 = .slice a out.length c ∧ NatsAt wr w0.heap.size (.slice a out.length c) out ∧ Below w0.heap.size w0 wr ∧ goDeck E.ns (E.kts.drop q) out = R0 ∧ out.length ≤ 3 * q) (fun v1 _ _ => N - (RowKit.intOf v1).toNat)
      case atStart => exact ⟨p + 2, [], none, 0, by go_num, hp2, rfl, World.ownsRow_nil _ _ _ _, by first | exact Below.refl _ _ | exact below_dr (Below.refl _ _) _, HR0.out, by simp⟩
      case round =>
      obtain ⟨q, out, a, c, rfl, hq, rfl, hown, hbw, hgo, hlen⟩ := hrel
      rename World => wB
      have hqE : q < E.n := by rw [HN.out]; exact hq
      have hdq := te_drop hqE
      rw [hdq] at hgo
      have wft := HE.out.wf.all _ (tk_mem hqE)
      have hmem := tk_mem hqE
      have hsz : (tk E.ts q).text.size ≤ maxLen := by have := wft.size; unfold maxLen; omega
      have HOWN := Lib.hid hown
      have HBW := Lib.hid hbw
      have HDQ := Lib.hid hdq
      obtain ⟨L, hL⟩ : ∃ L, out.length = L := ⟨_, rfl⟩
      have HL := Lib.hid hL
      rw [hL] at hlen ⊢
      have j1 : (q : Int) < (N : Int) := by omega
      have j0 : (0 : Int) ≤ (q : Int) := by omega
      obtain ⟨t0, t1, t2, t3⟩ := HSE.out wB hbw q hq
      have hnum := rnum_any (tk E.ts q).text wB hsz
      have HNUM := Lib.hid hnum
      clear hown hbw hdq hL hnum
      by_cases hk : (tk E.ts q).kind = 2
      · have hdig := (wft.num hk).1
        have hpos : 0 < (tk E.ts q).text.size := by
          rcases Nat.eq_zero_or_pos (tk E.ts q).text.size with h0 | h0
          · exact absurd (ByteArray.size_eq_zero_iff.1 h0) (wft.some (by omega))
          · exact h0
        have hne : (tk E.ts q).text ≠ ⟨#[125]⟩ := fun e => by
          rw [e] at hdig
          have := hdig 125 (by simp)
          simp at this
        have qA : ((tk E.ts q).text.toList == [125]) = false := str_ne_l hne
        have qK : (((tk E.ts q).kind : Int) == 2) = true := by simp [hk]
        have hni := num_is hdig hpos (HE.out.lead _ hmem hk)
        have hkt : numK (tk E.ts q).kt = numK (2, (tk E.ts q).text) := rfl
        by_cases hbad : numK (tk E.ts q).kt < 1 ∨ 3 < numK (tk E.ts q).kt
        · have hg := go_bad (ns := E.ns) (l := E.kts.drop (q + 1)) (out := out) (t := (tk E.ts q).kt) hk hbad
          rw [hgo, ← HDQ.out] at hg
          rw [hkt] at hbad
          rw [if_pos hbad] at hni
          rw [hni] at HNUM
          have HG := Lib.hid hg
          clear hgo hg hni hkt hbad hne hdig hpos wft hmem
          go_wp2_with fail
          refine HNUM.out.mono ?_
          rintro e w2 ⟨rfl, b2⟩
          have HB2 := Lib.hid (HBW.out.trans (b2.mono HBW.out.size))
          clear b2 t0 t1 t2 t3
          obtain ⟨t0, t1, t2, t3⟩ := HSE.out w2 HB2.out q hq
          go_wp2_with fail
          have hfw := ((HB2.out).block _ HLT.out).trans HF0.out
          have hlw := heap_lt hfw
          have f0 := cell_blk (i := 0) hfw; have f1 := cell_blk (i := 1) hfw; have f2 := cell_blk (i := 2) hfw; have ff0 := free_blk (i := 0) hfw; have ff1 := free_blk (i := 1) hfw; have ff2 := free_blk (i := 2) hfw; simp at f0 f1 f2
          clear hfw
          go_region
          all_goals
            go_wp2
            refine bodyPost_ret (results_two_cell rfl _ _ _ w.heap.size _ _ _ _ rfl (flt_set _ _ _ (((?_ : Below w0.heap.size w0 _).block _ HLT.out).trans HF0.out)) rfl (by kernel_rfl)) rfl ?_
            · first | exact HB2.out | exact (HB2.out).drew | exact below_dr (HB2.out) _ | exact below_dr (HB2.out).drew _
            · rw [HG.out]
              refine ⟨none, 0, 0, q, rfl, by have := HN.out; omega, rfl, (fun h => by cases h), ?_⟩
              have hbx : Below w.heap.size w _ := HB0.out.trans (Below.mono (HB2.out) HB0.out.size)
              first | exact flt_below _ _ _ hbx (Nat.le_refl _) | exact flt_below _ _ _ (hbx.drew) (Nat.le_refl _) | exact flt_below _ _ _ (below_dr hbx _) (Nat.le_refl _) | exact (flt_below _ _ _ hbx (Nat.le_refl _)).drew | exact (flt_below _ _ _ (below_dr hbx _) (Nat.le_refl _)).drew
        · have hq1 : q + 1 < N := by rw [← HN.out]; exact HE.out.more hqE (by omega)
          have hq1E : q + 1 < E.n := by rw [HN.out]; exact hq1
          have hdq1 := te_drop hq1E
          have hg := go_num (ns := E.ns) (l := E.kts.drop (q + 1 + 1)) (out := out) (t := (tk E.ts q).kt) (u := (tk E.ts (q + 1)).kt) hk hbad
          rw [← hdq1, hgo] at hg
          rw [hkt] at hbad
          rw [if_neg hbad] at hni
          obtain ⟨n1, hn1⟩ : ∃ n1, numK (2, (tk E.ts q).text) = n1 := ⟨_, rfl⟩
          rw [hkt, hn1] at hg
          rw [hn1] at hbad hni
          rw [hni] at HNUM
          have HG := Lib.hid hg
          have HDQ1 := Lib.hid hdq1
          have q0 : ((n1 : Int) == 0) = false := by simp only [beq_eq_false_iff_ne, ne_eq]; omega
          have wfu := HE.out.wf.all _ (tk_mem hq1E)
          have hn3 : n1 ≤ 3 := by omega
          have j3 : (q : Int) + 1 < (N : Int) := by omega
          have j2 : (0 : Int) ≤ (q : Int) + 1 := by omega
          clear hgo hg hni hkt hn1 hne hdig hpos wft hmem hdq1
          by_cases hk1 : (tk E.ts (q + 1)).kind = 1
          · have qU : (((tk E.ts (q + 1)).kind : Int) == 1) = true := by simp [hk1]
            have hq2 : q + 1 + 1 < N := by rw [← HN.out]; exact HE.out.more hq1E (by omega)
            have hkind : Hid (∀ W, Below w0.heap.size w0 W → Calls Tryz.prog 46 #[.slice E.P E.ks.length E.kc, .string (tk E.ts (q + 1)).text] W fun e w' => e = .returned (.int .i64 (kindI E.ns (tk E.ts (q + 1)).text)) ∧ Below W.heap.size W w') := Lib.hid fun W hW =>
              rkind_any E.P E.kc E.ks (tk E.ts (q + 1)).text W ((HE.out.below HB0.out).below hW).kinds HE.out.many
            cases hfw : findW E.ns (tk E.ts (q + 1)).text 0 with
            | none =>
              have hki : kindI E.ns (tk E.ts (q + 1)).text = -1 := by unfold kindI; rw [hfw]
              rw [hki] at hkind
              have hko : kindOf E.ns (tk E.ts (q + 1)).kt out = (8, 0) := by
                show (if (tk E.ts (q + 1)).kind = 1 then (match findW E.ns (tk E.ts (q + 1)).text 0 with | none => _ | some k => _) else _) = _
                rw [if_pos hk1, hfw]
              have hg := HG.out
              rw [hko, if_neg (by simp)] at hg
              have HG := Lib.hid hg
              clear hki hko hg hfw wfu
              go_wp2_with fail
              refine HNUM.out.mono ?_
              rintro e w2 ⟨rfl, b2⟩
              have HB2 := Lib.hid (HBW.out.trans (b2.mono HBW.out.size))
              clear b2 t0 t1 t2 t3
              obtain ⟨t0, t1, t2, t3⟩ := HSE.out w2 HB2.out q hq
              obtain ⟨u0, u1, u2, u3⟩ := HSE.out w2 HB2.out (q + 1) hq1
              go_wp2_with fail
              refine (hkind.out _ HB2.out).mono ?_
              rintro e w3 ⟨rfl, b3⟩
              have HB3 := Lib.hid (HB2.out.trans (b3.mono HB2.out.size))
              clear b3 t0 t1 t2 t3 u0 u1 u2 u3
              obtain ⟨u0, u1, u2, u3⟩ := HSE.out w3 HB3.out (q + 1) hq1
              go_wp2_with fail
              have hfw := ((HB3.out).block _ HLT.out).trans HF0.out
              have hlw := heap_lt hfw
              have f0 := cell_blk (i := 0) hfw; have f1 := cell_blk (i := 1) hfw; have f2 := cell_blk (i := 2) hfw; have ff0 := free_blk (i := 0) hfw; have ff1 := free_blk (i := 1) hfw; have ff2 := free_blk (i := 2) hfw; simp at f0 f1 f2
              clear hfw
              go_region
              all_goals
                go_wp2
                refine bodyPost_ret (results_two_cell rfl _ _ _ w.heap.size _ _ _ _ rfl (flt_set _ _ _ (((?_ : Below w0.heap.size w0 _).block _ HLT.out).trans HF0.out)) rfl (by kernel_rfl)) rfl ?_
                · first | exact HB3.out | exact (HB3.out).drew | exact below_dr (HB3.out) _ | exact below_dr (HB3.out).drew _
                · rw [HG.out]
                  refine ⟨none, 0, 0, q + 1, rfl, by have := HN.out; omega, rfl, (fun h => by cases h), ?_⟩
                  have hbx : Below w.heap.size w _ := HB0.out.trans (Below.mono (HB3.out) HB0.out.size)
                  first | exact flt_below _ _ _ hbx (Nat.le_refl _) | exact flt_below _ _ _ (hbx.drew) (Nat.le_refl _) | exact flt_below _ _ _ (below_dr hbx _) (Nat.le_refl _) | exact (flt_below _ _ _ hbx (Nat.le_refl _)).drew | exact (flt_below _ _ _ (below_dr hbx _) (Nat.le_refl _)).drew
            | some k =>
              have hki : kindI E.ns (tk E.ts (q + 1)).text = (k : Int) := by unfold kindI; rw [hfw]
              rw [hki] at hkind
              obtain ⟨hia, hna⟩ := ints_of_nats HOWN.out
              rw [intsOf_len, HL.out] at hna
              have hhas : Hid (∀ W, Below wB.heap.size wB W → Calls Tryz.prog 47 #[.slice a L c, .int .i64 k] W fun e w' => e = .returned (.bool (decide ((k : Int) ∈ intsOf out))) ∧ Below W.heap.size W w') := Lib.hid fun W hW => by
                have := rhas_any W a c (intsOf out) (k : Int) (hia.below hW) (by rw [intsOf_len, HL.out]; unfold maxLen; omega)
                rwa [intsOf_len, HL.out] at this
              have hdec : decide ((k : Int) ∈ intsOf out) = decide (k ∈ out) := by
                congr 1
                simp only [intsOf, List.mem_map, Int.natCast_inj, exists_eq_right]
              rw [hdec] at hhas
              have hkl := findW_lt _ _ _ hfw
              have hkn : k ≤ 4611686018427387904 := by have := HE.out.many; unfold TE.ns at hkl; rw [List.length_map] at hkl; omega
              have q8 : ¬ ((k : Int) < 0) := by omega
              by_cases hin : k ∈ out
              · have hdt : decide (k ∈ out) = true := by simp [hin]
                rw [hdt] at hhas
                have hko : kindOf E.ns (tk E.ts (q + 1)).kt out = (7, 0) := by
                  show (if (tk E.ts (q + 1)).kind = 1 then (match findW E.ns (tk E.ts (q + 1)).text 0 with | none => _ | some k => _) else _) = _
                  rw [if_pos hk1, hfw]
                  simp only [if_pos hin]
                have hg := HG.out
                rw [hko, if_neg (by simp)] at hg
                have HG := Lib.hid hg
                clear hki hko hg hfw wfu hia hna hdec hdt hin hkl
                go_wp2_with fail
                refine HNUM.out.mono ?_
                rintro e w2 ⟨rfl, b2⟩
                have HB2 := Lib.hid (HBW.out.trans (b2.mono HBW.out.size))
                have HC2 := Lib.hid b2
                clear b2 t0 t1 t2 t3
                obtain ⟨t0, t1, t2, t3⟩ := HSE.out w2 HB2.out q hq
                obtain ⟨u0, u1, u2, u3⟩ := HSE.out w2 HB2.out (q + 1) hq1
                go_wp2_with fail
                refine (hkind.out _ HB2.out).mono ?_
                rintro e w3 ⟨rfl, b3⟩
                have HB3 := Lib.hid (HB2.out.trans (b3.mono HB2.out.size))
                have HC3 := Lib.hid (HC2.out.trans (b3.mono HC2.out.size))
                clear b3 t0 t1 t2 t3 u0 u1 u2 u3
                obtain ⟨u0, u1, u2, u3⟩ := HSE.out w3 HB3.out (q + 1) hq1
                go_wp2_with fail
                refine (hhas.out _ HC3.out).mono ?_
                rintro e w4 ⟨rfl, b4⟩
                have HB4 := Lib.hid (HB3.out.trans (b4.mono HB3.out.size))
                clear b4 u0 u1 u2 u3
                obtain ⟨u0, u1, u2, u3⟩ := HSE.out w4 HB4.out (q + 1) hq1
                go_wp2_with fail
                have hfw := ((HB4.out).block _ HLT.out).trans HF0.out
                have hlw := heap_lt hfw
                have f0 := cell_blk (i := 0) hfw; have f1 := cell_blk (i := 1) hfw; have f2 := cell_blk (i := 2) hfw; have ff0 := free_blk (i := 0) hfw; have ff1 := free_blk (i := 1) hfw; have ff2 := free_blk (i := 2) hfw; simp at f0 f1 f2
                clear hfw
                go_region
                all_goals
                  go_wp2
                  refine bodyPost_ret (results_two_cell rfl _ _ _ w.heap.size _ _ _ _ rfl (flt_set _ _ _ (((?_ : Below w0.heap.size w0 _).block _ HLT.out).trans HF0.out)) rfl (by kernel_rfl)) rfl ?_
                  · first | exact HB4.out | exact (HB4.out).drew | exact below_dr (HB4.out) _ | exact below_dr (HB4.out).drew _
                  · rw [HG.out]
                    refine ⟨none, 0, 0, q + 1, rfl, by have := HN.out; omega, rfl, (fun h => by cases h), ?_⟩
                    have hbx : Below w.heap.size w _ := HB0.out.trans (Below.mono (HB4.out) HB0.out.size)
                    first | exact flt_below _ _ _ hbx (Nat.le_refl _) | exact flt_below _ _ _ (hbx.drew) (Nat.le_refl _) | exact flt_below _ _ _ (below_dr hbx _) (Nat.le_refl _) | exact (flt_below _ _ _ hbx (Nat.le_refl _)).drew | exact (flt_below _ _ _ (below_dr hbx _) (Nat.le_refl _)).drew
              · have hdt : decide (k ∈ out) = false := by simp [hin]
                rw [hdt] at hhas
                have hko : kindOf E.ns (tk E.ts (q + 1)).kt out = (0, k) := by
                  show (if (tk E.ts (q + 1)).kind = 1 then (match findW E.ns (tk E.ts (q + 1)).text 0 with | none => _ | some k => _) else _) = _
                  rw [if_pos hk1, hfw]
                  simp only [if_neg hin]
                have hg := HG.out
                rw [hko, if_pos rfl] at hg
                have HG := Lib.hid hg
                clear hki hko hg hfw wfu hia hna hdec hdt hin hkl
                go_wp2_with fail
                refine HNUM.out.mono ?_
                rintro e w2 ⟨rfl, b2⟩
                have HB2 := Lib.hid (HBW.out.trans (b2.mono HBW.out.size))
                have HC2 := Lib.hid b2
                clear b2 t0 t1 t2 t3
                obtain ⟨t0, t1, t2, t3⟩ := HSE.out w2 HB2.out q hq
                obtain ⟨u0, u1, u2, u3⟩ := HSE.out w2 HB2.out (q + 1) hq1
                go_wp2_with fail
                refine (hkind.out _ HB2.out).mono ?_
                rintro e w3 ⟨rfl, b3⟩
                have HB3 := Lib.hid (HB2.out.trans (b3.mono HB2.out.size))
                have HC3 := Lib.hid (HC2.out.trans (b3.mono HC2.out.size))
                clear b3 t0 t1 t2 t3 u0 u1 u2 u3
                go_wp2_with fail
                refine (hhas.out _ HC3.out).mono ?_
                rintro e w4 ⟨rfl, b4⟩
                have HB4 := Lib.hid (HB3.out.trans (b4.mono HB3.out.size))
                have HC4 := Lib.hid (HC3.out.trans (b4.mono HC3.out.size))
                have HO4 := Lib.hid (ownsRow_later HOWN.out HC4.out)
                clear b4
                go_wp2_with fail
                go_loopw [9, 14] (fun v9 v14 wr => ∃ (i : Nat) (a : Option Addr) (c : Nat), v14 = .int .i64 i ∧ i ≤ n1 ∧ v9 = .slice a (L + i) c ∧ NatsAt wr w0.heap.size (.slice a (L + i) c) (out ++ List.replicate i k) ∧ Below w0.heap.size w0 wr) (fun _ v14 _ => n1 - (RowKit.intOf v14).toNat)
                case atStart => exact ⟨0, a, c, by rfl, by omega, rfl, by rw [List.replicate_zero, List.append_nil]; show World.ownsRow w4 w0.heap.size 3 1 (.slice a L c) out.length (natCells out); rw [HL.out]; have := HO4.out; rw [HL.out] at this; exact this, HB4.out⟩
                case round =>
                obtain ⟨i, a, c, rfl, hi, rfl, hown, hbw⟩ := hrel
                rename World => wD
                have hlenq : (out ++ List.replicate i k).length = L + i := by rw [List.length_append, List.length_replicate, HL.out]
                have hblk : ∀ j, (Value.slice a (L + i) c).ownBlock = some j → w0.heap.size ≤ j := fun j hj => (World.ownsRow.lt hown j hj).1
                have HO := Lib.hid hown
                have HBD := Lib.hid hbw
                have HBK := Lib.hid hblk
                have HLQ := Lib.hid hlenq
                clear hown hbw hblk hlenq
                by_cases hlt : i < n1
                · have k1 : (i : Int) < (n1 : Int) := by omega
                  have hal : Below w0.heap.size w0 (wD.alloc (.cells #[.int .i64 k] 3)) := HBD.out.alloc HBD.out.size _
                  have hown2 : (wD.alloc (.cells #[.int .i64 k] 3)).ownsRow w0.heap.size 3 1 (.slice a (L + i) c) (L + i) (natCells (out ++ List.replicate i k)) := by
                    have := ownsRow_same HO.out (w' := wD.alloc (.cells #[.int .i64 k] 3)) (fun j hj => Below.heap_alloc _ _ _ (World.ownsRow.lt HO.out j hj).2)
                    rwa [HLQ.out] at this
                  have HAL := Lib.hid hal
                  have HO2 := Lib.hid hown2
                  clear hal hown2
                  go_wp2_with (at_builtin; (refine wpList_append_lies _ rfl (.tmp 121) (.tmp 123) 22 rfl w0.heap.size 3 i0 _ 1 8 Tryz.underlying22 hi0 hz0 hz1 hz2 rfl (by omega) _ (L + i) (natCells (out ++ List.replicate i k)) rfl HO2.out ⟨wD.heap.size, 0, none⟩ 1 1 [.int .i64 k] rfl rfl (World.news_of_block (cs := #[.int .i64 k]) (t := 3) (fr := (0, 0)) (heap_alloc_new _ _)) (by simp [Value.oneCell']) (by omega) (by unfold maxLen; omega) (by omega) HAL.out.size _ rfl ?_; intro g4 cap w5 hown4 hgrow4 hat4 hlt4; have hgr4 : World.grownBy _ w5 (Value.slice a (L + i) c).ownBlock := hgrow4))
                  have hB5 : Below w0.heap.size w0 w5 := HAL.out.grown hgr4 HAL.out.size (fun j hj => HBK.out j hj)
                  refine ⟨⟨i + 1, _, cap, by go_num, by omega, rfl, ?_, hB5⟩, ?_⟩
                  · have e : natCells (out ++ List.replicate i k) ++ [.int .i64 k] = natCells (out ++ List.replicate (i + 1) k) := by
                      simp only [natCells, List.replicate_succ', ← List.append_assoc, List.map_append, List.map_cons, List.map_nil]
                    rw [e] at hown4
                    have hl2 : (out ++ List.replicate (i + 1) k).length = L + i + 1 := by rw [List.length_append, List.length_replicate, HL.out]; omega
                    show World.ownsRow _ _ _ _ _ _ _
                    rw [hl2]
                    exact hown4
                  · simp [RowKit.intOf]; omega
                · obtain rfl : i = n1 := by omega
                  have k1 : ¬ ((i : Int) < (i : Int)) := by omega
                  go_wp2_with fail
                  go_roundw
                  case rel => exact ⟨q + 1 + 1, out ++ List.replicate i k, a, c, by go_num, hq2, by rw [HLQ.out], by rw [HLQ.out]; exact HO.out, HBD.out, HG.out.symm, by rw [HLQ.out]; omega⟩
                  case measure => simp [RowKit.intOf]; omega
          · have qU : (((tk E.ts (q + 1)).kind : Int) == 1) = false := by simp only [beq_eq_false_iff_ne, ne_eq]; omega
            have hko : kindOf E.ns (tk E.ts (q + 1)).kt out = (5, 0) := by
              show (if (tk E.ts (q + 1)).kind = 1 then _ else _) = _
              rw [if_neg hk1]
            have hg := HG.out
            rw [hko, if_neg (by simp)] at hg
            have HG := Lib.hid hg
            clear hko hg wfu
            go_wp2_with fail
            refine HNUM.out.mono ?_
            rintro e w2 ⟨rfl, b2⟩
            have HB2 := Lib.hid (HBW.out.trans (b2.mono HBW.out.size))
            clear b2 t0 t1 t2 t3
            obtain ⟨t0, t1, t2, t3⟩ := HSE.out w2 HB2.out q hq
            obtain ⟨u0, u1, u2, u3⟩ := HSE.out w2 HB2.out (q + 1) hq1
            go_wp2_with fail
            have hfw := ((HB2.out).block _ HLT.out).trans HF0.out
            have hlw := heap_lt hfw
            have f0 := cell_blk (i := 0) hfw; have f1 := cell_blk (i := 1) hfw; have f2 := cell_blk (i := 2) hfw; have ff0 := free_blk (i := 0) hfw; have ff1 := free_blk (i := 1) hfw; have ff2 := free_blk (i := 2) hfw; simp at f0 f1 f2
            clear hfw
            go_region
            all_goals
              go_wp2
              refine bodyPost_ret (results_two_cell rfl _ _ _ w.heap.size _ _ _ _ rfl (flt_set _ _ _ (((?_ : Below w0.heap.size w0 _).block _ HLT.out).trans HF0.out)) rfl (by kernel_rfl)) rfl ?_
              · first | exact HB2.out | exact (HB2.out).drew | exact below_dr (HB2.out) _ | exact below_dr (HB2.out).drew _
              · rw [HG.out]
                refine ⟨none, 0, 0, q + 1, rfl, by have := HN.out; omega, rfl, (fun h => by cases h), ?_⟩
                have hbx : Below w.heap.size w _ := HB0.out.trans (Below.mono (HB2.out) HB0.out.size)
                first | exact flt_below _ _ _ hbx (Nat.le_refl _) | exact flt_below _ _ _ (hbx.drew) (Nat.le_refl _) | exact flt_below _ _ _ (below_dr hbx _) (Nat.le_refl _) | exact (flt_below _ _ _ hbx (Nat.le_refl _)).drew | exact (flt_below _ _ _ (below_dr hbx _) (Nat.le_refl _)).drew
      · have qK : (((tk E.ts q).kind : Int) == 2) = false := by simp only [beq_eq_false_iff_ne, ne_eq]; omega
        have hg := go_other (ns := E.ns) (l := E.kts.drop (q + 1)) (out := out) (t := (tk E.ts q).kt) hk
        rw [hgo] at hg
        by_cases ht : (tk E.ts q).text = ⟨#[125]⟩
        · have qA : ((tk E.ts q).text.toList == [125]) = true := str_eq_l ht
          have hq1 : q + 1 < N := by rw [← HN.out]; exact HE.out.text hqE ht (by decide)
          rw [if_pos (show (tk E.ts q).kt.2 = ⟨#[125]⟩ from ht)] at hg
          rw [HL.out] at hg
          by_cases hc : L < 5 ∨ 40 < L
          · rw [if_pos hc, ← HDQ.out] at hg
            have HG := Lib.hid hg
            clear hgo hg wft hmem HNUM
            rcases hc with hc | hc
            · have c5 : (L : Int) < 5 := by omega
              go_wp2_with fail
              have hfw := ((HBW.out).block _ HLT.out).trans HF0.out
              have hlw := heap_lt hfw
              have f0 := cell_blk (i := 0) hfw; have f1 := cell_blk (i := 1) hfw; have f2 := cell_blk (i := 2) hfw; have ff0 := free_blk (i := 0) hfw; have ff1 := free_blk (i := 1) hfw; have ff2 := free_blk (i := 2) hfw; simp at f0 f1 f2
              clear hfw
              go_region
              all_goals
                go_wp2
                refine bodyPost_ret (results_two_cell rfl _ _ _ w.heap.size _ _ _ _ rfl (flt_set _ _ _ (((?_ : Below w0.heap.size w0 _).block _ HLT.out).trans HF0.out)) rfl (by kernel_rfl)) rfl ?_
                · first | exact HBW.out | exact (HBW.out).drew | exact below_dr (HBW.out) _ | exact below_dr (HBW.out).drew _
                · rw [HG.out]
                  refine ⟨none, 0, 0, q, rfl, by have := HN.out; omega, rfl, (fun h => by cases h), ?_⟩
                  have hbx : Below w.heap.size w _ := HB0.out.trans (Below.mono (HBW.out) HB0.out.size)
                  first | exact flt_below _ _ _ hbx (Nat.le_refl _) | exact flt_below _ _ _ (hbx.drew) (Nat.le_refl _) | exact flt_below _ _ _ (below_dr hbx _) (Nat.le_refl _) | exact (flt_below _ _ _ hbx (Nat.le_refl _)).drew | exact (flt_below _ _ _ (below_dr hbx _) (Nat.le_refl _)).drew
            · have c5 : ¬ ((L : Int) < 5) := by omega
              have c40 : (40 : Int) < (L : Int) := by omega
              go_wp2_with fail
              have hfw := ((HBW.out).block _ HLT.out).trans HF0.out
              have hlw := heap_lt hfw
              have f0 := cell_blk (i := 0) hfw; have f1 := cell_blk (i := 1) hfw; have f2 := cell_blk (i := 2) hfw; have ff0 := free_blk (i := 0) hfw; have ff1 := free_blk (i := 1) hfw; have ff2 := free_blk (i := 2) hfw; simp at f0 f1 f2
              clear hfw
              go_region
              all_goals
                go_wp2
                refine bodyPost_ret (results_two_cell rfl _ _ _ w.heap.size _ _ _ _ rfl (flt_set _ _ _ (((?_ : Below w0.heap.size w0 _).block _ HLT.out).trans HF0.out)) rfl (by kernel_rfl)) rfl ?_
                · first | exact HBW.out | exact (HBW.out).drew | exact below_dr (HBW.out) _ | exact below_dr (HBW.out).drew _
                · rw [HG.out]
                  refine ⟨none, 0, 0, q, rfl, by have := HN.out; omega, rfl, (fun h => by cases h), ?_⟩
                  have hbx : Below w.heap.size w _ := HB0.out.trans (Below.mono (HBW.out) HB0.out.size)
                  first | exact flt_below _ _ _ hbx (Nat.le_refl _) | exact flt_below _ _ _ (hbx.drew) (Nat.le_refl _) | exact flt_below _ _ _ (below_dr hbx _) (Nat.le_refl _) | exact (flt_below _ _ _ hbx (Nat.le_refl _)).drew | exact (flt_below _ _ _ (below_dr hbx _) (Nat.le_refl _)).drew
          · rw [if_neg hc] at hg
            have HG := Lib.hid hg
            have c5 : (5 : Int) ≤ (L : Int) := by omega
            have c40 : (L : Int) ≤ 40 := by omega
            clear hgo hg wft hmem HNUM
            have hfw := (HBW.out.block _ HLT.out).trans HF0.out
            have hlw := heap_lt hfw
            have f0 := cell_blk (i := 0) hfw; have f1 := cell_blk (i := 1) hfw; have f2 := cell_blk (i := 2) hfw; have ff0 := free_blk (i := 0) hfw; have ff1 := free_blk (i := 1) hfw; have ff2 := free_blk (i := 2) hfw; simp at f0 f1 f2
            clear hfw
            go_wp2_with fail
            refine bodyPost_ret (results_two_cell rfl _ _ _ w.heap.size _ _ _ _ rfl (flt_set _ _ _ ((HBW.out.block _ HLT.out).trans HF0.out)) rfl (by kernel_rfl)) rfl ?_
            rw [HG.out]
            refine ⟨a, L, c, q + 1, ?_, by have := HN.out; omega, rfl, (fun _ => ?_), flt_below _ _ _ (HB0.out.trans (HBW.out.mono HB0.out.size)) (Nat.le_refl _)⟩
            · show _ = Ending.returned (.tuple #[.slice a L c, .int .i64 ((q + 1 : Nat) : Int), .agg #[.int .i64 0, .int .i64 0, .int .i64 0]])
              rw [show ((q + 1 : Nat) : Int) = (q : Int) + 1 by omega]
              rfl
            · have := nats_set (F := w.heap.size) (.int .i64 0) (.int .i64 0) (.int .i64 0) HOWN.out (by have := HS0.out; omega)
              rw [HL.out] at this
              exact nats_base this HB0.out.size
        · have qA : ((tk E.ts q).text.toList == [125]) = false := str_ne_l ht
          rw [if_neg (show (tk E.ts q).kt.2 ≠ ⟨#[125]⟩ from ht), ← HDQ.out] at hg
          have HG := Lib.hid hg
          clear hgo hg wft hmem
          go_wp2_with fail
          refine HNUM.out.mono ?_
          rintro e w2 ⟨rfl, b2⟩
          have HB2 := Lib.hid (HBW.out.trans (b2.mono HBW.out.size))
          clear b2 t0 t1 t2 t3
          obtain ⟨t0, t1, t2, t3⟩ := HSE.out w2 HB2.out q hq
          go_wp2_with fail
          have hfw := ((HB2.out).block _ HLT.out).trans HF0.out
          have hlw := heap_lt hfw
          have f0 := cell_blk (i := 0) hfw; have f1 := cell_blk (i := 1) hfw; have f2 := cell_blk (i := 2) hfw; have ff0 := free_blk (i := 0) hfw; have ff1 := free_blk (i := 1) hfw; have ff2 := free_blk (i := 2) hfw; simp at f0 f1 f2
          clear hfw
          go_region
          all_goals
            go_wp2
            refine bodyPost_ret (results_two_cell rfl _ _ _ w.heap.size _ _ _ _ rfl (flt_set _ _ _ (((?_ : Below w0.heap.size w0 _).block _ HLT.out).trans HF0.out)) rfl (by kernel_rfl)) rfl ?_
            · first | exact HB2.out | exact (HB2.out).drew | exact below_dr (HB2.out) _ | exact below_dr (HB2.out).drew _
            · rw [HG.out]
              refine ⟨none, 0, 0, q, rfl, by have := HN.out; omega, rfl, (fun h => by cases h), ?_⟩
              have hbx : Below w.heap.size w _ := HB0.out.trans (Below.mono (HB2.out) HB0.out.size)
              first | exact flt_below _ _ _ hbx (Nat.le_refl _) | exact flt_below _ _ _ (hbx.drew) (Nat.le_refl _) | exact flt_below _ _ _ (below_dr hbx _) (Nat.le_refl _) | exact (flt_below _ _ _ hbx (Nat.le_refl _)).drew | exact (flt_below _ _ _ (below_dr hbx _) (Nat.le_refl _)).drew
    · have qy : ((tk E.ts (p + 1)).text.toList == [123]) = false := str_ne_l hy
      have HR : Hid (oneDeck E.ns (E.kts.drop p) = (5, [], E.kts.drop (p + 1))) := Lib.hid (by
        rw [hd, hd1]
        show (if (tk E.ts p).text = _ then (if (tk E.ts (p + 1)).text = _ then _ else _) else _) = _
        rw [if_pos hx, if_neg hy])
      obtain ⟨t0, t1, t2, t3⟩ := hxe
      have f0 := cell_blk (i := 0) hf0; have f1 := cell_blk (i := 1) hf0; have f2 := cell_blk (i := 2) hf0; have ff0 := free_blk (i := 0) hf0; have ff1 := free_blk (i := 1) hf0; have ff2 := free_blk (i := 2) hf0; simp at f0 f1 f2
      have g0 := cell_blk (i := 0) hh0; have g1 := cell_blk (i := 1) hh0; have gf0 := free_blk (i := 0) hh0; have gf1 := free_blk (i := 1) hh0; simp at g0 g1
      clear hd hd1 hw0 hb0 hs0 hx hy hN h hf0 hh0
      go_enter Tryz.func21, Tryz.ntmps21
      go_wp2_with fail
      rw [← HW0.out]
      refine wp_loop_rounds 3 ?_
      rw [rounds_succ]
      go_wp2_with fail
      go_quiet (fail)
      go_wp2_with fail
      rw [rounds_succ]
      go_wp2_with fail
      go_quiet (fail)
      go_wp2_with fail
      go_region
      all_goals
        go_wp2
        refine bodyPost_ret (results_two_cell rfl _ _ _ w.heap.size _ _ _ _ rfl (flt_set _ _ _ (((?_ : Below w0.heap.size w0 _).block _ HLT.out).trans HF0.out)) rfl (by kernel_rfl)) rfl ?_
        · first | exact Below.refl w0.heap.size w0 | exact (Below.refl w0.heap.size w0).drew | exact below_dr (Below.refl w0.heap.size w0) _ | exact below_dr (Below.refl w0.heap.size w0).drew _
        · rw [HR.out]
          refine ⟨none, 0, 0, p + 1, rfl, by have := HN.out; omega, rfl, (fun h => by cases h), ?_⟩
          have hbx : Below w.heap.size w _ := HB0.out.trans (Below.mono (Below.refl w0.heap.size w0) HB0.out.size)
          first | exact flt_below _ _ _ hbx (Nat.le_refl _) | exact flt_below _ _ _ (hbx.drew) (Nat.le_refl _) | exact flt_below _ _ _ (below_dr hbx _) (Nat.le_refl _) | exact (flt_below _ _ _ hbx (Nat.le_refl _)).drew | exact (flt_below _ _ _ (below_dr hbx _) (Nat.le_refl _)).drew
  · have q : ((tk E.ts p).text.toList == [100, 101, 99, 107]) = false := str_ne_l hx
    have HR : Hid (oneDeck E.ns (E.kts.drop p) = (5, [], E.kts.drop p)) := Lib.hid (by
      rw [hd]; show (if (tk E.ts p).text = _ then _ else _) = _; rw [if_neg hx])
    have f0 := cell_blk (i := 0) hf0; have f1 := cell_blk (i := 1) hf0; have f2 := cell_blk (i := 2) hf0; have ff0 := free_blk (i := 0) hf0; have ff1 := free_blk (i := 1) hf0; have ff2 := free_blk (i := 2) hf0; simp at f0 f1 f2
    have g0 := cell_blk (i := 0) hh0; have g1 := cell_blk (i := 1) hh0; have gf0 := free_blk (i := 0) hh0; have gf1 := free_blk (i := 1) hh0; simp at g0 g1
    clear hd hw0 hb0 hs0 hx hN h hf0 hh0
    go_enter Tryz.func21, Tryz.ntmps21
    go_wp2_with fail
    rw [← HW0.out]
    refine wp_loop_rounds 3 ?_
    rw [rounds_succ]
    go_wp2_with fail
    go_quiet (fail)
    go_wp2_with fail
    go_region
    all_goals
      go_wp2
      refine bodyPost_ret (results_two_cell rfl _ _ _ w.heap.size _ _ _ _ rfl (flt_set _ _ _ (((?_ : Below w0.heap.size w0 _).block _ HLT.out).trans HF0.out)) rfl (by kernel_rfl)) rfl ?_
      · first | exact Below.refl w0.heap.size w0 | exact (Below.refl w0.heap.size w0).drew | exact below_dr (Below.refl w0.heap.size w0) _ | exact below_dr (Below.refl w0.heap.size w0).drew _
      · rw [HR.out]
        refine ⟨none, 0, 0, p, rfl, by have := HN.out; omega, rfl, (fun h => by cases h), ?_⟩
        have hbx : Below w.heap.size w _ := HB0.out.trans (Below.mono (Below.refl w0.heap.size w0) HB0.out.size)
        first | exact flt_below _ _ _ hbx (Nat.le_refl _) | exact flt_below _ _ _ (hbx.drew) (Nat.le_refl _) | exact flt_below _ _ _ (below_dr hbx _) (Nat.le_refl _) | exact (flt_below _ _ _ hbx (Nat.le_refl _)).drew | exact (flt_below _ _ _ (below_dr hbx _) (Nat.le_refl _)).drew
end Go.Proofs.YtbkjminjkjnkpaaGreatDoor
