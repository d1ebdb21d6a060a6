import Derived.Test.YtfdehhibgdeedaaQFfKin
import Derived.Test.YtfdehhibgdeedaaQRtTwoA
import Derived.Test.YtfdehhibgdeedaaQRtTwoB
import Derived.Test.YtfdehhibgdeedaaQRtDup
import Derived.Test.YtfdehhibgdeedaaQRtLaw
/- What both sides of FightTells answer of a table and of its copy. -/
namespace Go.Proofs.Ytfdehhibgdeedaa
open Go.RowKit Go.Lib

theorem life_same {t u : Tb} (h : u.l0 = t.l0 ∧ u.l1 = t.l1 ∧ u.tn = t.tn ∧ u.py = t.py) : LifeOk u ↔ LifeOk t := by
  constructor
  · intro ⟨a, b, c, d⟩
    rw [h.1] at a; rw [h.2.1] at b; rw [h.2.2.1] at c; rw [h.2.2.2] at d
    exact ⟨a, b, c, d⟩
  · intro ⟨a, b, c, d⟩
    rw [← h.1] at a; rw [← h.2.1] at b; rw [← h.2.2.1] at c; rw [← h.2.2.2] at d
    exact ⟨a, b, c, d⟩
theorem outTwo_len (xs : List Cd) (ps : List Pc) (p q : Pc) (a d : Nat) : (outTwo xs ps p q a d).2.length ≤ 2 := by
  unfold outTwo guardO attackO
  repeat' split
  all_goals simp

set_option maxHeartbeats 8000000 in
theorem outs_any (t u : Tb) (xs : List Cd) (ps : List Pc) (a d : Int) (w : World) (hT : TabIn w t xs ps) (hU : TabIn w u xs ps) (hr : LifeOk u ↔ LifeOk t) (hB : FewB xs) :
    ∃ (o : FO) (er : Int), (∀ W, Below w.heap.size w W → Calls Try.prog 9 #[.agg u.row, .int .i64 a, .int .i64 d] W (OutEnds o er W)) ∧ (∀ W, Below w.heap.size w W → Calls Try.prog 10 #[.agg t.row, .int .i64 a, .int .i64 d] W (OutEnds o er W)) ∧ o.2.length ≤ 2 := by
  have hnp := hT.np.1
  have hnu := hU.np.1
  have hno : (∀ W, Below w.heap.size w W → Calls Try.prog 20 #[.agg u.row, .int .i64 a, .int .i64 d] W fun e w' => e = .returned (.bool false) ∧ Below W.heap.size W w') → ∀ W, Below w.heap.size w W → Calls Try.prog 9 #[.agg u.row, .int .i64 a, .int .i64 d] W (OutEnds ((((0, 0), []) : FO)) 2 W) := fun h W hb => out_no u a d W fun V hv => h V (hb.trans (hv.mono hb.size))
  by_cases hm : LifeOk t ∧ GoodB xs ps
  rotate_left
  · exact ⟨((0, 0), []), 2, hno fun W hb => fm_nomay u xs ps a d W (hU.below hb) (fun h => hm ⟨hr.1 h.1, h.2⟩), fun W hb => rout_nomay t a d W (fun V hv => rmay_no t xs ps V (hT.below (hb.trans (hv.mono hb.size))) hm), by simp⟩
  obtain ⟨hL, hG⟩ := hm
  have hLu := hr.2 hL
  have hmay : ∀ W, Below w.heap.size w W → ∀ V, Below W.heap.size W V → Calls Try.prog 17 #[.agg t.row] V fun e w' => e = .returned (.bool true) ∧ Below V.heap.size V w' := fun W hb V hv => rmay_yes t xs ps V (hT.below (hb.trans (hv.mono hb.size))) hL hG
  by_cases ha : 0 ≤ a ∧ a < t.np
  rotate_left
  · refine ⟨((0, 0), []), 2, hno fun W hb => fm_noa u xs ps a d W (hU.below hb) hLu hG (by rw [hnu, ← hnp]; exact ha), fun W hb => ?_, by simp⟩
    by_cases h1 : a < 0
    · exact rout_a1 t a d W (hmay W hb) h1
    · exact rout_a2 t a d W (hmay W hb) h1 (by omega)
  obtain ⟨i, rfl⟩ : ∃ i : Nat, a = i := ⟨a.toNat, by omega⟩
  obtain ⟨p, hi⟩ : ∃ p, ps[i]? = some p := ⟨ps[i]'(by omega), List.getElem?_eq_getElem _⟩
  have hp1 := (hG.one p (List.mem_of_getElem? hi)).hs
  have hpc : ∀ (j : Nat) (r : Pc), ps[j]? = some r → ∀ W, Below w.heap.size w W → j < t.np ∧ ∃ g o, t.qp = some ⟨g, o, none⟩ ∧ g < W.heap.size ∧ ∀ (k : Nat) (v : Value), (pcV r)[k]? = some v → W.cell? ⟨g, o + j * 14 + k, none⟩ = some v := fun j r hj W hb => ⟨by have := (List.getElem?_eq_some_iff.1 hj).1; omega, (hT.below hb).piece hj⟩
  have hra : ∀ (j : Nat) (r : Pc), ps[j]? = some r → ∀ W, Below w.heap.size w W → ∀ V, Below W.heap.size W V → Calls Try.prog 16 #[.agg t.row, .int .i64 j] V fun e w' => e = .returned (.int .i64 (attackA xs ps r j)) ∧ Below V.heap.size V w' := fun j r hj W hb V hv => rattack_may t xs ps j r V (hT.below (hb.trans (hv.mono hb.size))) hL hG hB hj
  have hbd : ∀ (j : Nat) (r : Pc), ps[j]? = some r → 0 ≤ attackA xs ps r j ∧ attackA xs ps r j ≤ 99999 := fun j r hj => attack_bd (by have := (hG.one r (List.mem_of_getElem? hj)).ak; omega)
  cases hatt : attB p with
  | false =>
    refine ⟨((0, 0), []), 2, hno fun W hb => fm_noatt u xs ps i d p W (hU.below hb) hLu hG hi hatt, fun W hb => ?_, by simp⟩
    by_cases h3 : d < -1
    · exact rout_d1 t i d W (hmay W hb) (by omega) (by omega) h3
    by_cases h4 : d ≥ (t.np : Int)
    · exact rout_d2 t i d W (hmay W hb) (by omega) (by omega) h3 h4
    exact rout_noatt t i d p W (hmay W hb) (hpc i p hi W hb) hatt h3 h4
  | true =>
    by_cases hd1 : d = -1
    · subst hd1
      have ho := fun (W : World) (hb : Below w.heap.size w W) => outcome_nobody u xs ps i p W (hU.below hb) hLu hG hB.few hi hatt
      rcases (show p.hs = 0 ∨ p.hs = 1 by omega) with h0 | h0
      · rw [h0] at ho
        exact ⟨((0, attackA xs ps p i), []), 0, ho, fun W hb => rout_nobody0 t i _ p W (hmay W hb) (hpc i p hi W hb) hatt (by omega) (by omega) (hbd i p hi) (hra i p hi W hb) h0, by simp⟩
      · rw [h0] at ho
        exact ⟨((attackA xs ps p i, 0), []), 0, ho, fun W hb => rout_nobody1 t i _ p W (hmay W hb) (hpc i p hi W hb) hatt (by omega) (by omega) (hbd i p hi) (hra i p hi W hb) h0, by simp⟩
    by_cases hd : 0 ≤ d ∧ d < t.np
    rotate_left
    · refine ⟨((0, 0), []), 2, hno fun W hb => fm_nod u xs ps i d p W (hU.below hb) hLu hG hi hatt (by rw [hnu, ← hnp]; exact hd) hd1, fun W hb => ?_, by simp⟩
      by_cases h3 : d < -1
      · exact rout_d1 t i d W (hmay W hb) (by omega) (by omega) h3
      · exact rout_d2 t i d W (hmay W hb) (by omega) (by omega) h3 (by omega)
    obtain ⟨j, rfl⟩ : ∃ j : Nat, d = j := ⟨d.toNat, by omega⟩
    obtain ⟨q, hj⟩ : ∃ q, ps[j]? = some q := ⟨ps[j]'(by omega), List.getElem?_eq_getElem _⟩
    have hq1 := (hG.one q (List.mem_of_getElem? hj)).hs
    have h3 : ¬ (j : Int) < -1 := by omega
    have h4 : ¬ (j : Int) ≥ (t.np : Int) := by omega
    cases htar : tarB q (1 - p.hs) with
    | false =>
      refine ⟨((0, 0), []), 2, hno (fun W hb => by have := fm_two u xs ps i j p q W (hU.below hb) hLu hG hi hatt hj; rwa [htar] at this), fun W hb => ?_, by simp⟩
      by_cases hz : q.zn = 2
      · exact rout_notarh t i j _ p q W (hmay W hb) (hpc i p hi W hb) hatt h3 h4 (hbd i p hi) (hra i p hi W hb) (hpc j q hj W hb) hz (by unfold tarB at htar; simp [hz] at htar; omega)
      · exact rout_notarz t i j _ p q W (hmay W hb) (hpc i p hi W hb) hatt h3 h4 (hbd i p hi) (hra i p hi W hb) (hpc j q hj W hb) hz
    | true =>
      have htq : q.zn = 2 ∧ q.hs = 1 - p.hs := by unfold tarB at htar; simpa using htar
      refine ⟨outTwo xs ps p q i j, 0, fun W hb => outcome_two u xs ps i j p q W (hU.below hb) hLu hG hB.few hi hj hatt htar, fun W hb => ?_, outTwo_len _ _ _ _ _ _⟩
      have hg := (hG.one q (List.mem_of_getElem? hj)).gd
      have hpI := hpc i p hi W hb
      have hpJ := hpc j q hj W hb
      have hA := hbd i p hi
      have hM := hbd j q hj
      have rA := hra i p hi W hb
      have rM := hra j q hj W hb
      have hmW := hmay W hb
      cases hlw : q.lw with
      | true =>
        unfold outTwo
        rw [if_pos hlw]
        rcases (show p.hs = 0 ∨ p.hs = 1 by omega) with h0 | h0
        · have hk : q.hs = 1 := by omega
          rw [h0]
          unfold guardO
          rcases Int.lt_trichotomy (attackA xs ps p i) q.gd with hc | hc | hc
          · rw [if_pos hc]
            exact rout_low0_lt t i j _ _ p q W hmW hpI hatt h3 h4 hA rA hpJ htq.1 h0 hk hlw hg rfl hc
          · rw [if_neg (by omega), if_neg (by omega)]
            exact rout_low0_eq t i j _ 0 p q W hmW hpI hatt h3 h4 hA rA hpJ htq.1 h0 hk hlw hg hc
          · rw [if_neg (by omega), if_pos hc]
            exact rout_low0_gt t i j _ (attackA xs ps p i - q.gd) p q W hmW hpI hatt h3 h4 hA rA hpJ htq.1 h0 hk hlw hg rfl hc
        · have hk : q.hs = 0 := by omega
          rw [h0]
          unfold guardO
          rcases Int.lt_trichotomy (attackA xs ps p i) q.gd with hc | hc | hc
          · rw [if_pos hc]
            exact rout_low1_lt t i j _ _ p q W hmW hpI hatt h3 h4 hA rA hpJ htq.1 h0 hk hlw hg rfl hc
          · rw [if_neg (by omega), if_neg (by omega)]
            exact rout_low1_eq t i j _ 0 p q W hmW hpI hatt h3 h4 hA rA hpJ htq.1 h0 hk hlw hg hc
          · rw [if_neg (by omega), if_pos hc]
            exact rout_low1_gt t i j _ (attackA xs ps p i - q.gd) p q W hmW hpI hatt h3 h4 hA rA hpJ htq.1 h0 hk hlw hg rfl hc
      | false =>
        unfold outTwo
        rw [if_neg (by rw [hlw]; simp)]
        rcases (show p.hs = 0 ∨ p.hs = 1 by omega) with h0 | h0
        · have hk : q.hs = 1 := by omega
          rw [h0, hk]
          unfold attackO
          rcases Int.lt_trichotomy (attackA xs ps p i) (attackA xs ps q j) with hc | hc | hc
          · rw [if_pos hc]
            exact rout_high0_lt t i j _ _ _ p q W hmW hpI hatt h3 h4 hA rA hpJ htq.1 h0 hk hlw hM rfl hc rM
          · by_cases hz : attackA xs ps p i > 0
            · rw [if_neg (by omega), if_neg (by omega), if_pos hz]
              exact rout_high0_eqp t i j _ _ 0 p q W hmW hpI hatt h3 h4 hA rA hpJ htq.1 h0 hk hlw hM hc rM hz
            · rw [if_neg (by omega), if_neg (by omega), if_neg hz]
              exact rout_high0_eqz t i j _ _ 0 p q W hmW hpI hatt h3 h4 hA rA hpJ htq.1 h0 hk hlw hM hc rM hz
          · rw [if_neg (by omega), if_pos hc]
            exact rout_high0_gt t i j _ _ _ p q W hmW hpI hatt h3 h4 hA rA hpJ htq.1 h0 hk hlw hM rfl hc rM
        · have hk : q.hs = 0 := by omega
          rw [h0, hk]
          unfold attackO
          rcases Int.lt_trichotomy (attackA xs ps p i) (attackA xs ps q j) with hc | hc | hc
          · rw [if_pos hc]
            exact rout_high1_lt t i j _ _ _ p q W hmW hpI hatt h3 h4 hA rA hpJ htq.1 h0 hk hlw hM rfl hc rM
          · by_cases hz : attackA xs ps p i > 0
            · rw [if_neg (by omega), if_neg (by omega), if_pos hz]
              exact rout_high1_eqp t i j _ _ 0 p q W hmW hpI hatt h3 h4 hA rA hpJ htq.1 h0 hk hlw hM hc rM hz
            · rw [if_neg (by omega), if_neg (by omega), if_neg hz]
              exact rout_high1_eqz t i j _ _ 0 p q W hmW hpI hatt h3 h4 hA rA hpJ htq.1 h0 hk hlw hM hc rM hz
          · rw [if_neg (by omega), if_pos hc]
            exact rout_high1_gt t i j _ _ _ p q W hmW hpI hatt h3 h4 hA rA hpJ htq.1 h0 hk hlw hM rfl hc rM

theorem OptsAt.none (w : World) (b : Nat) : OptsAt w b (.slice none 0 0) [] := World.ownsRow_nil _ _ _ _
theorem atts_any (t u : Tb) (xs : List Cd) (ps : List Pc) (h : Nat) (w : World) (hT : TabIn w t xs ps) (hU : TabIn w u xs ps) (hr : LifeOk u ↔ LifeOk t) :
    ∃ ops : List Op3, (∀ W, Below w.heap.size w W → Calls Try.prog 11 #[.agg u.row, .int .u8 h] W (RAttEnds ops W)) ∧ (∀ W, Below w.heap.size w W → Calls Try.prog 14 #[.agg t.row, .int .u8 h] W (RAttEnds ops W)) ∧ ops.length ≤ 1000 := by
  by_cases hm : LifeOk t ∧ GoodB xs ps
  rotate_left
  · refine ⟨[], fun W hb => (attacks_nomay u xs ps h W (hU.below hb) fun k => hm ⟨hr.1 k.1, k.2⟩).mono ?_, fun W hb => (rattacks_nomay t xs ps h W (hT.below hb) hm).mono ?_, by simp⟩ <;>
    · intro e w' ⟨he, hb'⟩
      exact ⟨⟨_, he, OptsAt.none _ _⟩, hb'⟩
  obtain ⟨hL, hG⟩ := hm
  have hLu := hr.2 hL
  by_cases hh : h ≤ 1
  rotate_left
  · refine ⟨[], fun W hb => (attacks_nowho u xs ps h W (hU.below hb) hLu hG (by omega)).mono ?_, fun W hb => (rattacks_nowho t xs ps h W (hT.below hb) hL hG (by omega)).mono ?_, by simp⟩ <;>
    · intro e w' ⟨he, hb'⟩
      exact ⟨⟨_, he, OptsAt.none _ _⟩, hb'⟩
  refine ⟨optsOf ps (inL ps h 2) (tarL (inL ps (1 - h) 2)) ++ [(9, -1, -1)], fun W hb => (attacks_any u xs ps h W (hU.below hb) hLu hG hh).mono ?_, fun W hb => rattacks_any t xs ps h W (hT.below hb) hL hG hh, ?_⟩
  · intro e w' ⟨⟨v, own, ids, he, ho, hp, hp', hs, hs'⟩, hb'⟩
    rw [in_one hG hp hs, in_one hG hp' hs'] at ho
    exact ⟨⟨v, he, ho⟩, hb'⟩
  · have h1 : ∀ k, (inL ps k 2).length ≤ 5 := fun k => by
      have hnd : (idsIn ps k 2).length ≤ 5 := by rw [idsIn_len]; exact row_few hG k
      have hp : (inL ps k 2).Perm (idsIn ps k 2) := (List.perm_ext_iff_of_nodup (inL_nodup hG) idsIn_nodup).2 fun x => inL_mem hG
      rw [hp.length_eq]; exact hnd
    have h2 := optsOf_len ps (tarL (inL ps (1 - h) 2)) (inL ps h 2)
    have h3 := tarL_len (h1 (1 - h))
    have h4 := Nat.mul_le_mul (h1 h) h3
    rw [List.length_append, List.length_singleton]
    omega
theorem ExIn.low : ∀ (d : Nat) (w : World) (c : List Value) (x : Ex), ExIn 1000000 d w c x → ExIn 1 d w c x
  | 0, _, _, _, h => h.elim
  | d + 1, w, _, _, ⟨va, hc, hr⟩ => ⟨va, hc, hr.mono (by omega) fun c x => ExIn.low d w c x⟩
theorem CdIn.low {d : Nat} {w : World} {c : List Value} {x : Cd} (h : CdIn 1000000 d w c x) : CdIn 1 d w c x := by
  obtain ⟨ve, hc, hn, h1⟩ := h
  refine ⟨ve, hc, hn, h1.mono (by omega) fun _ _ k => ?_⟩
  obtain ⟨vc, vs, hc, h1, h2⟩ := k
  refine ⟨vc, vs, hc, h1.mono (by omega) fun _ _ k => ExIn.low _ _ _ _ k, h2.mono (by omega) fun _ _ k => ?_⟩
  obtain ⟨ce, hc, he⟩ := k
  exact ⟨ce, hc, ExIn.low _ _ _ _ he⟩
theorem same_any (t u : Tb) (D g : Nat) (xs : List Cd) (ps : List Pc) (es : List Ev) (w : World) (B : Nat) (hC : CameT w D t xs ps es) (hd : DupE w B D t u xs ps es g) :
    ∀ W, Below w.heap.size w W → Calls Try.prog 15 #[.agg u.row, .agg t.row] W fun e w' => e = .returned (.bool true) ∧ Below W.heap.size W w' := by
  have hnp : t.np = ps.length := by obtain ⟨q, c, hv, -⟩ := hC.pieces; simp only [Value.slice.injEq] at hv; exact hv.2.1
  have hnk : t.nk = xs.length := by obtain ⟨q, c, hv, -⟩ := hC.kinds; simp only [Value.slice.injEq] at hv; exact hv.2.1
  have hne : t.ne = es.length := by obtain ⟨q, c, hv, -⟩ := hC.events; simp only [Value.slice.injEq] at hv; exact hv.2.1
  have hfp : ps.length ≤ 4611686018427387904 := by obtain ⟨q, c, hv, -, hb, -⟩ := hC.pieces; omega
  have hfe : es.length ≤ 4611686018427387904 := by obtain ⟨q, c, hv, -, hb, -⟩ := hC.events; omega
  have k1 : RowIn w 6 0 (CdIn 0 (D + 1)) (.slice u.qk u.nk u.ck) xs := by rw [hd.base.nk]; exact CdD.toIn hd.base.kinds
  have k2 : RowIn w 6 0 (CdIn 0 (D + 1)) (.slice t.qk t.nk t.ck) xs := hC.kinds.mono (by omega) fun _ _ k => (k.any).up (by omega)
  have p2 : Things w 14 pcV t.qp ps := RowIn.things (fun _ _ _ h => h) hC.pieces
  have e2 : Things w 4 evV t.qe es := RowIn.things (fun _ _ _ h => h) hC.events
  have p1 : Things w 14 pcV u.qp ps := by
    by_cases h0 : ps.length = 0
    · exact Things.nil h0
    · obtain ⟨e, tail, hb⟩ := hd.base.pcs h0
      rw [e]
      exact Things.of_block (fun _ _ => rfl) hb
  have e1 : Things w 4 evV u.qe es := by
    by_cases h0 : es.length = 0
    · exact Things.nil h0
    · obtain ⟨g', e, -, tail, hb⟩ := hd.evs h0
      rw [e]
      exact Things.of_block (fun _ _ => rfl) hb
  intro W hb
  have hs := rsame_any (D + 1) u.qk u.qp u.qe t.qk t.qp t.qe t.nk t.np t.ne u.ck u.cp u.ce t.ck t.cp t.ce t.l0 t.l1 t.tn t.mo t.py t.b0 t.b1 xs ps es W hnp.symm hne.symm (by omega) (by omega)
    (by rw [hnk, ← hd.base.nk]; exact k1.below (CdIn.stays 0 (D + 1)) hb) (k2.below (CdIn.stays 0 (D + 1)) hb) (p1.below hb) (p2.below hb) (e1.below hb) (e2.below hb)
  have hu : u.row = #[.slice u.qk t.nk u.ck, .slice u.qp t.np u.cp, .int .i64 t.l0, .int .i64 t.l1, .int .i64 t.tn, .int .u8 t.py, .int .i64 t.mo, .slice u.qe t.ne u.ce, .bool t.b0, .bool t.b1] := by
    obtain ⟨r0, r1, r2, r3⟩ := hd.base.rest
    obtain ⟨m0, m1, m2⟩ := hd.more
    unfold Tb.row
    rw [r0, r1, r2, r3, m0, m1, m2, hd.base.nk, hd.base.np, hd.ne, hnp, hnk, hne]
  rw [hu]
  exact hs
theorem lawtells_in (D : Nat) (t : Tb) (xs : List Cd) (ps : List Pc) (es : List Ev) (a d : Int) (h : Nat) (w : World) (hC : CameT w D t xs ps es) (hT : TabIn w t xs ps) (hB : FewB xs) :
    Calls Try.prog 3 #[.agg t.row, .int .i64 a, .int .i64 d, .int .u8 h] w fun e w' => e = .returned (.bool true) ∧ Below w.heap.size w w' :=
  lawtells_any t a d h w fun W hb => (dupe_any D t xs ps es W (hC.below hb)).mono fun e w' ⟨⟨u, g, he, hd⟩, hb'⟩ => by
    have hbw := hb.trans (hb'.mono hb.size)
    have hT' := hT.below hbw
    have hC' := hC.below hbw
    have hU : TabIn w' u xs ps := hd.base.tab hT.few.1 hT.few.2
    have hr : LifeOk u ↔ LifeOk t := life_same hd.base.rest
    obtain ⟨o, er, h1, h2, h3⟩ := outs_any t u xs ps a d w' hT' hU hr hB
    obtain ⟨ops, g1, g2, g3⟩ := atts_any t u xs ps h w' hT' hU hr
    exact ⟨⟨u, o, er, ops, he, ⟨h1, h2, g1, g2, same_any t u D g xs ps es w' _ hC' hd, h3, g3⟩⟩, hb'⟩
end Go.Proofs.Ytfdehhibgdeedaa
