/-
  For every table, every number of a player, every id and every two expressions joustlaw08.EvalSums answers true: a value is in bounds; the sum of two expressions is that of their values, put into bounds, and so are the others; what is handed in stays. Conditions: none beside the row's own.
-/
import Derived.Test.YtlbbabojejimpaaQEsLaw
import Derived.Test.YtlbbabojejimpaaQTbG
import Derived.ProofKit
import Derived.HandedShaped

namespace Go.Proofs.Ytlbbabojejimpaa
open Go.RowKit Go.Shelf Go.Lib
open Go.ChangeShapes Go.WideShapes Go.ChangeAt

theorem tab_in {w : World} {D : Nat} {t : Tb} {xs : List Cd} {ps : List Pc} (hk : RowIn w 6 72 (CdIn 1 D) (.slice t.qk t.nk t.ck) xs) (hp : RowIn w 14 72 PcIn (.slice t.qp t.np t.cp) ps) : TabIn w t xs ps := by
  refine ⟨⟨D, hk.mono (by omega) fun _ _ k => k.any⟩, hp.mono (by omega) fun _ _ k => k, ?_, ?_⟩
  · obtain ⟨q, c, -, -, hb, -⟩ := hk
    omega
  · obtain ⟨q, c, -, -, hb, -⟩ := hp
    omega
theorem few_in {w : World} {D : Nat} {v : Value} {xs : List Cd} (h : RowIn w 6 72 (CdIn 1 D) v xs) : FewIn xs := by
  obtain ⟨q, c, -, -, -, hx⟩ := h
  intro x hx0
  obtain ⟨i, hi⟩ := List.mem_iff_getElem?.1 hx0
  obtain ⟨-, -, -, cs, -, ⟨ve, -, -, hr⟩, -⟩ := hx i x hi
  obtain ⟨q2, c2, -, -, hb, hx2⟩ := hr
  refine ⟨by omega, fun e he => ?_⟩
  obtain ⟨j, hj⟩ := List.mem_iff_getElem?.1 he
  obtain ⟨-, -, -, cs2, -, ⟨vc, vs, -, -, hr2⟩, -⟩ := hx2 j e hj
  obtain ⟨q3, c3, -, -, hb3, -⟩ := hr2
  omega
theorem ExC.succ : ∀ (d : Nat) (w : World) (c : List Value) (x : Ex), ExC d w c x → ExC (d + 1) w c x
  | 0, _, _, _, h => h.elim
  | d + 1, w, _, _, ⟨q, cap, hc, h1, h2, h⟩ => ⟨q, cap, hc, h1, h2, fun i p hp => by
      obtain ⟨g, o, hq, cs, hl, hx, hu⟩ := h i p hp
      exact ⟨g, o, hq, cs, hl, ExC.succ d w _ _ hx, hu⟩⟩
theorem ExC.up {d e : Nat} (h : d ≤ e) {w : World} {c : List Value} {x : Ex} (hx : ExC d w c x) : ExC e w c x := by
  induction h with
  | refl => exact hx
  | step _ ih => exact ExC.succ _ _ _ _ ih
section
variable {H : Type} {enc : TypeId × Value → H} {w : World}
set_option maxRecDepth 100000 in
set_option maxHeartbeats 1000000 in
theorem rd_exC : ∀ (m : Nat) (cs : List Value) (y : DataW H × List MemPlace), cs.length = 7 → DataW.trod enc Try.prog w 0 (fun _ => true) true m 33 cs = some y → ∃ X : Ex, ExC m w cs X := by
  intro m
  induction m using Nat.strongRecOn with
  | ind m ih =>
    intro cs y hcs h
    obtain ⟨ys, m1, hm, hy, _, hyl, hf⟩ := DataW.trod_struct Try.underlying33 h
    subst hy
    match cs, hcs with
    | [c0, c1, c2, c3, c4, c5, c6], _ =>
      match ys, hyl with
      | [y0, y1, y2, y3, y4], _ =>
        obtain ⟨o, rfl⟩ := rd_u8 (by have := hf 0 _ rfl; simpa [c_u8] using this)
        obtain ⟨z, rfl⟩ := rd_int (by have := hf 1 _ rfl; simpa [c_int] using this)
        obtain ⟨sd, rfl⟩ := rd_u8 (by have := hf 2 _ rfl; simpa [c_u8] using this)
        obtain ⟨sl, hsl⟩ := rd_sel (c0 := c3) (c1 := c4) (c2 := c5) (by have := hf 3 _ rfl; simpa [c_sel] using this)
        simp only [slV, List.cons.injEq, and_true] at hsl
        obtain ⟨rfl, rfl, rfl⟩ := hsl
        have h4 : DataW.trod enc Try.prog w 0 (fun _ => true) true m1 31 [c6] = some y4 := by have := hf 4 _ rfl; simpa [c_exprs] using this
        subst hm
        rcases DataW.trod_slice Try.underlying31 h4 with ⟨hcs, _⟩ | ⟨a, len, cap, elems, rest, n, hfu, hcs, hx, hb, hl, hmx, hlen, hel, _, _⟩
        · cases hcs
          exact ⟨.mk o z sd sl [], none, 0, rfl, Nat.le_refl _, Nat.zero_le _, fun i p hp => by simp [Ex.args] at hp⟩
        · cases hcs
          have hall : ∀ i, i < len → ∃ X, ∃ cs : List Value, cs.length = 7 ∧ ExC m1 w cs X ∧ ∀ j u, cs[j]? = some u → w.cell? (a.add (i * 7 + j)) = some u := by
            intro i hi
            have h1 := hel i hi
            have hy : elems[i]? = some (elems[i]'(by omega)) := List.getElem?_eq_getElem _
            rw [hy, c_expr, Option.bind_eq_some_iff] at h1
            obtain ⟨cs, hc, ht'⟩ := h1
            obtain ⟨_, hcl, hat⟩ := World.cells?_some hc
            have hcs : cs.length = 7 := by
              have := hcl; first | exact this | omega
            obtain ⟨X, hX⟩ := ih n (by omega) cs _ hcs ht'
            refine ⟨X, cs, hcs, hX.up (by omega), fun j u hu => ?_⟩
            have hj : j < 7 := by have := (List.getElem?_eq_some_iff.1 hu).1; omega
            rw [← Go.Deep.add_add, hat j hj, hu]
          obtain ⟨xs, hxl, hxs⟩ := list_made len hall
          refine ⟨.mk o z sd sl xs, some a, cap, by rw [show (Ex.mk o z sd sl xs).args = xs from rfl, hxl]; rfl, by rw [show (Ex.mk o z sd sl xs).args = xs from rfl, hxl]; exact hl, by rw [show (Ex.mk o z sd sl xs).args = xs from rfl, hxl]; omega, fun i x hx => ?_⟩
          replace hx : xs[i]? = some x := hx
          obtain ⟨cs, hcl, hQ, hcell⟩ := hxs i x hx
          have h0 := hcell 0 (cs[0]'(by omega)) (List.getElem?_eq_getElem _)
          have hsp : a.spot = none := by
            have := World.cell?_spot h0
            by_cases hz : i * 7 + 0 = 0
            · simpa [Addr.add, hz] using this
            · by_cases hi0 : i = 0
              · subst hi0; simp at hz
              · obtain ⟨cs0, hcl0, -, hc0⟩ := hxs 0 (xs[0]'(by have := (List.getElem?_eq_some_iff.1 hx).1; omega)) (List.getElem?_eq_getElem _)
                have := World.cell?_spot (hc0 0 (cs0[0]'(by omega)) (List.getElem?_eq_getElem _))
                simpa [Addr.add] using this
          obtain ⟨b, o', sp⟩ := a
          simp only at hsp
          subst hsp
          refine ⟨b, o', rfl, cs, hcl, hQ, fun j u hu => ?_⟩
          have := hcell j u hu
          rwa [show (⟨b, o', none⟩ : Addr).add (i * 7 + j) = ⟨b, o' + i * 7 + j, none⟩ by simp [Addr.add, Nat.add_assoc]] at this
set_option maxRecDepth 100000 in
/-- An expression that came in. -/
theorem open_expr {v : Value} {d : DataW H} {p : List MemPlace} {r : Reach} {b0 : Nat} (hv : Value.okWide Try.prog w r b0 33 v) (h : DataW.Trod enc Try.prog w 0 (fun _ => true) true 33 v d p) :
    ∃ (X : Ex) (D : Nat) (q : Option Addr) (c : Nat), v = .agg (exV X (.slice q X.args.length c)).toArray ∧ ExC D w (exV X (.slice q X.args.length c)) X := by
  obtain ⟨cs, rfl, hsz⟩ := okWide_struct Try.underlying33 hv
  obtain ⟨l⟩ := cs
  obtain ⟨fuel, hf⟩ := h
  obtain ⟨X, hX⟩ := rd_exC fuel l _ (by have := hsz.trans c_expr; simpa using this) (by simpa [Value.cells] using hf)
  cases fuel with
  | zero => exact hX.elim
  | succ D =>
    have hX' := hX
    obtain ⟨q, cap, rfl, -⟩ := hX
    exact ⟨X, D + 1, q, cap, rfl, hX'⟩
end
theorem Try.own : ownKnob Try.prog.godebug = none := by kernel_rfl
theorem Try.laidOut : laidOutB Try.prog = true := by kernel_rfl
def zeroT : Value := .agg #[.slice none 0 0, .slice none 0 0, .int .i64 0, .int .i64 0, .int .i64 0, .int .u8 0, .int .i64 0, .slice none 0 0, .bool false, .bool false]
def zeroX : Value := .agg #[.int .u8 0, .int .i64 0, .int .u8 0, .int .u8 0, .int .u8 0, .int .u8 0, .slice none 0 0]
set_option maxRecDepth 100000 in
theorem es_lifted (os : Os) (started : os.Started) (H : Type) (enc : TypeId × Value → H) :
    ReturnsInHanded {} Try.checked os 3 .any (Rows.evalSumsSpec.pre6 enc Try.prog Try.f3 Rows.evalSumsRow.domain false) (Rows.evalSumsSpec.post enc Try.prog Try.f3 false true false false) := by
  refine returnsInHanded_of_change_shaped (C := Try.checked) Try.own started (by kernel_rfl) Try.func3
    (ChangeSpec.witness6 (enc := enc) (C := Try.checked) false ⟨#[], #[zeroT, .int .u8 0, .int .i64 0, zeroX, zeroX], []⟩ 8 (by kernel_rfl) (by kernel_rfl) (by kernel_rfl) (by kernel_rfl)) ?_
  intro W base args ds gs before hval0 hW _ hSz _ _
  have hval : ∀ (j : Nat) t v, Try.f3.params[j]? = some t → args[j]? = some v → Value.okWide Try.prog W .any base t v := hval0
  have hW' := hW
  obtain ⟨p, q, hA0, hV, rfl, _, _⟩ := hW
  have hA : DataW.TrodAll enc Try.prog W 0 (fun _ => true) true Try.f3.params.toList args.toList ds p := hA0
  have hA1 := hA
  rw [Try.params3] at hA hval
  obtain ⟨args⟩ := args
  obtain ⟨v0, vs, d0, ds0, p0, q0, rfl, rfl, rfl, h0, hA⟩ := trodAll_cons hA
  obtain ⟨v1, vs, d1, ds1, p1, q1, rfl, rfl, rfl, h1, hA⟩ := trodAll_cons hA
  obtain ⟨v2, vs, d2, ds2, p2, q2, rfl, rfl, rfl, h2, hA⟩ := trodAll_cons hA
  obtain ⟨v3, vs, d3, ds3, p3, q3, rfl, rfl, rfl, h3, hA⟩ := trodAll_cons hA
  obtain ⟨v4, vs, d4, ds4, p4, q4, rfl, rfl, rfl, h4, hA⟩ := trodAll_cons hA
  obtain ⟨rfl, rfl, rfl⟩ : vs = [] ∧ ds4 = [] ∧ q4 = [] := by cases vs <;> cases ds4 <;> simp [DataW.TrodAll] at hA; exact ⟨rfl, rfl, hA⟩
  obtain ⟨rfl, rfl⟩ := trodVars_none hV
  obtain ⟨t, D, xs, ps, es, rfl, hk, hp, he⟩ := rd_table (hval 0 28 v0 rfl rfl) h0 (light_of (j := 0) hSz (by rw [Try.params3]; rfl) rfl)
  obtain ⟨idn, rfl, -, -, hwf⟩ := open_int Try.underlying5 (hval 1 5 v1 rfl rfl) h1
  have hn : (0 : Int) ≤ idn := by
    have e0 : IntKind.u8.min = 0 := rfl
    simp [Lit.wf] at hwf
    omega
  obtain ⟨h, rfl⟩ : ∃ h : Nat, idn = h := ⟨idn.toNat, by omega⟩
  obtain ⟨i, rfl, -, -, -⟩ := open_int Try.underlying3 (hval 2 3 v2 rfl rfl) h2
  obtain ⟨x, Dx, xq, xc, rfl, hx⟩ := open_expr (hval 3 33 v3 rfl rfl) h3
  obtain ⟨y, Dy, yq, yc, rfl, hy⟩ := open_expr (hval 4 33 v4 rfl rfl) h4
  refine (lawsums_any t xs ps h i x y xq yq x.args.length xc y.args.length yc (Dx + Dy) W (tab_in hk hp) (few_in hk) (hx.up (by omega)) (hy.up (by omega))).mono fun e W' ⟨he, hb⟩ => ?_
  subst he
  refine ⟨_, rfl, _, _, _, [], p0 ++ (p1 ++ (p2 ++ (p3 ++ (p4 ++ [])))), [], hW', trodAll_mk1 (shut_bool Try.underlying4 _), ?_, rfl, hb.frame _, fun h => by cases h⟩
  simp only [List.append_nil] at hW'
  exact trodAll_below Try.laidOut hb _ _ _ _ (by kernel_rfl) hA1 (fun x hx => by simpa using hW'.lt x (by simpa using hx))

theorem es_holds : Rows.EvalSumsSaid :=
  OpenClaim.holds_of_wide 3 Try.f3 rfl rfl rfl rfl rfl rfl rfl ⟨rfl, rfl, rfl, rfl, rfl⟩ rfl rfl rfl rfl rfl (by kernel_rfl) Try.func3 (by kernel_rfl)
    (of_decide_eq_true (by kernel_rfl)) (by unfold Func.isWrapper; first | (rw [if_pos (by decide +kernel)]; kernel_rfl) | (rw [if_neg (by decide +kernel)]; exact ⟨rfl, rfl⟩))
    (fun os started H enc _ => es_lifted os started H enc)
#print axioms es_holds
end Go.Proofs.Ytlbbabojejimpaa
